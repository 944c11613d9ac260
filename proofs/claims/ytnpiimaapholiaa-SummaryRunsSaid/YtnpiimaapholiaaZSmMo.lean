import Derived.Test.YtnpiimaapholiaaSmI
import Derived.Test.YtnpiimaapholiaaSmA
import Derived.Test.YtnpiimaapholiaaZSmP
import Derived.Test.YtnpiimaapholiaaZGen
import Derived.Deep.CutRange
import Derived.Test.YtnpiimaapholiaaPhase
/- The law SummaryRuns of layer 8: its model's offer. -/
namespace Go.Proofs.Ytnpiimaapholiaa
set_option linter.unusedSimpArgs false
set_option linter.unusedVariables false
open Go.ChangeShapes Go.WideShapes Go.ChangeAt Go.RowKit
theorem triV_l (a : Tri) : (triV a).length = 3 := rfl
/-- the law's model. -/
structure MoAt (w : World) (mb B : Nat) (v : Value) (M : List Tri) (tot : Int) : Prop where
  hm : Blk w mb 35 #[v, .int .i64 tot]
  row : OwR w B 42 3 triV v M
  lt : mb < B
section
variable {w w' : World} {mb B : Nat} {v : Value} {M : List Tri} {tot : Int}
theorem MoAt.keep (h : MoAt w mb B v M tot) (hb : Below w.heap.size w w') : MoAt w' mb B v M tot := ⟨h.hm.keep hb, h.row.keep hb, h.lt⟩
theorem MoAt.fr {F : Nat → Prop} (h : MoAt w mb B v M tot) (hf : Fr F w w') (hm : ¬ F mb) (hF : ∀ g, v.ownBlock = some g → ¬ F g) : MoAt w' mb B v M tot := ⟨h.hm.fr hf hm, h.row.fr hf hF, h.lt⟩
/-- what its calls change. -/
def moF (mb : Nat) (v : Value) (k : Nat) : Prop := k = mb ∨ v.ownBlock = some k
/-- behind a call. -/
def MoSt (w w' : World) (mb B : Nat) (v : Value) (M : List Tri) (tot : Int) : Prop := ∃ v', MoAt w' mb B v' M tot ∧ (∀ g, v'.ownBlock = some g → v.ownBlock = some g ∨ w.heap.size ≤ g) ∧ Fr (moF mb v) w w'
end
set_option maxRecDepth 100000 in
theorem moffer_not (mb : Nat) (nv : Value) (s : ByteArray) (hs : s.size ≤ maxLen) (d : Int) (hd : d < 1 ∨ 4611686018427387904 ≤ d ∨ 64 < s.size) (w : World) : Calls Try.prog 16 #[.pointer (some ⟨mb, 0, none⟩), nv, .string s, .int .i64 d] w fun e w' => e = .returned (.tuple #[]) ∧ w = w' := by
  by_cases h1 : d < 1
  · have t1 : decide (d < (1 : Int)) = true := by rw [decide_eq_true_iff]; omega
    clear hd
    go_enter Try.func16, Try.ntmps16
    go_wp2
    refine bodyPost_ret (results_none rfl _ _ _) rfl ?_
    exact ⟨rfl, rfl⟩
  have t1 : decide (d < (1 : Int)) = false := by rw [decide_eq_false_iff_not]; omega
  by_cases h2 : 4611686018427387904 ≤ d
  · have t2 : decide ((4611686018427387904 : Int) ≤ d) = true := by rw [decide_eq_true_iff]; omega
    clear hd
    go_enter Try.func16, Try.ntmps16
    go_wp2
    refine bodyPost_ret (results_none rfl _ _ _) rfl ?_
    exact ⟨rfl, rfl⟩
  have t2 : decide ((4611686018427387904 : Int) ≤ d) = false := by rw [decide_eq_false_iff_not]; omega
  have h3 : 64 < s.size := by omega
  have t3 : decide ((64 : Int) < (s.size : Int)) = true := by rw [decide_eq_true_iff]; omega
  clear hd
  go_enter Try.func16, Try.ntmps16
  go_wp2
  refine bodyPost_ret (results_none rfl _ _ _) rfl ?_
  exact ⟨rfl, rfl⟩
theorem own_any {A : Option Addr} {n n' c k : Nat} (h : (Value.slice A n c).ownBlock = some k) : (Value.slice A n' c).ownBlock = some k := by
  cases A <;> exact h
theorem Fr_low {F G : Nat → Prop} {w w' : World} (h : Fr F w w') (hG : ∀ k, k < w.heap.size → F k → G k) : Fr G w w' := ⟨h.os, h.tape, h.output, h.size, fun k hk hn => h.block k hk (fun f => hn (hG k hk f))⟩
/-- where a key is; -1. -/
def posA (M : List Tri) (s : ByteArray) : Int := match M.findIdx? (fun x => decide (x.1 = s)) with
  | some j => (j : Int)
  | none => -1
theorem posA_nil (s : ByteArray) : posA [] s = -1 := rfl
theorem posA_step {M : List Tri} (hu : uniM M) {i : Nat} {x : Tri} (hx : M[i]? = some x) (s : ByteArray) : posA (M.take (i + 1)) s = if x.1 = s then (i : Int) else posA (M.take i) s := by
  have hil := (List.getElem?_eq_some_iff.1 hx).1
  rw [take_more hx]
  unfold posA
  rw [List.findIdx?_append]
  have hl : (M.take i).length = i := by rw [List.length_take]; omega
  by_cases e : x.1 = s
  · rw [if_pos e]
    have hno : (M.take i).findIdx? (fun x => decide (x.1 = s)) = none := by
      rw [List.findIdx?_eq_none_iff]
      intro t ht
      obtain ⟨j, hj, ej⟩ := List.mem_take_iff_getElem.1 ht
      have := List.pairwise_iff_getElem.1 hu j i (by simp; omega) (by simpa using hil) (by omega)
      simp only [List.getElem_map] at this
      rw [ej, (List.getElem?_eq_some_iff.1 hx).2] at this
      simp only [decide_eq_false_iff_not]
      rw [← e]; exact this
    rw [hno]
    simp [List.findIdx?_cons, e, hl]
  · rw [if_neg e]
    have : ([x] : List Tri).findIdx? (fun x => decide (x.1 = s)) = none := by simp [List.findIdx?_cons, e]
    rw [this]
    cases (M.take i).findIdx? (fun x => decide (x.1 = s)) <;> rfl
set_option maxRecDepth 100000 in
set_option maxHeartbeats 8000000 in
theorem moffer_in (mb B N : Nat) (v : Value) (M : List Tri) (tot : Int) (s : ByteArray) (hs : s.size ≤ 64) (d : Int) (hd : 1 ≤ d ∧ d < 4611686018427387904) (w : World) (h : MoAt w mb B v M tot) (hB : B ≤ w.heap.size) (hu : uniM M) (hl : M.length ≤ N) (hN : 1 ≤ N ∧ N ≤ 64) (ht : 0 ≤ tot ∧ tot < 4611686018427387904) (hb : ∀ t ∈ M, 0 ≤ t.2.1 ∧ t.2.1 ≤ tot) :
    Calls Try.prog 16 #[.pointer (some ⟨mb, 0, none⟩), .int .i64 (N : Int), .string s, .int .i64 d] w fun e w' => e = .returned (.tuple #[]) ∧ MoSt w w' mb B v (offerM N M tot s d).1 (offerM N M tot s d).2 := by
  have hoff : offerM N M tot s d = (riseM (incM (preM N (begM M tot d).1 s).1 (preM N (begM M tot d).1 s).2 d) (preM N (begM M tot d).1 s).2, (begM M tot d).2 + d) := by
    unfold offerM; rw [if_neg (by omega)]
  rw [hoff]
  clear hoff
  have t1 : decide (d < (1 : Int)) = false := by rw [decide_eq_false_iff_not]; omega
  have t2 : decide ((4611686018427387904 : Int) ≤ d) = false := by rw [decide_eq_false_iff_not]; omega
  have t3 : decide ((64 : Int) < (s.size : Int)) = false := by rw [decide_eq_false_iff_not]; omega
  obtain ⟨e, he⟩ : ∃ e, e = 4611686018427387904 - d := ⟨_, rfl⟩
  have e1 : IntKind.i64.wrap (4611686018427387904 - d) = e := by rw [IntKind.wrap_i64]; omega
  have H := Lib.hid h
  have HD := Lib.hid (And.intro hd (And.intro he hs))
  have HP := Lib.hid (And.intro hu (And.intro hl (And.intro hN (And.intro ht hb))))
  have HB := Lib.hid hB
  have k := h.hm.rd
  have kw := h.hm.wr
  clear h hd he hs hu hl hN ht hb hB
  go_enter Try.func16, Try.ntmps16
  go_upto_if 29 with (fail)
  go_cut [] from 29 to 35 (fun wx => ∃ (v0 : Value) (M0 : List Tri) (t0 : Int), Hid (MoAt wx mb B v0 M0 t0) ∧ Hid (Fr (moF mb v) w wx) ∧ Hid ((M0, t0) = begM M tot d) ∧ Hid (t0 + d < 4611686018427387904) ∧ Hid (v0 = v ∨ v0 = .slice none 0 0))
  case first =>
    by_cases hb : e ≤ tot
    · have b1 : decide (e ≤ tot) = true := by rw [decide_eq_true_iff]; exact hb
      have HBG := Lib.hid (show (([] : List Tri), (0 : Int)) = begM M tot d from by unfold begM; rw [if_pos (by have := HD.out; omega)])
      obtain ⟨w1, e2, k1, f1, s1⟩ := G.box_set H.out.hm 0 (.slice none 0 0) #[.slice none 0 0, .int .i64 tot] rfl
      obtain ⟨w2, e3, k2, f2, s2⟩ := G.box_set k1 1 (.int .i64 0) #[.slice none 0 0, .int .i64 0] rfl
      have k1r := k1.rd
      have k1w := k1.wr
      have H2 := Lib.hid (show MoAt w2 mb B (.slice none 0 0) [] 0 from ⟨k2, OwR.nil, H.out.lt⟩)
      have F2 := Lib.hid ((f1.trans f2).mono (fun k hk => (Or.inl hk : moF mb v k)))
      clear k1 f1 s1 k2 f2 s2
      go_wp2
      go_meet
      case rel => exact ⟨.slice none 0 0, [], 0, H2, F2, HBG, Lib.hid (by have := HD.out; omega), Lib.hid (Or.inr rfl)⟩
    · have b1 : decide (e ≤ tot) = false := by rw [decide_eq_false_iff_not]; exact hb
      have HBG := Lib.hid (show (M, tot) = begM M tot d from by unfold begM; rw [if_neg (by have := HD.out; omega)])
      have HT := Lib.hid (show tot + d < 4611686018427387904 by have := HD.out; omega)
      go_wp2
      go_meet
      case rel => exact ⟨v, M, tot, H, Lib.hid (Fr.refl _ _), HBG, HT, Lib.hid (Or.inl rfl)⟩
  case rest =>
  obtain ⟨v0, M0, t0, H0, F0, HBG, HT, HV⟩ := hcut
  clear k kw t1 t2 t3 e1
  have HP0 := Lib.hid (show uniM M0 ∧ M0.length ≤ N ∧ (1 ≤ N ∧ N ≤ 64) ∧ (0 ≤ t0 ∧ t0 < 4611686018427387904) ∧ ∀ t ∈ M0, 0 ≤ t.2.1 ∧ t.2.1 ≤ t0 from by
    have hp := HP.out
    have := HBG.out
    unfold begM at this
    split at this
    · obtain ⟨rfl, rfl⟩ := Prod.mk.inj this
      exact ⟨List.nodup_nil, Nat.zero_le _, hp.2.2.1, ⟨by omega, by omega⟩, fun t ht => by simp at ht⟩
    · obtain ⟨rfl, rfl⟩ := Prod.mk.inj this
      exact hp)
  have HV0 := Lib.hid (show (∀ g, v0.ownBlock = some g → v.ownBlock = some g) from by
    rcases HV.out with h | h
    · rw [h]; exact fun g hg => hg
    · rw [h]; intro g hg; cases hg)
  clear HV
  obtain ⟨A0, c0, rfl, hc0, hm0, hg0⟩ := H0.out.row.slice
  obtain ⟨m, hm⟩ : ∃ m, m = M0.length := ⟨_, rfl⟩
  rw [← hm] at H0 hc0 hg0 HV0
  have HM := Lib.hid (show m = M0.length ∧ m ≤ N from ⟨hm, by rw [hm]; exact HP0.out.2.1⟩)
  obtain ⟨t1, ht1⟩ : ∃ t1, t1 = t0 + d := ⟨_, rfl⟩
  have e1 : IntKind.i64.wrap (t0 + d) = t1 := by rw [IntKind.wrap_i64, ht1]; have h1 := HT.out; have h2 := HD.out.1; have h3 := HP0.out.2.2.2.1; omega
  have HT1 := Lib.hid (And.intro ht1 HT.out)
  have k := H0.out.hm.rd
  have kw := H0.out.hm.wr
  obtain ⟨w2, e2, k2, f2, s2⟩ := G.box_set H0.out.hm 1 (.int .i64 t1) #[.slice A0 m c0, .int .i64 t1] rfl
  have H2 := Lib.hid (show MoAt w2 mb B (.slice A0 m c0) M0 t1 from ⟨k2, H0.out.row.fr f2 (fun g hg e => by have := H0.out.row.base_le g hg; have := H0.out.lt; omega), H0.out.lt⟩)
  have F2 := Lib.hid (F0.out.trans (f2.mono (fun k hk => (Or.inl hk : moF mb v k))))
  have hmN : (m : Int) ≤ 64 := by have h1 := HM.out.2; have h2 := HP0.out.2.2.1.2; omega
  clear k2 f2 s2 H0 F0 HT hm hc0 hm0 hg0 ht1
  go_upto_region 4 with (fail)
  clear e1 e2 k kw
  have k := H2.out.hm.rd
  go_upto_region 5 with (fail)
  go_wp2_with (fail)
  clear k
  go_loopg [8, 49] m (fun kk sa si wr => ∃ i : Nat, i ≤ m ∧ Hid (kk = m - i) ∧ si = .int .i64 (i : Int) ∧ sa = .int .i64 (posA (M0.take i) s) ∧ Hid (MoAt wr mb B (.slice A0 m c0) M0 t1) ∧ Hid (Fr (moF mb v) w wr))
  case atStart => exact ⟨0, by omega, Lib.hid rfl, rfl, rfl, H2, F2⟩
  case round =>
    obtain ⟨i, hi, HKK, rfl, rfl, HA, HF⟩ := hrel
    by_cases hin : i < m
    · obtain ⟨⟨ky, nn, ee⟩, hx⟩ : ∃ a, M0[i]? = some a := ⟨_, List.getElem?_eq_getElem (by have := HM.out.1; omega)⟩
      obtain ⟨g, hg⟩ : ∃ g, A0 = some ⟨g, 0, none⟩ := by
        obtain ⟨A, c', hv, h1, h2, h3⟩ := HA.out.row.slice
        injection hv with hv1 hv2 hv3
        obtain ⟨g, e1, _⟩ := h3 (by have := HM.out.1; omega)
        exact ⟨g, by rw [hv1]; exact e1⟩
      subst hg
      have q0 : wr.cell? ⟨g, i * 3, none⟩ = some (.string ky) := HA.out.row.cell triV_l hx (j := 0) (by omega)
      have q1 : wr.cell? ⟨g, i * 3 + 1, none⟩ = some (.int .i64 nn) := HA.out.row.cell triV_l hx (j := 1) (by omega)
      have q2 : wr.cell? ⟨g, i * 3 + 2, none⟩ = some (.int .i64 ee) := HA.out.row.cell triV_l hx (j := 2) (by omega)
      obtain ⟨x1, x2, ex1, kr, kw, ex2, bl2, kc2⟩ := box3 wr 42 (.string ⟨#[]⟩) (.int .i64 0) (.int .i64 0) (.string ky) (.int .i64 nn) (.int .i64 ee)
      have kc3 := kc2.rd
      have HA2 := Lib.hid (HA.out.keep bl2)
      have HF2 := Lib.hid (HF.out.trans (Fr.of_below bl2 : Fr (moF mb v) wr x2))
      have HST := Lib.hid (posA_step HP0.out.1 hx s)
      have HIN := Lib.hid hin
      have t4 : (0 : Int) ≤ (i : Int) := by omega
      have t5 : (i : Int) < (m : Int) := by omega
      have fi : IntKind.i64.wrap ((i : Int) + 1) = ((i + 1 : Nat) : Int) := by rw [IntKind.wrap_i64]; omega
      clear bl2 kc2 hx
      go_upto_region 8 with (fail)
      clear kr kw ex1 ex2 q0 q1 q2
      by_cases hks : ky = s
      · have b1 : (ky.toList == s.toList) = true := by rw [hks]; simp
        have HKS := Lib.hid hks
        clear hks
        go_wp2
        go_roundg (m - (i + 1))
        case measure => have := HKK.out; have := HIN.out; omega
        case rel => exact ⟨i + 1, HIN.out, Lib.hid rfl, rfl, by rw [HST.out, if_pos HKS.out], HA2, HF2⟩
      · have b1 : (ky.toList == s.toList) = false := by
          refine beq_eq_false_iff_ne.2 (fun e => hks ?_)
          rw [ByteArray.toList_eq, ByteArray.toList_eq] at e
          exact ByteArray.ext (Array.ext' e)
        have HKS := Lib.hid hks
        clear hks
        go_wp2
        go_roundg (m - (i + 1))
        case measure => have := HKK.out; have := HIN.out; omega
        case rel => exact ⟨i + 1, HIN.out, Lib.hid rfl, rfl, by rw [HST.out, if_neg HKS.out], HA2, HF2⟩
    · have hie : i = m := by omega
      have hti : M0.take i = M0 := List.take_of_length_le (by have := HM.out.1; omega)
      rw [hti]
      subst hie
      clear hin hi HKK hti
      obtain ⟨wz, hwz⟩ : ∃ wz, wz = wr := ⟨_, rfl⟩
      rw [← hwz] at HA HF ⊢
      clear hwz H2 F2
      go_upto_if 61 with (fail)
      obtain ⟨p0, hp0⟩ : ∃ p0, p0 = posA M0 s := ⟨_, rfl⟩
      rw [← hp0]
      have HP1 := Lib.hid hp0
      clear hp0
      obtain ⟨is0, hi0, hz0, hz1, hz2⟩ := info_parts info_cnt
      have HI0 := Lib.hid (And.intro hi0 (And.intro hz0 (And.intro hz1 hz2)))
      clear hi0 hz0 hz1 hz2
      go_cut [8] from 62 to 105 (fun s8 wx => ∃ (j : Nat) (g c1 : Nat) (M1 : List Tri) (x : Tri), s8 = .int .i64 (j : Int) ∧ Hid (MoAt wx mb B (.slice (some ⟨g, 0, none⟩) M1.length c1) M1 t1) ∧ Hid (M1[j]? = some x) ∧ Hid (Fr (moF mb v) w wx) ∧ Hid ((M1, j) = preM N M0 s) ∧ Hid (0 ≤ x.2.1 ∧ x.2.1 ≤ t0) ∧ Hid (v.ownBlock = some g ∨ w.heap.size ≤ g))
      case first =>
        cases hf : M0.findIdx? (fun x => decide (x.1 = s)) with
        | some j =>
          have e0 : p0 = (j : Int) := by rw [HP1.out]; unfold posA; rw [hf]
          have hpre : (M0, j) = preM N M0 s := by unfold preM; rw [hf]
          obtain ⟨hj, hjs, hj3⟩ := List.findIdx?_eq_some_iff_getElem.1 hf
          obtain ⟨x, hx⟩ : ∃ x, M0[j]? = some x := ⟨_, List.getElem?_eq_getElem hj⟩
          have HJ := Lib.hid hx
          have HPR := Lib.hid hpre
          obtain ⟨A, c', hv, h1, h2, h3⟩ := HA.out.row.slice
          injection hv with hv1 hv2 hv3
          obtain ⟨g, e1, _⟩ := h3 (by omega)
          have HG := Lib.hid (show A0 = some ⟨g, 0, none⟩ by rw [hv1]; exact e1)
          have hjl := HM.out.1
          have HBD := Lib.hid (HP0.out.2.2.2.2 _ (List.mem_of_getElem? hx))
          subst e0
          clear hf hpre hjs hj3 hv1 hv2 hv3 h1 h2 h3 e1 hx hj hjl
          go_wp2
          go_meet
          case rel => exact ⟨j, g, c0, M0, x, rfl, Lib.hid (by have := HA.out; rw [HG.out, HM.out.1] at this; exact this), HJ, HF, HPR, HBD, Lib.hid (by have := HV0.out g; rw [HG.out] at this; exact Or.inl (this rfl))⟩
        | none =>
          have e0 : p0 = -1 := by rw [HP1.out]; unfold posA; rw [hf]
          have hpre : (cutM N M0 ++ [(s, leastM N M0, leastM N M0)], (cutM N M0).length) = preM N M0 s := by unfold preM; rw [hf]
          have HPR := Lib.hid hpre
          subst e0
          clear hf hpre
          obtain ⟨le, hle⟩ : ∃ le, le = leastM N M0 := ⟨_, rfl⟩
          obtain ⟨MC, hMC⟩ : ∃ MC, MC = cutM N M0 := ⟨_, rfl⟩
          obtain ⟨kc, hkc⟩ : ∃ kc, kc = MC.length := ⟨_, rfl⟩
          rw [← hle, ← hMC, ← hkc] at HPR
          have HLE := Lib.hid (And.intro hle (And.intro hMC hkc))
          have HKC := Lib.hid (show kc + 1 ≤ N ∧ (i < N → MC = M0 ∧ kc = i ∧ le = 0) ∧ (i = N → MC = M0.dropLast ∧ kc + 1 = i) from by
            have h1 := HM.out
            have h2 := HP0.out.2.2.1
            rw [hkc, hMC, hle]
            unfold cutM leastM
            by_cases hfull : M0.length = N
            · rw [if_pos hfull]
              refine ⟨by rw [List.length_dropLast]; omega, fun h => by omega, fun h => ⟨rfl, by rw [List.length_dropLast]; omega⟩⟩
            · rw [if_neg hfull, if_pos (by omega)]
              exact ⟨by omega, fun h => ⟨rfl, by omega, rfl⟩, fun h => by omega⟩)
          have HLB := Lib.hid (show 0 ≤ le ∧ le ≤ t0 from by
            rw [hle]
            unfold leastM
            split
            · have := HP0.out.2.2.2.1; omega
            · cases hl : M0.getLast? with
              | none => have := HP0.out.2.2.2.1; simp; omega
              | some x => exact HP0.out.2.2.2.2 x (List.mem_of_getLast? hl))
          clear hle hMC hkc
          have k := HA.out.hm.rd
          have kw := HA.out.hm.wr
          go_upto_if 68 with (fail)
          go_cut [11] from 69 to 87 (fun s11 wx => s11 = .int .i64 le ∧ Hid (MoAt wx mb B (.slice A0 kc c0) MC t1) ∧ Hid (Fr (moF mb v) w wx))
          case first =>
            by_cases hfull : i = N
            · have b1 : ((i : Int) == (N : Int)) = true := by rw [beq_iff_eq]; omega
              obtain ⟨hc1, hc2⟩ := HKC.out.2.2 hfull
              have hkl : kc < M0.length := by have := HM.out.1; omega
              obtain ⟨⟨ky, nn, ee⟩, hx⟩ : ∃ a, M0[kc]? = some a := ⟨_, List.getElem?_eq_getElem hkl⟩
              have hnn : nn = le := by
                have h1 := HLE.out.1
                unfold leastM at h1
                rw [if_neg (by have := HM.out.1; omega), List.getLast?_eq_getElem?, show M0.length - 1 = kc by have := HM.out.1; omega, hx] at h1
                exact h1.symm
              obtain ⟨g, hg⟩ : ∃ g, A0 = some ⟨g, 0, none⟩ := by
                obtain ⟨A, c', hv, h1, h2, h3⟩ := HA.out.row.slice
                injection hv with hv1 hv2 hv3
                obtain ⟨g, e1, _⟩ := h3 (by omega)
                exact ⟨g, by rw [hv1]; exact e1⟩
              subst hg
              subst hnn
              have q1 : wz.cell? ⟨g, kc * 3 + 1, none⟩ = some (.int .i64 nn) := HA.out.row.cell triV_l hx (j := 1) (by omega)
              have e1 : IntKind.i64.wrap ((N : Int) - 1) = (kc : Int) := by rw [IntKind.wrap_i64]; omega
              have hic : i ≤ c0 := by
                obtain ⟨A, c', hv, h1, h2, h3⟩ := HA.out.row.slice
                injection hv with hv1 hv2 hv3
                have := HM.out.1
                omega
              have t4 : (0 : Int) ≤ (kc : Int) := by omega
              have t5 : (kc : Int) < (i : Int) := by omega
              have t6 : (kc : Int) ≤ (c0 : Int) := by omega
              have t7 : kc ≤ c0 := by omega
              obtain ⟨w4, e4, k4, f4, s4⟩ := G.box_set HA.out.hm 0 (.slice (some ⟨g, 0, none⟩) kc c0) #[.slice (some ⟨g, 0, none⟩) kc c0, .int .i64 t1] rfl
              have H4 := Lib.hid (show MoAt w4 mb B (.slice (some ⟨g, 0, none⟩) kc c0) MC t1 from ⟨k4, by
                have h1 := HA.out.row.pre triV_l HM.out.1 (k := kc) (by omega)
                have h2 : M0.take kc = MC := by
                  rw [hc1, List.dropLast_eq_take]
                  congr 1
                  have := HM.out.1
                  omega
                rw [h2] at h1
                exact h1.fr f4 (fun g' hg' e => by have := h1.base_le g' hg'; have := HA.out.lt; omega), HA.out.lt⟩)
              have F4 := Lib.hid (HF.out.trans (f4.mono (fun k hk => (Or.inl hk : moF mb v k))))
              clear hc1 hc2 hkl hx k4 f4 s4 hfull hic
              go_wp2
              go_meet
              case rel => exact ⟨rfl, H4, F4⟩
            · have b1 : ((i : Int) == (N : Int)) = false := by rw [beq_eq_false_iff_ne]; omega
              obtain ⟨hc1, hc2, hc3⟩ := HKC.out.2.1 (by have := HM.out; omega)
              have HC := Lib.hid (And.intro hc1 (And.intro hc2 hc3))
              clear hc1 hc2 hc3 hfull
              go_wp2
              go_meet
              case rel => exact ⟨by rw [HC.out.2.2], by rw [HC.out.1, HC.out.2.1]; exact HA, HF⟩
          case rest =>
          obtain ⟨rfl, H5, F5⟩ := hcut
          clear k kw
          have k := H5.out.hm.rd
          have kw := H5.out.hm.wr
          have hk64 : (kc : Int) ≤ 64 := by have h1 := HKC.out.1; have h2 := HP0.out.2.2.1.2; omega
          go_upto_region 17 with (fail)
          have hkl := HLE.out.2.2
          have HKL := Lib.hid hkl
          clear hkl
          go_wp2_with (at_builtin; refine wpList_push (w0 := wc) (v := .slice A0 kc c0) (enc := triV) (L := MC) (base := B) rfl _ _ rfl rfl rfl Try.underlying33 HI0.out.1 HI0.out.2.1 HI0.out.2.2.1 HI0.out.2.2.2 (by rfl) (by omega) H5.out.row (by have := HB.out; have := F5.out.size; omega) (s, le, le) triV_l (by intro u hu; simp [triV] at hu; rcases hu with rfl | rfl <;> rfl) (by have := HKL.out; omega) (by have := HKL.out; unfold maxLen; omega) ?_; intro gl cl w9 hown9 hf9 hgl9; replace hf9 : Fr (fun k => (Value.slice A0 kc c0).ownBlock = some k) wc w9 := hf9; have O9 := Lib.hid hown9; have F9 := Lib.hid hf9; have GL := Lib.hid hgl9; have B9 := Lib.hid (H5.out.hm.fr hf9 (fun e => by have := H5.out.row.base_le _ e; have := H5.out.lt; omega)); have z9 := B9.out.rd; have z9w := B9.out.wr; clear hown9 hf9 hgl9)
          obtain ⟨w10, e10, k10, f10, s10⟩ := G.box_set B9.out 0 (.slice (some ⟨gl, 0, none⟩) (MC.length + 1) cl) #[.slice (some ⟨gl, 0, none⟩) (MC.length + 1) cl, .int .i64 t1] rfl
          rw [e10]
          have HL1 := Lib.hid (show (MC ++ [((s, le, le) : Tri)]).length = MC.length + 1 by simp)
          have hgm : gl ≠ mb := fun e => by have := O9.out.base_le gl rfl; have := H5.out.lt; omega
          have H10 := Lib.hid (show MoAt w10 mb B (.slice (some ⟨gl, 0, none⟩) (MC ++ [((s, le, le) : Tri)]).length cl) (MC ++ [(s, le, le)]) t1 from by rw [HL1.out]; exact ⟨k10, O9.out.fr f10 (fun g hg e => by cases hg; exact hgm e), H5.out.lt⟩)
          have F10 := Lib.hid (show Fr (moF mb v) w w10 from (F5.out.trans (F9.out.mono (fun k hk => (Or.inr (HV0.out k (own_any hk)) : moF mb v k)))).trans (f10.mono (fun k hk => (Or.inl hk : moF mb v k))))
          have HGX := Lib.hid (show v.ownBlock = some gl ∨ w.heap.size ≤ gl from by
            rcases GL.out with h | h
            · exact Or.inl (HV0.out gl (own_any h))
            · right; have := F5.out.size; omega)
          have HJ := Lib.hid (show (MC ++ [((s, le, le) : Tri)])[kc]? = some (s, le, le) from by rw [HKL.out]; simp)
          clear e10 k10 f10 s10 hgm
          go_meet
          case rel => exact ⟨kc, gl, cl, _, (s, le, le), rfl, H10, HJ, F10, HPR, HLB, HGX⟩
      case rest =>
      obtain ⟨j, g, c1, M1, x, rfl, H6, HJ, F6, HPR, HXB, HGX⟩ := hcut
      clear HA HF
      have k := H6.out.hm.rd
      obtain ⟨⟨xk, xn, xe⟩, hxx⟩ : ∃ y : Tri, y = x := ⟨x, rfl⟩
      subst hxx
      have hjl := (List.getElem?_eq_some_iff.1 HJ.out).1
      have c0 : wc.cell? ⟨g, j * 3 + 1, none⟩ = some (.int .i64 xn) := H6.out.row.cell triV_l HJ.out (j := 1) (by omega)
      have gw := H6.out.row.wr (by omega)
      obtain ⟨vn, hvn⟩ : ∃ vn, vn = xn + d := ⟨_, rfl⟩
      have ev : IntKind.i64.wrap (xn + d) = vn := by rw [IntKind.wrap_i64, hvn]; have h1 := HXB.out; have h2 := HT1.out; have h3 := HD.out.1; simp only at h1; omega
      obtain ⟨w7, e7, O7, f7, s7⟩ := H6.out.row.put1 triV_l (n := M1.length) rfl (i := j) (j := 1) (a := (xk, xn, xe)) (a' := (xk, vn, xe)) HJ.out (x := .int .i64 vn) rfl (by omega)
      have hinc : M1.set j (xk, vn, xe) = incM (preM N M0 s).1 (preM N M0 s).2 d := by
        rw [← HPR.out]
        unfold incM
        rw [HJ.out, hvn]
      have hgm : mb ≠ g := fun e => by have := H6.out.row.base_le g rfl; have := H6.out.lt; omega
      have hlen : (M1.set j (xk, vn, xe)).length = M1.length := List.length_set
      have H7 := Lib.hid (show MoAt w7 mb B (.slice (some ⟨g, 0, none⟩) M1.length c1) (M1.set j (xk, vn, xe)) t1 from ⟨H6.out.hm.fr f7 hgm, O7, H6.out.lt⟩)
      have t4 : (0 : Int) ≤ (j : Int) := by omega
      have t5 : (j : Int) < (M1.length : Int) := by omega
      have F7 := Lib.hid (Fr_low ((F6.out.mono (fun k hk => (Or.inl hk : moF mb v k ∨ k = g))).trans (f7.mono (fun k hk => Or.inr hk))) (G := moF mb v) (fun k hk h => by
        rcases h with h | h
        · exact h
        · rcases HGX.out with h2 | h2
          · right; rw [h]; exact h2
          · omega))
      obtain ⟨R, hR⟩ : ∃ R, R = riseM (M1.set j (xk, vn, xe)) j := ⟨_, rfl⟩
      have hgoal : riseM (incM (preM N M0 s).1 (preM N M0 s).2 d) (preM N M0 s).2 = R := by
        rw [hR, hinc, ← HPR.out]
      have HGO := Lib.hid (show riseM (incM (preM N (begM M tot d).1 s).1 (preM N (begM M tot d).1 s).2 d) (preM N (begM M tot d).1 s).2 = R ∧ (begM M tot d).2 + d = t1 from by
        rw [← HBG.out]
        exact ⟨hgoal, HT1.out.1.symm⟩)
      obtain ⟨m1, hm1⟩ : ∃ m1, m1 = M1.length := ⟨_, rfl⟩
      rw [← hm1] at H7
      have HR2 := Lib.hid (show j < (M1.set j (xk, vn, xe)).length ∧ (M1.set j (xk, vn, xe)).length = m1 ∧ riseM (M1.set j (xk, vn, xe)) j = R from ⟨by omega, by omega, hR.symm⟩)
      have HGM := Lib.hid hgm
      have HG2 := Lib.hid (show v.ownBlock = some g ∨ w.heap.size ≤ g from HGX.out)
      have tm1 : (m1 : Int) ≤ (M1.length : Int) := by omega
      have hm64 : (m1 : Int) ≤ 1000 := by
        have h1 := congrArg List.length (congrArg Prod.fst HPR.out)
        have h2 : (preM N M0 s).1.length ≤ M0.length + 1 := by
          unfold preM cutM
          cases M0.findIdx? (fun x => decide (x.1 = s)) with
          | some q => simp
          | none =>
            simp only [List.length_append, List.length_singleton]
            split
            · rw [List.length_dropLast]; omega
            · omega
        have h3 := HP0.out.2.1
        have h4 := HP0.out.2.2.1.2
        simp only at h1
        omega
      clear hinc hgm O7 f7 s7 hvn hlen hjl hR hgoal tm1
      go_wp2_with (fail)
      clear hm1 e7 k gw c0 ev t4 t5
      go_loopg [8] j (fun kk si wr => ∃ (jj : Nat) (MM : List Tri), Hid (kk = jj) ∧ si = .int .i64 (jj : Int) ∧ Hid (MoAt wr mb B (.slice (some ⟨g, 0, none⟩) m1 c1) MM t1) ∧ Hid (Fr (moF mb v) w wr) ∧ Hid (jj < MM.length ∧ MM.length = m1 ∧ riseM MM jj = R))
      case atStart => exact ⟨j, _, Lib.hid rfl, rfl, H7, F7, HR2⟩
      case round =>
        obtain ⟨jj, MM, HK, rfl, HM7, HF7, HJ7⟩ := hrel
        have HS := Lib.hid (show ∀ wx, Below wr.heap.size wr wx → (fun w' : World => (∀ i, w'.cell? ⟨mb, i, none⟩ = (#[.slice (some ⟨g, 0, none⟩) m1 c1, .int .i64 t1] : Array Value)[i]?)) wx from fun wx hb => (HM7.out.keep hb).hm.rd)
        have B1 := Lib.hid (show Below wr.heap.size wr wr.drew from below_draws (Below.refl _ _) 1)
        have hfin : ∀ wx, MoAt wx mb B (.slice (some ⟨g, 0, none⟩) m1 c1) R t1 → Fr (moF mb v) w wx → MoSt w wx mb B v (riseM (incM (preM N (begM M tot d).1 s).1 (preM N (begM M tot d).1 s).2 d) (preM N (begM M tot d).1 s).2) ((begM M tot d).2 + d) := fun wx h1 h2 => by
          rw [HGO.out.1, HGO.out.2]
          exact ⟨_, h1, fun g' hg' => by cases hg'; exact HG2.out, h2⟩
        have HFIN := Lib.hid hfin
        clear hfin
        cases jj with
        | zero =>
          have tz1 : decide ((0 : Int) < ((0 : Nat) : Int)) = false := by decide
          go_upto_region 19 with (fail)
          refine wp_region_held_drew (S := (fun w' : World => (∀ i, w'.cell? ⟨mb, i, none⟩ = (#[.slice (some ⟨g, 0, none⟩) m1 c1, .int .i64 t1] : Array Value)[i]?))) (by kernel_rfl) (HS.out _ B1.out) (fun hHeld => ?_)
          refine wpAnyH_take (i := 0) (oi := ?_) (v := ?_) ?_ ?_ ?_ ?_ ?_ ?_ ?_ ?_
          rotate_left 2
          · simp only [List.getElem?_toArray, List.getElem?_cons_succ, List.getElem?_cons_zero]; rfl
          · kernel_rfl
          · kernel_rfl
          · kernel_rfl
          · exact fun _ _ _ h => h
          · refine Or.inl ⟨by rfl, ?_⟩
            intro w' hSw
            (try dsimp only at hSw)
            go_simp
            all_goals (with_reducible rfl)
          · assumption
          try simp only [Act.put, List.setIfInBounds_toArray, List.set_cons_zero, List.set_cons_succ]
          refine wpAnyH_take (i := 1) (oi := ?_) (v := ?_) ?_ ?_ ?_ ?_ ?_ ?_ ?_ ?_
          rotate_left 2
          · simp only [List.getElem?_toArray, List.getElem?_cons_succ, List.getElem?_cons_zero]; rfl
          · kernel_rfl
          · kernel_rfl
          · kernel_rfl
          · exact fun _ _ _ h => h
          · refine Or.inl ⟨by rfl, ?_⟩
            intro w' hSw
            (try dsimp only at hSw)
            go_simp
            all_goals (with_reducible rfl)
          · assumption
          try simp only [Act.put, List.setIfInBounds_toArray, List.set_cons_zero, List.set_cons_succ]
          refine wpAnyH_take (i := 2) (oi := ?_) (v := ?_) ?_ ?_ ?_ ?_ ?_ ?_ ?_ ?_
          rotate_left 2
          · simp only [List.getElem?_toArray, List.getElem?_cons_succ, List.getElem?_cons_zero]; rfl
          · kernel_rfl
          · kernel_rfl
          · kernel_rfl
          · exact fun _ _ _ h => h
          · refine Or.inl ⟨by rfl, ?_⟩
            intro w' hSw
            (try dsimp only at hSw)
            go_simp
            all_goals (with_reducible rfl)
          · assumption
          try simp only [Act.put, List.setIfInBounds_toArray, List.set_cons_zero, List.set_cons_succ]
          refine wpAnyH_take (i := 3) (oi := ?_) (v := undef) ?_ ?_ ?_ ?_ ?_ ?_ ?_ ?_
          rotate_left 1
          · simp only [List.getElem?_toArray, List.getElem?_cons_succ, List.getElem?_cons_zero]; rfl
          · kernel_rfl
          · kernel_rfl
          · kernel_rfl
          · exact fun _ _ _ h => h
          · exact Or.inr ⟨by kernel_rfl, rfl⟩
          · assumption
          try simp only [Act.put, List.setIfInBounds_toArray, List.set_cons_zero, List.set_cons_succ]
          refine wpAnyH_take (i := 4) (oi := ?_) (v := undef) ?_ ?_ ?_ ?_ ?_ ?_ ?_ ?_
          rotate_left 1
          · simp only [List.getElem?_toArray, List.getElem?_cons_succ, List.getElem?_cons_zero]; rfl
          · kernel_rfl
          · kernel_rfl
          · kernel_rfl
          · exact fun _ _ _ h => h
          · exact Or.inr ⟨by kernel_rfl, rfl⟩
          · assumption
          try simp only [Act.put, List.setIfInBounds_toArray, List.set_cons_zero, List.set_cons_succ]
          refine wpAnyH_take (i := 5) (oi := ?_) (v := undef) ?_ ?_ ?_ ?_ ?_ ?_ ?_ ?_
          rotate_left 1
          · simp only [List.getElem?_toArray, List.getElem?_cons_succ, List.getElem?_cons_zero]; rfl
          · kernel_rfl
          · kernel_rfl
          · kernel_rfl
          · exact fun _ _ _ h => h
          · exact Or.inr ⟨by kernel_rfl, rfl⟩
          · assumption
          try simp only [Act.put, List.setIfInBounds_toArray, List.set_cons_zero, List.set_cons_succ]
          refine wpAnyH_take (i := 6) (oi := ?_) (v := undef) ?_ ?_ ?_ ?_ ?_ ?_ ?_ ?_
          rotate_left 1
          · simp only [List.getElem?_toArray, List.getElem?_cons_succ, List.getElem?_cons_zero]; rfl
          · kernel_rfl
          · kernel_rfl
          · kernel_rfl
          · exact fun _ _ _ h => h
          · exact Or.inr ⟨by kernel_rfl, rfl⟩
          · assumption
          try simp only [Act.put, List.setIfInBounds_toArray, List.set_cons_zero, List.set_cons_succ]
          refine wpAnyH_take (i := 7) (oi := ?_) (v := undef) ?_ ?_ ?_ ?_ ?_ ?_ ?_ ?_
          rotate_left 1
          · simp only [List.getElem?_toArray, List.getElem?_cons_succ, List.getElem?_cons_zero]; rfl
          · kernel_rfl
          · kernel_rfl
          · kernel_rfl
          · exact fun _ _ _ h => h
          · exact Or.inr ⟨by kernel_rfl, rfl⟩
          · assumption
          try simp only [Act.put, List.setIfInBounds_toArray, List.set_cons_zero, List.set_cons_succ]
          refine wpAnyH_take (i := 8) (oi := ?_) (v := undef) ?_ ?_ ?_ ?_ ?_ ?_ ?_ ?_
          rotate_left 1
          · simp only [List.getElem?_toArray, List.getElem?_cons_succ, List.getElem?_cons_zero]; rfl
          · kernel_rfl
          · kernel_rfl
          · kernel_rfl
          · exact fun _ _ _ h => h
          · exact Or.inr ⟨by kernel_rfl, rfl⟩
          · assumption
          try simp only [Act.put, List.setIfInBounds_toArray, List.set_cons_zero, List.set_cons_succ]
          refine wpAnyH_take (i := 9) (oi := ?_) (v := undef) ?_ ?_ ?_ ?_ ?_ ?_ ?_ ?_
          rotate_left 1
          · simp only [List.getElem?_toArray, List.getElem?_cons_succ, List.getElem?_cons_zero]; rfl
          · kernel_rfl
          · kernel_rfl
          · kernel_rfl
          · exact fun _ _ _ h => h
          · exact Or.inr ⟨by kernel_rfl, rfl⟩
          · assumption
          try simp only [Act.put, List.setIfInBounds_toArray, List.set_cons_zero, List.set_cons_succ]
          refine wpAnyH_take (i := 10) (oi := ?_) (v := undef) ?_ ?_ ?_ ?_ ?_ ?_ ?_ ?_
          rotate_left 1
          · simp only [List.getElem?_toArray, List.getElem?_cons_succ, List.getElem?_cons_zero]; rfl
          · kernel_rfl
          · kernel_rfl
          · kernel_rfl
          · exact fun _ _ _ h => h
          · exact Or.inr ⟨by kernel_rfl, rfl⟩
          · assumption
          try simp only [Act.put, List.setIfInBounds_toArray, List.set_cons_zero, List.set_cons_succ]
          refine wpAnyH_take (i := 11) (oi := ?_) (v := undef) ?_ ?_ ?_ ?_ ?_ ?_ ?_ ?_
          rotate_left 1
          · simp only [List.getElem?_toArray, List.getElem?_cons_succ, List.getElem?_cons_zero]; rfl
          · kernel_rfl
          · kernel_rfl
          · kernel_rfl
          · exact fun _ _ _ h => h
          · exact Or.inr ⟨by kernel_rfl, rfl⟩
          · assumption
          try simp only [Act.put, List.setIfInBounds_toArray, List.set_cons_zero, List.set_cons_succ]
          refine wpAnyH_take (i := 12) (oi := ?_) (v := undef) ?_ ?_ ?_ ?_ ?_ ?_ ?_ ?_
          rotate_left 1
          · simp only [List.getElem?_toArray, List.getElem?_cons_succ, List.getElem?_cons_zero]; rfl
          · kernel_rfl
          · kernel_rfl
          · kernel_rfl
          · exact fun _ _ _ h => h
          · exact Or.inr ⟨by kernel_rfl, rfl⟩
          · assumption
          try simp only [Act.put, List.setIfInBounds_toArray, List.set_cons_zero, List.set_cons_succ]
          refine wpAnyH_take (i := 13) (oi := ?_) (v := undef) ?_ ?_ ?_ ?_ ?_ ?_ ?_ ?_
          rotate_left 1
          · simp only [List.getElem?_toArray, List.getElem?_cons_succ, List.getElem?_cons_zero]; rfl
          · kernel_rfl
          · kernel_rfl
          · kernel_rfl
          · exact fun _ _ _ h => h
          · exact Or.inr ⟨by kernel_rfl, rfl⟩
          · assumption
          try simp only [Act.put, List.setIfInBounds_toArray, List.set_cons_zero, List.set_cons_succ]
          refine wpAnyH_take (i := 14) (oi := ?_) (v := undef) ?_ ?_ ?_ ?_ ?_ ?_ ?_ ?_
          rotate_left 1
          · simp only [List.getElem?_toArray, List.getElem?_cons_succ, List.getElem?_cons_zero]; rfl
          · kernel_rfl
          · kernel_rfl
          · kernel_rfl
          · exact fun _ _ _ h => h
          · exact Or.inr ⟨by kernel_rfl, rfl⟩
          · assumption
          try simp only [Act.put, List.setIfInBounds_toArray, List.set_cons_zero, List.set_cons_succ]
          refine wpAnyH_take (i := 15) (oi := ?_) (v := undef) ?_ ?_ ?_ ?_ ?_ ?_ ?_ ?_
          rotate_left 1
          · simp only [List.getElem?_toArray, List.getElem?_cons_succ, List.getElem?_cons_zero]; rfl
          · kernel_rfl
          · kernel_rfl
          · kernel_rfl
          · exact fun _ _ _ h => h
          · exact Or.inr ⟨by kernel_rfl, rfl⟩
          · assumption
          try simp only [Act.put, List.setIfInBounds_toArray, List.set_cons_zero, List.set_cons_succ]
          refine wpAnyH_take (i := 16) (oi := ?_) (v := undef) ?_ ?_ ?_ ?_ ?_ ?_ ?_ ?_
          rotate_left 1
          · simp only [List.getElem?_toArray, List.getElem?_cons_succ, List.getElem?_cons_zero]; rfl
          · kernel_rfl
          · kernel_rfl
          · kernel_rfl
          · exact fun _ _ _ h => h
          · exact Or.inr ⟨by kernel_rfl, rfl⟩
          · assumption
          try simp only [Act.put, List.setIfInBounds_toArray, List.set_cons_zero, List.set_cons_succ]
          refine wpAnyH_take (i := 17) (oi := ?_) (v := undef) ?_ ?_ ?_ ?_ ?_ ?_ ?_ ?_
          rotate_left 1
          · simp only [List.getElem?_toArray, List.getElem?_cons_succ, List.getElem?_cons_zero]; rfl
          · kernel_rfl
          · kernel_rfl
          · kernel_rfl
          · exact fun _ _ _ h => h
          · exact Or.inr ⟨by kernel_rfl, rfl⟩
          · assumption
          try simp only [Act.put, List.setIfInBounds_toArray, List.set_cons_zero, List.set_cons_succ]
          refine wpAnyH_take (i := 18) (oi := ?_) (v := undef) ?_ ?_ ?_ ?_ ?_ ?_ ?_ ?_
          rotate_left 1
          · simp only [List.getElem?_toArray, List.getElem?_cons_succ, List.getElem?_cons_zero]; rfl
          · kernel_rfl
          · kernel_rfl
          · kernel_rfl
          · exact fun _ _ _ h => h
          · exact Or.inr ⟨by kernel_rfl, rfl⟩
          · assumption
          try simp only [Act.put, List.setIfInBounds_toArray, List.set_cons_zero, List.set_cons_succ]
          refine wpAnyH_take (i := 19) (oi := ?_) (v := undef) ?_ ?_ ?_ ?_ ?_ ?_ ?_ ?_
          rotate_left 1
          · simp only [List.getElem?_toArray, List.getElem?_cons_succ, List.getElem?_cons_zero]; rfl
          · kernel_rfl
          · kernel_rfl
          · kernel_rfl
          · exact fun _ _ _ h => h
          · exact Or.inr ⟨by kernel_rfl, rfl⟩
          · assumption
          try simp only [Act.put, List.setIfInBounds_toArray, List.set_cons_zero, List.set_cons_succ]
          refine wpAnyH_take (i := 20) (oi := ?_) (v := undef) ?_ ?_ ?_ ?_ ?_ ?_ ?_ ?_
          rotate_left 1
          · simp only [List.getElem?_toArray, List.getElem?_cons_succ, List.getElem?_cons_zero]; rfl
          · kernel_rfl
          · kernel_rfl
          · kernel_rfl
          · exact fun _ _ _ h => h
          · exact Or.inr ⟨by kernel_rfl, rfl⟩
          · assumption
          try simp only [Act.put, List.setIfInBounds_toArray, List.set_cons_zero, List.set_cons_succ]
          refine wpAnyH_take (i := 21) (oi := ?_) (v := ?_) ?_ ?_ ?_ ?_ ?_ ?_ ?_ ?_
          rotate_left 2
          · simp only [List.getElem?_toArray, List.getElem?_cons_succ, List.getElem?_cons_zero]; rfl
          · kernel_rfl
          · kernel_rfl
          · kernel_rfl
          · exact fun _ _ _ h => h
          · refine Or.inl ⟨by rfl, ?_⟩
            intro w' hSw
            (try dsimp only at hSw)
            go_simp
            all_goals (with_reducible rfl)
          · assumption
          try simp only [Act.put, List.setIfInBounds_toArray, List.set_cons_zero, List.set_cons_succ]
          refine wpAnyH_done (by kernel_rfl) ?_ _
          clear hHeld
          go_wp2
          go_end0
          have hz := HJ7.out.2.2
          unfold riseM at hz
          exact ⟨rfl, HFIN.out _ (by rw [← hz]; exact HM7.out.keep B1.out) (HF7.out.trans (Fr.of_below B1.out))⟩
        | succ jj =>
          have hj := HJ7.out.1
          have hlm := HJ7.out.2.1
          obtain ⟨⟨ys, yn, ye⟩, hy⟩ : ∃ y, MM[jj]? = some y := ⟨_, List.getElem?_eq_getElem (by omega)⟩
          obtain ⟨⟨xs, xn', xe'⟩, hx⟩ : ∃ x, MM[jj + 1]? = some x := ⟨_, List.getElem?_eq_getElem hj⟩
          obtain ⟨j1, hj1⟩ : ∃ k, k = jj + 1 := ⟨_, rfl⟩
          rw [← hj1] at hx HK HJ7 ⊢
          have t1' : decide ((0 : Int) < (j1 : Int)) = true := by rw [decide_eq_true_iff]; omega
          have t1'' : 0 < j1 := by omega
          have e1 : IntKind.i64.wrap ((j1 : Int) - 1) = (jj : Int) := by rw [IntKind.wrap_i64]; omega
          have t2 : (0 : Int) ≤ (jj : Int) := by omega
          have t3 : (jj : Int) < (m1 : Int) := by omega
          have t4 : (0 : Int) ≤ (j1 : Int) := by omega
          have t5 : (j1 : Int) < (m1 : Int) := by omega
          have HXY := Lib.hid (And.intro hy hx)
          have HJJ := Lib.hid (show j1 = jj + 1 ∧ jj < MM.length ∧ j1 < MM.length by omega)
          have HS2 := Lib.hid (show ∀ wx, Below wr.heap.size wr wx → (fun w' : World => (∀ i, w'.cell? ⟨mb, i, none⟩ = (#[.slice (some ⟨g, 0, none⟩) m1 c1, .int .i64 t1] : Array Value)[i]?) ∧ (w'.cell? ⟨g, jj * 3, none⟩ = some (.string ys) ∧ w'.cell? ⟨g, jj * 3 + 1, none⟩ = some (.int .i64 yn) ∧ w'.cell? ⟨g, jj * 3 + 2, none⟩ = some (.int .i64 ye)) ∧ (w'.cell? ⟨g, j1 * 3, none⟩ = some (.string xs) ∧ w'.cell? ⟨g, j1 * 3 + 1, none⟩ = some (.int .i64 xn') ∧ w'.cell? ⟨g, j1 * 3 + 2, none⟩ = some (.int .i64 xe'))) wx from fun wx hb => by
            have hr := (HM7.out.keep hb).row
            exact ⟨HS.out wx hb, ⟨hr.cell triV_l HXY.out.1 (j := 0) (by omega), hr.cell triV_l HXY.out.1 (j := 1) (by omega), hr.cell triV_l HXY.out.1 (j := 2) (by omega)⟩, ⟨hr.cell triV_l HXY.out.2 (j := 0) (by omega), hr.cell triV_l HXY.out.2 (j := 1) (by omega), hr.cell triV_l HXY.out.2 (j := 2) (by omega)⟩⟩)
          have hunf : riseM MM j1 = if yn < xn' then riseM ((MM.set jj (xs, xn', xe')).set j1 (ys, yn, ye)) jj else MM := by
            rw [hj1]
            conv => lhs; unfold riseM
            rw [hy, ← hj1, hx]
          have HU := Lib.hid hunf
          clear hj hlm hy hx hj1 hunf
          go_upto_region 19 with (fail)
          refine wp_region_held_drew (S := (fun w' : World => (∀ i, w'.cell? ⟨mb, i, none⟩ = (#[.slice (some ⟨g, 0, none⟩) m1 c1, .int .i64 t1] : Array Value)[i]?) ∧ (w'.cell? ⟨g, jj * 3, none⟩ = some (.string ys) ∧ w'.cell? ⟨g, jj * 3 + 1, none⟩ = some (.int .i64 yn) ∧ w'.cell? ⟨g, jj * 3 + 2, none⟩ = some (.int .i64 ye)) ∧ (w'.cell? ⟨g, j1 * 3, none⟩ = some (.string xs) ∧ w'.cell? ⟨g, j1 * 3 + 1, none⟩ = some (.int .i64 xn') ∧ w'.cell? ⟨g, j1 * 3 + 2, none⟩ = some (.int .i64 xe')))) (by kernel_rfl) (HS2.out _ B1.out) (fun hHeld => ?_)
          refine wpAnyH_take (i := 0) (oi := ?_) (v := ?_) ?_ ?_ ?_ ?_ ?_ ?_ ?_ ?_
          rotate_left 2
          · simp only [List.getElem?_toArray, List.getElem?_cons_succ, List.getElem?_cons_zero]; rfl
          · kernel_rfl
          · kernel_rfl
          · kernel_rfl
          · exact fun _ _ _ h => h
          · refine Or.inl ⟨by rfl, ?_⟩
            intro w' hSw
            (try dsimp only at hSw)
            go_simp
            all_goals (with_reducible rfl)
          · assumption
          try simp only [Act.put, List.setIfInBounds_toArray, List.set_cons_zero, List.set_cons_succ]
          refine wpAnyH_take (i := 1) (oi := ?_) (v := ?_) ?_ ?_ ?_ ?_ ?_ ?_ ?_ ?_
          rotate_left 2
          · simp only [List.getElem?_toArray, List.getElem?_cons_succ, List.getElem?_cons_zero]; rfl
          · kernel_rfl
          · kernel_rfl
          · kernel_rfl
          · exact fun _ _ _ h => h
          · refine Or.inl ⟨by rfl, ?_⟩
            intro w' hSw
            (try dsimp only at hSw)
            go_simp
            all_goals (with_reducible rfl)
          · assumption
          try simp only [Act.put, List.setIfInBounds_toArray, List.set_cons_zero, List.set_cons_succ]
          refine wpAnyH_take (i := 2) (oi := ?_) (v := ?_) ?_ ?_ ?_ ?_ ?_ ?_ ?_ ?_
          rotate_left 2
          · simp only [List.getElem?_toArray, List.getElem?_cons_succ, List.getElem?_cons_zero]; rfl
          · kernel_rfl
          · kernel_rfl
          · kernel_rfl
          · exact fun _ _ _ h => h
          · refine Or.inl ⟨by rfl, ?_⟩
            intro w' hSw
            (try dsimp only at hSw)
            go_simp
            all_goals (with_reducible rfl)
          · assumption
          try simp only [Act.put, List.setIfInBounds_toArray, List.set_cons_zero, List.set_cons_succ]
          refine wpAnyH_take (i := 3) (oi := ?_) (v := ?_) ?_ ?_ ?_ ?_ ?_ ?_ ?_ ?_
          rotate_left 2
          · simp only [List.getElem?_toArray, List.getElem?_cons_succ, List.getElem?_cons_zero]; rfl
          · kernel_rfl
          · kernel_rfl
          · kernel_rfl
          · exact fun _ _ _ h => h
          · refine Or.inl ⟨by rfl, ?_⟩
            intro w' hSw
            (try dsimp only at hSw)
            go_simp
            all_goals (with_reducible rfl)
          · assumption
          try simp only [Act.put, List.setIfInBounds_toArray, List.set_cons_zero, List.set_cons_succ]
          refine wpAnyH_take (i := 4) (oi := ?_) (v := ?_) ?_ ?_ ?_ ?_ ?_ ?_ ?_ ?_
          rotate_left 2
          · simp only [List.getElem?_toArray, List.getElem?_cons_succ, List.getElem?_cons_zero]; rfl
          · kernel_rfl
          · kernel_rfl
          · kernel_rfl
          · exact fun _ _ _ h => h
          · refine Or.inl ⟨by rfl, ?_⟩
            intro w' hSw
            (try dsimp only at hSw)
            go_simp
            all_goals (with_reducible rfl)
          · assumption
          try simp only [Act.put, List.setIfInBounds_toArray, List.set_cons_zero, List.set_cons_succ]
          refine wpAnyH_take (i := 5) (oi := ?_) (v := ?_) ?_ ?_ ?_ ?_ ?_ ?_ ?_ ?_
          rotate_left 2
          · simp only [List.getElem?_toArray, List.getElem?_cons_succ, List.getElem?_cons_zero]; rfl
          · kernel_rfl
          · kernel_rfl
          · kernel_rfl
          · exact fun _ _ _ h => h
          · refine Or.inl ⟨by rfl, ?_⟩
            intro w' hSw
            (try dsimp only at hSw)
            go_simp
            all_goals (with_reducible rfl)
          · assumption
          try simp only [Act.put, List.setIfInBounds_toArray, List.set_cons_zero, List.set_cons_succ]
          refine wpAnyH_take (i := 6) (oi := ?_) (v := ?_) ?_ ?_ ?_ ?_ ?_ ?_ ?_ ?_
          rotate_left 2
          · simp only [List.getElem?_toArray, List.getElem?_cons_succ, List.getElem?_cons_zero]; rfl
          · kernel_rfl
          · kernel_rfl
          · kernel_rfl
          · exact fun _ _ _ h => h
          · refine Or.inl ⟨by rfl, ?_⟩
            intro w' hSw
            (try dsimp only at hSw)
            go_simp
            all_goals (with_reducible rfl)
          · assumption
          try simp only [Act.put, List.setIfInBounds_toArray, List.set_cons_zero, List.set_cons_succ]
          refine wpAnyH_take (i := 7) (oi := ?_) (v := ?_) ?_ ?_ ?_ ?_ ?_ ?_ ?_ ?_
          rotate_left 2
          · simp only [List.getElem?_toArray, List.getElem?_cons_succ, List.getElem?_cons_zero]; rfl
          · kernel_rfl
          · kernel_rfl
          · kernel_rfl
          · exact fun _ _ _ h => h
          · refine Or.inl ⟨by rfl, ?_⟩
            intro w' hSw
            (try dsimp only at hSw)
            go_simp
            all_goals (with_reducible rfl)
          · assumption
          try simp only [Act.put, List.setIfInBounds_toArray, List.set_cons_zero, List.set_cons_succ]
          refine wpAnyH_take (i := 8) (oi := ?_) (v := ?_) ?_ ?_ ?_ ?_ ?_ ?_ ?_ ?_
          rotate_left 2
          · simp only [List.getElem?_toArray, List.getElem?_cons_succ, List.getElem?_cons_zero]; rfl
          · kernel_rfl
          · kernel_rfl
          · kernel_rfl
          · exact fun _ _ _ h => h
          · refine Or.inl ⟨by rfl, ?_⟩
            intro w' hSw
            (try dsimp only at hSw)
            go_simp
            all_goals (with_reducible rfl)
          · assumption
          try simp only [Act.put, List.setIfInBounds_toArray, List.set_cons_zero, List.set_cons_succ]
          refine wpAnyH_take (i := 9) (oi := ?_) (v := ?_) ?_ ?_ ?_ ?_ ?_ ?_ ?_ ?_
          rotate_left 2
          · simp only [List.getElem?_toArray, List.getElem?_cons_succ, List.getElem?_cons_zero]; rfl
          · kernel_rfl
          · kernel_rfl
          · kernel_rfl
          · exact fun _ _ _ h => h
          · refine Or.inl ⟨by rfl, ?_⟩
            intro w' hSw
            (try dsimp only at hSw)
            go_simp
            all_goals (with_reducible rfl)
          · assumption
          try simp only [Act.put, List.setIfInBounds_toArray, List.set_cons_zero, List.set_cons_succ]
          refine wpAnyH_take (i := 10) (oi := ?_) (v := ?_) ?_ ?_ ?_ ?_ ?_ ?_ ?_ ?_
          rotate_left 2
          · simp only [List.getElem?_toArray, List.getElem?_cons_succ, List.getElem?_cons_zero]; rfl
          · kernel_rfl
          · kernel_rfl
          · kernel_rfl
          · exact fun _ _ _ h => h
          · refine Or.inl ⟨by rfl, ?_⟩
            intro w' hSw
            (try dsimp only at hSw)
            go_simp
            all_goals (with_reducible rfl)
          · assumption
          try simp only [Act.put, List.setIfInBounds_toArray, List.set_cons_zero, List.set_cons_succ]
          refine wpAnyH_take (i := 11) (oi := ?_) (v := ?_) ?_ ?_ ?_ ?_ ?_ ?_ ?_ ?_
          rotate_left 2
          · simp only [List.getElem?_toArray, List.getElem?_cons_succ, List.getElem?_cons_zero]; rfl
          · kernel_rfl
          · kernel_rfl
          · kernel_rfl
          · exact fun _ _ _ h => h
          · refine Or.inl ⟨by rfl, ?_⟩
            intro w' hSw
            (try dsimp only at hSw)
            go_simp
            all_goals (with_reducible rfl)
          · assumption
          try simp only [Act.put, List.setIfInBounds_toArray, List.set_cons_zero, List.set_cons_succ]
          refine wpAnyH_take (i := 12) (oi := ?_) (v := ?_) ?_ ?_ ?_ ?_ ?_ ?_ ?_ ?_
          rotate_left 2
          · simp only [List.getElem?_toArray, List.getElem?_cons_succ, List.getElem?_cons_zero]; rfl
          · kernel_rfl
          · kernel_rfl
          · kernel_rfl
          · exact fun _ _ _ h => h
          · refine Or.inl ⟨by rfl, ?_⟩
            intro w' hSw
            (try dsimp only at hSw)
            go_simp
            all_goals (with_reducible rfl)
          · assumption
          try simp only [Act.put, List.setIfInBounds_toArray, List.set_cons_zero, List.set_cons_succ]
          refine wpAnyH_take (i := 13) (oi := ?_) (v := ?_) ?_ ?_ ?_ ?_ ?_ ?_ ?_ ?_
          rotate_left 2
          · simp only [List.getElem?_toArray, List.getElem?_cons_succ, List.getElem?_cons_zero]; rfl
          · kernel_rfl
          · kernel_rfl
          · kernel_rfl
          · exact fun _ _ _ h => h
          · refine Or.inl ⟨by rfl, ?_⟩
            intro w' hSw
            (try dsimp only at hSw)
            go_simp
            all_goals (with_reducible rfl)
          · assumption
          try simp only [Act.put, List.setIfInBounds_toArray, List.set_cons_zero, List.set_cons_succ]
          refine wpAnyH_take (i := 14) (oi := ?_) (v := ?_) ?_ ?_ ?_ ?_ ?_ ?_ ?_ ?_
          rotate_left 2
          · simp only [List.getElem?_toArray, List.getElem?_cons_succ, List.getElem?_cons_zero]; rfl
          · kernel_rfl
          · kernel_rfl
          · kernel_rfl
          · exact fun _ _ _ h => h
          · refine Or.inl ⟨by rfl, ?_⟩
            intro w' hSw
            (try dsimp only at hSw)
            go_simp
            all_goals (with_reducible rfl)
          · assumption
          try simp only [Act.put, List.setIfInBounds_toArray, List.set_cons_zero, List.set_cons_succ]
          refine wpAnyH_take (i := 15) (oi := ?_) (v := ?_) ?_ ?_ ?_ ?_ ?_ ?_ ?_ ?_
          rotate_left 2
          · simp only [List.getElem?_toArray, List.getElem?_cons_succ, List.getElem?_cons_zero]; rfl
          · kernel_rfl
          · kernel_rfl
          · kernel_rfl
          · exact fun _ _ _ h => h
          · refine Or.inl ⟨by rfl, ?_⟩
            intro w' hSw
            (try dsimp only at hSw)
            go_simp
            all_goals (with_reducible rfl)
          · assumption
          try simp only [Act.put, List.setIfInBounds_toArray, List.set_cons_zero, List.set_cons_succ]
          refine wpAnyH_take (i := 16) (oi := ?_) (v := ?_) ?_ ?_ ?_ ?_ ?_ ?_ ?_ ?_
          rotate_left 2
          · simp only [List.getElem?_toArray, List.getElem?_cons_succ, List.getElem?_cons_zero]; rfl
          · kernel_rfl
          · kernel_rfl
          · kernel_rfl
          · exact fun _ _ _ h => h
          · refine Or.inl ⟨by rfl, ?_⟩
            intro w' hSw
            (try dsimp only at hSw)
            go_simp
            all_goals (with_reducible rfl)
          · assumption
          try simp only [Act.put, List.setIfInBounds_toArray, List.set_cons_zero, List.set_cons_succ]
          refine wpAnyH_take (i := 17) (oi := ?_) (v := ?_) ?_ ?_ ?_ ?_ ?_ ?_ ?_ ?_
          rotate_left 2
          · simp only [List.getElem?_toArray, List.getElem?_cons_succ, List.getElem?_cons_zero]; rfl
          · kernel_rfl
          · kernel_rfl
          · kernel_rfl
          · exact fun _ _ _ h => h
          · refine Or.inl ⟨by rfl, ?_⟩
            intro w' hSw
            (try dsimp only at hSw)
            go_simp
            all_goals (with_reducible rfl)
          · assumption
          try simp only [Act.put, List.setIfInBounds_toArray, List.set_cons_zero, List.set_cons_succ]
          refine wpAnyH_take (i := 18) (oi := ?_) (v := ?_) ?_ ?_ ?_ ?_ ?_ ?_ ?_ ?_
          rotate_left 2
          · simp only [List.getElem?_toArray, List.getElem?_cons_succ, List.getElem?_cons_zero]; rfl
          · kernel_rfl
          · kernel_rfl
          · kernel_rfl
          · exact fun _ _ _ h => h
          · refine Or.inl ⟨by rfl, ?_⟩
            intro w' hSw
            (try dsimp only at hSw)
            go_simp
            all_goals (with_reducible rfl)
          · assumption
          try simp only [Act.put, List.setIfInBounds_toArray, List.set_cons_zero, List.set_cons_succ]
          refine wpAnyH_take (i := 19) (oi := ?_) (v := ?_) ?_ ?_ ?_ ?_ ?_ ?_ ?_ ?_
          rotate_left 2
          · simp only [List.getElem?_toArray, List.getElem?_cons_succ, List.getElem?_cons_zero]; rfl
          · kernel_rfl
          · kernel_rfl
          · kernel_rfl
          · exact fun _ _ _ h => h
          · refine Or.inl ⟨by rfl, ?_⟩
            intro w' hSw
            (try dsimp only at hSw)
            go_simp
            all_goals (with_reducible rfl)
          · assumption
          try simp only [Act.put, List.setIfInBounds_toArray, List.set_cons_zero, List.set_cons_succ]
          refine wpAnyH_take (i := 20) (oi := ?_) (v := ?_) ?_ ?_ ?_ ?_ ?_ ?_ ?_ ?_
          rotate_left 2
          · simp only [List.getElem?_toArray, List.getElem?_cons_succ, List.getElem?_cons_zero]; rfl
          · kernel_rfl
          · kernel_rfl
          · kernel_rfl
          · exact fun _ _ _ h => h
          · refine Or.inl ⟨by rfl, ?_⟩
            intro w' hSw
            (try dsimp only at hSw)
            go_simp
            all_goals (with_reducible rfl)
          · assumption
          try simp only [Act.put, List.setIfInBounds_toArray, List.set_cons_zero, List.set_cons_succ]
          refine wpAnyH_take (i := 21) (oi := ?_) (v := ?_) ?_ ?_ ?_ ?_ ?_ ?_ ?_ ?_
          rotate_left 2
          · simp only [List.getElem?_toArray, List.getElem?_cons_succ, List.getElem?_cons_zero]; rfl
          · kernel_rfl
          · kernel_rfl
          · kernel_rfl
          · exact fun _ _ _ h => h
          · refine Or.inl ⟨by rfl, ?_⟩
            intro w' hSw
            (try dsimp only at hSw)
            go_simp
            all_goals (with_reducible rfl)
          · assumption
          try simp only [Act.put, List.setIfInBounds_toArray, List.set_cons_zero, List.set_cons_succ]
          refine wpAnyH_done (by kernel_rfl) ?_ _
          clear hHeld
          by_cases hlt : yn < xn'
          · as_aux_lemma =>
              have b1 : decide (yn < xn') = true := by rw [decide_eq_true_iff]; exact hlt
              have HLT := Lib.hid hlt
              have B2 := Lib.hid (show Below wr.heap.size wr wr.drew.drew from below_draws (Below.refl _ _) 2)
              obtain ⟨w2, hw2⟩ : ∃ z, z = wr.drew.drew := ⟨_, rfl⟩
              have B2' := Lib.hid (show Below wr.heap.size wr w2 by rw [hw2]; exact B2.out)
              have hr2 := (HM7.out.keep B2'.out).row
              have hS2 : (fun w' : World => (∀ i, w'.cell? ⟨mb, i, none⟩ = (#[.slice (some ⟨g, 0, none⟩) m1 c1, .int .i64 t1] : Array Value)[i]?) ∧ (w'.cell? ⟨g, jj * 3, none⟩ = some (.string ys) ∧ w'.cell? ⟨g, jj * 3 + 1, none⟩ = some (.int .i64 yn) ∧ w'.cell? ⟨g, jj * 3 + 2, none⟩ = some (.int .i64 ye)) ∧ (w'.cell? ⟨g, j1 * 3, none⟩ = some (.string xs) ∧ w'.cell? ⟨g, j1 * 3 + 1, none⟩ = some (.int .i64 xn') ∧ w'.cell? ⟨g, j1 * 3 + 2, none⟩ = some (.int .i64 xe'))) w2 := HS2.out _ B2'.out
              obtain ⟨w3, st1, O3, f3, s3⟩ := hr2.put3 triV_l HJ7.out.2.1.symm (i := jj) HJJ.out.2.1 (xs, xn', xe') (v0 := .string xs) (v1 := .int .i64 xn') (v2 := .int .i64 xe') rfl
              obtain ⟨w4, st2, O4, f4, s4⟩ := O3.put3 triV_l (by rw [List.length_set]; exact HJ7.out.2.1.symm) (i := j1) (by rw [List.length_set]; exact HJJ.out.2.2) (ys, yn, ye) (v0 := .string ys) (v1 := .int .i64 yn) (v2 := .int .i64 ye) rfl
              have hx3 : (MM.set jj (xs, xn', xe'))[j1]? = some (xs, xn', xe') := by rw [List.getElem?_set_ne (by have := HJJ.out.1; omega)]; exact HXY.out.2
              have d0 : w3.cell? ⟨g, j1 * 3, none⟩ = some (.string xs) := O3.cell triV_l hx3 (j := 0) (by omega)
              have d1 : w3.cell? ⟨g, j1 * 3 + 1, none⟩ = some (.int .i64 xn') := O3.cell triV_l hx3 (j := 1) (by omega)
              have d2 : w3.cell? ⟨g, j1 * 3 + 2, none⟩ = some (.int .i64 xe') := O3.cell triV_l hx3 (j := 2) (by omega)
              have gw := hr2.wr (by have := HJJ.out; omega)
              have gw3 := O3.wr (by rw [List.length_set]; have := HJJ.out; omega)
              have hgm2 := HGM.out
              have hm3 : Blk w3 mb 35 #[.slice (some ⟨g, 0, none⟩) m1 c1, .int .i64 t1] := (HM7.out.keep B2'.out).hm.fr f3 hgm2
              have hm4 : Blk w4 mb 35 #[.slice (some ⟨g, 0, none⟩) m1 c1, .int .i64 t1] := hm3.fr f4 hgm2
              have H4 := Lib.hid (show MoAt w4 mb B (.slice (some ⟨g, 0, none⟩) m1 c1) ((MM.set jj (xs, xn', xe')).set j1 (ys, yn, ye)) t1 from ⟨hm4, O4, HM7.out.lt⟩)
              have F4 := Lib.hid (Fr_low (((HF7.out.trans (Fr.of_below B2'.out)).mono (fun k hk => (Or.inl hk : moF mb v k ∨ k = g))).trans ((f3.trans f4).mono (fun k hk => Or.inr hk))) (G := moF mb v) (fun k hk h => by
                rcases h with h | h
                · exact h
                · rcases HG2.out with h2 | h2
                  · right; rw [h]; exact h2
                  · omega))
              have HN4 := Lib.hid (show jj < ((MM.set jj (xs, xn', xe')).set j1 (ys, yn, ye)).length ∧ ((MM.set jj (xs, xn', xe')).set j1 (ys, yn, ye)).length = m1 ∧ riseM ((MM.set jj (xs, xn', xe')).set j1 (ys, yn, ye)) jj = R from ⟨by rw [List.length_set, List.length_set]; exact HJJ.out.2.1, by rw [List.length_set, List.length_set]; exact HJ7.out.2.1, by
                have hz := HJ7.out.2.2
                rw [HU.out, if_pos HLT.out] at hz
                exact hz⟩)
              have HS3 := Lib.hid (show (fun w' : World => (∀ i, w'.cell? ⟨mb, i, none⟩ = (#[.slice (some ⟨g, 0, none⟩) m1 c1, .int .i64 t1] : Array Value)[i]?)) w3 from hm3.rd)
              have HS4 := Lib.hid (show (fun w' : World => (∀ i, w'.cell? ⟨mb, i, none⟩ = (#[.slice (some ⟨g, 0, none⟩) m1 c1, .int .i64 t1] : Array Value)[i]?)) w4 from hm4.rd)
              clear hr2 O3 O4 f3 f4 s3 s4 hx3 hm3 hm4 hgm2
              go_upto_region 21 with (fail)
              clear hlt
              refine Ph.start [27] (Ph.pick [(fun w' : World => (∀ i, w'.cell? ⟨mb, i, none⟩ = (#[.slice (some ⟨g, 0, none⟩) m1 c1, .int .i64 t1] : Array Value)[i]?) ∧ (w'.cell? ⟨g, jj * 3, none⟩ = some (.string ys) ∧ w'.cell? ⟨g, jj * 3 + 1, none⟩ = some (.int .i64 yn) ∧ w'.cell? ⟨g, jj * 3 + 2, none⟩ = some (.int .i64 ye)) ∧ (w'.cell? ⟨g, j1 * 3, none⟩ = some (.string xs) ∧ w'.cell? ⟨g, j1 * 3 + 1, none⟩ = some (.int .i64 xn') ∧ w'.cell? ⟨g, j1 * 3 + 2, none⟩ = some (.int .i64 xe'))), (fun w' : World => (∀ i, w'.cell? ⟨mb, i, none⟩ = (#[.slice (some ⟨g, 0, none⟩) m1 c1, .int .i64 t1] : Array Value)[i]?))]) (by kernel_rfl) (Ph.pick0 (by rw [← hw2]; exact hS2)) (fun hHeld hOrd => ?_)
              rw [← hw2]
              rw [← hw2] at hHeld
              obtain ⟨q0, q1, q2⟩ := hS2.2.1
              clear hw2 hS2
              have HT := Lib.hid (show ∀ p, p ≤ 1 → ∀ w', Ph.pick [(fun w' : World => (∀ i, w'.cell? ⟨mb, i, none⟩ = (#[.slice (some ⟨g, 0, none⟩) m1 c1, .int .i64 t1] : Array Value)[i]?) ∧ (w'.cell? ⟨g, jj * 3, none⟩ = some (.string ys) ∧ w'.cell? ⟨g, jj * 3 + 1, none⟩ = some (.int .i64 yn) ∧ w'.cell? ⟨g, jj * 3 + 2, none⟩ = some (.int .i64 ye)) ∧ (w'.cell? ⟨g, j1 * 3, none⟩ = some (.string xs) ∧ w'.cell? ⟨g, j1 * 3 + 1, none⟩ = some (.int .i64 xn') ∧ w'.cell? ⟨g, j1 * 3 + 2, none⟩ = some (.int .i64 xe'))), (fun w' : World => (∀ i, w'.cell? ⟨mb, i, none⟩ = (#[.slice (some ⟨g, 0, none⟩) m1 c1, .int .i64 t1] : Array Value)[i]?))] p w' → (fun w' : World => (∀ i, w'.cell? ⟨mb, i, none⟩ = (#[.slice (some ⟨g, 0, none⟩) m1 c1, .int .i64 t1] : Array Value)[i]?)) w' from fun p hp w' h => by
                match p, hp, h with
                | 0, _, h => exact h.1
                | 1, _, h => exact h)
              refine Ph.takeAll (i := 6) (oi := ?_) (v := ?_) (p := 0) ((fun w' : World => (∀ i, w'.cell? ⟨mb, i, none⟩ = (#[.slice (some ⟨g, 0, none⟩) m1 c1, .int .i64 t1] : Array Value)[i]?))) (HT.out) ?_ ?_ ?_ ?_ hOrd ?_ ?_ ?_ ?_ ?_ ?_
              rotate_left 2
              · simp only [List.getElem?_toArray, List.getElem?_cons_succ, List.getElem?_cons_zero]; rfl
              · kernel_rfl
              · kernel_rfl
              · kernel_rfl
              · kernel_rfl
              · kernel_rfl
              · exact fun _ _ _ h => h
              · refine Or.inl ⟨by rfl, ?_⟩
                intro w' hSw
                (try dsimp only at hSw)
                go_simp
                all_goals (with_reducible rfl)
              · assumption
              clear hOrd
              intro hOrd
              try simp only [Act.put, List.setIfInBounds_toArray, List.set_cons_zero, List.set_cons_succ] at hOrd ⊢
              refine Ph.takeAll (i := 7) (oi := ?_) (v := ?_) (p := 0) ((fun w' : World => (∀ i, w'.cell? ⟨mb, i, none⟩ = (#[.slice (some ⟨g, 0, none⟩) m1 c1, .int .i64 t1] : Array Value)[i]?))) (HT.out) ?_ ?_ ?_ ?_ hOrd ?_ ?_ ?_ ?_ ?_ ?_
              rotate_left 2
              · simp only [List.getElem?_toArray, List.getElem?_cons_succ, List.getElem?_cons_zero]; rfl
              · kernel_rfl
              · kernel_rfl
              · kernel_rfl
              · kernel_rfl
              · kernel_rfl
              · exact fun _ _ _ h => h
              · refine Or.inl ⟨by rfl, ?_⟩
                intro w' hSw
                (try dsimp only at hSw)
                go_simp
                all_goals (with_reducible rfl)
              · assumption
              clear hOrd
              intro hOrd
              try simp only [Act.put, List.setIfInBounds_toArray, List.set_cons_zero, List.set_cons_succ] at hOrd ⊢
              refine Ph.takeAll (i := 8) (oi := ?_) (v := ?_) (p := 0) ((fun w' : World => (∀ i, w'.cell? ⟨mb, i, none⟩ = (#[.slice (some ⟨g, 0, none⟩) m1 c1, .int .i64 t1] : Array Value)[i]?))) (HT.out) ?_ ?_ ?_ ?_ hOrd ?_ ?_ ?_ ?_ ?_ ?_
              rotate_left 2
              · simp only [List.getElem?_toArray, List.getElem?_cons_succ, List.getElem?_cons_zero]; rfl
              · kernel_rfl
              · kernel_rfl
              · kernel_rfl
              · kernel_rfl
              · kernel_rfl
              · exact fun _ _ _ h => h
              · refine Or.inl ⟨by rfl, ?_⟩
                intro w' hSw
                (try dsimp only at hSw)
                go_simp
                all_goals (with_reducible rfl)
              · assumption
              clear hOrd
              intro hOrd
              try simp only [Act.put, List.setIfInBounds_toArray, List.set_cons_zero, List.set_cons_succ] at hOrd ⊢
              refine Ph.takeAll (i := 9) (oi := ?_) (v := ?_) (p := 0) ((fun w' : World => (∀ i, w'.cell? ⟨mb, i, none⟩ = (#[.slice (some ⟨g, 0, none⟩) m1 c1, .int .i64 t1] : Array Value)[i]?))) (HT.out) ?_ ?_ ?_ ?_ hOrd ?_ ?_ ?_ ?_ ?_ ?_
              rotate_left 2
              · simp only [List.getElem?_toArray, List.getElem?_cons_succ, List.getElem?_cons_zero]; rfl
              · kernel_rfl
              · kernel_rfl
              · kernel_rfl
              · kernel_rfl
              · kernel_rfl
              · exact fun _ _ _ h => h
              · refine Or.inl ⟨by rfl, ?_⟩
                intro w' hSw
                (try dsimp only at hSw)
                go_simp
                all_goals (with_reducible rfl)
              · assumption
              clear hOrd
              intro hOrd
              try simp only [Act.put, List.setIfInBounds_toArray, List.set_cons_zero, List.set_cons_succ] at hOrd ⊢
              refine Ph.takeAll (i := 10) (oi := ?_) (v := ?_) (p := 0) ((fun w' : World => (∀ i, w'.cell? ⟨mb, i, none⟩ = (#[.slice (some ⟨g, 0, none⟩) m1 c1, .int .i64 t1] : Array Value)[i]?))) (HT.out) ?_ ?_ ?_ ?_ hOrd ?_ ?_ ?_ ?_ ?_ ?_
              rotate_left 2
              · simp only [List.getElem?_toArray, List.getElem?_cons_succ, List.getElem?_cons_zero]; rfl
              · kernel_rfl
              · kernel_rfl
              · kernel_rfl
              · kernel_rfl
              · kernel_rfl
              · exact fun _ _ _ h => h
              · refine Or.inl ⟨by rfl, ?_⟩
                intro w' hSw
                (try dsimp only at hSw)
                go_simp
                all_goals (with_reducible rfl)
              · assumption
              clear hOrd
              intro hOrd
              try simp only [Act.put, List.setIfInBounds_toArray, List.set_cons_zero, List.set_cons_succ] at hOrd ⊢
              refine Ph.take (i := 0) (oi := ?_) (v := ?_) (p := 0) ?_ ?_ ?_ ?_ hOrd ?_ ?_ ?_ ?_ ?_ ?_
              rotate_left 2
              · simp only [List.getElem?_toArray, List.getElem?_cons_succ, List.getElem?_cons_zero]; rfl
              · kernel_rfl
              · kernel_rfl
              · kernel_rfl
              · kernel_rfl
              · kernel_rfl
              · exact fun _ _ _ h => h
              · refine Or.inl ⟨by rfl, ?_⟩
                intro w' hSw
                (try simp only [Ph.pick, List.getD_cons_succ, List.getD_cons_zero] at hSw)
                go_simp
                all_goals (with_reducible rfl)
              · assumption
              clear hOrd
              intro hOrd
              try simp only [Act.put, List.setIfInBounds_toArray, List.set_cons_zero, List.set_cons_succ] at hOrd ⊢
              refine Ph.take (i := 1) (oi := ?_) (v := ?_) (p := 0) ?_ ?_ ?_ ?_ hOrd ?_ ?_ ?_ ?_ ?_ ?_
              rotate_left 2
              · simp only [List.getElem?_toArray, List.getElem?_cons_succ, List.getElem?_cons_zero]; rfl
              · kernel_rfl
              · kernel_rfl
              · kernel_rfl
              · kernel_rfl
              · kernel_rfl
              · exact fun _ _ _ h => h
              · refine Or.inl ⟨by rfl, ?_⟩
                intro w' hSw
                (try simp only [Ph.pick, List.getD_cons_succ, List.getD_cons_zero] at hSw)
                go_simp
                all_goals (with_reducible rfl)
              · assumption
              clear hOrd
              intro hOrd
              try simp only [Act.put, List.setIfInBounds_toArray, List.set_cons_zero, List.set_cons_succ] at hOrd ⊢
              refine Ph.take (i := 2) (oi := ?_) (v := ?_) (p := 0) ?_ ?_ ?_ ?_ hOrd ?_ ?_ ?_ ?_ ?_ ?_
              rotate_left 2
              · simp only [List.getElem?_toArray, List.getElem?_cons_succ, List.getElem?_cons_zero]; rfl
              · kernel_rfl
              · kernel_rfl
              · kernel_rfl
              · kernel_rfl
              · kernel_rfl
              · exact fun _ _ _ h => h
              · refine Or.inl ⟨by rfl, ?_⟩
                intro w' hSw
                (try simp only [Ph.pick, List.getD_cons_succ, List.getD_cons_zero] at hSw)
                go_simp
                all_goals (with_reducible rfl)
              · assumption
              clear hOrd
              intro hOrd
              try simp only [Act.put, List.setIfInBounds_toArray, List.set_cons_zero, List.set_cons_succ] at hOrd ⊢
              refine Ph.take (i := 3) (oi := ?_) (v := ?_) (p := 0) ?_ ?_ ?_ ?_ hOrd ?_ ?_ ?_ ?_ ?_ ?_
              rotate_left 2
              · simp only [List.getElem?_toArray, List.getElem?_cons_succ, List.getElem?_cons_zero]; rfl
              · kernel_rfl
              · kernel_rfl
              · kernel_rfl
              · kernel_rfl
              · kernel_rfl
              · exact fun _ _ _ h => h
              · refine Or.inl ⟨by rfl, ?_⟩
                intro w' hSw
                (try simp only [Ph.pick, List.getD_cons_succ, List.getD_cons_zero] at hSw)
                go_simp
                all_goals (with_reducible rfl)
              · assumption
              clear hOrd
              intro hOrd
              try simp only [Act.put, List.setIfInBounds_toArray, List.set_cons_zero, List.set_cons_succ] at hOrd ⊢
              refine Ph.take (i := 4) (oi := ?_) (v := ?_) (p := 0) ?_ ?_ ?_ ?_ hOrd ?_ ?_ ?_ ?_ ?_ ?_
              rotate_left 2
              · simp only [List.getElem?_toArray, List.getElem?_cons_succ, List.getElem?_cons_zero]; rfl
              · kernel_rfl
              · kernel_rfl
              · kernel_rfl
              · kernel_rfl
              · kernel_rfl
              · exact fun _ _ _ h => h
              · refine Or.inl ⟨by rfl, ?_⟩
                intro w' hSw
                (try simp only [Ph.pick, List.getD_cons_succ, List.getD_cons_zero] at hSw)
                go_simp
                all_goals (with_reducible rfl)
              · assumption
              clear hOrd
              intro hOrd
              try simp only [Act.put, List.setIfInBounds_toArray, List.set_cons_zero, List.set_cons_succ] at hOrd ⊢
              refine Ph.take (i := 5) (oi := ?_) (v := ?_) (p := 0) ?_ ?_ ?_ ?_ hOrd ?_ ?_ ?_ ?_ ?_ ?_
              rotate_left 2
              · simp only [List.getElem?_toArray, List.getElem?_cons_succ, List.getElem?_cons_zero]; rfl
              · kernel_rfl
              · kernel_rfl
              · kernel_rfl
              · kernel_rfl
              · kernel_rfl
              · exact fun _ _ _ h => h
              · refine Or.inl ⟨by rfl, ?_⟩
                intro w' hSw
                (try simp only [Ph.pick, List.getD_cons_succ, List.getD_cons_zero] at hSw)
                go_simp
                all_goals (with_reducible rfl)
              · assumption
              clear hOrd
              intro hOrd
              try simp only [Act.put, List.setIfInBounds_toArray, List.set_cons_zero, List.set_cons_succ] at hOrd ⊢
              refine Ph.take (i := 11) (oi := ?_) (v := ?_) (p := 0) ?_ ?_ ?_ ?_ hOrd ?_ ?_ ?_ ?_ ?_ ?_
              rotate_left 2
              · simp only [List.getElem?_toArray, List.getElem?_cons_succ, List.getElem?_cons_zero]; rfl
              · kernel_rfl
              · kernel_rfl
              · kernel_rfl
              · kernel_rfl
              · kernel_rfl
              · exact fun _ _ _ h => h
              · refine Or.inl ⟨by rfl, ?_⟩
                intro w' hSw
                (try simp only [Ph.pick, List.getD_cons_succ, List.getD_cons_zero] at hSw)
                go_simp
                all_goals (with_reducible rfl)
              · assumption
              clear hOrd
              intro hOrd
              try simp only [Act.put, List.setIfInBounds_toArray, List.set_cons_zero, List.set_cons_succ] at hOrd ⊢
              refine Ph.take (i := 12) (oi := ?_) (v := ?_) (p := 0) ?_ ?_ ?_ ?_ hOrd ?_ ?_ ?_ ?_ ?_ ?_
              rotate_left 2
              · simp only [List.getElem?_toArray, List.getElem?_cons_succ, List.getElem?_cons_zero]; rfl
              · kernel_rfl
              · kernel_rfl
              · kernel_rfl
              · kernel_rfl
              · kernel_rfl
              · exact fun _ _ _ h => h
              · refine Or.inl ⟨by rfl, ?_⟩
                intro w' hSw
                (try simp only [Ph.pick, List.getD_cons_succ, List.getD_cons_zero] at hSw)
                go_simp
                all_goals (with_reducible rfl)
              · assumption
              clear hOrd
              intro hOrd
              try simp only [Act.put, List.setIfInBounds_toArray, List.set_cons_zero, List.set_cons_succ] at hOrd ⊢
              refine Ph.take (i := 13) (oi := ?_) (v := ?_) (p := 0) ?_ ?_ ?_ ?_ hOrd ?_ ?_ ?_ ?_ ?_ ?_
              rotate_left 2
              · simp only [List.getElem?_toArray, List.getElem?_cons_succ, List.getElem?_cons_zero]; rfl
              · kernel_rfl
              · kernel_rfl
              · kernel_rfl
              · kernel_rfl
              · kernel_rfl
              · exact fun _ _ _ h => h
              · refine Or.inl ⟨by rfl, ?_⟩
                intro w' hSw
                (try simp only [Ph.pick, List.getD_cons_succ, List.getD_cons_zero] at hSw)
                go_simp
                all_goals (with_reducible rfl)
              · assumption
              clear hOrd
              intro hOrd
              try simp only [Act.put, List.setIfInBounds_toArray, List.set_cons_zero, List.set_cons_succ] at hOrd ⊢
              refine Ph.take (i := 14) (oi := ?_) (v := ?_) (p := 0) ?_ ?_ ?_ ?_ hOrd ?_ ?_ ?_ ?_ ?_ ?_
              rotate_left 2
              · simp only [List.getElem?_toArray, List.getElem?_cons_succ, List.getElem?_cons_zero]; rfl
              · kernel_rfl
              · kernel_rfl
              · kernel_rfl
              · kernel_rfl
              · kernel_rfl
              · exact fun _ _ _ h => h
              · refine Or.inl ⟨by rfl, ?_⟩
                intro w' hSw
                (try simp only [Ph.pick, List.getD_cons_succ, List.getD_cons_zero] at hSw)
                go_simp
                all_goals (with_reducible rfl)
              · assumption
              clear hOrd
              intro hOrd
              try simp only [Act.put, List.setIfInBounds_toArray, List.set_cons_zero, List.set_cons_succ] at hOrd ⊢
              refine Ph.take (i := 15) (oi := ?_) (v := ?_) (p := 0) ?_ ?_ ?_ ?_ hOrd ?_ ?_ ?_ ?_ ?_ ?_
              rotate_left 2
              · simp only [List.getElem?_toArray, List.getElem?_cons_succ, List.getElem?_cons_zero]; rfl
              · kernel_rfl
              · kernel_rfl
              · kernel_rfl
              · kernel_rfl
              · kernel_rfl
              · exact fun _ _ _ h => h
              · refine Or.inl ⟨by rfl, ?_⟩
                intro w' hSw
                (try simp only [Ph.pick, List.getD_cons_succ, List.getD_cons_zero] at hSw)
                go_simp
                all_goals (with_reducible rfl)
              · assumption
              clear hOrd
              intro hOrd
              try simp only [Act.put, List.setIfInBounds_toArray, List.set_cons_zero, List.set_cons_succ] at hOrd ⊢
              refine Ph.take (i := 16) (oi := ?_) (v := ?_) (p := 0) ?_ ?_ ?_ ?_ hOrd ?_ ?_ ?_ ?_ ?_ ?_
              rotate_left 2
              · simp only [List.getElem?_toArray, List.getElem?_cons_succ, List.getElem?_cons_zero]; rfl
              · kernel_rfl
              · kernel_rfl
              · kernel_rfl
              · kernel_rfl
              · kernel_rfl
              · exact fun _ _ _ h => h
              · refine Or.inl ⟨by rfl, ?_⟩
                intro w' hSw
                (try simp only [Ph.pick, List.getD_cons_succ, List.getD_cons_zero] at hSw)
                go_simp
                all_goals (with_reducible rfl)
              · assumption
              clear hOrd
              intro hOrd
              try simp only [Act.put, List.setIfInBounds_toArray, List.set_cons_zero, List.set_cons_succ] at hOrd ⊢
              refine Ph.take (i := 17) (oi := ?_) (v := ?_) (p := 0) ?_ ?_ ?_ ?_ hOrd ?_ ?_ ?_ ?_ ?_ ?_
              rotate_left 2
              · simp only [List.getElem?_toArray, List.getElem?_cons_succ, List.getElem?_cons_zero]; rfl
              · kernel_rfl
              · kernel_rfl
              · kernel_rfl
              · kernel_rfl
              · kernel_rfl
              · exact fun _ _ _ h => h
              · refine Or.inl ⟨by rfl, ?_⟩
                intro w' hSw
                (try simp only [Ph.pick, List.getD_cons_succ, List.getD_cons_zero] at hSw)
                go_simp
                all_goals (with_reducible rfl)
              · assumption
              clear hOrd
              intro hOrd
              try simp only [Act.put, List.setIfInBounds_toArray, List.set_cons_zero, List.set_cons_succ] at hOrd ⊢
              refine Ph.take (i := 18) (oi := ?_) (v := ?_) (p := 0) ?_ ?_ ?_ ?_ hOrd ?_ ?_ ?_ ?_ ?_ ?_
              rotate_left 2
              · simp only [List.getElem?_toArray, List.getElem?_cons_succ, List.getElem?_cons_zero]; rfl
              · kernel_rfl
              · kernel_rfl
              · kernel_rfl
              · kernel_rfl
              · kernel_rfl
              · exact fun _ _ _ h => h
              · refine Or.inl ⟨by rfl, ?_⟩
                intro w' hSw
                (try simp only [Ph.pick, List.getD_cons_succ, List.getD_cons_zero] at hSw)
                go_simp
                all_goals (with_reducible rfl)
              · assumption
              clear hOrd
              intro hOrd
              try simp only [Act.put, List.setIfInBounds_toArray, List.set_cons_zero, List.set_cons_succ] at hOrd ⊢
              refine Ph.take (i := 19) (oi := ?_) (v := ?_) (p := 0) ?_ ?_ ?_ ?_ hOrd ?_ ?_ ?_ ?_ ?_ ?_
              rotate_left 2
              · simp only [List.getElem?_toArray, List.getElem?_cons_succ, List.getElem?_cons_zero]; rfl
              · kernel_rfl
              · kernel_rfl
              · kernel_rfl
              · kernel_rfl
              · kernel_rfl
              · exact fun _ _ _ h => h
              · refine Or.inl ⟨by rfl, ?_⟩
                intro w' hSw
                (try simp only [Ph.pick, List.getD_cons_succ, List.getD_cons_zero] at hSw)
                go_simp
                all_goals (with_reducible rfl)
              · assumption
              clear hOrd
              intro hOrd
              try simp only [Act.put, List.setIfInBounds_toArray, List.set_cons_zero, List.set_cons_succ] at hOrd ⊢
              refine Ph.take (i := 20) (oi := ?_) (v := ?_) (p := 0) ?_ ?_ ?_ ?_ hOrd ?_ ?_ ?_ ?_ ?_ ?_
              rotate_left 2
              · simp only [List.getElem?_toArray, List.getElem?_cons_succ, List.getElem?_cons_zero]; rfl
              · kernel_rfl
              · kernel_rfl
              · kernel_rfl
              · kernel_rfl
              · kernel_rfl
              · exact fun _ _ _ h => h
              · refine Or.inl ⟨by rfl, ?_⟩
                intro w' hSw
                (try simp only [Ph.pick, List.getD_cons_succ, List.getD_cons_zero] at hSw)
                go_simp
                all_goals (with_reducible rfl)
              · assumption
              clear hOrd
              intro hOrd
              try simp only [Act.put, List.setIfInBounds_toArray, List.set_cons_zero, List.set_cons_succ] at hOrd ⊢
              refine Ph.take (i := 21) (oi := ?_) (v := ?_) (p := 0) ?_ ?_ ?_ ?_ hOrd ?_ ?_ ?_ ?_ ?_ ?_
              rotate_left 2
              · simp only [List.getElem?_toArray, List.getElem?_cons_succ, List.getElem?_cons_zero]; rfl
              · kernel_rfl
              · kernel_rfl
              · kernel_rfl
              · kernel_rfl
              · kernel_rfl
              · exact fun _ _ _ h => h
              · refine Or.inl ⟨by rfl, ?_⟩
                intro w' hSw
                (try simp only [Ph.pick, List.getD_cons_succ, List.getD_cons_zero] at hSw)
                go_simp
                all_goals (with_reducible rfl)
              · assumption
              clear hOrd
              intro hOrd
              try simp only [Act.put, List.setIfInBounds_toArray, List.set_cons_zero, List.set_cons_succ] at hOrd ⊢
              refine Ph.take (i := 22) (oi := ?_) (v := ?_) (p := 0) ?_ ?_ ?_ ?_ hOrd ?_ ?_ ?_ ?_ ?_ ?_
              rotate_left 2
              · simp only [List.getElem?_toArray, List.getElem?_cons_succ, List.getElem?_cons_zero]; rfl
              · kernel_rfl
              · kernel_rfl
              · kernel_rfl
              · kernel_rfl
              · kernel_rfl
              · exact fun _ _ _ h => h
              · refine Or.inl ⟨by rfl, ?_⟩
                intro w' hSw
                (try simp only [Ph.pick, List.getD_cons_succ, List.getD_cons_zero] at hSw)
                go_simp
                all_goals (with_reducible rfl)
              · assumption
              clear hOrd
              intro hOrd
              try simp only [Act.put, List.setIfInBounds_toArray, List.set_cons_zero, List.set_cons_succ] at hOrd ⊢
              refine Ph.take (i := 23) (oi := ?_) (v := ?_) (p := 0) ?_ ?_ ?_ ?_ hOrd ?_ ?_ ?_ ?_ ?_ ?_
              rotate_left 2
              · simp only [List.getElem?_toArray, List.getElem?_cons_succ, List.getElem?_cons_zero]; rfl
              · kernel_rfl
              · kernel_rfl
              · kernel_rfl
              · kernel_rfl
              · kernel_rfl
              · exact fun _ _ _ h => h
              · refine Or.inl ⟨by rfl, ?_⟩
                intro w' hSw
                (try simp only [Ph.pick, List.getD_cons_succ, List.getD_cons_zero] at hSw)
                go_simp
                all_goals (with_reducible rfl)
              · assumption
              clear hOrd
              intro hOrd
              try simp only [Act.put, List.setIfInBounds_toArray, List.set_cons_zero, List.set_cons_succ] at hOrd ⊢
              refine Ph.take (i := 24) (oi := ?_) (v := ?_) (p := 0) ?_ ?_ ?_ ?_ hOrd ?_ ?_ ?_ ?_ ?_ ?_
              rotate_left 2
              · simp only [List.getElem?_toArray, List.getElem?_cons_succ, List.getElem?_cons_zero]; rfl
              · kernel_rfl
              · kernel_rfl
              · kernel_rfl
              · kernel_rfl
              · kernel_rfl
              · exact fun _ _ _ h => h
              · refine Or.inl ⟨by rfl, ?_⟩
                intro w' hSw
                (try simp only [Ph.pick, List.getD_cons_succ, List.getD_cons_zero] at hSw)
                go_simp
                all_goals (with_reducible rfl)
              · assumption
              clear hOrd
              intro hOrd
              try simp only [Act.put, List.setIfInBounds_toArray, List.set_cons_zero, List.set_cons_succ] at hOrd ⊢
              refine Ph.take (i := 25) (oi := ?_) (v := ?_) (p := 0) ?_ ?_ ?_ ?_ hOrd ?_ ?_ ?_ ?_ ?_ ?_
              rotate_left 2
              · simp only [List.getElem?_toArray, List.getElem?_cons_succ, List.getElem?_cons_zero]; rfl
              · kernel_rfl
              · kernel_rfl
              · kernel_rfl
              · kernel_rfl
              · kernel_rfl
              · exact fun _ _ _ h => h
              · refine Or.inl ⟨by rfl, ?_⟩
                intro w' hSw
                (try simp only [Ph.pick, List.getD_cons_succ, List.getD_cons_zero] at hSw)
                go_simp
                all_goals (with_reducible rfl)
              · assumption
              clear hOrd
              intro hOrd
              try simp only [Act.put, List.setIfInBounds_toArray, List.set_cons_zero, List.set_cons_succ] at hOrd ⊢
              refine Ph.take (i := 26) (oi := ?_) (v := ?_) (p := 0) ?_ ?_ ?_ ?_ hOrd ?_ ?_ ?_ ?_ ?_ ?_
              rotate_left 2
              · simp only [List.getElem?_toArray, List.getElem?_cons_succ, List.getElem?_cons_zero]; rfl
              · kernel_rfl
              · kernel_rfl
              · kernel_rfl
              · kernel_rfl
              · kernel_rfl
              · exact fun _ _ _ h => h
              · refine Or.inl ⟨by rfl, ?_⟩
                intro w' hSw
                (try simp only [Ph.pick, List.getD_cons_succ, List.getD_cons_zero] at hSw)
                go_simp
                all_goals (with_reducible rfl)
              · assumption
              clear hOrd
              intro hOrd
              try simp only [Act.put, List.setIfInBounds_toArray, List.set_cons_zero, List.set_cons_succ] at hOrd ⊢
              refine Ph.alone (i := 27) (o := ?_) (p := 1) ?_ ?_ hOrd ?_ ?_
              rotate_left 2
              · simp only [List.getElem?_toArray, List.getElem?_cons_succ, List.getElem?_cons_zero]; rfl
              rotate_right 1
              · kernel_rfl
              · kernel_rfl
              clear hOrd
              intro K hK
              go_simp
              skip
              refine hK.out _ _ (Ph.pick1 HS3.out) (fun hHeld hOrd => ?_)
              clear hK K
              try simp only [Act.put, List.setIfInBounds_toArray, List.set_cons_zero, List.set_cons_succ] at hOrd ⊢
              try rw [st1]
              refine Ph.take (i := 28) (oi := ?_) (v := ?_) (p := 1) ?_ ?_ ?_ ?_ hOrd ?_ ?_ ?_ ?_ ?_ ?_
              rotate_left 2
              · simp only [List.getElem?_toArray, List.getElem?_cons_succ, List.getElem?_cons_zero]; rfl
              · kernel_rfl
              · kernel_rfl
              · kernel_rfl
              · kernel_rfl
              · kernel_rfl
              · exact fun _ _ _ h => h
              · refine Or.inl ⟨by rfl, ?_⟩
                intro w' hSw
                (try simp only [Ph.pick, List.getD_cons_succ, List.getD_cons_zero] at hSw)
                go_simp
                all_goals (with_reducible rfl)
              · assumption
              clear hOrd
              intro hOrd
              try simp only [Act.put, List.setIfInBounds_toArray, List.set_cons_zero, List.set_cons_succ] at hOrd ⊢
              refine Ph.alone (i := 29) (o := ?_) (p := 1) ?_ ?_ hOrd ?_ ?_
              rotate_left 2
              · simp only [List.getElem?_toArray, List.getElem?_cons_succ, List.getElem?_cons_zero]; rfl
              rotate_right 1
              · kernel_rfl
              · kernel_rfl
              clear hOrd
              intro K hK
              go_simp
              skip
              refine hK.out _ _ (Ph.pick1 HS4.out) (fun hHeld hOrd => ?_)
              clear hK K
              try simp only [Act.put, List.setIfInBounds_toArray, List.set_cons_zero, List.set_cons_succ] at hOrd ⊢
              try rw [st2]
              refine Ph.done (by kernel_rfl) ?_ _
              clear hHeld hOrd d0 d1 d2 q0 q1 q2 gw gw3 st1 st2
              go_wp2
              go_roundg jj
              case measure => have := HK.out; have := HJJ.out.1; omega
              case rel => exact ⟨jj, _, Lib.hid rfl, rfl, H4, F4, HN4⟩
          · have b1 : decide (yn < xn') = false := by rw [decide_eq_false_iff_not]; exact hlt
            go_wp2
            go_end0
            have hz := HJ7.out.2.2
            rw [HU.out, if_neg (Int.not_lt.2 hlt)] at hz
            exact ⟨rfl, HFIN.out _ (by rw [← hz]; exact HM7.out.keep B1.out) (HF7.out.trans (Fr.of_below B1.out))⟩
end Go.Proofs.Ytnpiimaapholiaa
/- The law SummaryRuns of layer 8, walked. -/
namespace Go.Proofs.Ytnpiimaapholiaa
set_option linter.unusedSimpArgs false
set_option linter.unusedVariables false
open Go.ChangeShapes Go.WideShapes Go.ChangeAt Go.RowKit Go.Shelf
attribute [local go_sem] Oper.semAt_some
theorem sm_bd {w : World} {Q : SmN} {M : List Tri} {tot : Int} (h : SmM w Q M tot) : ∀ t ∈ M, (0 ≤ t.2.1 ∧ t.2.1 ≤ tot) ∧ (0 ≤ t.2.2 ∧ t.2.2 ≤ tot) ∧ t.1.size ≤ 64 := by
  obtain ⟨L, σ, h1, rfl⟩ := h
  intro t ht
  obtain ⟨x, hx, rfl⟩ := List.mem_map.1 ht
  have := h1.ok.bd x hx
  have hu := (h1.ix.uni).2.1 _ _ (h1.ok.key x hx)
  exact ⟨⟨this.1, this.2.1⟩, ⟨this.2.2.1, this.2.2.2⟩, hu.2⟩
theorem moffer_any (mb B N : Nat) (v : Value) (M : List Tri) (tot : Int) (s : ByteArray) (hs : s.size ≤ maxLen) (d : Int) (w : World) (h : MoAt w mb B v M tot) (hB : B ≤ w.heap.size) (hu : uniM M) (hl : M.length ≤ N) (hN : 1 ≤ N ∧ N ≤ 64) (ht : 0 ≤ tot ∧ tot < 4611686018427387904) (hb : ∀ t ∈ M, 0 ≤ t.2.1 ∧ t.2.1 ≤ tot) :
    Calls Try.prog 16 #[.pointer (some ⟨mb, 0, none⟩), .int .i64 (N : Int), .string s, .int .i64 d] w fun e w' => e = .returned (.tuple #[]) ∧ MoSt w w' mb B v (offerM N M tot s d).1 (offerM N M tot s d).2 := by
  by_cases hd : d < 1 ∨ 4611686018427387904 ≤ d ∨ 64 < s.size
  · rw [off_skip N M tot s d hd]
    exact (moffer_not mb (.int .i64 (N : Int)) s hs d hd w).mono (fun e w' ⟨h1, h2⟩ => ⟨h1, by rw [← h2]; exact ⟨v, h, fun g hg => Or.inl hg, Fr.refl _ _⟩⟩)
  · exact moffer_in mb B N v M tot s (by omega) d (by omega) w h hB hu hl hN ht hb
/-- the law's own blocks. -/
structure RuS (w wx : World) (rb pb mb B : Nat) (v : Value) (Q : SmN) (M : List Tri) (tot : Int) (M2 : List Tri) (tot2 : Int) : Prop where
  at_ : SmM wx Q M tot
  mo : MoAt wx mb B v M2 tot2
  kr : Blk wx rb 4 #[.bool false]
  kp : Blk wx pb 32 #[.pointer (some ⟨mb, 0, none⟩)]
  bl : Below w.heap.size w wx
section
variable {w X Y : World} {rb pb mb B : Nat} {v : Value} {Q : SmN} {M M2 : List Tri} {tot tot2 : Int}
theorem RuS.keep (h : RuS w X rb pb mb B v Q M tot M2 tot2) (hb : Below X.heap.size X Y) : RuS w Y rb pb mb B v Q M tot M2 tot2 :=
  ⟨h.at_.keep hb, h.mo.keep hb, h.kr.keep hb, h.kp.keep hb, below_in h.bl hb⟩
theorem MoAt.turn {D : Nat} (h : MoAt X mb B v M tot) (ht : Turn D X Y) : MoAt Y mb B v M tot := ⟨h.hm.turn ht, own_turn h.row ht, h.lt⟩
theorem RuS.turn {D : Nat} (h : RuS w X rb pb mb B v Q M tot M2 tot2) (ht : Turn D X Y) (hB : w.heap.size ≤ D) : RuS w Y rb pb mb B v Q M tot M2 tot2 :=
  ⟨KeepB.smM (KeepB.turn ht) h.at_, h.mo.turn ht, h.kr.turn ht, h.kp.turn ht, ht.below h.bl hB⟩
/-- a store into a box of one round. -/
theorem RuS.fr {F : Nat → Prop} (h : RuS w X rb pb mb B v Q M tot M2 tot2) (hf : Fr F X Y) (hQ : ∀ k, Q.all k → ¬ F k) (hn : ¬ F rb ∧ ¬ F pb ∧ ¬ F mb) (hv : ∀ g, v.ownBlock = some g → ¬ F g) (hl : ∀ k, F k → w.heap.size ≤ k) : RuS w Y rb pb mb B v Q M tot M2 tot2 :=
  ⟨h.at_.fr hf hQ, h.mo.fr hf hn.2.2 hv, h.kr.fr hf hn.1, h.kp.fr hf hn.2.1, h.bl.trans (hf.below h.bl.size hl)⟩
theorem MoAt.unmarked (h : MoAt X mb B v M tot) {k : Nat} (hk : moF mb v k) : X.heap[k]? ≠ some (.deferred (some [])) := by
  rcases hk with hk | hk
  · rw [hk]; exact no_mark_cells h.hm
  · obtain ⟨o, h1, h2⟩ := own_cells h.row k hk
    intro e
    rw [h1] at e
    cases e
    cases h2
end
set_option maxRecDepth 100000 in
set_option maxHeartbeats 8000000 in
theorem smruns_law (w : World) (z : Int) (d1 d2 d3 : Nat) (A : Option Addr) (n c : Nat) (L : List (ByteArray × Int)) (hz : -9223372036854775808 ≤ z ∧ z ≤ 9223372036854775807) (hd : d1 < 18446744073709551616 ∧ d2 < 18446744073709551616 ∧ d3 < 18446744073709551616) (hr : RdL w A n c 2 encSI L) (hok : ∀ a ∈ L, okSI a) :
    Calls Try.prog 3 #[.int .i64 z, .agg #[.int .u64 (d1 : Int), .int .u64 (d2 : Int), .int .u64 (d3 : Int)], .slice A n c] w fun e w' => e = .returned (.bool true) ∧ Below w.heap.size w w' := by
  have hmx := hr.max
  unfold maxLen at hmx
  have hcp := hr.cap
  have HR := Lib.hid hr
  have HO := Lib.hid hok
  obtain ⟨w2, hw2, k2, l2, s2⟩ := box_new w #[.int .u64 (d1 : Int), .int .u64 (d2 : Int), .int .u64 (d3 : Int)] 23
  obtain ⟨w3, hw3, k3, l3, s3⟩ := box_new w2 #[.bool false] 4
  obtain ⟨rb, hrb⟩ : ∃ x, x = w2.heap.size := ⟨_, rfl⟩
  obtain ⟨db, hdb⟩ : ∃ x, x = w.heap.size := ⟨_, rfl⟩
  rw [← hrb] at k3
  rw [← hdb] at k2
  have BB := Lib.hid (show db = w.heap.size ∧ rb = db + 1 ∧ w3.heap.size = db + 2 from ⟨hdb, by omega, by omega⟩)
  have K3 := Lib.hid (And.intro (k2.keep l3) k3)
  have L3 := Lib.hid (below_in l2 l3)
  obtain ⟨y, hy⟩ : ∃ y : Int, y = z % 8 := ⟨_, rfl⟩
  obtain ⟨N, hN⟩ : ∃ N : Nat, (N : Int) = y + 1 ∧ 1 ≤ N ∧ N ≤ 8 := ⟨(z % 8 + 1).toNat, by omega, by omega, by omega⟩
  have eb : bits BinOp.and IntKind.i64 z 7 = y := by rw [i64_mask3, hy]
  have ey : IntKind.i64.wrap (y + 1) = (N : Int) := by rw [IntKind.wrap_i64]; omega
  have hl := d_lt d1 d2 d3
  have CR := Lib.hid (fun wx => smrow_any d1 d2 d3 hd.1 hd.2.1 hd.2.2 wx)
  obtain ⟨X, hX⟩ : ∃ x, x = dX d1 d2 d3 := ⟨_, rfl⟩
  obtain ⟨Y, hY⟩ : ∃ x, x = dA d1 d2 d3 := ⟨_, rfl⟩
  obtain ⟨Z, hZ⟩ : ∃ x, x = dB d1 d2 d3 := ⟨_, rfl⟩
  rw [← hX, ← hY, ← hZ] at CR hl
  have CN := Lib.hid (fun wx => show Calls Try.prog 13 #[.int .i64 (N : Int), .agg #[.int .u64 X, .int .u64 Y, .int .u64 Z]] wx _ from smnew_any X Y Z hl.1 hl.2.1 hl.2.2 N hN.2.1 (by omega) wx)
  have HN := Lib.hid hN.2
  have t0 : (N : Int) ≤ 8 := by omega
  have t01 : (1 : Int) ≤ (N : Int) := by omega
  clear hr hok hz hd hX hY hZ hl k2 k3 l2 l3 s2 s3 hy hN
  refine callsM Try.func3 rfl ?_
  simp only [Try.ntmps3, List.size_toArray, List.length_cons, List.length_nil, Nat.reduceAdd, Nat.reduceSub, Array.replicate_succ, Array.replicate_zero, List.push_toArray, List.append_toArray, List.nil_append, List.cons_append]
  go_wp2_with (fail)
  rw [← hrb, ← hdb]
  clear hw2 hw3 hrb hdb
  refine (smfit_any w3).mono ?_
  rintro e w5 ⟨rfl, b4⟩
  have K5 := Lib.hid (And.intro (K3.out.1.keep b4) (K3.out.2.keep b4))
  have L5 := Lib.hid (below_in L3.out b4)
  have S5 := Lib.hid (show db + 2 ≤ w5.heap.size from by have := b4.size; have := BB.out; omega)
  clear b4 K3 L3
  go_upto_region 4 with (fail)
  have CLi := Lib.hid (smlight_any A n c L w5 (HR.out.below L5.out) HO.out)
  cases hlb : lightS L with
  | false =>
    rw [hlb] at CLi
    go_wp2_with (fail)
    refine CLi.out.mono ?_
    rintro e w6 ⟨rfl, b6⟩
    have K6 := Lib.hid (K5.out.2.keep b6)
    have L6 := Lib.hid (below_in L5.out b6)
    clear b6 CR CN CLi
    have kr := K6.out.rd
    have kw := K6.out.wr
    go_wp2
    exact bodyM_early rfl Try.underlying4 rfl rfl rfl K6.out L6.out (by have := BB.out; omega)
  | true =>
  rw [hlb] at CLi
  have hlen : L.length ≤ 150 := by unfold lightS at hlb; simp at hlb; exact hlb.1
  have hln := HR.out.len
  have hb2 : (n : Int) ≤ 150 := by omega
  have hb3 := Lib.hid (show n ≤ 150 by omega)
  clear hlb hlen hln
  go_wp2_with (fail)
  refine CLi.out.mono ?_
  rintro e w6 ⟨rfl, b6⟩
  have K6 := Lib.hid (And.intro (K5.out.1.keep b6) (K5.out.2.keep b6))
  have L6 := Lib.hid (below_in L5.out b6)
  have S6 := Lib.hid (show db + 2 ≤ w6.heap.size by have := S5.out; have := b6.size; omega)
  have kd := K6.out.1.rd
  clear b6 CLi K5 L5 S5
  go_upto_region 6 with (fail)
  go_wp2_with (fail)
  refine (CR.out _).mono ?_
  rintro e w7 ⟨rfl, bk⟩
  have Y1 := Lib.hid bk
  clear bk kd
  go_wp2_with (fail)
  refine (CN.out _).mono ?_
  rintro e w8 ⟨Q, rfl, hq, hn, hnew, bk⟩
  have P1 := Lib.hid hq
  have HQN := Lib.hid hn
  have W1 := Lib.hid hnew
  have Y2 := Lib.hid (below_in Y1.out bk)
  clear hq hn hnew bk CR CN
  have HQ := Lib.hid (show ∀ k, Q.all k → rb < k ∧ w.heap.size ≤ k ∧ k < w8.heap.size from fun k hk => by have h1 := W1.out k hk; have h2 := Y1.out.size; have h3 := S6.out; have h4 := BB.out; have h5 := P1.out.lt k hk; omega)
  have K8 := Lib.hid (show SmM w8 Q [] 0 ∧ Blk w8 rb 4 #[.bool false] ∧ Below w.heap.size w w8 ∧ rb < w8.heap.size from ⟨⟨[], _, P1.out, rfl⟩, K6.out.2.keep Y2.out, below_in L6.out Y2.out, by have := S6.out; have := Y2.out.size; have := BB.out; omega⟩)
  clear P1 W1 Y1 Y2 K6 L6 S6
  obtain ⟨w9, hw9, k9, l9, s9⟩ := box_new w8 #[.slice none 0 0, .int .i64 0] 35
  obtain ⟨mb, hmb⟩ : ∃ mb, mb = w8.heap.size := ⟨_, rfl⟩
  rw [← hmb] at k9
  obtain ⟨wa, wb, ea, ka, kaw, eb2, ba, kb, sb⟩ := box1 w9 32 (.pointer none) (.pointer (some ⟨w8.heap.size, 0, none⟩))
  obtain ⟨pb, hpb⟩ : ∃ x, x = w9.heap.size := ⟨_, rfl⟩
  have HMB := Lib.hid hmb
  have HPB := Lib.hid hpb
  have SZ := Lib.hid (And.intro s9 sb)
  clear hmb hpb s9 sb
  go_upto_region 7 with (fail)
  rw [← HPB.out, ← HMB.out] at kb
  rw [← HPB.out]
  have RU := Lib.hid (show RuS w wb rb pb mb wb.heap.size (.slice none 0 0) Q [] 0 [] 0 from ⟨(K8.out.1.keep l9).keep ba, ⟨k9.keep ba, OwR.nil, by have h1 := SZ.out; have h2 := HMB.out; omega⟩, (K8.out.2.1.keep l9).keep ba, kb, below_in (below_in K8.out.2.2.1 l9) ba⟩)
  obtain ⟨B, hB⟩ : ∃ B, B = wb.heap.size := ⟨_, rfl⟩
  rw [← hB] at RU
  have HB2 := Lib.hid (show rb < mb ∧ pb = mb + 1 ∧ B = mb + 2 ∧ wb.heap.size = B ∧ (∀ k, Q.all k → k < mb ∧ rb < k) ∧ w.heap.size ≤ rb from by
    have h1 := SZ.out
    have h2 := HMB.out
    have h3 := HPB.out
    have h4 := K8.out.2.2.2
    have h5 := BB.out
    exact ⟨by omega, by omega, by omega, hB.symm, fun k hk => by have := HQ.out k hk; omega, by omega⟩)
  clear hB k9 l9 ka kaw eb2 ba kb hw9 ea K8
  go_wp2
  refine wp_loop_ghost_k (fun k' a' w' => ∃ (u10 u11 u12 u13 u35 u36 u37 u38 u39 u40 u41 u42 u43 u44 u45 u46 u47 u48 u49 u50 u51 u52 u53 u55 u56 u57 u58 u59 u60 u61 u62 u63 u64 u65 u66 u67 u68 u69 u70 u71 u72 u73 u74 u75 u76 u77 u78 u79 u80 u81 u82 u83 u84 u85 u86 u87 u88 u89 u90 u91 u92 u93 u94 u95 u96 u97 u98 u99 u100 u101 u102 u103 u104 u105 u106 u107 u108 u109 u110 u111 u112 u113 u114 u115 u116 u117 u118 u119 : Value) (ds : List Deferred), (∃ (i : Nat) (v : Value) (M : List Tri) (tot : Int), i ≤ n ∧ Hid (k' = n - i) ∧ u35 = .int .i64 (i : Int) ∧ Hid (RuS w w' rb pb mb B v Q M tot M tot) ∧ Hid (MarkS w.heap.size w' ds ∧ B ≤ w'.heap.size)) ∧ a' = (⟨#[Value.int IntKind.i64 ↑N, Value.agg #[Value.int IntKind.u64 ↑d1, Value.int IntKind.u64 ↑d2, Value.int IntKind.u64 ↑d3], Value.slice A n c, undef, Value.pointer (some { block := db, off := 0 }), undef, Value.pointer (some { block := rb, off := 0 }), Value.pointer (some { block := Q.s, off := 0 }), Value.pointer (some { block := pb, off := 0 }), undef, u10, u11, u12, u13, undef, undef, undef, undef, undef, Value.bool true, Value.bool false, Value.int IntKind.i64 z, Value.int IntKind.i64 y, Value.int IntKind.i64 ↑N, Value.slice A n c, Value.bool true, Value.bool false, Value.int IntKind.i64 ↑N, Value.agg #[Value.int IntKind.u64 ↑d1, Value.int IntKind.u64 ↑d2, Value.int IntKind.u64 ↑d3], Value.agg #[Value.int IntKind.u64 ↑X, Value.int IntKind.u64 ↑Y, Value.int IntKind.u64 ↑Z], Value.pointer (some { block := Q.s, off := 0 }), Value.agg #[Value.slice none 0 0, Value.int IntKind.i64 0], Value.pointer (some { block := w8.heap.size, off := 0 }), Value.slice A n c, Value.int IntKind.i64 ↑n, u35, u36, u37, u38, u39, u40, u41, u42, u43, u44, u45, u46, u47, u48, u49, u50, u51, u52, u53, undef, u55, u56, u57, u58, u59, u60, u61, u62, u63, u64, u65, u66, u67, u68, u69, u70, u71, u72, u73, u74, u75, u76, u77, u78, u79, u80, u81, u82, u83, u84, u85, u86, u87, u88, u89, u90, u91, u92, u93, u94, u95, u96, u97, u98, u99, u100, u101, u102, u103, u104, u105, u106, u107, u108, u109, u110, u111, u112, u113, u114, u115, u116, u117, u118, u119, undef, undef, undef, undef, undef, undef, undef, undef, undef, undef, undef, undef, undef, undef, undef, undef, undef, undef, undef, undef, undef, undef, undef, undef, undef, undef, undef, undef, undef, undef, undef, undef, undef, undef, undef, undef, undef, undef, undef, undef, undef, undef, undef, undef, undef, undef, undef, undef, undef, undef, undef, undef, undef], ds⟩ : Act)) n ?atStart ?round
  case atStart => (repeat apply Exists.intro); refine ⟨?_, rfl⟩; exact ⟨0, _, [], 0, by omega, Lib.hid rfl, rfl, RU, Lib.hid ⟨MarkS.nil _ _, by have := HB2.out; omega⟩⟩
  case round =>
    intro gk _ wr hinv
    obtain ⟨u10, hinv⟩ := hinv
    obtain ⟨u11, hinv⟩ := hinv
    obtain ⟨u12, hinv⟩ := hinv
    obtain ⟨u13, hinv⟩ := hinv
    obtain ⟨u35, hinv⟩ := hinv
    obtain ⟨u36, hinv⟩ := hinv
    obtain ⟨u37, hinv⟩ := hinv
    obtain ⟨u38, hinv⟩ := hinv
    obtain ⟨u39, hinv⟩ := hinv
    obtain ⟨u40, hinv⟩ := hinv
    obtain ⟨u41, hinv⟩ := hinv
    obtain ⟨u42, hinv⟩ := hinv
    obtain ⟨u43, hinv⟩ := hinv
    obtain ⟨u44, hinv⟩ := hinv
    obtain ⟨u45, hinv⟩ := hinv
    obtain ⟨u46, hinv⟩ := hinv
    obtain ⟨u47, hinv⟩ := hinv
    obtain ⟨u48, hinv⟩ := hinv
    obtain ⟨u49, hinv⟩ := hinv
    obtain ⟨u50, hinv⟩ := hinv
    obtain ⟨u51, hinv⟩ := hinv
    obtain ⟨u52, hinv⟩ := hinv
    obtain ⟨u53, hinv⟩ := hinv
    obtain ⟨u55, hinv⟩ := hinv
    obtain ⟨u56, hinv⟩ := hinv
    obtain ⟨u57, hinv⟩ := hinv
    obtain ⟨u58, hinv⟩ := hinv
    obtain ⟨u59, hinv⟩ := hinv
    obtain ⟨u60, hinv⟩ := hinv
    obtain ⟨u61, hinv⟩ := hinv
    obtain ⟨u62, hinv⟩ := hinv
    obtain ⟨u63, hinv⟩ := hinv
    obtain ⟨u64, hinv⟩ := hinv
    obtain ⟨u65, hinv⟩ := hinv
    obtain ⟨u66, hinv⟩ := hinv
    obtain ⟨u67, hinv⟩ := hinv
    obtain ⟨u68, hinv⟩ := hinv
    obtain ⟨u69, hinv⟩ := hinv
    obtain ⟨u70, hinv⟩ := hinv
    obtain ⟨u71, hinv⟩ := hinv
    obtain ⟨u72, hinv⟩ := hinv
    obtain ⟨u73, hinv⟩ := hinv
    obtain ⟨u74, hinv⟩ := hinv
    obtain ⟨u75, hinv⟩ := hinv
    obtain ⟨u76, hinv⟩ := hinv
    obtain ⟨u77, hinv⟩ := hinv
    obtain ⟨u78, hinv⟩ := hinv
    obtain ⟨u79, hinv⟩ := hinv
    obtain ⟨u80, hinv⟩ := hinv
    obtain ⟨u81, hinv⟩ := hinv
    obtain ⟨u82, hinv⟩ := hinv
    obtain ⟨u83, hinv⟩ := hinv
    obtain ⟨u84, hinv⟩ := hinv
    obtain ⟨u85, hinv⟩ := hinv
    obtain ⟨u86, hinv⟩ := hinv
    obtain ⟨u87, hinv⟩ := hinv
    obtain ⟨u88, hinv⟩ := hinv
    obtain ⟨u89, hinv⟩ := hinv
    obtain ⟨u90, hinv⟩ := hinv
    obtain ⟨u91, hinv⟩ := hinv
    obtain ⟨u92, hinv⟩ := hinv
    obtain ⟨u93, hinv⟩ := hinv
    obtain ⟨u94, hinv⟩ := hinv
    obtain ⟨u95, hinv⟩ := hinv
    obtain ⟨u96, hinv⟩ := hinv
    obtain ⟨u97, hinv⟩ := hinv
    obtain ⟨u98, hinv⟩ := hinv
    obtain ⟨u99, hinv⟩ := hinv
    obtain ⟨u100, hinv⟩ := hinv
    obtain ⟨u101, hinv⟩ := hinv
    obtain ⟨u102, hinv⟩ := hinv
    obtain ⟨u103, hinv⟩ := hinv
    obtain ⟨u104, hinv⟩ := hinv
    obtain ⟨u105, hinv⟩ := hinv
    obtain ⟨u106, hinv⟩ := hinv
    obtain ⟨u107, hinv⟩ := hinv
    obtain ⟨u108, hinv⟩ := hinv
    obtain ⟨u109, hinv⟩ := hinv
    obtain ⟨u110, hinv⟩ := hinv
    obtain ⟨u111, hinv⟩ := hinv
    obtain ⟨u112, hinv⟩ := hinv
    obtain ⟨u113, hinv⟩ := hinv
    obtain ⟨u114, hinv⟩ := hinv
    obtain ⟨u115, hinv⟩ := hinv
    obtain ⟨u116, hinv⟩ := hinv
    obtain ⟨u117, hinv⟩ := hinv
    obtain ⟨u118, hinv⟩ := hinv
    obtain ⟨u119, hinv⟩ := hinv
    obtain ⟨ds, hrel, ha⟩ := hinv
    subst ha
    try dsimp only
    intro _ _ _ _
    obtain ⟨i, v, M, tot, hi, HKK, rfl, HS, HD⟩ := hrel
    by_cases hin : i < n
    · as_aux_lemma =>
        have hl2 := HR.out.len
        obtain ⟨b, off, rfl, hbl, hc⟩ := (HR.out.below HS.out.bl).at_ (by omega)
        obtain ⟨⟨ky, d⟩, ha⟩ : ∃ a, L[i]? = some a := ⟨_, List.getElem?_eq_getElem (by omega)⟩
        have hoka := HO.out _ (List.mem_of_getElem? ha)
        have kr0 : wr.cell? ⟨b, off + i * 2, none⟩ = some (.string ky) := hc i _ ha 0 (by omega)
        have kr1 : wr.cell? ⟨b, off + i * 2 + 1, none⟩ = some (.int .i64 d) := hc i _ ha 1 (by omega)
        unfold okSI at hoka
        simp only at hoka
        obtain ⟨hky, hv⟩ := hoka
        obtain ⟨x1, x2, ex1, kr, kw, ex2, bl2, kc2⟩ := box2 wr 37 (.string ⟨#[]⟩) (.int .i64 0) (.string ky) (.int .i64 d)
        obtain ⟨bx, hbx⟩ : ∃ bx, bx = wr.heap.size := ⟨_, rfl⟩
        have S7 := Lib.hid (show RuS w x2 rb pb mb B v Q M tot M tot ∧ MarkS w.heap.size x2 ds ∧ Blk x2 bx 37 #[.string ky, .int .i64 d] ∧ B ≤ bx ∧ bx < x2.heap.size ∧ (∀ g, v.ownBlock = some g → g < bx) from ⟨HS.out.keep bl2, HD.out.1.keep bl2, by rw [hbx]; exact kc2, by have := HD.out.2; omega, by rw [hbx]; exact lt_of_block kc2, fun g hg => by have := HS.out.mo.row.lt g hg; omega⟩)
        have kc3 := S7.out.2.2.1.rd
        have t2 : (i : Int) < (n : Int) := by omega
        have HIN := Lib.hid hin
        have HBX := Lib.hid hbx
        have fi : IntKind.i64.wrap ((i : Int) + 1) = ((i + 1 : Nat) : Int) := by rw [IntKind.wrap_i64]; omega
        have hun := uni_of HS.out.at_
        rw [HQN.out] at hun
        have hbd := sm_bd HS.out.at_
        obtain ⟨M', hM'⟩ : ∃ M', M' = (offerM N M tot ky d).1 := ⟨_, rfl⟩
        obtain ⟨tot', ht'⟩ : ∃ tot', tot' = (offerM N M tot ky d).2 := ⟨_, rfl⟩
        have CO := Lib.hid (fun (wx : World) (h : SmM wx Q M tot) => show Calls Try.prog 15 #[.pointer (some ⟨Q.s, 0, none⟩), .string ky, .int .i64 d] wx (fun e w' => e = .returned (.tuple #[]) ∧ SmM w' Q M' tot' ∧ Fr Q.F wx w') from by
          have := smoffer_any ky hky d wx h
          rw [HQN.out, ← hM', ← ht'] at this
          exact this)
        have CM := Lib.hid (fun (wx : World) (h : MoAt wx mb B v M tot) (hBx : B ≤ wx.heap.size) => show Calls Try.prog 16 #[.pointer (some ⟨mb, 0, none⟩), .int .i64 (N : Int), .string ky, .int .i64 d] wx (fun e w' => e = .returned (.tuple #[]) ∧ MoSt wx w' mb B v M' tot') from by
          have := moffer_any mb B N v M tot ky hky d wx h hBx hun.1 hun.2.1 (by have := HN.out; omega) hun.2.2 (fun t ht => (hbd t ht).1)
          rw [← hM', ← ht'] at this
          exact this)
        clear hl2 hc hbl ha bl2 kc2 hbx hun hbd hM' ht' hky hv
        go_upto_region 10 with (fail)
        rw [← HBX.out]
        clear kr kw ex1 kr0 kr1 ex2
        go_upto_region 11 with (go_at_call 15; ((with_reducible refine (CO.out _ S7.out.1.at_).mono ?_); rintro e y2 ⟨rfl, s1, f1⟩; have FO := Lib.hid (And.intro s1 f1); clear s1 f1))
        clear kc3
        have Y2 := Lib.hid (show RuS w y2 rb pb mb B v Q M' tot' M tot ∧ MarkS w.heap.size y2 ds ∧ Blk y2 bx 37 #[.string ky, .int .i64 d] ∧ bx < y2.heap.size from by
          have hb := HB2.out
          have h7 := S7.out
          obtain ⟨s1, f1⟩ := FO.out
          refine ⟨⟨s1, h7.1.mo.fr f1 (fun e => ?_) (fun g hg e => ?_), h7.1.kr.fr f1 (fun e => ?_), h7.1.kp.fr f1 (fun e => ?_), h7.1.bl.trans (f1.below h7.1.bl.size (fun k hk => (HQ.out k (Or.inl hk)).2.1))⟩, h7.2.1.fr f1 (fun k hk => ?_), h7.2.2.1.fr f1 (fun e => ?_), Nat.lt_of_lt_of_le h7.2.2.2.2.1 f1.size⟩
          · have := (hb.2.2.2.2.1 _ (Or.inl e)).1; omega
          · have := (hb.2.2.2.2.1 _ (Or.inl e)).1; have := h7.1.mo.row.base_le g hg; omega
          · have := (hb.2.2.2.2.1 _ (Or.inl e)).2; omega
          · have := (hb.2.2.2.2.1 _ (Or.inl e)).1; omega
          · obtain ⟨L0, σ0, g0, _⟩ := h7.1.at_
            exact g0.unmarked k (Or.inl hk)
          · have := (hb.2.2.2.2.1 _ (Or.inl e)).1; omega)
        have kc3 := Y2.out.2.2.1.rd
        have kp3 := Y2.out.1.kp.rd
        go_upto_region 12 with (go_at_call 16; ((with_reducible refine (CM.out _ Y2.out.1.mo (by have := S7.out; have := Y2.out; omega)).mono ?_); rintro e y3 ⟨rfl, v', mo', hv', f3⟩; have FM := Lib.hid (And.intro mo' (And.intro hv' f3)); clear mo' hv' f3))
        clear kc3 kp3
        have Y3 := Lib.hid (show RuS w y3 rb pb mb B v' Q M' tot' M' tot' ∧ MarkS w.heap.size y3 ds ∧ bx < y3.heap.size from by
          have hb := HB2.out
          have h7 := Y2.out
          obtain ⟨mo', hv', f1⟩ := FM.out
          have hmo : ∀ k, moF mb v k → mb ≤ k := fun k hk => by
            rcases hk with hk | hk
            · omega
            · have := h7.1.mo.row.base_le k hk; omega
          refine ⟨⟨h7.1.at_.fr f1 (fun k hk e => ?_), mo', h7.1.kr.fr f1 (fun e => ?_), h7.1.kp.fr f1 (fun e => ?_), h7.1.bl.trans (f1.below h7.1.bl.size (fun k hk => by have := hmo k hk; omega))⟩, h7.2.1.fr f1 (fun k hk => h7.1.mo.unmarked hk), Nat.lt_of_lt_of_le h7.2.2.2 f1.size⟩
          · have := (hb.2.2.2.2.1 _ hk).1; have := hmo k e; omega
          · have := hmo _ e; omega
          · rcases e with e | e
            · omega
            · have := h7.1.mo.row.base_le _ e; omega)
        obtain ⟨m, hm⟩ : ∃ m, m = M'.length := ⟨_, rfl⟩
        obtain ⟨A', c', hv', hmc, hcm, hAg⟩ := Y3.out.1.mo.row.slice
        rw [← hm] at hv' hmc hAg
        subst hv'
        have hmN : m ≤ N := by have := (uni_of Y3.out.1.at_).2.1; rw [HQN.out] at this; omega
        have tm8 : (m : Int) ≤ 8 := by have := HN.out; omega
        have HM := Lib.hid (show m = M'.length ∧ m ≤ N ∧ m ≤ c' from ⟨hm, hmN, hmc⟩)
        have HAG := Lib.hid (show 0 < m → ∃ g, A' = some ⟨g, 0, none⟩ from fun h => by obtain ⟨g, h1, _⟩ := hAg h; exact ⟨g, h1⟩)
        clear hm hmN hmc hcm hAg
        obtain ⟨y4, y5, e5, k5, k5w, e6, b6, k6, s6⟩ := box1 y3 3 (.int .i64 0) (.int .i64 0)
        obtain ⟨ib, hib⟩ : ∃ x, x = y3.heap.size := ⟨_, rfl⟩
        rw [← hib] at k6
        have Y5 := Lib.hid (show RuS w y5 rb pb mb B (.slice A' m c') Q M' tot' M' tot' ∧ MarkS w.heap.size y5 ds ∧ Blk y5 ib 3 #[.int .i64 0] ∧ B < ib ∧ y5.heap.size = ib + 1 ∧ (∀ g, (Value.slice A' m c').ownBlock = some g → g < ib) from ⟨Y3.out.1.keep b6, Y3.out.2.1.keep b6, k6, by have := S7.out; have := Y3.out; omega, by omega, fun g hg => by have := Y3.out.1.mo.row.lt g hg; omega⟩)
        have HIB := Lib.hid hib
        clear k6 b6 s6 hib
        go_upto_region 13 with (fail)
        rw [← HIB.out]
        clear e5 k5 k5w e6
        go_wp2
        have hit := smallM Q M' tot' y5 Y5.out.1.at_
        have HMD := Lib.hid (show ∀ D, markD D ∈ ds → D < y5.heap.size from Y5.out.2.1.lt)
        refine (wpIn_wide (n := 0)).1 (rf_law (gf := 17) (fb := #[.pointer (some ⟨Q.s, 0, none⟩)]) rfl (enters_of Try.func17 (by kernel_rfl) rfl) hit (Below.refl _ _) (fun _ => rfl) KeepB.trans (fun _ _ h => KeepB.turn h)
          (fun pre W' => RuS w W' rb pb mb B (.slice A' m c') Q M' tot' M' tot' ∧ MarkS w.heap.size W' ds ∧ Blk W' ib 3 #[.int .i64 (pre.length : Int)] ∧ y5.heap.size ≤ W'.heap.size)
          (fun _ _ _ => False) ?hI ?hIx ?h0 ?round ?done ?stop)
        case hI => exact fun s X Y hs hT => ⟨hs.1.turn hT Y5.out.1.bl.size, hs.2.1.turn hT HMD.out, hs.2.2.1.turn hT, Nat.le_trans hs.2.2.2 hT.size⟩
        case hIx => exact fun _ _ _ _ h _ => h
        case h0 => exact ⟨Y5.out.1, Y5.out.2.1, Y5.out.2.2.1, Nat.le_refl _⟩
        case round =>
          rintro l pre ⟨s, nn, ee⟩ V K hl hpx ⟨hT0, hmd, hq0, hsz⟩ hK
          obtain ⟨hpl, hpa⟩ := nextS_at hpx
          obtain ⟨j, hj⟩ : ∃ j, j = pre.length := ⟨_, rfl⟩
          rw [← hj] at hq0 hpl hpa
          obtain ⟨x1, x2, e1, kr, kw, e2, bl2, kc2⟩ := box3 V 42 (.string ⟨#[]⟩) (.int .i64 0) (.int .i64 0) (.string s) (.int .i64 nn) (.int .i64 ee)
          have HW := Lib.hid (And.intro e2 (And.intro bl2 kc2))
          have HS2 := Lib.hid (And.intro (hT0.keep bl2) (And.intro (hmd.keep bl2) (And.intro (hq0.keep bl2) (show y5.heap.size ≤ x2.heap.size by have := bl2.size; omega))))
          have HK2 := Lib.hid hK
          have HP := Lib.hid (And.intro hj hpa)
          have HXL := Lib.hid hsz
          have t6 : (j : Int) < (m : Int) := by have := HM.out.1; omega
          have t4 : (0 : Int) ≤ (j : Int) := by omega
          have t3 : ((j : Int) == (m : Int)) = false := by rw [beq_eq_false_iff_ne]; omega
          obtain ⟨g, hg⟩ := HAG.out (by have := HM.out.1; omega)
          have HG := Lib.hid hg
          have fj : IntKind.i64.wrap ((j : Int) + 1) = (j : Int) + 1 := by rw [IntKind.wrap_i64]; omega
          have CE := fun wx => cnt_equal (s, nn, ee) (s, nn, ee) wx
          rw [show decide (((s, nn, ee) : Tri) = (s, nn, ee)) = true from by simp] at CE
          clear e2 bl2 kc2 hT0 hmd hq0 hsz hK hpx hl hit hpl hpa hj hg
          gi_wp2
          rw [HW.out.1]
          refine HK2.out _ _ (keepsFrom_below HW.out.2.1) (KeepB.below HW.out.2.1) ?_
          clear kr kw e1
          intro W2 hT
          have T2 := Lib.hid (show RuS w W2 rb pb mb B (.slice A' m c') Q M' tot' M' tot' ∧ MarkS w.heap.size W2 ds ∧ Blk W2 ib 3 #[.int .i64 (j : Int)] ∧ Blk W2 V.heap.size 42 #[.string s, .int .i64 nn, .int .i64 ee] ∧ y5.heap.size ≤ W2.heap.size from
            ⟨HS2.out.1.turn hT Y5.out.1.bl.size, HS2.out.2.1.turn hT HMD.out, HS2.out.2.2.1.turn hT, HW.out.2.2.turn hT, by have := hT.size; have := HS2.out.2.2.2; omega⟩)
          clear hT HK2 HS2 HW
          have B2 := Lib.hid (show Below W2.heap.size W2 W2.drew from below_draws (Below.refl _ _) 1)
          have hS : (fun wx : World => ((∀ x, wx.cell? ⟨V.heap.size, x, none⟩ = (#[.string s, .int .i64 nn, .int .i64 ee] : Array Value)[x]?) ∧ (∀ x, wx.cell? ⟨ib, x, none⟩ = (#[.int .i64 (j : Int)] : Array Value)[x]?) ∧ (∀ x, wx.cell? ⟨pb, x, none⟩ = (#[.pointer (some ⟨mb, 0, none⟩)] : Array Value)[x]?) ∧ (∀ x, wx.cell? ⟨mb, x, none⟩ = (#[.slice (some ⟨g, 0, none⟩) m c', .int .i64 tot'] : Array Value)[x]?)) ∧ wx.cell? ⟨g, j * 3, none⟩ = some (.string s) ∧ wx.cell? ⟨g, j * 3 + 1, none⟩ = some (.int .i64 nn) ∧ wx.cell? ⟨g, j * 3 + 2, none⟩ = some (.int .i64 ee)) W2.drew := by
            have h1 := T2.out.1.keep B2.out
            have hr := h1.mo.row
            have hh := h1.mo.hm.rd
            rw [HG.out] at hr hh
            exact ⟨⟨(T2.out.2.2.2.1.keep B2.out).rd, (T2.out.2.2.1.keep B2.out).rd, h1.kp.rd, hh⟩, hr.cell triV_l HP.out.2 (j := 0) (by omega), hr.cell triV_l HP.out.2 (j := 1) (by omega), hr.cell triV_l HP.out.2 (j := 2) (by omega)⟩
          gi_wp2
          refine round_region_held (S := (fun wx : World => ((∀ x, wx.cell? ⟨V.heap.size, x, none⟩ = (#[.string s, .int .i64 nn, .int .i64 ee] : Array Value)[x]?) ∧ (∀ x, wx.cell? ⟨ib, x, none⟩ = (#[.int .i64 (j : Int)] : Array Value)[x]?) ∧ (∀ x, wx.cell? ⟨pb, x, none⟩ = (#[.pointer (some ⟨mb, 0, none⟩)] : Array Value)[x]?) ∧ (∀ x, wx.cell? ⟨mb, x, none⟩ = (#[.slice (some ⟨g, 0, none⟩) m c', .int .i64 tot'] : Array Value)[x]?)) ∧ wx.cell? ⟨g, j * 3, none⟩ = some (.string s) ∧ wx.cell? ⟨g, j * 3 + 1, none⟩ = some (.int .i64 nn) ∧ wx.cell? ⟨g, j * 3 + 2, none⟩ = some (.int .i64 ee))) (by kernel_rfl) (by kernel_rfl) (by rintro ⟨_, _, h⟩; exact h) hS (fun hHeld => ?_)
          refine wpAnyH_take (i := 0) (oi := ?_) (v := ?_) ?_ ?_ ?_ ?_ ?_ ?_ ?_ ?_
          rotate_left 2
          · simp only [List.getElem?_toArray, List.getElem?_cons_succ, List.getElem?_cons_zero]; rfl
          · kernel_rfl
          · kernel_rfl
          · kernel_rfl
          · exact fun _ _ _ h => h
          · refine Or.inl ⟨by rfl, ?_⟩
            intro w' hSw
            (try dsimp only at hSw)
            go_simp
            all_goals (with_reducible rfl)
          · assumption
          try simp only [Act.put, List.setIfInBounds_toArray, List.set_cons_zero, List.set_cons_succ]
          refine wpAnyH_take (i := 1) (oi := ?_) (v := ?_) ?_ ?_ ?_ ?_ ?_ ?_ ?_ ?_
          rotate_left 2
          · simp only [List.getElem?_toArray, List.getElem?_cons_succ, List.getElem?_cons_zero]; rfl
          · kernel_rfl
          · kernel_rfl
          · kernel_rfl
          · exact fun _ _ _ h => h
          · refine Or.inl ⟨by rfl, ?_⟩
            intro w' hSw
            (try dsimp only at hSw)
            go_simp
            all_goals (with_reducible rfl)
          · assumption
          try simp only [Act.put, List.setIfInBounds_toArray, List.set_cons_zero, List.set_cons_succ]
          refine wpAnyH_take (i := 2) (oi := ?_) (v := ?_) ?_ ?_ ?_ ?_ ?_ ?_ ?_ ?_
          rotate_left 2
          · simp only [List.getElem?_toArray, List.getElem?_cons_succ, List.getElem?_cons_zero]; rfl
          · kernel_rfl
          · kernel_rfl
          · kernel_rfl
          · exact fun _ _ _ h => h
          · refine Or.inl ⟨by rfl, ?_⟩
            intro w' hSw
            (try dsimp only at hSw)
            go_simp
            all_goals (with_reducible rfl)
          · assumption
          try simp only [Act.put, List.setIfInBounds_toArray, List.set_cons_zero, List.set_cons_succ]
          refine wpAnyH_take (i := 3) (oi := ?_) (v := ?_) ?_ ?_ ?_ ?_ ?_ ?_ ?_ ?_
          rotate_left 2
          · simp only [List.getElem?_toArray, List.getElem?_cons_succ, List.getElem?_cons_zero]; rfl
          · kernel_rfl
          · kernel_rfl
          · kernel_rfl
          · exact fun _ _ _ h => h
          · refine Or.inl ⟨by rfl, ?_⟩
            intro w' hSw
            (try dsimp only at hSw)
            go_simp
            all_goals (with_reducible rfl)
          · assumption
          try simp only [Act.put, List.setIfInBounds_toArray, List.set_cons_zero, List.set_cons_succ]
          refine wpAnyH_take (i := 4) (oi := ?_) (v := ?_) ?_ ?_ ?_ ?_ ?_ ?_ ?_ ?_
          rotate_left 2
          · simp only [List.getElem?_toArray, List.getElem?_cons_succ, List.getElem?_cons_zero]; rfl
          · kernel_rfl
          · kernel_rfl
          · kernel_rfl
          · exact fun _ _ _ h => h
          · refine Or.inl ⟨by rfl, ?_⟩
            intro w' hSw
            (try dsimp only at hSw)
            go_simp
            all_goals (with_reducible rfl)
          · assumption
          try simp only [Act.put, List.setIfInBounds_toArray, List.set_cons_zero, List.set_cons_succ]
          refine wpAnyH_take (i := 5) (oi := ?_) (v := ?_) ?_ ?_ ?_ ?_ ?_ ?_ ?_ ?_
          rotate_left 2
          · simp only [List.getElem?_toArray, List.getElem?_cons_succ, List.getElem?_cons_zero]; rfl
          · kernel_rfl
          · kernel_rfl
          · kernel_rfl
          · exact fun _ _ _ h => h
          · refine Or.inl ⟨by rfl, ?_⟩
            intro w' hSw
            (try dsimp only at hSw)
            go_simp
            all_goals (with_reducible rfl)
          · assumption
          try simp only [Act.put, List.setIfInBounds_toArray, List.set_cons_zero, List.set_cons_succ]
          refine wpAnyH_take (i := 6) (oi := ?_) (v := ?_) ?_ ?_ ?_ ?_ ?_ ?_ ?_ ?_
          rotate_left 2
          · simp only [List.getElem?_toArray, List.getElem?_cons_succ, List.getElem?_cons_zero]; rfl
          · kernel_rfl
          · kernel_rfl
          · kernel_rfl
          · exact fun _ _ _ h => h
          · refine Or.inl ⟨by rfl, ?_⟩
            intro w' hSw
            (try dsimp only at hSw)
            go_simp
            all_goals (with_reducible rfl)
          · assumption
          try simp only [Act.put, List.setIfInBounds_toArray, List.set_cons_zero, List.set_cons_succ]
          refine wpAnyH_take (i := 7) (oi := ?_) (v := ?_) ?_ ?_ ?_ ?_ ?_ ?_ ?_ ?_
          rotate_left 2
          · simp only [List.getElem?_toArray, List.getElem?_cons_succ, List.getElem?_cons_zero]; rfl
          · kernel_rfl
          · kernel_rfl
          · kernel_rfl
          · exact fun _ _ _ h => h
          · refine Or.inl ⟨by rfl, ?_⟩
            intro w' hSw
            (try dsimp only at hSw)
            go_simp
            all_goals (with_reducible rfl)
          · assumption
          try simp only [Act.put, List.setIfInBounds_toArray, List.set_cons_zero, List.set_cons_succ]
          refine wpAnyH_take (i := 8) (oi := ?_) (v := ?_) ?_ ?_ ?_ ?_ ?_ ?_ ?_ ?_
          rotate_left 2
          · simp only [List.getElem?_toArray, List.getElem?_cons_succ, List.getElem?_cons_zero]; rfl
          · kernel_rfl
          · kernel_rfl
          · kernel_rfl
          · exact fun _ _ _ h => h
          · refine Or.inl ⟨by rfl, ?_⟩
            intro w' hSw
            (try dsimp only at hSw)
            go_simp
            all_goals (with_reducible rfl)
          · assumption
          try simp only [Act.put, List.setIfInBounds_toArray, List.set_cons_zero, List.set_cons_succ]
          refine wpAnyH_take (i := 9) (oi := ?_) (v := ?_) ?_ ?_ ?_ ?_ ?_ ?_ ?_ ?_
          rotate_left 2
          · simp only [List.getElem?_toArray, List.getElem?_cons_succ, List.getElem?_cons_zero]; rfl
          · kernel_rfl
          · kernel_rfl
          · kernel_rfl
          · exact fun _ _ _ h => h
          · refine Or.inl ⟨by rfl, ?_⟩
            intro w' hSw
            (try dsimp only at hSw)
            go_simp
            all_goals (with_reducible rfl)
          · assumption
          try simp only [Act.put, List.setIfInBounds_toArray, List.set_cons_zero, List.set_cons_succ]
          refine wpAnyH_take (i := 10) (oi := ?_) (v := ?_) ?_ ?_ ?_ ?_ ?_ ?_ ?_ ?_
          rotate_left 2
          · simp only [List.getElem?_toArray, List.getElem?_cons_succ, List.getElem?_cons_zero]; rfl
          · kernel_rfl
          · kernel_rfl
          · kernel_rfl
          · exact fun _ _ _ h => h
          · refine Or.inl ⟨by rfl, ?_⟩
            intro w' hSw
            (try dsimp only at hSw)
            go_simp
            all_goals (with_reducible rfl)
          · assumption
          try simp only [Act.put, List.setIfInBounds_toArray, List.set_cons_zero, List.set_cons_succ]
          refine wpAnyH_take (i := 11) (oi := ?_) (v := ?_) ?_ ?_ ?_ ?_ ?_ ?_ ?_ ?_
          rotate_left 2
          · simp only [List.getElem?_toArray, List.getElem?_cons_succ, List.getElem?_cons_zero]; rfl
          · kernel_rfl
          · kernel_rfl
          · kernel_rfl
          · exact fun _ _ _ h => h
          · refine Or.inl ⟨by rfl, ?_⟩
            intro w' hSw
            (try dsimp only at hSw)
            go_simp
            all_goals (with_reducible rfl)
          · assumption
          try simp only [Act.put, List.setIfInBounds_toArray, List.set_cons_zero, List.set_cons_succ]
          refine wpAnyH_take (i := 12) (oi := ?_) (v := ?_) ?_ ?_ ?_ ?_ ?_ ?_ ?_ ?_
          rotate_left 2
          · simp only [List.getElem?_toArray, List.getElem?_cons_succ, List.getElem?_cons_zero]; rfl
          · kernel_rfl
          · kernel_rfl
          · kernel_rfl
          · exact fun _ _ _ h => h
          · refine Or.inl ⟨by rfl, ?_⟩
            intro w' hSw
            (try dsimp only at hSw)
            go_simp
            all_goals (with_reducible rfl)
          · assumption
          try simp only [Act.put, List.setIfInBounds_toArray, List.set_cons_zero, List.set_cons_succ]
          refine wpAnyH_take (i := 13) (oi := ?_) (v := ?_) ?_ ?_ ?_ ?_ ?_ ?_ ?_ ?_
          rotate_left 2
          · simp only [List.getElem?_toArray, List.getElem?_cons_succ, List.getElem?_cons_zero]; rfl
          · kernel_rfl
          · kernel_rfl
          · kernel_rfl
          · exact fun _ _ _ h => h
          · refine Or.inl ⟨by rfl, ?_⟩
            intro w' hSw
            (try dsimp only at hSw)
            go_simp
            all_goals (with_reducible rfl)
          · assumption
          try simp only [Act.put, List.setIfInBounds_toArray, List.set_cons_zero, List.set_cons_succ]
          refine wpAnyH_take (i := 14) (oi := ?_) (v := ?_) ?_ ?_ ?_ ?_ ?_ ?_ ?_ ?_
          rotate_left 2
          · simp only [List.getElem?_toArray, List.getElem?_cons_succ, List.getElem?_cons_zero]; rfl
          · kernel_rfl
          · kernel_rfl
          · kernel_rfl
          · exact fun _ _ _ h => h
          · refine Or.inl ⟨by rfl, ?_⟩
            intro w' hSw
            (try dsimp only at hSw)
            go_simp
            all_goals (with_reducible rfl)
          · assumption
          try simp only [Act.put, List.setIfInBounds_toArray, List.set_cons_zero, List.set_cons_succ]
          refine wpAnyH_take (i := 15) (oi := ?_) (v := ?_) ?_ ?_ ?_ ?_ ?_ ?_ ?_ ?_
          rotate_left 2
          · simp only [List.getElem?_toArray, List.getElem?_cons_succ, List.getElem?_cons_zero]; rfl
          · kernel_rfl
          · kernel_rfl
          · kernel_rfl
          · exact fun _ _ _ h => h
          · refine Or.inl ⟨by rfl, ?_⟩
            intro w' hSw
            (try dsimp only at hSw)
            go_simp
            all_goals (with_reducible rfl)
          · assumption
          try simp only [Act.put, List.setIfInBounds_toArray, List.set_cons_zero, List.set_cons_succ]
          refine wpAnyH_take (i := 16) (oi := ?_) (v := ?_) ?_ ?_ ?_ ?_ ?_ ?_ ?_ ?_
          rotate_left 2
          · simp only [List.getElem?_toArray, List.getElem?_cons_succ, List.getElem?_cons_zero]; rfl
          · kernel_rfl
          · kernel_rfl
          · kernel_rfl
          · exact fun _ _ _ h => h
          · refine Or.inl ⟨by rfl, ?_⟩
            intro w' hSw
            (try dsimp only at hSw)
            go_simp
            all_goals (with_reducible rfl)
          · assumption
          try simp only [Act.put, List.setIfInBounds_toArray, List.set_cons_zero, List.set_cons_succ]
          refine wpAnyH_take (i := 17) (oi := ?_) (v := ?_) ?_ ?_ ?_ ?_ ?_ ?_ ?_ ?_
          rotate_left 2
          · simp only [List.getElem?_toArray, List.getElem?_cons_succ, List.getElem?_cons_zero]; rfl
          · kernel_rfl
          · kernel_rfl
          · kernel_rfl
          · exact fun _ _ _ h => h
          · refine Or.inl ⟨by rfl, ?_⟩
            intro w' hSw
            (try dsimp only at hSw)
            go_simp
            all_goals (with_reducible rfl)
          · assumption
          try simp only [Act.put, List.setIfInBounds_toArray, List.set_cons_zero, List.set_cons_succ]
          refine wpAnyH_done (by kernel_rfl) ?_ _
          clear hHeld hS CE t3
          have z7 := (T2.out.2.2.1.keep B2.out).rd
          have z7w := (T2.out.2.2.1.keep B2.out).wr
          gi_wp2
          rw [setCell_obj T2.out.2.2.1]
          have f5 := fr_one W2 ib (.cells ((#[.int .i64 (j : Int)] : Array Value).setIfInBounds 0 (.int .i64 ((j : Int) + 1))) 3 (0, 0))
          have g7 : Blk (setObj W2 ib (.cells ((#[.int .i64 (j : Int)] : Array Value).setIfInBounds 0 (.int .i64 ((j : Int) + 1))) 3 (0, 0))) ib 3 #[.int .i64 ((j : Int) + 1)] := setObj_at (lt_of_block T2.out.2.2.1) _
          generalize setObj W2 ib (.cells ((#[.int .i64 (j : Int)] : Array Value).setIfInBounds 0 (.int .i64 ((j : Int) + 1))) 3 (0, 0)) = w5 at f5 g7 ⊢
          have b5 : Below w5.heap.size w5 w5.drew := below_draws (Below.refl _ _) 1
          have h6 := Y5.out
          have hb := HB2.out
          have t2 := T2.out
          refine ⟨(keepsFrom_fr f5 (fun k o hk hB => by omega)).trans (keepsFrom_below b5), (KeepB.fr f5 (fun k hk e => by have := (hb.2.2.2.2.1 k hk).1; omega)).trans (KeepB.below b5), (t2.1.fr f5 (fun k hk e => by have := (hb.2.2.2.2.1 k hk).1; omega) ⟨by omega, by omega, by omega⟩ (fun g' hg' e => by have := h6.2.2.2.2.2 g' hg'; omega) (fun k hk => by omega)).keep b5, (t2.2.1.fr f5 (fun k hk => by rw [hk]; exact no_mark_cells t2.2.2.1)).keep b5, ?_, by have := f5.size; have := b5.size; omega⟩
          have : ((pre ++ [((s, nn, ee) : Tri)]).length : Int) = (j : Int) + 1 := by rw [List.length_append, ← HP.out.1]; simp
          rw [this]
          exact g7.keep b5
        case done =>
          rintro D Xd hD ⟨hT0, hmd, hq0, hsz⟩ hd
          rw [← HM.out.1] at hq0
          have hnd : markD D ∉ ds := fun h => by have := HMD.out D h; omega
          have HX := Lib.hid (And.intro hT0 (And.intro (hmd.more hd (by have := Y5.out; have := HB2.out; omega) hnd) (And.intro hq0 hsz)))
          clear hT0 hmd hq0 hsz hd hD hit hnd
          obtain ⟨le, hle⟩ : ∃ le, le = leastM N M' := ⟨_, rfl⟩
          have HLE := Lib.hid hle
          clear hle
          have kp := HX.out.1.kp.rd
          have km := HX.out.1.mo.hm.rd
          go_upto_if 81 with (fail)
          go_cut [13] from 82 to 90 (fun s13 wx => s13 = .int .i64 le ∧ Hid (wx = Xd))
          case first =>
            by_cases hfull : m = N
            · have b1 : ((m : Int) == (N : Int)) = true := by rw [beq_iff_eq]; omega
              have hm0 : 0 < m := by have := HN.out; omega
              obtain ⟨g, hg⟩ := HAG.out hm0
              obtain ⟨kc, hkc⟩ : ∃ kc, kc = m - 1 := ⟨_, rfl⟩
              obtain ⟨⟨ks, nn, ee⟩, hx⟩ : ∃ a, M'[kc]? = some a := ⟨_, List.getElem?_eq_getElem (by have := HM.out.1; omega)⟩
              have hnn : nn = le := by
                have h1 := HLE.out
                unfold leastM at h1
                rw [if_neg (by have := HM.out.1; omega), List.getLast?_eq_getElem?, show M'.length - 1 = kc by have := HM.out.1; omega, hx] at h1
                exact h1.symm
              subst hnn
              have hr := HX.out.1.mo.row
              rw [hg] at hr km
              have q1 : Xd.cell? ⟨g, kc * 3 + 1, none⟩ = some (.int .i64 nn) := hr.cell triV_l hx (j := 1) (by omega)
              have e1 : IntKind.i64.wrap ((N : Int) - 1) = (kc : Int) := by rw [IntKind.wrap_i64]; omega
              have t4 : (0 : Int) ≤ (kc : Int) := by omega
              have t5 : (kc : Int) < (m : Int) := by omega
              clear hr hx hm0 hg hkc hfull
              go_wp2
              go_meet
              case rel => exact ⟨rfl, Lib.hid rfl⟩
            · have b1 : ((m : Int) == (N : Int)) = false := by rw [beq_eq_false_iff_ne]; omega
              have hl0 : (0 : Int) = le := by
                have h1 := HLE.out
                unfold leastM at h1
                rw [if_pos (by have := HM.out; omega)] at h1
                exact h1.symm
              have HL0 := Lib.hid hl0
              clear hl0 hfull
              go_wp2
              go_meet
              case rel => exact ⟨by rw [← HL0.out], Lib.hid rfl⟩
          case rest =>
          obtain ⟨rfl, HW⟩ := hcut
          have hwc := HW.out
          subst hwc
          clear HW kp km
          have b0 : ((m : Int) != (m : Int)) = false := by simp
          have b2 : (tot' != tot') = false := by simp
          have b3 : (le != le) = false := by simp
          have C1 := Lib.hid (fun wx (h : SmM wx Q M' tot') => smlenM wx h)
          rw [← HM.out.1] at C1
          have C2 := Lib.hid (fun wx (h : SmM wx Q M' tot') => smtotalM wx h)
          have C3 := Lib.hid (fun wx (h : SmM wx Q M' tot') => smleastM wx h rfl)
          rw [HQN.out, ← HLE.out] at C3
          go_upto_region 21 with (fail)
          have SCK := Lib.hid (show ∀ wx, Below wc.heap.size wc wx → (fun wx : World => (∀ x, wx.cell? ⟨ib, x, none⟩ = (#[.int .i64 (m : Int)] : Array Value)[x]?) ∧ (∀ x, wx.cell? ⟨pb, x, none⟩ = (#[.pointer (some ⟨mb, 0, none⟩)] : Array Value)[x]?) ∧ (∀ x, wx.cell? ⟨mb, x, none⟩ = (#[.slice A' m c', .int .i64 tot'] : Array Value)[x]?)) wx from fun wx hb => ⟨(HX.out.2.2.1.keep hb).rd, (HX.out.1.keep hb).kp.rd, (HX.out.1.keep hb).mo.hm.rd⟩)
          have B2 := Lib.hid (show Below wc.heap.size wc wc.drew from below_draws (Below.refl _ _) 1)
          refine wp_region_held_drew (S := (fun wx : World => (∀ x, wx.cell? ⟨ib, x, none⟩ = (#[.int .i64 (m : Int)] : Array Value)[x]?) ∧ (∀ x, wx.cell? ⟨pb, x, none⟩ = (#[.pointer (some ⟨mb, 0, none⟩)] : Array Value)[x]?) ∧ (∀ x, wx.cell? ⟨mb, x, none⟩ = (#[.slice A' m c', .int .i64 tot'] : Array Value)[x]?))) (by kernel_rfl) (SCK.out _ B2.out) (fun hHeld => ?_)
          refine wpAnyH_take (i := 0) (oi := ?_) (v := ?_) ?_ ?_ ?_ ?_ ?_ ?_ ?_ ?_
          rotate_left 2
          · simp only [List.getElem?_toArray, List.getElem?_cons_succ, List.getElem?_cons_zero]; rfl
          · kernel_rfl
          · kernel_rfl
          · kernel_rfl
          · exact fun _ _ _ h => h
          · refine Or.inl ⟨by rfl, ?_⟩
            intro w' hSw
            (try dsimp only at hSw)
            go_simp
            all_goals (with_reducible rfl)
          · assumption
          try simp only [Act.put, List.setIfInBounds_toArray, List.set_cons_zero, List.set_cons_succ]
          refine wpAnyH_take (i := 1) (oi := ?_) (v := ?_) ?_ ?_ ?_ ?_ ?_ ?_ ?_ ?_
          rotate_left 2
          · simp only [List.getElem?_toArray, List.getElem?_cons_succ, List.getElem?_cons_zero]; rfl
          · kernel_rfl
          · kernel_rfl
          · kernel_rfl
          · exact fun _ _ _ h => h
          · refine Or.inl ⟨by rfl, ?_⟩
            intro w' hSw
            (try dsimp only at hSw)
            go_simp
            all_goals (with_reducible rfl)
          · assumption
          try simp only [Act.put, List.setIfInBounds_toArray, List.set_cons_zero, List.set_cons_succ]
          refine wpAnyH_take (i := 2) (oi := ?_) (v := ?_) ?_ ?_ ?_ ?_ ?_ ?_ ?_ ?_
          rotate_left 2
          · simp only [List.getElem?_toArray, List.getElem?_cons_succ, List.getElem?_cons_zero]; rfl
          · kernel_rfl
          · kernel_rfl
          · kernel_rfl
          · exact fun _ _ _ h => h
          · refine Or.inl ⟨by rfl, ?_⟩
            intro w' hSw
            (try dsimp only at hSw)
            go_simp
            all_goals (with_reducible rfl)
          · assumption
          try simp only [Act.put, List.setIfInBounds_toArray, List.set_cons_zero, List.set_cons_succ]
          refine wpAnyH_take (i := 3) (oi := ?_) (v := ?_) ?_ ?_ ?_ ?_ ?_ ?_ ?_ ?_
          rotate_left 2
          · simp only [List.getElem?_toArray, List.getElem?_cons_succ, List.getElem?_cons_zero]; rfl
          · kernel_rfl
          · kernel_rfl
          · kernel_rfl
          · exact fun _ _ _ h => h
          · refine Or.inl ⟨by rfl, ?_⟩
            intro w' hSw
            (try dsimp only at hSw)
            go_simp
            all_goals (with_reducible rfl)
          · assumption
          try simp only [Act.put, List.setIfInBounds_toArray, List.set_cons_zero, List.set_cons_succ]
          refine wpAnyH_take (i := 4) (oi := ?_) (v := ?_) ?_ ?_ ?_ ?_ ?_ ?_ ?_ ?_
          rotate_left 2
          · simp only [List.getElem?_toArray, List.getElem?_cons_succ, List.getElem?_cons_zero]; rfl
          · kernel_rfl
          · kernel_rfl
          · kernel_rfl
          · exact fun _ _ _ h => h
          · refine Or.inl ⟨by rfl, ?_⟩
            intro w' hSw
            (try dsimp only at hSw)
            go_simp
            all_goals (with_reducible rfl)
          · assumption
          try simp only [Act.put, List.setIfInBounds_toArray, List.set_cons_zero, List.set_cons_succ]
          refine wpAnyH_take (i := 5) (oi := ?_) (v := ?_) ?_ ?_ ?_ ?_ ?_ ?_ ?_ ?_
          rotate_left 2
          · simp only [List.getElem?_toArray, List.getElem?_cons_succ, List.getElem?_cons_zero]; rfl
          · kernel_rfl
          · kernel_rfl
          · kernel_rfl
          · exact fun _ _ _ h => h
          · refine Or.inl ⟨by rfl, ?_⟩
            intro w' hSw
            (try dsimp only at hSw)
            go_simp
            all_goals (with_reducible rfl)
          · assumption
          try simp only [Act.put, List.setIfInBounds_toArray, List.set_cons_zero, List.set_cons_succ]
          refine wpAnyH_take (i := 6) (oi := ?_) (v := ?_) ?_ ?_ ?_ ?_ ?_ ?_ ?_ ?_
          rotate_left 2
          · simp only [List.getElem?_toArray, List.getElem?_cons_succ, List.getElem?_cons_zero]; rfl
          · kernel_rfl
          · kernel_rfl
          · kernel_rfl
          · exact fun _ _ _ h => h
          · refine Or.inl ⟨by rfl, ?_⟩
            intro w' hSw
            (try dsimp only at hSw)
            go_simp
            all_goals (with_reducible rfl)
          · assumption
          try simp only [Act.put, List.setIfInBounds_toArray, List.set_cons_zero, List.set_cons_succ]
          refine wpAnyH_take (i := 7) (oi := ?_) (v := ?_) ?_ ?_ ?_ ?_ ?_ ?_ ?_ ?_
          rotate_left 2
          · simp only [List.getElem?_toArray, List.getElem?_cons_succ, List.getElem?_cons_zero]; rfl
          · kernel_rfl
          · kernel_rfl
          · kernel_rfl
          · exact fun _ _ _ h => h
          · refine Or.inl ⟨by rfl, ?_⟩
            intro w' hSw
            (try dsimp only at hSw)
            go_simp
            all_goals (with_reducible rfl)
          · assumption
          try simp only [Act.put, List.setIfInBounds_toArray, List.set_cons_zero, List.set_cons_succ]
          refine wpAnyH_take (i := 8) (oi := ?_) (v := ?_) ?_ ?_ ?_ ?_ ?_ ?_ ?_ ?_
          rotate_left 2
          · simp only [List.getElem?_toArray, List.getElem?_cons_succ, List.getElem?_cons_zero]; rfl
          · kernel_rfl
          · kernel_rfl
          · kernel_rfl
          · exact fun _ _ _ h => h
          · refine Or.inl ⟨by rfl, ?_⟩
            intro w' hSw
            (try dsimp only at hSw)
            go_simp
            all_goals (with_reducible rfl)
          · assumption
          try simp only [Act.put, List.setIfInBounds_toArray, List.set_cons_zero, List.set_cons_succ]
          refine wpAnyH_take (i := 10) (oi := ?_) (v := ?_) ?_ ?_ ?_ ?_ ?_ ?_ ?_ ?_
          rotate_left 2
          · simp only [List.getElem?_toArray, List.getElem?_cons_succ, List.getElem?_cons_zero]; rfl
          · kernel_rfl
          · kernel_rfl
          · kernel_rfl
          · exact fun _ _ _ h => h
          · refine Or.inl ⟨by rfl, ?_⟩
            intro w' hSw
            (try dsimp only at hSw)
            go_simp
            all_goals (with_reducible rfl)
          · assumption
          try simp only [Act.put, List.setIfInBounds_toArray, List.set_cons_zero, List.set_cons_succ]
          refine wpAnyH_ready (rs := [9]) (by kernel_rfl) (by simp) ?_
          refine AllReadyH.cons (o := ?_) ?_ ?_ ?_
          rotate_left 1
          · simp only [List.getElem?_toArray, List.getElem?_cons_succ, List.getElem?_cons_zero]; rfl
          rotate_left 1
          · exact AllReadyH.nil
          intro K hK
          go_simp
          ((with_reducible refine (C1.out _ (HX.out.1.keep B2.out).at_).mono ?_); rintro e wx ⟨rfl, rfl⟩)
          refine hK.out _ _ hHeld (fun hHeld => ?_)
          clear hK K
          try simp only [Act.put, List.setIfInBounds_toArray, List.set_cons_zero, List.set_cons_succ]
          refine wpAnyH_take (i := 11) (oi := ?_) (v := ?_) ?_ ?_ ?_ ?_ ?_ ?_ ?_ ?_
          rotate_left 2
          · simp only [List.getElem?_toArray, List.getElem?_cons_succ, List.getElem?_cons_zero]; rfl
          · kernel_rfl
          · kernel_rfl
          · kernel_rfl
          · exact fun _ _ _ h => h
          · refine Or.inl ⟨by rfl, ?_⟩
            intro w' hSw
            (try dsimp only at hSw)
            go_simp
            all_goals (with_reducible rfl)
          · assumption
          try simp only [Act.put, List.setIfInBounds_toArray, List.set_cons_zero, List.set_cons_succ]
          refine wpAnyH_take (i := 12) (oi := ?_) (v := ?_) ?_ ?_ ?_ ?_ ?_ ?_ ?_ ?_
          rotate_left 2
          · simp only [List.getElem?_toArray, List.getElem?_cons_succ, List.getElem?_cons_zero]; rfl
          · kernel_rfl
          · kernel_rfl
          · kernel_rfl
          · exact fun _ _ _ h => h
          · refine Or.inl ⟨by rfl, ?_⟩
            intro w' hSw
            (try dsimp only at hSw)
            go_simp
            all_goals (with_reducible rfl)
          · assumption
          try simp only [Act.put, List.setIfInBounds_toArray, List.set_cons_zero, List.set_cons_succ]
          refine wpAnyH_take (i := 13) (oi := ?_) (v := ?_) ?_ ?_ ?_ ?_ ?_ ?_ ?_ ?_
          rotate_left 2
          · simp only [List.getElem?_toArray, List.getElem?_cons_succ, List.getElem?_cons_zero]; rfl
          · kernel_rfl
          · kernel_rfl
          · kernel_rfl
          · exact fun _ _ _ h => h
          · refine Or.inl ⟨by rfl, ?_⟩
            intro w' hSw
            (try dsimp only at hSw)
            go_simp
            all_goals (with_reducible rfl)
          · assumption
          try simp only [Act.put, List.setIfInBounds_toArray, List.set_cons_zero, List.set_cons_succ]
          refine wpAnyH_take (i := 14) (oi := ?_) (v := ?_) ?_ ?_ ?_ ?_ ?_ ?_ ?_ ?_
          rotate_left 2
          · simp only [List.getElem?_toArray, List.getElem?_cons_succ, List.getElem?_cons_zero]; rfl
          · kernel_rfl
          · kernel_rfl
          · kernel_rfl
          · exact fun _ _ _ h => h
          · refine Or.inl ⟨by rfl, ?_⟩
            intro w' hSw
            (try dsimp only at hSw)
            go_simp
            all_goals (with_reducible rfl)
          · assumption
          try simp only [Act.put, List.setIfInBounds_toArray, List.set_cons_zero, List.set_cons_succ]
          refine wpAnyH_take (i := 16) (oi := ?_) (v := ?_) ?_ ?_ ?_ ?_ ?_ ?_ ?_ ?_
          rotate_left 2
          · simp only [List.getElem?_toArray, List.getElem?_cons_succ, List.getElem?_cons_zero]; rfl
          · kernel_rfl
          · kernel_rfl
          · kernel_rfl
          · exact fun _ _ _ h => h
          · refine Or.inl ⟨by rfl, ?_⟩
            intro w' hSw
            (try dsimp only at hSw)
            go_simp
            all_goals (with_reducible rfl)
          · assumption
          try simp only [Act.put, List.setIfInBounds_toArray, List.set_cons_zero, List.set_cons_succ]
          refine wpAnyH_take (i := 17) (oi := ?_) (v := ?_) ?_ ?_ ?_ ?_ ?_ ?_ ?_ ?_
          rotate_left 2
          · simp only [List.getElem?_toArray, List.getElem?_cons_succ, List.getElem?_cons_zero]; rfl
          · kernel_rfl
          · kernel_rfl
          · kernel_rfl
          · exact fun _ _ _ h => h
          · refine Or.inl ⟨by rfl, ?_⟩
            intro w' hSw
            (try dsimp only at hSw)
            go_simp
            all_goals (with_reducible rfl)
          · assumption
          try simp only [Act.put, List.setIfInBounds_toArray, List.set_cons_zero, List.set_cons_succ]
          refine wpAnyH_take (i := 18) (oi := ?_) (v := ?_) ?_ ?_ ?_ ?_ ?_ ?_ ?_ ?_
          rotate_left 2
          · simp only [List.getElem?_toArray, List.getElem?_cons_succ, List.getElem?_cons_zero]; rfl
          · kernel_rfl
          · kernel_rfl
          · kernel_rfl
          · exact fun _ _ _ h => h
          · refine Or.inl ⟨by rfl, ?_⟩
            intro w' hSw
            (try dsimp only at hSw)
            go_simp
            all_goals (with_reducible rfl)
          · assumption
          try simp only [Act.put, List.setIfInBounds_toArray, List.set_cons_zero, List.set_cons_succ]
          refine wpAnyH_take (i := 19) (oi := ?_) (v := ?_) ?_ ?_ ?_ ?_ ?_ ?_ ?_ ?_
          rotate_left 2
          · simp only [List.getElem?_toArray, List.getElem?_cons_succ, List.getElem?_cons_zero]; rfl
          · kernel_rfl
          · kernel_rfl
          · kernel_rfl
          · exact fun _ _ _ h => h
          · refine Or.inl ⟨by rfl, ?_⟩
            intro w' hSw
            (try dsimp only at hSw)
            go_simp
            all_goals (with_reducible rfl)
          · assumption
          try simp only [Act.put, List.setIfInBounds_toArray, List.set_cons_zero, List.set_cons_succ]
          refine wpAnyH_ready (rs := [15]) (by kernel_rfl) (by simp) ?_
          refine AllReadyH.cons (o := ?_) ?_ ?_ ?_
          rotate_left 1
          · simp only [List.getElem?_toArray, List.getElem?_cons_succ, List.getElem?_cons_zero]; rfl
          rotate_left 1
          · exact AllReadyH.nil
          intro K hK
          go_simp
          ((with_reducible refine (C2.out _ (HX.out.1.keep B2.out).at_).mono ?_); rintro e wx ⟨rfl, rfl⟩)
          refine hK.out _ _ hHeld (fun hHeld => ?_)
          clear hK K
          try simp only [Act.put, List.setIfInBounds_toArray, List.set_cons_zero, List.set_cons_succ]
          refine wpAnyH_take (i := 20) (oi := ?_) (v := ?_) ?_ ?_ ?_ ?_ ?_ ?_ ?_ ?_
          rotate_left 2
          · simp only [List.getElem?_toArray, List.getElem?_cons_succ, List.getElem?_cons_zero]; rfl
          · kernel_rfl
          · kernel_rfl
          · kernel_rfl
          · exact fun _ _ _ h => h
          · refine Or.inl ⟨by rfl, ?_⟩
            intro w' hSw
            (try dsimp only at hSw)
            go_simp
            all_goals (with_reducible rfl)
          · assumption
          try simp only [Act.put, List.setIfInBounds_toArray, List.set_cons_zero, List.set_cons_succ]
          refine wpAnyH_take (i := 21) (oi := ?_) (v := ?_) ?_ ?_ ?_ ?_ ?_ ?_ ?_ ?_
          rotate_left 2
          · simp only [List.getElem?_toArray, List.getElem?_cons_succ, List.getElem?_cons_zero]; rfl
          · kernel_rfl
          · kernel_rfl
          · kernel_rfl
          · exact fun _ _ _ h => h
          · refine Or.inl ⟨by rfl, ?_⟩
            intro w' hSw
            (try dsimp only at hSw)
            go_simp
            all_goals (with_reducible rfl)
          · assumption
          try simp only [Act.put, List.setIfInBounds_toArray, List.set_cons_zero, List.set_cons_succ]
          refine wpAnyH_take (i := 22) (oi := ?_) (v := ?_) ?_ ?_ ?_ ?_ ?_ ?_ ?_ ?_
          rotate_left 2
          · simp only [List.getElem?_toArray, List.getElem?_cons_succ, List.getElem?_cons_zero]; rfl
          · kernel_rfl
          · kernel_rfl
          · kernel_rfl
          · exact fun _ _ _ h => h
          · refine Or.inl ⟨by rfl, ?_⟩
            intro w' hSw
            (try dsimp only at hSw)
            go_simp
            all_goals (with_reducible rfl)
          · assumption
          try simp only [Act.put, List.setIfInBounds_toArray, List.set_cons_zero, List.set_cons_succ]
          refine wpAnyH_take (i := 23) (oi := ?_) (v := ?_) ?_ ?_ ?_ ?_ ?_ ?_ ?_ ?_
          rotate_left 2
          · simp only [List.getElem?_toArray, List.getElem?_cons_succ, List.getElem?_cons_zero]; rfl
          · kernel_rfl
          · kernel_rfl
          · kernel_rfl
          · exact fun _ _ _ h => h
          · refine Or.inl ⟨by rfl, ?_⟩
            intro w' hSw
            (try dsimp only at hSw)
            go_simp
            all_goals (with_reducible rfl)
          · assumption
          try simp only [Act.put, List.setIfInBounds_toArray, List.set_cons_zero, List.set_cons_succ]
          refine wpAnyH_take (i := 25) (oi := ?_) (v := ?_) ?_ ?_ ?_ ?_ ?_ ?_ ?_ ?_
          rotate_left 2
          · simp only [List.getElem?_toArray, List.getElem?_cons_succ, List.getElem?_cons_zero]; rfl
          · kernel_rfl
          · kernel_rfl
          · kernel_rfl
          · exact fun _ _ _ h => h
          · refine Or.inl ⟨by rfl, ?_⟩
            intro w' hSw
            (try dsimp only at hSw)
            go_simp
            all_goals (with_reducible rfl)
          · assumption
          try simp only [Act.put, List.setIfInBounds_toArray, List.set_cons_zero, List.set_cons_succ]
          refine wpAnyH_ready (rs := [24]) (by kernel_rfl) (by simp) ?_
          refine AllReadyH.cons (o := ?_) ?_ ?_ ?_
          rotate_left 1
          · simp only [List.getElem?_toArray, List.getElem?_cons_succ, List.getElem?_cons_zero]; rfl
          rotate_left 1
          · exact AllReadyH.nil
          intro K hK
          go_simp
          ((with_reducible refine (C3.out _ (HX.out.1.keep B2.out).at_).mono ?_); rintro e wx ⟨rfl, b3'⟩; have B3 := Lib.hid (below_in B2.out b3'); clear b3')
          refine hK.out _ _ (SCK.out _ B3.out) (fun hHeld => ?_)
          clear hK K
          try simp only [Act.put, List.setIfInBounds_toArray, List.set_cons_zero, List.set_cons_succ]
          refine wpAnyH_take (i := 26) (oi := ?_) (v := ?_) ?_ ?_ ?_ ?_ ?_ ?_ ?_ ?_
          rotate_left 2
          · simp only [List.getElem?_toArray, List.getElem?_cons_succ, List.getElem?_cons_zero]; rfl
          · kernel_rfl
          · kernel_rfl
          · kernel_rfl
          · exact fun _ _ _ h => h
          · refine Or.inl ⟨by rfl, ?_⟩
            intro w' hSw
            (try dsimp only at hSw)
            go_simp
            all_goals (with_reducible rfl)
          · assumption
          try simp only [Act.put, List.setIfInBounds_toArray, List.set_cons_zero, List.set_cons_succ]
          refine wpAnyH_take (i := 27) (oi := ?_) (v := ?_) ?_ ?_ ?_ ?_ ?_ ?_ ?_ ?_
          rotate_left 2
          · simp only [List.getElem?_toArray, List.getElem?_cons_succ, List.getElem?_cons_zero]; rfl
          · kernel_rfl
          · kernel_rfl
          · kernel_rfl
          · exact fun _ _ _ h => h
          · refine Or.inl ⟨by rfl, ?_⟩
            intro w' hSw
            (try dsimp only at hSw)
            go_simp
            all_goals (with_reducible rfl)
          · assumption
          try simp only [Act.put, List.setIfInBounds_toArray, List.set_cons_zero, List.set_cons_succ]
          refine wpAnyH_done (by kernel_rfl) ?_ _
          clear hHeld b0 b2 b3 C1 C2 C3
          go_wp2
          go_roundg (n - (i + 1))
          case measure => have := HKK.out; have := HIN.out; omega
          case rel => exact ⟨i + 1, _, M', tot', HIN.out, Lib.hid rfl, rfl, Lib.hid (HX.out.1.keep B3.out), Lib.hid ⟨HX.out.2.1.keep B3.out, by have := HX.out.2.2.2; have := B3.out.size; have := Y5.out; omega⟩⟩
        case stop =>
          rintro D c pre X hD hpre h hd
          exact h.elim
    · as_aux_lemma =>
        have hie : i = n := by omega
        subst hie
        clear hin hi HKK
        obtain ⟨wz, hwz⟩ : ∃ wz, wz = wr := ⟨_, rfl⟩
        rw [← hwz] at HS HD ⊢
        clear hwz
        obtain ⟨m, hm⟩ : ∃ m, m = M.length := ⟨_, rfl⟩
        obtain ⟨A', c', hv', hmc, hcm, hAg⟩ := HS.out.mo.row.slice
        rw [← hm] at hv' hmc hAg
        subst hv'
        have hmN : m ≤ N := by have := (uni_of HS.out.at_).2.1; rw [HQN.out] at this; omega
        have tm8 : (m : Int) ≤ 8 := by have := HN.out; omega
        have HM := Lib.hid hm
        have HAG := Lib.hid (show 0 < m → ∃ g, A' = some ⟨g, 0, none⟩ from fun h => by obtain ⟨g, h1, _⟩ := hAg h; exact ⟨g, h1⟩)
        have HBD := Lib.hid (sm_bd HS.out.at_)
        clear hm hmN hmc hcm hAg
        have kp := HS.out.kp.rd
        have km := HS.out.mo.hm.rd
        go_upto_region 24 with (fail)
        go_wp2_with (fail)
        clear kp km
        go_loopg [125] m (fun kk si wr => ∃ (j : Nat), j ≤ m ∧ Hid (kk = m - j) ∧ si = .int .i64 (j : Int) ∧ Hid (RuS w wr rb pb mb B (.slice A' m c') Q M tot M tot) ∧ Hid (MarkS w.heap.size wr ds))
        case atStart => exact ⟨0, by omega, Lib.hid rfl, rfl, HS, Lib.hid HD.out.1⟩
        case round =>
          obtain ⟨j, hj, HJJ, rfl, HA, HD2⟩ := hrel
          by_cases hjm : j < m
          · obtain ⟨⟨s, nn, ee⟩, hx⟩ : ∃ a, M[j]? = some a := ⟨_, List.getElem?_eq_getElem (by have := HM.out; omega)⟩
            obtain ⟨g, hg⟩ := HAG.out (by omega)
            subst hg
            have q0 : wr.cell? ⟨g, j * 3, none⟩ = some (.string s) := HA.out.mo.row.cell triV_l hx (j := 0) (by omega)
            have q1 : wr.cell? ⟨g, j * 3 + 1, none⟩ = some (.int .i64 nn) := HA.out.mo.row.cell triV_l hx (j := 1) (by omega)
            have q2 : wr.cell? ⟨g, j * 3 + 2, none⟩ = some (.int .i64 ee) := HA.out.mo.row.cell triV_l hx (j := 2) (by omega)
            obtain ⟨x1, x2, ex1, kr, kw, ex2, bl2, kc2⟩ := box3 wr 42 (.string ⟨#[]⟩) (.int .i64 0) (.int .i64 0) (.string s) (.int .i64 nn) (.int .i64 ee)
            have kc3 := kc2.rd
            have KC := Lib.hid kc2
            have HA2 := Lib.hid (HA.out.keep bl2)
            have HD3 := Lib.hid (HD2.out.keep bl2)
            have HJM := Lib.hid hjm
            have t4 : (0 : Int) ≤ (j : Int) := by omega
            have t5 : (j : Int) < (m : Int) := by omega
            have fj : IntKind.i64.wrap ((j : Int) + 1) = ((j + 1 : Nat) : Int) := by rw [IntKind.wrap_i64]; omega
            have b1 : (nn != nn) = false := by simp
            have b2 : (ee != ee) = false := by simp
            have CC := Lib.hid (show Calls Try.prog 21 #[.pointer (some ⟨Q.s, 0, none⟩), .string s] x2 (fun e w' => e = .returned (.tuple #[.int .i64 nn, .int .i64 ee, .bool true]) ∧ Below x2.heap.size x2 w') from smcountM_yes j (s, nn, ee) (by have := (HBD.out _ (List.mem_of_getElem? hx)).2.2; simp only at this ⊢; unfold maxLen; omega) x2 HA2.out.at_ hx)
            clear bl2 kc2 hx hjm
            go_upto_region 27 with (fail)
            clear kr kw ex1 ex2 q0 q1 q2
            go_upto_region 28 with (go_at_call 21; ((with_reducible refine CC.out.mono ?_); rintro e w5 ⟨rfl, b5⟩; have HA5 := Lib.hid (HA2.out.keep b5); have HD5 := Lib.hid (HD3.out.keep b5); have kc4 := (KC.out.keep b5).rd; clear b5))
            clear kc3
            go_wp2
            go_roundg (m - (j + 1))
            case measure => have := HJJ.out; have := HJM.out; omega
            case rel => exact ⟨j + 1, HJM.out, Lib.hid rfl, rfl, HA5, HD5⟩
          · have hjm2 : j = m := by omega
            subst hjm2
            clear hj hjm HJJ
            obtain ⟨wy, hwy⟩ : ∃ wy, wy = wr := ⟨_, rfl⟩
            rw [← hwy] at HA HD2 ⊢
            clear hwy
            obtain ⟨L0, σ0, g0, hL0⟩ := HA.out.at_
            have CC := Lib.hid (smclear_any wy g0)
            have HU := Lib.hid (show ∀ k, Q.F k → wy.heap[k]? ≠ some (.deferred (some [])) from fun k hk => g0.unmarked k (Or.inl hk))
            clear g0 hL0
            go_upto_region 32 with (go_at_call 22; ((with_reducible refine CC.out.mono ?_); rintro e w5 ⟨rfl, ⟨ρ, h1⟩, f1⟩; have H1 := Lib.hid (And.intro h1 f1); clear h1 f1))
            have hq := HQ.out
            have hb := HB2.out
            have H5 := Lib.hid (show SmM w5 Q [] 0 ∧ Blk w5 rb 4 #[.bool false] ∧ Below w.heap.size w w5 ∧ MarkS w.heap.size w5 ds from
              ⟨⟨[], ρ, H1.out.1, rfl⟩, HA.out.kr.fr H1.out.2 (fun e => by have := (hq _ (Or.inl e)).1; omega), HA.out.bl.trans (H1.out.2.below HA.out.bl.size (fun k hk => (hq k (Or.inl hk)).2.1)), HD2.out.fr H1.out.2 (fun k hk => HU.out k hk)⟩)
            have C1 := Lib.hid (fun wx (h : SmM wx Q [] 0) => show Calls Try.prog 18 #[.pointer (some ⟨Q.s, 0, none⟩)] wx (fun e w' => e = .returned (.int .i64 0) ∧ wx = w') from smlenM wx h)
            have C2 := Lib.hid (fun wx (h : SmM wx Q [] 0) => show Calls Try.prog 19 #[.pointer (some ⟨Q.s, 0, none⟩)] wx (fun e w' => e = .returned (.int .i64 0) ∧ wx = w') from smtotalM wx h)
            have C3 := Lib.hid (fun wx (h : SmM wx Q [] 0) => show Calls Try.prog 20 #[.pointer (some ⟨Q.s, 0, none⟩)] wx (fun e w' => e = .returned (.int .i64 0) ∧ Below wx.heap.size wx w') from by
              have := smleastM wx h rfl
              have e : leastM Q.N.n [] = 0 := by unfold leastM; rw [HQN.out, if_pos (by have := HN.out; simp; omega)]
              rw [e] at this
              exact this)
            have C4 := Lib.hid (fun wx (h : SmM wx Q [] 0) => show Calls Try.prog 23 #[.pointer (some ⟨Q.s, 0, none⟩), .int .i64 5] wx (fun e w' => ∃ A c, e = .returned (.slice A 0 c) ∧ Below wx.heap.size wx w') from by
              have := smtopM 5 (by omega) h
              simp only [List.length_nil, Nat.min_zero] at this
              exact this.mono (fun e w' ⟨A, c, h1, _, h3⟩ => ⟨A, c, h1, h3⟩))
            clear hq hb CC
            go_wp2_with (first
              | (go_at_call 18; ((with_reducible refine (C1.out _ H5.out.1).mono ?_); rintro e wx ⟨rfl, rfl⟩))
              | (go_at_call 19; ((with_reducible refine (C2.out _ H5.out.1).mono ?_); rintro e wx ⟨rfl, rfl⟩))
              | (go_at_call 20; ((with_reducible refine (C3.out _ H5.out.1).mono ?_); rintro e w6 ⟨rfl, b6⟩; have H6 := Lib.hid (show SmM w6 Q [] 0 ∧ Blk w6 rb 4 #[.bool false] ∧ Below w.heap.size w w6 ∧ MarkS w.heap.size w6 ds from ⟨H5.out.1.keep b6, H5.out.2.1.keep b6, below_in H5.out.2.2.1 b6, H5.out.2.2.2.keep b6⟩); clear b6))
              | (go_at_call 23; ((refine (C4.out _ H6.out.1).mono ?_); rintro e w7 ⟨Az, cz, rfl, b7⟩; have H7 := Lib.hid (show SmM w7 Q [] 0 ∧ Blk w7 rb 4 #[.bool false] ∧ Below w.heap.size w w7 ∧ MarkS w.heap.size w7 ds from ⟨H6.out.1.keep b7, H6.out.2.1.keep b7, below_in H6.out.2.2.1 b7, H6.out.2.2.2.keep b7⟩); have z1 := H7.out.2.1.rd; have z1w := H7.out.2.1.wr; clear b7)))
            exact bodyM_laws rfl Try.underlying4 rfl H7.out.2.2.2 rfl H7.out.2.1 H7.out.2.2.1 (by have := BB.out; omega)
end Go.Proofs.Ytnpiimaapholiaa
