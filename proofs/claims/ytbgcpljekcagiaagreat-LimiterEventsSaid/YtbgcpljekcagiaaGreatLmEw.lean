import Derived.Test.YtbgcpljekcagiaaGreatZLmN
import Derived.Test.YtbgcpljekcagiaaGreatZLiftS
/- The law LimiterEvents of layer 12 (limiter), walked. -/
namespace Go.Proofs.YtbgcpljekcagiaaGreat
set_option linter.unusedSimpArgs false
set_option linter.unusedVariables false
set_option maxRecDepth 100000
open Go.ChangeShapes Go.WideShapes Go.ChangeAt Go.RowKit
open Ar (inR)
theorem own_apart {w w' : World} {base : Nat} {e : TypeId} {size n b : Nat} {v : Value} {xs : List Value} (h : w.ownsRow base e size v n xs) (hf : Fr (fun k => k = b) w w') (hb : ∀ g, v.ownBlock = some g → g ≠ b) : w'.ownsRow base e size v n xs := by
  refine ⟨h.1, ?_⟩
  rcases h.2 with h0 | ⟨g, cap, cur, hv, hbg, hg, h1⟩
  · exact Or.inl h0
  · exact Or.inr ⟨g, cap, cur, hv, hbg, by rw [hf.block g (lt_of_block hg) (hb g (by rw [hv]; rfl))]; exact hg, h1⟩
theorem ew_own_lt {w : World} {base : Nat} {e : TypeId} {size n : Nat} {v : Value} {xs : List Value} (h : w.ownsRow base e size v n xs) : ∀ g, v.ownBlock = some g → g < w.heap.size := by
  intro g hg
  rcases h.2 with ⟨rfl, _⟩ | ⟨g', cap, cur, rfl, hb, hbk, _⟩
  · cases hg
  · have : g' = g := by simpa [Value.ownBlock] using hg
    rw [← this]
    exact lt_of_block hbk
theorem stepC_le : ∀ (l : List (ByteArray × Bool)) (c : Nat), l.foldl stepC c ≤ c + l.length
  | [], c => Nat.le_refl _
  | x :: l, c => by
    have h := stepC_le l (stepC c x)
    have : stepC c x ≤ c + 1 := by unfold stepC; split <;> omega
    rw [List.foldl_cons, List.length_cons]
    omega
theorem boxE (X : World) (k : ByteArray) (u : Bool) (t : Int) : ∃ w1 w2, X.alloc (.cells #[.int .i64 0, .string ⟨#[]⟩, .bool false, .int .i64 0] 70) = w1 ∧
    (∀ j, w1.cell? ⟨X.heap.size, j, none⟩ = (#[.int .i64 0, .string ⟨#[]⟩, .bool false, .int .i64 0] : Array Value)[j]?) ∧ (∀ j, w1.frozen? ⟨X.heap.size, j, none⟩ = false) ∧
    (((w1.setCell ⟨X.heap.size, 0, none⟩ (.int .i64 0)).setCell ⟨X.heap.size, 1, none⟩ (.string k)).setCell ⟨X.heap.size, 2, none⟩ (.bool u)).setCell ⟨X.heap.size, 3, none⟩ (.int .i64 t) = w2 ∧
    Below X.heap.size X w2 ∧ Blk w2 X.heap.size 70 #[.int .i64 0, .string k, .bool u, .int .i64 t] := by
  obtain ⟨w1, hw1, kc1, l1, s1⟩ := box_new X #[.int .i64 0, .string ⟨#[]⟩, .bool false, .int .i64 0] 70
  exact ⟨w1, _, hw1, kc1.rd, kc1.wr, four_setC kc1, l1.trans ((Fr.setObj (F := fun k => k = X.heap.size) (Fr.refl _ _) rfl _).below l1.size (fun k hk => by omega)), setObj_at (lt_of_block kc1) _⟩
set_option maxRecDepth 100000 in
set_option maxHeartbeats 6000000 in
theorem lmevents_law (w : World) (a b c d e f g h : Int) (sm : Bool) (A : Option Addr) (n c0 : Nat) (zs : List Int) (A2 : Option Addr) (n2 c2 : Nat) (L : List Cl) (hpl : RuleOK a b c d e f g h) (hr : RdI w .u64 A n c0 zs) (hr2 : RdL w A2 n2 c2 4 encCl L) (hok : ∀ a ∈ L, okCl a) :
    Calls Tryz.prog 8 #[planV a b c d e f g h sm, .slice A n c0, .slice A2 n2 c2] w fun e w' => e = .returned (.bool true) ∧ Below w.heap.size w w' := by
  clear hpl
  have hmm := @run_makeMap Tryz.prog
  have hmx2 := hr2.max
  unfold maxLen at hmx2
  have hcp2 := hr2.cap
  have HR2 := Lib.hid hr2
  have HO := Lib.hid hok
  have hmx1 := hr.max
  unfold maxLen at hmx1
  have hcp1 := hr.cap
  have HR1 := Lib.hid hr
  clear hr
  clear hr2 hok
  obtain ⟨w1, hw1, k1, l1', s1⟩ := box_new w (planC a b c d e f g h sm) 23
  obtain ⟨pl, hpl⟩ : ∃ x, x = w.heap.size := ⟨_, rfl⟩
  rw [← hpl] at k1
  have K2 := Lib.hid (And.intro k1 l1')
  have HB := Lib.hid hpl
  clear k1 l1' s1
  go_enter Tryz.func8, Tryz.ntmps8
  go_upto_region 1 with (fail)
  rw [← HB.out]
  clear hw1 hpl
  go_upto_region 3 with (go_at_call 15; ((refine (lmfit_any _).mono ?_); rintro e w3 ⟨rfl, b3⟩; have K3 := Lib.hid (And.intro (K2.out.1.keep b3) (below_in K2.out.2 b3)); clear b3))
  by_cases hn60 : 60 < n
  · have t60 : decide ((60 : Int) < (n : Int)) = true := by rw [decide_eq_true_iff]; omega
    clear hn60
    go_wp2
    go_ret
    exact ⟨rfl, K3.out.2⟩
  have t60 : decide ((60 : Int) < (n : Int)) = false := by rw [decide_eq_false_iff_not]; omega
  clear hn60
  have CLi := Lib.hid (lmlight_any A2 n2 c2 L w3 (HR2.out.below K3.out.2) HO.out)
  cases hlb : lightC L with
  | false =>
    rw [hlb] at CLi
    go_wp2_with (go_at_call 16; ((with_reducible refine CLi.out.mono ?_); rintro e w4 ⟨rfl, b4⟩; have T4 := Lib.hid (below_in K3.out.2 b4); clear b4))
    go_ret
    exact ⟨rfl, T4.out⟩
  | true =>
  rw [hlb] at CLi
  have hlc := lightC_at hlb
  have hlen := hlc.1
  have HLK := Lib.hid hlc.2
  have hln := HR2.out.len
  have hb2 : (n2 : Int) ≤ 150 := by omega
  clear hlb hlen hln hlc
  go_upto_region 5 with (go_at_call 16; ((with_reducible refine CLi.out.mono ?_); rintro e w4 ⟨rfl, b4⟩; have K4 := Lib.hid (And.intro (K3.out.1.keep b4) (below_in K3.out.2 b4)); clear b4))
  clear CLi
  have kp := K4.out.1.rd
  have CRu := Lib.hid (lmrule_any a b c d e f g h sm w4)
  obtain ⟨Li, hLm⟩ : ∃ x, x = lqL a := ⟨_, rfl⟩
  obtain ⟨Wd, hWd⟩ : ∃ x, x = ((lqS b * lqN d : Nat) : Int) := ⟨_, rfl⟩
  obtain ⟨Bu, hBu⟩ : ∃ x, x = lqB a c := ⟨_, rfl⟩
  obtain ⟨Sl, hSl⟩ : ∃ x, x = ((lqN d : Nat) : Int) := ⟨_, rfl⟩
  obtain ⟨Ce, hCe⟩ : ∃ x, x = ((lqC e : Nat) : Int) := ⟨_, rfl⟩
  obtain ⟨kR, hkR⟩ : ∃ x, x = ((lqR f : Nat) : Int) := ⟨_, rfl⟩
  obtain ⟨Wi, hWi⟩ : ∃ x, x = ((lqW g : Nat) : Int) := ⟨_, rfl⟩
  obtain ⟨Tr, hTr⟩ : ∃ x, x = ((lqT h : Nat) : Int) := ⟨_, rfl⟩
  obtain ⟨smm, hsm⟩ : ∃ x, x = lqM sm d := ⟨_, rfl⟩
  rw [← hLm, ← hWd, ← hBu, ← hSl, ← hCe, ← hkR, ← hWi, ← hTr, ← hsm] at CRu
  have CNw := Lib.hid (fun wx (hx : Below w.heap.size w wx) => show Calls Tryz.prog 18 #[rlV Li Wd Bu Sl Ce kR Wi Tr smm, .slice A n c0] wx _ from by rw [hLm, hWd, hBu, hSl, hCe, hkR, hWi, hTr, hsm]; exact lmplan_new a b c d e f g h (lqM sm d) A n c0 zs wx (HR1.out.below hx))
  have HP := Lib.hid (And.intro hLm (And.intro hWd (And.intro hBu (And.intro hSl (And.intro hCe (And.intro hkR (And.intro hWi (And.intro hTr hsm))))))))
  clear hLm hWd hBu hSl hCe hkR hWi hTr hsm
  go_upto_region 6 with (go_at_call 17; ((with_reducible refine CRu.out.mono ?_); rintro e w5 ⟨rfl, b5⟩; obtain ⟨y1, y2, ey1, kr9, kw9, ey2, bl9, kc9⟩ := box9R w5 (.int .i64 Li) (.int .i64 Wd) (.int .i64 Bu) (.int .i64 Sl) (.int .i64 Ce) (.int .i64 kR) (.int .i64 Wi) (.int .i64 Tr) (.bool smm); have K6 := Lib.hid (And.intro kc9 (below_in (below_in K4.out.2 b5) bl9)); clear b5 bl9 kc9))
  clear ey1 kr9 kw9 ey2 kp CRu
  obtain ⟨rb, hrb⟩ : ∃ rb, rb = w5.heap.size := ⟨_, rfl⟩
  rw [← hrb] at K6 ⊢
  clear hrb
  have kru := K6.out.1.rd
  go_upto_region 7 with (go_at_call 18; ((with_reducible refine (CNw.out _ K6.out.2).mono ?_); rintro v w7 ⟨N, rfl, a7, p7, n7, b7⟩; have P7 := Lib.hid p7; have G7 := Lib.hid (show LmLaw w w7 N (lmZ (lqC e)) 0 0 from ⟨a7, lmplan_I a7 p7, fun b hb => Nat.le_trans K6.out.2.size (n7 b hb), below_in K6.out.2 b7⟩); have R7 := Lib.hid (K6.out.1.keep b7); have NR7 := Lib.hid (show ¬ N.all rb from fun hb => by have := n7 rb hb; have := lt_of_block K6.out.1; omega); clear a7 p7 n7 b7))
  clear CNw kru
  have HPB := Lib.hid (show LmB N ∧ N.B = Bu ∧ 1 ≤ Bu ∧ Bu ≤ 32 from by rw [HP.out.2.2.1]; exact lmplan_B P7.out)
  have HQN := Lib.hid (show N.Q.N.n = lqC e ∧ Ce = ((lqC e : Nat) : Int) ∧ 1 ≤ lqC e ∧ lqC e ≤ 8 from ⟨P7.out.pC, HP.out.2.2.2.2.1, by unfold lqC; omega, by unfold lqC; omega⟩)
  go_upto_region 8 with (fail)
  have hm0 : Mp.MapS Tryz.prog 9 (w7.alloc (.map #[] 0)) w7.heap.size 0 (fun _ => none) := Mp.MapS.new (P := Tryz.prog) (k := 9) w7
  obtain ⟨mb, hmb⟩ : ∃ mb, mb = w7.heap.size := ⟨_, rfl⟩
  have HMB := Lib.hid (show (¬ N.all mb) ∧ w.heap.size ≤ mb ∧ rb < mb from ⟨fun hh => by have := G7.out.at_.lt _ hh; omega, by have := G7.out.bl.size; omega, by have := lt_of_block R7.out; omega⟩)
  have bl9 : Below w7.heap.size w7 (w7.alloc (.map #[] 0)) := (Below.refl _ _).alloc (Nat.le_refl _) _
  rw [← hmb] at hm0 ⊢
  have G9' := Lib.hid (G7.out.keep bl9)
  have R9' := Lib.hid (R7.out.keep bl9)
  have hth : thereM N.Q.N.n (lmZ (lqC e)).σ = fun _ => none := by
    funext k
    unfold thereM
    rw [if_neg]
    intro h
    obtain ⟨i, _, hi⟩ := posN_iff.1 h
    cases hi
  have hc0 : N.Q.N.n - (lmZ (lqC e)).σ.fl.length = 0 := by
    rw [HQN.out.1]
    show lqC e - (List.range (lqC e)).reverse.length = 0
    simp
  have M9 := Lib.hid (show Mp.MapS Tryz.prog 9 (w7.alloc (.map #[] 0)) mb (N.Q.N.n - (lmZ (lqC e)).σ.fl.length) (thereM N.Q.N.n (lmZ (lqC e)).σ) from by rw [hth, hc0]; exact hm0)
  generalize w7.alloc (.map #[] 0) = w9 at G9' R9' M9 ⊢
  clear hm0 hmb bl9 hmm hth hc0
  go_wp2
  go_loopg [38, 10] n2 (fun kk si sn wr => ∃ (i : Nat) (t : Int) (s : LmS), i ≤ n2 ∧ Hid (kk = n2 - i) ∧ si = .int .i64 (i : Int) ∧ sn = .int .i64 t ∧ Hid (0 ≤ t ∧ t ≤ 1023 * (i : Int)) ∧ Hid (LmLaw w wr N s t (2097153 * (i : Int))) ∧ Hid (Blk wr rb 29 #[.int .i64 Li, .int .i64 Wd, .int .i64 Bu, .int .i64 Sl, .int .i64 Ce, .int .i64 kR, .int .i64 Wi, .int .i64 Tr, .bool smm]) ∧ Hid (Mp.MapS Tryz.prog 9 wr mb (N.Q.N.n - s.σ.fl.length) (thereM N.Q.N.n s.σ)))
  case atStart => exact ⟨0, 0, lmZ (lqC e), by omega, Lib.hid rfl, rfl, rfl, Lib.hid (by omega), G9', R9', M9⟩
  case round =>
    obtain ⟨i, t, s, hi, HKK, rfl, rfl, HT, HG, HRB, HMP⟩ := hrel
    by_cases hin : i < n2
    · have hl2 := HR2.out.len
      obtain ⟨b', off, rfl, hbl, hcl⟩ := (HR2.out.below HG.out.bl).at_ (by omega)
      obtain ⟨⟨gp, cs, ky, pk⟩, ha⟩ : ∃ a, L[i]? = some a := ⟨_, List.getElem?_eq_getElem (by omega)⟩
      have HKY := Lib.hid (HLK.out _ (List.mem_of_getElem? ha))
      have hky : ky.size ≤ 64 := HKY.out
      have HCS := Lib.hid (HO.out _ (List.mem_of_getElem? ha))
      have kr0 : wr.cell? ⟨b', off + i * 4, none⟩ = some (.int .i64 gp) := hcl i _ ha 0 (by omega)
      have kr1 : wr.cell? ⟨b', off + i * 4 + 1, none⟩ = some (.int .i64 cs) := hcl i _ ha 1 (by omega)
      have kr2 : wr.cell? ⟨b', off + i * 4 + 2, none⟩ = some (.string ky) := hcl i _ ha 2 (by omega)
      have kr3 : wr.cell? ⟨b', off + i * 4 + 3, none⟩ = some (.bool pk) := hcl i _ ha 3 (by omega)
      obtain ⟨y1, y2, ey1, kr, kw, ey2, bl2, kc2⟩ := box4C wr (.int .i64 gp) (.int .i64 cs) (.string ky) (.bool pk)
      have G6 := Lib.hid (HG.out.keep bl2)
      obtain ⟨bx, hbx⟩ : ∃ bx, bx = wr.heap.size := ⟨_, rfl⟩
      have HBX := Lib.hid (show (¬ N.all bx) ∧ w.heap.size ≤ bx ∧ bx < y2.heap.size ∧ mb < bx from ⟨fun hh => by have := HG.out.at_.lt bx hh; omega, by have := HG.out.bl.size; omega, by have := lt_of_block kc2; omega, by have := HMP.out.lt; omega⟩)
      rw [← hbx] at kc2
      have kc3 := kc2.rd
      have KC := Lib.hid kc2
      have KRu := Lib.hid (HRB.out.keep bl2)
      have KMp := Lib.hid (HMP.out.keep bl2)
      have hgb := gapL_bd gp
      obtain ⟨gq, hgq⟩ : ∃ x, x = gapL gp := ⟨_, rfl⟩
      have HGQ := Lib.hid hgq
      have CG := Lib.hid (fun wx => gapL_any gp wx)
      rw [← hgq] at CG hgb
      obtain ⟨t', ht'⟩ : ∃ x, x = t + gq := ⟨_, rfl⟩
      have hT := HT.out
      have et : IntKind.i64.wrap (t + gq) = t' := by rw [IntKind.wrap_i64]; omega
      have HT' := Lib.hid (show (0 ≤ t' ∧ t' ≤ 1023 * ((i : Int) + 1)) ∧ t ≤ t' ∧ t' ≤ 4611686018427380000 ∧ t' = t + gq by omega)
      have CC := Lib.hid (fun wx => costL_any Li Wd Bu Sl Ce kR Wi Tr smm cs ⟨HPB.out.2.2.1, HPB.out.2.2.2⟩ wx)
      have hqb := costL_bd (n := cs) ⟨HPB.out.2.2.1, HPB.out.2.2.2⟩
      obtain ⟨q, hq⟩ : ∃ x, x = costL Bu cs := ⟨_, rfl⟩
      rw [← hq] at CC hqb
      have HQ := Lib.hid (And.intro hqb hq)
      have t2 : (i : Int) < (n2 : Int) := by omega
      have HIN := Lib.hid hin
      clear hl2 hcl hbl bl2 kc2 hgb hgq ht' hT hq hin hqb hky
      go_upto_region 12 with (fail)
      rw [← hbx]
      have HBXS := Lib.hid hbx
      clear kr kw ey1 kr0 kr1 kr2 kr3 ey2 hbx
      have krl := KRu.out.rd
      go_upto_region 13 with (go_at_call 20; ((with_reducible refine (CG.out _).mono ?_); rintro v y3 ⟨rfl, rfl⟩))
      clear CG et kc3 krl
      have HG6 := Lib.hid (G6.out.mono (t' := t') (m' := 2097153 * (i : Int)) (by have := HT'.out; omega) (by omega))
      have PCK := Lib.hid (check_pool (N := N) (s := s) (now := t') (held := 0) (cost := q) HG.out.at_.ks HKY.out)
      have CCk := Lib.hid (fun wx (hx : LmAt wx N s) => lmcheckI t' 0 ky q (by have := HKY.out; unfold maxLen; omega) (by unfold inR; omega) (by have := HQ.out; unfold inR; omega) wx hx HG6.out.I (by omega))
      have CI := Lib.hid (HG6.out.I.check (by omega) 0 ky q)
      have hel := check_ev (N := N) (s := s) (now := t') (held := 0) (cost := q) ky
      obtain ⟨⟨s2, ⟨cv, cr, ct⟩, ev⟩, hck⟩ : ∃ z, z = s.check N t' 0 ky q := ⟨_, rfl⟩
      rw [← hck] at CCk CI PCK hel
      clear hck
      dsimp only at CCk CI PCK hel
      have HEL := Lib.hid hel
      clear hel
      have M0' := Lib.hid (show (thereM N.Q.N.n s.σ) = (thereM N.Q.N.n s.σ) from rfl)
      obtain ⟨mM, hmM⟩ : ∃ z, z = thereM N.Q.N.n s.σ := ⟨_, rfl⟩
      obtain ⟨mc, hmc⟩ : ∃ z, z = N.Q.N.n - s.σ.fl.length := ⟨_, rfl⟩
      rw [← hmM, ← hmc] at PCK KMp
      have HMC := Lib.hid (show mc ≤ 8 from by have := HQN.out; omega)
      clear hmM hmc M0'
      go_cut [13, 14] from 47 (fun s13 s14 wx => ∃ base : Nat, Hid (LmLaw w wx N s2 t' (2097153 * (i : Int) + 2097153)) ∧ Hid (Blk wx rb 29 #[.int .i64 Li, .int .i64 Wd, .int .i64 Bu, .int .i64 Sl, .int .i64 Ce, .int .i64 kR, .int .i64 Wi, .int .i64 Tr, .bool smm]) ∧ Hid (Blk wx bx 36 #[.int .i64 gp, .int .i64 cs, .string ky, .bool pk]) ∧ Hid (Mp.MapS Tryz.prog 9 wx mb mc mM) ∧ Hid (wx.ownsRow base 70 4 s14 ev.length (evL t' ev)) ∧ Hid (mb < base))
      case first =>
        obtain ⟨W0, hW0⟩ : ∃ z, z = y2.drew := ⟨_, rfl⟩
        have BN := Lib.hid (show Below y2.heap.size y2 W0 from by rw [hW0]; exact below_draws (Below.refl _ _) 1)
        have st : (∀ j, y2.drew.cell? ⟨rb, j, none⟩ = (#[.int .i64 Li, .int .i64 Wd, .int .i64 Bu, .int .i64 Sl, .int .i64 Ce, .int .i64 kR, .int .i64 Wi, .int .i64 Tr, .bool smm] : Array Value)[j]?) ∧ (∀ j, y2.drew.cell? ⟨bx, j, none⟩ = (#[.int .i64 gp, .int .i64 cs, .string ky, .bool pk] : Array Value)[j]?) := ⟨KRu.out.drew.rd, KC.out.drew.rd⟩
        refine wp_region_held_drew (S := fun wx => (∀ j, wx.cell? ⟨rb, j, none⟩ = (#[.int .i64 Li, .int .i64 Wd, .int .i64 Bu, .int .i64 Sl, .int .i64 Ce, .int .i64 kR, .int .i64 Wi, .int .i64 Tr, .bool smm] : Array Value)[j]?) ∧ (∀ j, wx.cell? ⟨bx, j, none⟩ = (#[.int .i64 gp, .int .i64 cs, .string ky, .bool pk] : Array Value)[j]?)) (by kernel_rfl) st (fun hHeld => ?_)
        clear st
        rw [← hW0] at hHeld ⊢
        have Gx0 := Lib.hid (HG6.out.keep BN.out)
        have Rx0 := Lib.hid (KRu.out.keep BN.out)
        have Kx0 := Lib.hid (KC.out.keep BN.out)
        have Mx0 := Lib.hid (KMp.out.keep BN.out)
        clear hW0
        refine wpAnyH_take (i := 0) (oi := ?_) (v := ?_) ?_ ?_ ?_ ?_ ?_ ?_ ?_ ?_
        rotate_left 2
        · simp only [List.getElem?_toArray, List.getElem?_cons_succ, List.getElem?_cons_zero]; rfl
        · kernel_rfl
        · kernel_rfl
        · kernel_rfl
        · exact fun _ _ _ h => h
        · refine Or.inl ⟨by rfl, ?_⟩
          intro w' hSw
          (try dsimp only at hSw)
          go_simp
          all_goals (with_reducible rfl)
        · assumption
        try simp only [Act.put, List.setIfInBounds_toArray, List.set_cons_zero, List.set_cons_succ]
        refine wpAnyH_take (i := 1) (oi := ?_) (v := ?_) ?_ ?_ ?_ ?_ ?_ ?_ ?_ ?_
        rotate_left 2
        · simp only [List.getElem?_toArray, List.getElem?_cons_succ, List.getElem?_cons_zero]; rfl
        · kernel_rfl
        · kernel_rfl
        · kernel_rfl
        · exact fun _ _ _ h => h
        · refine Or.inl ⟨by rfl, ?_⟩
          intro w' hSw
          (try dsimp only at hSw)
          go_simp
          all_goals (with_reducible rfl)
        · assumption
        try simp only [Act.put, List.setIfInBounds_toArray, List.set_cons_zero, List.set_cons_succ]
        refine wpAnyH_take (i := 2) (oi := ?_) (v := ?_) ?_ ?_ ?_ ?_ ?_ ?_ ?_ ?_
        rotate_left 2
        · simp only [List.getElem?_toArray, List.getElem?_cons_succ, List.getElem?_cons_zero]; rfl
        · kernel_rfl
        · kernel_rfl
        · kernel_rfl
        · exact fun _ _ _ h => h
        · refine Or.inl ⟨by rfl, ?_⟩
          intro w' hSw
          (try dsimp only at hSw)
          go_simp
          all_goals (with_reducible rfl)
        · assumption
        try simp only [Act.put, List.setIfInBounds_toArray, List.set_cons_zero, List.set_cons_succ]
        refine wpAnyH_take (i := 3) (oi := ?_) (v := ?_) ?_ ?_ ?_ ?_ ?_ ?_ ?_ ?_
        rotate_left 2
        · simp only [List.getElem?_toArray, List.getElem?_cons_succ, List.getElem?_cons_zero]; rfl
        · kernel_rfl
        · kernel_rfl
        · kernel_rfl
        · exact fun _ _ _ h => h
        · refine Or.inl ⟨by rfl, ?_⟩
          intro w' hSw
          (try dsimp only at hSw)
          go_simp
          all_goals (with_reducible rfl)
        · assumption
        try simp only [Act.put, List.setIfInBounds_toArray, List.set_cons_zero, List.set_cons_succ]
        refine wpAnyH_take (i := 4) (oi := ?_) (v := ?_) ?_ ?_ ?_ ?_ ?_ ?_ ?_ ?_
        rotate_left 2
        · simp only [List.getElem?_toArray, List.getElem?_cons_succ, List.getElem?_cons_zero]; rfl
        · kernel_rfl
        · kernel_rfl
        · kernel_rfl
        · exact fun _ _ _ h => h
        · refine Or.inl ⟨by rfl, ?_⟩
          intro w' hSw
          (try dsimp only at hSw)
          go_simp
          all_goals (with_reducible rfl)
        · assumption
        try simp only [Act.put, List.setIfInBounds_toArray, List.set_cons_zero, List.set_cons_succ]
        refine wpAnyH_take (i := 5) (oi := ?_) (v := ?_) ?_ ?_ ?_ ?_ ?_ ?_ ?_ ?_
        rotate_left 2
        · simp only [List.getElem?_toArray, List.getElem?_cons_succ, List.getElem?_cons_zero]; rfl
        · kernel_rfl
        · kernel_rfl
        · kernel_rfl
        · exact fun _ _ _ h => h
        · refine Or.inl ⟨by rfl, ?_⟩
          intro w' hSw
          (try dsimp only at hSw)
          go_simp
          all_goals (with_reducible rfl)
        · assumption
        try simp only [Act.put, List.setIfInBounds_toArray, List.set_cons_zero, List.set_cons_succ]
        refine wpAnyH_take (i := 6) (oi := ?_) (v := ?_) ?_ ?_ ?_ ?_ ?_ ?_ ?_ ?_
        rotate_left 2
        · simp only [List.getElem?_toArray, List.getElem?_cons_succ, List.getElem?_cons_zero]; rfl
        · kernel_rfl
        · kernel_rfl
        · kernel_rfl
        · exact fun _ _ _ h => h
        · refine Or.inl ⟨by rfl, ?_⟩
          intro w' hSw
          (try dsimp only at hSw)
          go_simp
          all_goals (with_reducible rfl)
        · assumption
        try simp only [Act.put, List.setIfInBounds_toArray, List.set_cons_zero, List.set_cons_succ]
        refine wpAnyH_ready (rs := [7, 12]) (by kernel_rfl) (by simp) ?_
        refine AllReadyH.cons (o := ?_) ?_ ?_ ?_
        rotate_left 1
        · simp only [List.getElem?_toArray, List.getElem?_cons_succ, List.getElem?_cons_zero]; rfl
        rotate_left 1
        · refine AllReadyH.cons (o := ?_) ?_ ?_ ?_
          rotate_left 1
          · simp only [List.getElem?_toArray, List.getElem?_cons_succ, List.getElem?_cons_zero]; rfl
          rotate_left 1
          · exact AllReadyH.nil
          intro K hK
          go_simp
          obtain ⟨W1, hw, kb, lb', sb'⟩ := box_new W0 #[.int .i64 0, .int .i64 0, .int .i64 0] 40; rw [hw]; have Gx1 := Lib.hid (Gx0.out.keep lb'); have Rx1 := Lib.hid (Rx0.out.keep lb'); have Kx1 := Lib.hid (Kx0.out.keep lb'); have Mx1 := Lib.hid (Mx0.out.keep lb'); have hnn : (¬ N.all W0.heap.size) ∧ w.heap.size ≤ W0.heap.size ∧ rb < W0.heap.size ∧ bx < W0.heap.size ∧ mb < W0.heap.size := ⟨fun hh => by have := Gx0.out.at_.lt _ hh; omega, Gx0.out.bl.size, lt_of_block Rx0.out, lt_of_block Kx0.out, Mx0.out.lt⟩; obtain ⟨eb, hbb⟩ : ∃ z, z = W0.heap.size := ⟨_, rfl⟩; rw [← hbb] at kb hnn ⊢; have Ex1 := Lib.hid (And.intro kb hnn); clear hw kb lb' sb' hnn hbb
          refine hK.out _ _ ⟨Rx1.out.rd, Kx1.out.rd⟩ (fun hHeld => ?_)
          clear hK K
          try simp only [Act.put, List.setIfInBounds_toArray, List.set_cons_zero, List.set_cons_succ]
          refine wpAnyH_ready (rs := [7]) (by kernel_rfl) (by simp) ?_
          refine AllReadyH.cons (o := ?_) ?_ ?_ ?_
          rotate_left 1
          · simp only [List.getElem?_toArray, List.getElem?_cons_succ, List.getElem?_cons_zero]; rfl
          rotate_left 1
          · exact AllReadyH.nil
          intro K hK
          go_simp
          ((with_reducible refine (CC.out _).mono ?_); rintro v W2 ⟨rfl, be⟩; have Gx2 := Lib.hid (Gx1.out.keep be); have Rx2 := Lib.hid (Rx1.out.keep be); have Kx2 := Lib.hid (Kx1.out.keep be); have Mx2 := Lib.hid (Mx1.out.keep be); have Ex2 := Lib.hid (And.intro (Ex1.out.1.keep be) Ex1.out.2); clear be)
          refine hK.out _ _ ⟨Rx2.out.rd, Kx2.out.rd⟩ (fun hHeld => ?_)
          clear hK K
          try simp only [Act.put, List.setIfInBounds_toArray, List.set_cons_zero, List.set_cons_succ]
          refine wpAnyH_ready (rs := [8]) (by kernel_rfl) (by simp) ?_
          refine AllReadyH.cons (o := ?_) ?_ ?_ ?_
          rotate_left 1
          · simp only [List.getElem?_toArray, List.getElem?_cons_succ, List.getElem?_cons_zero]; rfl
          rotate_left 1
          · exact AllReadyH.nil
          intro K hK
          go_simp
          (have BX := Lib.hid (show mb < W2.heap.size from Mx2.out.lt); (with_reducible refine (CCk.out _ Gx2.out.at_).mono ?_); rintro e' W3 ⟨vv, rfl, oo, aa, ff⟩; have Gx3 := Lib.hid (Gx2.out.op aa CI.out ff (fun b hb => hb)); have Rx3 := Lib.hid (Rx2.out.fr ff NR7.out); have Kx3 := Lib.hid (Kx2.out.fr ff HBX.out.1); have Mx3 := Lib.hid (Mx2.out.fr ff HMB.out.1); have Ox3 := Lib.hid oo; have Ex3 := Lib.hid (And.intro (Ex2.out.1.fr ff Ex2.out.2.1) Ex2.out.2); clear oo aa ff)
          refine hK.out _ _ ⟨Rx3.out.rd, Kx3.out.rd⟩ (fun hHeld => ?_)
          clear hK K
          try simp only [Act.put, List.setIfInBounds_toArray, List.set_cons_zero, List.set_cons_succ]
          refine wpAnyH_take (i := 9) (oi := ?_) (v := ?_) ?_ ?_ ?_ ?_ ?_ ?_ ?_ ?_
          rotate_left 2
          · simp only [List.getElem?_toArray, List.getElem?_cons_succ, List.getElem?_cons_zero]; rfl
          · kernel_rfl
          · kernel_rfl
          · kernel_rfl
          · exact fun _ _ _ h => h
          · refine Or.inl ⟨by rfl, ?_⟩
            intro w' hSw
            (try dsimp only at hSw)
            go_simp
            all_goals (with_reducible rfl)
          · assumption
          try simp only [Act.put, List.setIfInBounds_toArray, List.set_cons_zero, List.set_cons_succ]
          refine wpAnyH_take (i := 10) (oi := ?_) (v := ?_) ?_ ?_ ?_ ?_ ?_ ?_ ?_ ?_
          rotate_left 2
          · simp only [List.getElem?_toArray, List.getElem?_cons_succ, List.getElem?_cons_zero]; rfl
          · kernel_rfl
          · kernel_rfl
          · kernel_rfl
          · exact fun _ _ _ h => h
          · refine Or.inl ⟨by rfl, ?_⟩
            intro w' hSw
            (try dsimp only at hSw)
            go_simp
            all_goals (with_reducible rfl)
          · assumption
          try simp only [Act.put, List.setIfInBounds_toArray, List.set_cons_zero, List.set_cons_succ]
          refine wpAnyH_take (i := 11) (oi := ?_) (v := ?_) ?_ ?_ ?_ ?_ ?_ ?_ ?_ ?_
          rotate_left 2
          · simp only [List.getElem?_toArray, List.getElem?_cons_succ, List.getElem?_cons_zero]; rfl
          · kernel_rfl
          · kernel_rfl
          · kernel_rfl
          · exact fun _ _ _ h => h
          · refine Or.inl ⟨by rfl, ?_⟩
            intro w' hSw
            (try dsimp only at hSw)
            go_simp
            all_goals (with_reducible rfl)
          · assumption
          try simp only [Act.put, List.setIfInBounds_toArray, List.set_cons_zero, List.set_cons_succ]
          have OE := Lib.hid (show ∀ g, Value.ownBlock vv = some g → g ≠ eb from fun g hg e => by have h1 := Lm.own_base Ox3.out g hg; have h2 := lt_of_block Ex2.out.1; omega)
          have ke := Ex3.out.1.rd
          have kew := Ex3.out.1.wr
          refine wpAnyH_ready (rs := [13]) (by kernel_rfl) (by simp) ?_
          refine AllReadyH.cons (o := ?_) ?_ ?_ ?_
          rotate_left 1
          · simp only [List.getElem?_toArray, List.getElem?_cons_succ, List.getElem?_cons_zero]; rfl
          rotate_left 1
          · exact AllReadyH.nil
          intro K hK
          go_simp
          (rw [three_setC Ex3.out.1]; have f4 := Fr.setObj (F := fun b => b = eb) (Fr.refl _ W3) rfl (.cells #[.int .i64 cv, .int .i64 cr, .int .i64 ct] 40 (0, 0)); generalize setObj W3 eb (.cells #[.int .i64 cv, .int .i64 cr, .int .i64 ct] 40 (0, 0)) = W4 at f4 ⊢; have Gx4 := Lib.hid (LmLaw.box Gx3.out f4 Ex3.out.2.1 Ex3.out.2.2.1); have Rx4 := Lib.hid (Rx3.out.fr f4 (by have := Ex3.out.2; omega)); have Kx4 := Lib.hid (Kx3.out.fr f4 (by have := Ex3.out.2; omega)); have Mx4 := Lib.hid (Mx3.out.fr f4 (by have := Ex3.out.2; omega)); have Ox4 := Lib.hid (own_apart Ox3.out f4 OE.out); clear f4 ke kew)
          refine hK.out _ _ (⟨Rx4.out.rd, Kx4.out.rd⟩) (fun hHeld => ?_)
          clear hK K
          try simp only [Act.put, List.setIfInBounds_toArray, List.set_cons_zero, List.set_cons_succ]
          refine wpAnyH_take (i := 14) (oi := ?_) (v := ?_) ?_ ?_ ?_ ?_ ?_ ?_ ?_ ?_
          rotate_left 2
          · simp only [List.getElem?_toArray, List.getElem?_cons_succ, List.getElem?_cons_zero]; rfl
          · kernel_rfl
          · kernel_rfl
          · kernel_rfl
          · exact fun _ _ _ h => h
          · refine Or.inl ⟨by rfl, ?_⟩
            intro w' hSw
            (try dsimp only at hSw)
            go_simp
            all_goals (with_reducible rfl)
          · assumption
          try simp only [Act.put, List.setIfInBounds_toArray, List.set_cons_zero, List.set_cons_succ]
          refine wpAnyH_done (by kernel_rfl) ?_ _
          clear hHeld
          go_wp2
          go_meet
          case rel => exact ⟨_, Gx4, Rx4, Kx4, Mx4, Ox4, BX⟩
        intro K hK
        go_simp
        (with_reducible refine (CC.out _).mono ?_); rintro v W1 ⟨rfl, be⟩; have Gx1 := Lib.hid (Gx0.out.keep be); have Rx1 := Lib.hid (Rx0.out.keep be); have Kx1 := Lib.hid (Kx0.out.keep be); have Mx1 := Lib.hid (Mx0.out.keep be); clear be
        refine hK.out _ _ ⟨Rx1.out.rd, Kx1.out.rd⟩ (fun hHeld => ?_)
        clear hK K
        try simp only [Act.put, List.setIfInBounds_toArray, List.set_cons_zero, List.set_cons_succ]
        refine wpAnyH_ready (rs := [8, 12]) (by kernel_rfl) (by simp) ?_
        refine AllReadyH.cons (o := ?_) ?_ ?_ ?_
        rotate_left 1
        · simp only [List.getElem?_toArray, List.getElem?_cons_succ, List.getElem?_cons_zero]; rfl
        rotate_left 1
        · refine AllReadyH.cons (o := ?_) ?_ ?_ ?_
          rotate_left 1
          · simp only [List.getElem?_toArray, List.getElem?_cons_succ, List.getElem?_cons_zero]; rfl
          rotate_left 1
          · exact AllReadyH.nil
          intro K hK
          go_simp
          obtain ⟨W2, hw, kb, lb', sb'⟩ := box_new W1 #[.int .i64 0, .int .i64 0, .int .i64 0] 40; rw [hw]; have Gx2 := Lib.hid (Gx1.out.keep lb'); have Rx2 := Lib.hid (Rx1.out.keep lb'); have Kx2 := Lib.hid (Kx1.out.keep lb'); have Mx2 := Lib.hid (Mx1.out.keep lb'); have hnn : (¬ N.all W1.heap.size) ∧ w.heap.size ≤ W1.heap.size ∧ rb < W1.heap.size ∧ bx < W1.heap.size ∧ mb < W1.heap.size := ⟨fun hh => by have := Gx1.out.at_.lt _ hh; omega, Gx1.out.bl.size, lt_of_block Rx1.out, lt_of_block Kx1.out, Mx1.out.lt⟩; obtain ⟨eb, hbb⟩ : ∃ z, z = W1.heap.size := ⟨_, rfl⟩; rw [← hbb] at kb hnn ⊢; have Ex2 := Lib.hid (And.intro kb hnn); clear hw kb lb' sb' hnn hbb
          refine hK.out _ _ ⟨Rx2.out.rd, Kx2.out.rd⟩ (fun hHeld => ?_)
          clear hK K
          try simp only [Act.put, List.setIfInBounds_toArray, List.set_cons_zero, List.set_cons_succ]
          refine wpAnyH_ready (rs := [8]) (by kernel_rfl) (by simp) ?_
          refine AllReadyH.cons (o := ?_) ?_ ?_ ?_
          rotate_left 1
          · simp only [List.getElem?_toArray, List.getElem?_cons_succ, List.getElem?_cons_zero]; rfl
          rotate_left 1
          · exact AllReadyH.nil
          intro K hK
          go_simp
          (have BX := Lib.hid (show mb < W2.heap.size from Mx2.out.lt); (with_reducible refine (CCk.out _ Gx2.out.at_).mono ?_); rintro e' W3 ⟨vv, rfl, oo, aa, ff⟩; have Gx3 := Lib.hid (Gx2.out.op aa CI.out ff (fun b hb => hb)); have Rx3 := Lib.hid (Rx2.out.fr ff NR7.out); have Kx3 := Lib.hid (Kx2.out.fr ff HBX.out.1); have Mx3 := Lib.hid (Mx2.out.fr ff HMB.out.1); have Ox3 := Lib.hid oo; have Ex3 := Lib.hid (And.intro (Ex2.out.1.fr ff Ex2.out.2.1) Ex2.out.2); clear oo aa ff)
          refine hK.out _ _ ⟨Rx3.out.rd, Kx3.out.rd⟩ (fun hHeld => ?_)
          clear hK K
          try simp only [Act.put, List.setIfInBounds_toArray, List.set_cons_zero, List.set_cons_succ]
          refine wpAnyH_take (i := 9) (oi := ?_) (v := ?_) ?_ ?_ ?_ ?_ ?_ ?_ ?_ ?_
          rotate_left 2
          · simp only [List.getElem?_toArray, List.getElem?_cons_succ, List.getElem?_cons_zero]; rfl
          · kernel_rfl
          · kernel_rfl
          · kernel_rfl
          · exact fun _ _ _ h => h
          · refine Or.inl ⟨by rfl, ?_⟩
            intro w' hSw
            (try dsimp only at hSw)
            go_simp
            all_goals (with_reducible rfl)
          · assumption
          try simp only [Act.put, List.setIfInBounds_toArray, List.set_cons_zero, List.set_cons_succ]
          refine wpAnyH_take (i := 10) (oi := ?_) (v := ?_) ?_ ?_ ?_ ?_ ?_ ?_ ?_ ?_
          rotate_left 2
          · simp only [List.getElem?_toArray, List.getElem?_cons_succ, List.getElem?_cons_zero]; rfl
          · kernel_rfl
          · kernel_rfl
          · kernel_rfl
          · exact fun _ _ _ h => h
          · refine Or.inl ⟨by rfl, ?_⟩
            intro w' hSw
            (try dsimp only at hSw)
            go_simp
            all_goals (with_reducible rfl)
          · assumption
          try simp only [Act.put, List.setIfInBounds_toArray, List.set_cons_zero, List.set_cons_succ]
          refine wpAnyH_take (i := 11) (oi := ?_) (v := ?_) ?_ ?_ ?_ ?_ ?_ ?_ ?_ ?_
          rotate_left 2
          · simp only [List.getElem?_toArray, List.getElem?_cons_succ, List.getElem?_cons_zero]; rfl
          · kernel_rfl
          · kernel_rfl
          · kernel_rfl
          · exact fun _ _ _ h => h
          · refine Or.inl ⟨by rfl, ?_⟩
            intro w' hSw
            (try dsimp only at hSw)
            go_simp
            all_goals (with_reducible rfl)
          · assumption
          try simp only [Act.put, List.setIfInBounds_toArray, List.set_cons_zero, List.set_cons_succ]
          have OE := Lib.hid (show ∀ g, Value.ownBlock vv = some g → g ≠ eb from fun g hg e => by have h1 := Lm.own_base Ox3.out g hg; have h2 := lt_of_block Ex2.out.1; omega)
          have ke := Ex3.out.1.rd
          have kew := Ex3.out.1.wr
          refine wpAnyH_ready (rs := [13]) (by kernel_rfl) (by simp) ?_
          refine AllReadyH.cons (o := ?_) ?_ ?_ ?_
          rotate_left 1
          · simp only [List.getElem?_toArray, List.getElem?_cons_succ, List.getElem?_cons_zero]; rfl
          rotate_left 1
          · exact AllReadyH.nil
          intro K hK
          go_simp
          (rw [three_setC Ex3.out.1]; have f4 := Fr.setObj (F := fun b => b = eb) (Fr.refl _ W3) rfl (.cells #[.int .i64 cv, .int .i64 cr, .int .i64 ct] 40 (0, 0)); generalize setObj W3 eb (.cells #[.int .i64 cv, .int .i64 cr, .int .i64 ct] 40 (0, 0)) = W4 at f4 ⊢; have Gx4 := Lib.hid (LmLaw.box Gx3.out f4 Ex3.out.2.1 Ex3.out.2.2.1); have Rx4 := Lib.hid (Rx3.out.fr f4 (by have := Ex3.out.2; omega)); have Kx4 := Lib.hid (Kx3.out.fr f4 (by have := Ex3.out.2; omega)); have Mx4 := Lib.hid (Mx3.out.fr f4 (by have := Ex3.out.2; omega)); have Ox4 := Lib.hid (own_apart Ox3.out f4 OE.out); clear f4 ke kew)
          refine hK.out _ _ (⟨Rx4.out.rd, Kx4.out.rd⟩) (fun hHeld => ?_)
          clear hK K
          try simp only [Act.put, List.setIfInBounds_toArray, List.set_cons_zero, List.set_cons_succ]
          refine wpAnyH_take (i := 14) (oi := ?_) (v := ?_) ?_ ?_ ?_ ?_ ?_ ?_ ?_ ?_
          rotate_left 2
          · simp only [List.getElem?_toArray, List.getElem?_cons_succ, List.getElem?_cons_zero]; rfl
          · kernel_rfl
          · kernel_rfl
          · kernel_rfl
          · exact fun _ _ _ h => h
          · refine Or.inl ⟨by rfl, ?_⟩
            intro w' hSw
            (try dsimp only at hSw)
            go_simp
            all_goals (with_reducible rfl)
          · assumption
          try simp only [Act.put, List.setIfInBounds_toArray, List.set_cons_zero, List.set_cons_succ]
          refine wpAnyH_done (by kernel_rfl) ?_ _
          clear hHeld
          go_wp2
          go_meet
          case rel => exact ⟨_, Gx4, Rx4, Kx4, Mx4, Ox4, BX⟩
        intro K hK
        go_simp
        have BX := Lib.hid (show mb < W1.heap.size from Mx1.out.lt); (with_reducible refine (CCk.out _ Gx1.out.at_).mono ?_); rintro e' W2 ⟨vv, rfl, oo, aa, ff⟩; have Gx2 := Lib.hid (Gx1.out.op aa CI.out ff (fun b hb => hb)); have Rx2 := Lib.hid (Rx1.out.fr ff NR7.out); have Kx2 := Lib.hid (Kx1.out.fr ff HBX.out.1); have Mx2 := Lib.hid (Mx1.out.fr ff HMB.out.1); have Ox2 := Lib.hid oo; clear oo aa ff
        refine hK.out _ _ ⟨Rx2.out.rd, Kx2.out.rd⟩ (fun hHeld => ?_)
        clear hK K
        try simp only [Act.put, List.setIfInBounds_toArray, List.set_cons_zero, List.set_cons_succ]
        refine wpAnyH_take (i := 9) (oi := ?_) (v := ?_) ?_ ?_ ?_ ?_ ?_ ?_ ?_ ?_
        rotate_left 2
        · simp only [List.getElem?_toArray, List.getElem?_cons_succ, List.getElem?_cons_zero]; rfl
        · kernel_rfl
        · kernel_rfl
        · kernel_rfl
        · exact fun _ _ _ h => h
        · refine Or.inl ⟨by rfl, ?_⟩
          intro w' hSw
          (try dsimp only at hSw)
          go_simp
          all_goals (with_reducible rfl)
        · assumption
        try simp only [Act.put, List.setIfInBounds_toArray, List.set_cons_zero, List.set_cons_succ]
        refine wpAnyH_take (i := 10) (oi := ?_) (v := ?_) ?_ ?_ ?_ ?_ ?_ ?_ ?_ ?_
        rotate_left 2
        · simp only [List.getElem?_toArray, List.getElem?_cons_succ, List.getElem?_cons_zero]; rfl
        · kernel_rfl
        · kernel_rfl
        · kernel_rfl
        · exact fun _ _ _ h => h
        · refine Or.inl ⟨by rfl, ?_⟩
          intro w' hSw
          (try dsimp only at hSw)
          go_simp
          all_goals (with_reducible rfl)
        · assumption
        try simp only [Act.put, List.setIfInBounds_toArray, List.set_cons_zero, List.set_cons_succ]
        refine wpAnyH_take (i := 11) (oi := ?_) (v := ?_) ?_ ?_ ?_ ?_ ?_ ?_ ?_ ?_
        rotate_left 2
        · simp only [List.getElem?_toArray, List.getElem?_cons_succ, List.getElem?_cons_zero]; rfl
        · kernel_rfl
        · kernel_rfl
        · kernel_rfl
        · exact fun _ _ _ h => h
        · refine Or.inl ⟨by rfl, ?_⟩
          intro w' hSw
          (try dsimp only at hSw)
          go_simp
          all_goals (with_reducible rfl)
        · assumption
        try simp only [Act.put, List.setIfInBounds_toArray, List.set_cons_zero, List.set_cons_succ]
        refine wpAnyH_ready (rs := [12]) (by kernel_rfl) (by simp) ?_
        refine AllReadyH.cons (o := ?_) ?_ ?_ ?_
        rotate_left 1
        · simp only [List.getElem?_toArray, List.getElem?_cons_succ, List.getElem?_cons_zero]; rfl
        rotate_left 1
        · exact AllReadyH.nil
        intro K hK
        go_simp
        (have OLT := Lib.hid (show ∀ g, Value.ownBlock vv = some g → g < W2.heap.size from fun g hg => ew_own_lt Ox2.out g hg); obtain ⟨W3, hw, kb, lb', sb'⟩ := box_new W2 #[.int .i64 0, .int .i64 0, .int .i64 0] 40; rw [hw]; have Gx3 := Lib.hid (Gx2.out.keep lb'); have Rx3 := Lib.hid (Rx2.out.keep lb'); have Kx3 := Lib.hid (Kx2.out.keep lb'); have Mx3 := Lib.hid (Mx2.out.keep lb'); have Ox3 := Lib.hid (Lm.own_fr (F := fun _ => False) Ox2.out (Fr.of_below lb') (fun k hk => hk.elim)); have hnn : (¬ N.all W2.heap.size) ∧ w.heap.size ≤ W2.heap.size ∧ rb < W2.heap.size ∧ bx < W2.heap.size ∧ mb < W2.heap.size := ⟨fun hh => by have := Gx2.out.at_.lt _ hh; omega, Gx2.out.bl.size, lt_of_block Rx2.out, lt_of_block Kx2.out, Mx2.out.lt⟩; have hog := Lm.own_base Ox2.out; obtain ⟨eb, hbb⟩ : ∃ z, z = W2.heap.size := ⟨_, rfl⟩; rw [← hbb] at kb hnn ⊢; have HEB := Lib.hid hbb; have Ex3 := Lib.hid (And.intro kb hnn); clear hw kb lb' sb' hnn hbb hog)
        refine hK.out _ _ ⟨Rx3.out.rd, Kx3.out.rd⟩ (fun hHeld => ?_)
        clear hK K
        try simp only [Act.put, List.setIfInBounds_toArray, List.set_cons_zero, List.set_cons_succ]
        have OE := Lib.hid (show ∀ g, Value.ownBlock vv = some g → g ≠ eb from fun g hg e => by have h1 := OLT.out g hg; have h2 := HEB.out; omega)
        have ke := Ex3.out.1.rd
        have kew := Ex3.out.1.wr
        refine wpAnyH_ready (rs := [13]) (by kernel_rfl) (by simp) ?_
        refine AllReadyH.cons (o := ?_) ?_ ?_ ?_
        rotate_left 1
        · simp only [List.getElem?_toArray, List.getElem?_cons_succ, List.getElem?_cons_zero]; rfl
        rotate_left 1
        · exact AllReadyH.nil
        intro K hK
        go_simp
        (rw [three_setC Ex3.out.1]; have f4 := Fr.setObj (F := fun b => b = eb) (Fr.refl _ W3) rfl (.cells #[.int .i64 cv, .int .i64 cr, .int .i64 ct] 40 (0, 0)); generalize setObj W3 eb (.cells #[.int .i64 cv, .int .i64 cr, .int .i64 ct] 40 (0, 0)) = W4 at f4 ⊢; have Gx4 := Lib.hid (LmLaw.box Gx3.out f4 Ex3.out.2.1 Ex3.out.2.2.1); have Rx4 := Lib.hid (Rx3.out.fr f4 (by have := Ex3.out.2; omega)); have Kx4 := Lib.hid (Kx3.out.fr f4 (by have := Ex3.out.2; omega)); have Mx4 := Lib.hid (Mx3.out.fr f4 (by have := Ex3.out.2; omega)); have Ox4 := Lib.hid (own_apart Ox3.out f4 OE.out); clear f4 ke kew)
        refine hK.out _ _ (⟨Rx4.out.rd, Kx4.out.rd⟩) (fun hHeld => ?_)
        clear hK K
        try simp only [Act.put, List.setIfInBounds_toArray, List.set_cons_zero, List.set_cons_succ]
        refine wpAnyH_take (i := 14) (oi := ?_) (v := ?_) ?_ ?_ ?_ ?_ ?_ ?_ ?_ ?_
        rotate_left 2
        · simp only [List.getElem?_toArray, List.getElem?_cons_succ, List.getElem?_cons_zero]; rfl
        · kernel_rfl
        · kernel_rfl
        · kernel_rfl
        · exact fun _ _ _ h => h
        · refine Or.inl ⟨by rfl, ?_⟩
          intro w' hSw
          (try dsimp only at hSw)
          go_simp
          all_goals (with_reducible rfl)
        · assumption
        try simp only [Act.put, List.setIfInBounds_toArray, List.set_cons_zero, List.set_cons_succ]
        refine wpAnyH_done (by kernel_rfl) ?_ _
        clear hHeld
        go_wp2
        go_meet
        case rel => exact ⟨_, Gx4, Rx4, Kx4, Mx4, Ox4, BX⟩
      case rest =>
        obtain ⟨base, HG2, HR2', HK2, HM2, HO2, HBA⟩ := hcut
        obtain ⟨xe, ce, hve, qe1, qe2, _⟩ := G.own_at HO2.out
        rw [hve] at HO2 ⊢
        obtain ⟨ne, hne⟩ : ∃ ne, ne = ev.length := ⟨_, rfl⟩
        rw [← hne] at HO2 qe1 ⊢
        have t2e : (ne : Int) ≤ 2 := by have := HEL.out; omega
        have HNE := Lib.hid hne
        have QE := Lib.hid (And.intro qe1 qe2)
        clear hve hne qe1 qe2
        obtain ⟨wo, hwo⟩ : ∃ x, x = wr := ⟨_, rfl⟩
        go_wp2
        go_loopg [61] ne (fun kj sj wr => ∃ j : Nat, j ≤ ne ∧ Hid (kj = ne - j) ∧ sj = .int .i64 (j : Int) ∧ Hid (LmLaw w wr N s2 t' (2097153 * (i : Int) + 2097153)) ∧ Hid (Blk wr rb 29 #[.int .i64 Li, .int .i64 Wd, .int .i64 Bu, .int .i64 Sl, .int .i64 Ce, .int .i64 kR, .int .i64 Wi, .int .i64 Tr, .bool smm]) ∧ Hid (Blk wr bx 36 #[.int .i64 gp, .int .i64 cs, .string ky, .bool pk]) ∧ Hid (Mp.MapS Tryz.prog 9 wr mb ((ev.take j).foldl stepC mc) ((ev.take j).foldl stepE mM)) ∧ Hid (wr.ownsRow base 70 4 (.slice xe ne ce) ne (evL t' ev)))
        case atStart => exact ⟨0, by omega, Lib.hid rfl, rfl, HG2, HR2', HK2, HM2, HO2⟩
        case round =>
          obtain ⟨j, hj, HKJ, rfl, GJ, RJ, KJ, MJ, OJ⟩ := hrel
          by_cases hjn : j < ne
          · obtain ⟨xe', ce', hve, q1, q2, q3⟩ := G.own_at OJ.out
            injection hve with hv1 hv2 hv3
            subst hv1 hv3
            obtain ⟨g, rfl, _, _, hgl, hgc, _⟩ := q3 (by omega)
            obtain ⟨⟨ek, eu⟩, hx⟩ : ∃ x, ev[j]? = some x := ⟨_, List.getElem?_eq_getElem (by rw [← HNE.out]; exact hjn)⟩
            obtain ⟨e0, e1, e2, e3⟩ := evL_get t' ev j _ hx
            have r0 := (hgc (j * 4) (by omega)).trans e0
            have r1 := (hgc (j * 4 + 1) (by omega)).trans e1
            have r2 := (hgc (j * 4 + 2) (by omega)).trans e2
            have r3 := (hgc (j * 4 + 3) (by omega)).trans e3
            obtain ⟨ho1, ho2, ho3⟩ := okE_at ev mM j _ PCK.out.1 hx
            have hfe := foldl_take stepE mM hx
            have hfc := foldl_take stepC mc hx
            have hcle : (ev.take j).foldl stepC mc ≤ 8 + 2 := by
              have h1 := stepC_le (ev.take j) mc
              have h2 := HMC.out
              have h3 : (ev.take j).length ≤ 2 := by rw [List.length_take]; have := HEL.out; omega
              omega
            obtain ⟨Mj, hMj⟩ : ∃ z, z = (ev.take j).foldl stepE mM := ⟨_, rfl⟩
            obtain ⟨cj, hcj⟩ : ∃ z, z = (ev.take j).foldl stepC mc := ⟨_, rfl⟩
            rw [← hMj] at MJ ho1 hfe
            rw [← hcj] at MJ hfc hcle
            have HFE := Lib.hid hfe
            have HFC := Lib.hid hfc
            have HES := Lib.hid (show ek.size ≤ maxLen from by have h : ek.size ≤ 64 := ho3; unfold maxLen; omega)
            have HCL := Lib.hid hcle
            have HO2' := Lib.hid ho2
            have HO1 := Lib.hid ho1
            obtain ⟨x1, x2, ex1, kr, kw, ex2, bl2, kc2⟩ := boxE wr ek eu t'
            have G2 := Lib.hid (GJ.out.keep bl2)
            have R2 := Lib.hid (RJ.out.keep bl2)
            have K2 := Lib.hid (KJ.out.keep bl2)
            have M2 := Lib.hid (MJ.out.keep bl2)
            have O2 := Lib.hid (Lm.own_fr (F := fun _ => False) OJ.out (Fr.of_below bl2) (fun k hk => hk.elim))
            have HXL := Lib.hid (show (∀ g', Value.ownBlock (.slice (some ⟨g, 0, none⟩) ne ce) = some g' → g' ≠ mb) from fun g' hg' e => by have h1 := Lm.own_base OJ.out g' hg'; have h2 := HBA.out; omega)
            obtain ⟨ex, hex⟩ : ∃ z, z = wr.heap.size := ⟨_, rfl⟩
            have HEX := Lib.hid (show mb < ex from by have := MJ.out.lt; omega)
            have t5 : (j : Int) < (ne : Int) := by omega
            have HJN := Lib.hid hjn
            rw [← hex] at kc2
            have kc3 := kc2.rd
            have KE := Lib.hid kc2
            clear hx e0 e1 e2 e3 hgc hgl q3 q1 q2 ho1 ho2 ho3 hfe hfc hcle hMj hcj bl2 kc2 hjn
            go_upto_region 17 with (fail)
            rw [← hex]
            clear kr kw ex1 ex2 r0 r1 r2 r3 hex
            have kcx := K2.out.rd
            have hlk := M2.out.look Tryz.underlying9 Tryz.underlying68 (z := .bool false) (by kernel_rfl) (s := ek) HES.out
            cases eu with
            | false =>
              have ho1 := HO1.out
              simp only [Bool.false_eq_true, if_false] at ho1
              rw [ho1] at hlk
              have hlk : (Instr.lookup 68 (.map (some mb)) (.string ek) false).run Tryz.prog x2 = .ok (.bool true) x2 := hlk
              have b2 : (t' != t') = false := by simp
              clear ho1
              go_upto_region 19 with (fail)
              clear hlk b2
              obtain ⟨y3, hst, m3, f3⟩ := M2.out.store Tryz.underlying9 Tryz.underlying68 (by have := HCL.out; unfold maxLen; omega) (s := ek) HES.out (.bool false)
              rw [HO1.out, if_pos (by rfl)] at m3
              have M3 := Lib.hid m3
              have G3 := Lib.hid (LmLaw.box G2.out f3 HMB.out.1 HMB.out.2.1)
              have R3 := Lib.hid (R2.out.fr f3 (by have := HMB.out; omega))
              have K3 := Lib.hid (K2.out.fr f3 (by have := HBX.out; omega))
              have O3 := Lib.hid (own_apart O2.out f3 HXL.out)
              have KE3 := Lib.hid (KE.out.fr f3 (by have := HEX.out; omega))
              clear m3 f3
              go_upto_region 20 with (fail)
              clear hst kc3
              have kc3 := KE3.out.rd
              obtain ⟨y4, hdr, m4, f4⟩ := M3.out.drop Tryz.underlying9 Tryz.underlying68 (s := ek) HES.out 0
              have M4 := Lib.hid (show Mp.MapS Tryz.prog 9 y4 mb ((ev.take (j + 1)).foldl stepC mc) ((ev.take (j + 1)).foldl stepE mM) from by
                rw [HFE.out, HFC.out]
                rw [if_pos (by simp)] at m4
                have e1 : (fun x => if x = ek then none else (if x = ek then some (Value.bool false) else Mj x)) = stepE Mj (ek, false) := by
                  funext x
                  unfold stepE
                  by_cases h : x = ek
                  · rw [if_pos h, if_pos h]; rfl
                  · rw [if_neg h, if_neg h, if_neg h]
                rw [← e1]
                exact m4)
              have G4 := Lib.hid (LmLaw.box G3.out f4 HMB.out.1 HMB.out.2.1)
              have R4 := Lib.hid (R3.out.fr f4 (by have := HMB.out; omega))
              have K4 := Lib.hid (K3.out.fr f4 (by have := HBX.out; omega))
              have O4 := Lib.hid (own_apart O3.out f4 HXL.out)
              clear m4 f4 kcx
              go_wp2
              go_roundg (ne - (j + 1))
              case measure => have := HKJ.out; have := HJN.out; omega
              case rel => exact ⟨j + 1, HJN.out, Lib.hid rfl, by go_num, G4, R4, K4, M4, O4⟩
            | true =>
              have ho1 := HO1.out
              simp only [if_true] at ho1
              rw [ho1] at hlk
              have hlk : (Instr.lookup 68 (.map (some mb)) (.string ek) false).run Tryz.prog x2 = .ok (.bool false) x2 := hlk
              have b2 : (t' != t') = false := by simp
              have hek : ek = ky := HO2'.out rfl
              subst hek
              clear ho1
              go_upto_region 19 with (fail)
              clear hlk b2
              obtain ⟨y3, hst, m3, f3⟩ := M2.out.store Tryz.underlying9 Tryz.underlying68 (by have := HCL.out; unfold maxLen; omega) (s := ek) HES.out (.bool true)
              have M3 := Lib.hid (show Mp.MapS Tryz.prog 9 y3 mb ((ev.take (j + 1)).foldl stepC mc) ((ev.take (j + 1)).foldl stepE mM) from by
                rw [HFE.out, HFC.out]
                rw [HO1.out, if_neg (by simp)] at m3
                exact m3)
              have G3 := Lib.hid (LmLaw.box G2.out f3 HMB.out.1 HMB.out.2.1)
              have R3 := Lib.hid (R2.out.fr f3 (by have := HMB.out; omega))
              have K3 := Lib.hid (K2.out.fr f3 (by have := HBX.out; omega))
              have O3 := Lib.hid (own_apart O2.out f3 HXL.out)
              have KE3 := Lib.hid (KE.out.fr f3 (by have := HEX.out; omega))
              clear m3 f3
              go_upto_region 20 with (fail)
              clear hst kc3 kcx
              have kc3 := KE3.out.rd
              go_wp2
              go_roundg (ne - (j + 1))
              case measure => have := HKJ.out; have := HJN.out; omega
              case rel => exact ⟨j + 1, HJN.out, Lib.hid rfl, by go_num, G3, R3, K3, M3, O3⟩
          · have hje : j = ne := by omega
            subst hje
            have MS := Lib.hid (show Mp.MapS Tryz.prog 9 wr mb (N.Q.N.n - s2.σ.fl.length) (thereM N.Q.N.n s2.σ) from by
              have h := MJ.out
              rw [HNE.out, List.take_length, PCK.out.2.1, PCK.out.2.2] at h
              exact h)
            obtain ⟨cc, hcc⟩ : ∃ z, z = N.Q.N.n - s2.σ.fl.length := ⟨_, rfl⟩
            rw [← hcc] at MS
            have HCC := Lib.hid (show cc = N.Q.N.n - s2.σ.fl.length ∧ (cc : Int) ≤ Ce ∧ cc ≤ 8 from by have := HQN.out; omega)
            clear hcc hjn
            obtain ⟨wz, hwz⟩ : ∃ wz, wz = wr := ⟨_, rfl⟩
            rw [← hwz] at GJ RJ KJ MS ⊢
            clear hwz MJ OJ
            go_upto_region 23 with (fail)
            go_wp2_with (at_range; refine Mp.wpList_rangeS Tryz.underlying9 Tryz.underlying68 (by rfl) _ (by rfl) (by rfl) MS.out ?_; intro wr0 hr0 hb0 hs0; have RS0 := Lib.hid hr0; have HB0 := Lib.hid hb0; clear hr0 hb0)
            go_frame
            obtain ⟨rr, hrr⟩ : ∃ rr, rr = wz.heap.size := ⟨_, rfl⟩
            rw [← hrr] at RS0 ⊢
            have RR := Lib.hid (show (¬ N.all rr) ∧ w.heap.size ≤ rr ∧ rb < rr from ⟨fun hh => by have := GJ.out.at_.lt _ hh; omega, by have := GJ.out.bl.size; omega, by have := lt_of_block RJ.out; omega⟩)
            clear hrr hs0
            go_loopg [] cc (fun kq wq => ∃ left, Hid (Mp.RangeS Tryz.prog 9 wq mb rr cc (thereM N.Q.N.n s2.σ) left kq) ∧ Hid (LmLaw w wq N s2 t' (2097153 * (i : Int) + 2097153)) ∧ Hid (Blk wq rb 29 #[.int .i64 Li, .int .i64 Wd, .int .i64 Bu, .int .i64 Sl, .int .i64 Ce, .int .i64 kR, .int .i64 Wi, .int .i64 Tr, .bool smm]))
            case atStart => exact ⟨_, RS0, Lib.hid (GJ.out.keep HB0.out), Lib.hid (RJ.out.keep HB0.out)⟩
            case round =>
              obtain ⟨left, RS, GQ, RQ⟩ := hrel
              go_wp2_with (at_next; refine Mp.wpList_nextS Tryz.underlying9 (by rfl) _ (by rfl) (by rfl) RS.out ?_ ?_)
              · intro _ _
                (try go_frame)
                have hml := fun ty => RS.out.map.len Tryz.underlying68 ty
                have kru := RQ.out.rd
                have u1 : decide (Ce < (cc : Int)) = false := decide_eq_false (by have := HCC.out; omega)
                have u2 : ((cc : Int) != (cc : Int)) = false := by simp
                have CT := lmtotals_any wr GQ.out.at_
                obtain ⟨z1, hz1⟩ : ∃ z, z = s2.al := ⟨_, rfl⟩
                obtain ⟨z2, hz2⟩ : ∃ z, z = s2.de := ⟨_, rfl⟩
                obtain ⟨z3, hz3⟩ : ∃ z, z = s2.ba := ⟨_, rfl⟩
                have hz4 : s2.len N = (cc : Int) := by unfold LmS.len; rw [HCC.out.1]
                obtain ⟨z5, hz5⟩ : ∃ z, z = s2.tot := ⟨_, rfl⟩
                rw [← hz1, ← hz2, ← hz3, hz4, ← hz5] at CT
                have hfld : ∀ w, Sem.run Tryz.prog (Instr.field 47 (totV z1 z2 z3 (cc : Int) z5) 3) w = .ok (.int .i64 (cc : Int)) w := fun w => rfl
                have CTx := Lib.hid CT
                clear hz1 hz2 hz3 hz4 hz5 CT
                go_wp2_with (go_at_call 27; ((with_reducible refine CTx.out.mono ?_); rintro e' z9 ⟨rfl, b9⟩; have G9 := Lib.hid (GQ.out.keep b9); have R9 := Lib.hid (RQ.out.keep b9); have M9 := Lib.hid (RS.out.map.keep b9); have hml := fun ty => M9.out.len Tryz.underlying68 ty; clear b9))
                go_roundg (n2 - (i + 1))
                case measure => have := HKK.out; have := HIN.out; omega
                case rel => exact ⟨i + 1, t', s2, HIN.out, Lib.hid rfl, by go_num, rfl, Lib.hid (by have := HT'.out; omega), Lib.hid (G9.out.mono (by have := HT'.out; omega) (by omega)), R9, Lib.hid (by rw [← HCC.out.1]; exact M9.out)⟩
              · intro tk u w4 nr hts hlf hMt hrs hlt hfr hsz hen
                have HLT2 := Lib.hid hlt
                have RS2 := Lib.hid hrs
                have G2 := Lib.hid (LmLaw.box GQ.out hfr RR.out.1 RR.out.2.1)
                have R2 := Lib.hid (RQ.out.fr hfr (by have := RR.out; omega))
                have hp : (posN N.Q.N.n s2.σ.K tk).isSome = true := by
                  unfold thereM at hMt
                  by_cases h : (posN N.Q.N.n s2.σ.K tk).isSome = true
                  · exact h
                  · rw [if_neg h] at hMt; cases hMt
                obtain ⟨pi, hpi⟩ := Option.isSome_iff_exists.1 hp
                have CR := lmcell_any tk hts w4 G2.out.at_
                have hco : s2.cellOf N tk = some (s2.C.getD pi (0, 0, 0, 0)) := by unfold LmS.cellOf; rw [hpi]; rfl
                rw [hco] at CR
                obtain ⟨rc, hrc⟩ : ∃ z, z = s2.C.getD pi (0, 0, 0, 0) := ⟨_, rfl⟩
                rw [← hrc] at CR
                have CRx := Lib.hid (show Calls Tryz.prog 34 #[.pointer (some ⟨N.l, 0, none⟩), .string tk] w4 (fun e w' => e = .returned (.tuple #[celV rc, .bool true]) ∧ Below w4.heap.size w4 w') from CR)
                clear hMt hrs hlt hfr hsz hlf hp hpi CR hco hrc
                (try go_frame)
                go_wp2_with (go_at_call 34; ((with_reducible refine CRx.out.mono ?_); rintro e' w5 ⟨rfl, b5⟩; obtain ⟨x10, y10, ex10, kr10, kw10, ey10, b10, k10⟩ := cbox w5 rc; have RS5 := Lib.hid ((RS2.out.keep b5).keep b10); have G5 := Lib.hid ((G2.out.keep b5).keep b10); have R5 := Lib.hid ((R2.out.keep b5).keep b10); clear b5 b10 k10))
                go_roundg nr
                case measure => exact HLT2.out
                case rel => exact ⟨_, RS5, G5, R5⟩
    · have hie : i = n2 := by omega
      subst hie
      go_wp2
      go_ret
      exact ⟨rfl, HG.out.bl⟩
end Go.Proofs.YtbgcpljekcagiaaGreat
