import Derived.Test.YtnpiimaapholiaaZSm
import Derived.Test.YtnpiimaapholiaaZLiftS
import Derived.Test.YtnpiimaapholiaaMap
import Derived.Test.YtnpiimaapholiaaBits
/- The laws of layer 8 (summary): light calls. -/
namespace Go.Proofs.Ytnpiimaapholiaa
set_option linter.unusedSimpArgs false
set_option linter.unusedVariables false
open Go.ChangeShapes Go.WideShapes Go.ChangeAt Go.RowKit
theorem box2 (X : World) (t : TypeId) (z0 z1 a b : Value) : ∃ w1 w2, X.alloc (.cells #[z0, z1] t) = w1 ∧
    (∀ j, w1.cell? ⟨X.heap.size, j, none⟩ = (#[z0, z1] : Array Value)[j]?) ∧ (∀ j, w1.frozen? ⟨X.heap.size, j, none⟩ = false) ∧
    (w1.setCell ⟨X.heap.size, 0, none⟩ a).setCell ⟨X.heap.size, 1, none⟩ b = w2 ∧
    Below X.heap.size X w2 ∧ Blk w2 X.heap.size t #[a, b] := by
  obtain ⟨w1, hw1, kc1, l1, s1⟩ := box_new X #[z0, z1] t
  have hl := lt_of_block kc1
  have hset : (w1.setCell ⟨X.heap.size, 0, none⟩ a).setCell ⟨X.heap.size, 1, none⟩ b = setObj w1 X.heap.size (.cells #[a, b] t (0, 0)) := by
    rw [setCell_obj kc1]
    simp only [setCell_in hl, List.setIfInBounds_toArray, List.set_cons_zero, List.set_cons_succ]
  exact ⟨w1, _, hw1, kc1.rd, kc1.wr, hset, l1.trans ((Fr.setObj (F := fun k => k = X.heap.size) (Fr.refl _ _) rfl _).below l1.size (fun k hk => by omega)), setObj_at hl _⟩
/-- are calls light? -/
def lightS (L : List (ByteArray × Int)) : Bool := decide (L.length ≤ 150) && L.all fun a => decide (a.1.size ≤ 100)
theorem lightS_pre {L : List (ByteArray × Int)} (h : ¬ 150 < L.length) : lightS L = L.all fun a => decide (a.1.size ≤ 100) := by
  unfold lightS; rw [decide_eq_true (by omega)]; rfl
theorem smS_up {L : List (ByteArray × Int)} {i : Nat} {a : ByteArray × Int} (h : L[i]? = some a) (hs : a.1.size ≤ 100) (hp : ∀ j b, j < i → L[j]? = some b → b.1.size ≤ 100) : ∀ j b, j < i + 1 → L[j]? = some b → b.1.size ≤ 100 := by
  intro j b hj hb
  by_cases e : j = i
  · subst e; rw [h] at hb; cases hb; exact hs
  · exact hp j b (by omega) hb
set_option maxHeartbeats 1000000 in
theorem smlight_any (A : Option Addr) (n c : Nat) (L : List (ByteArray × Int)) (w : World) (hr : RdL w A n c 2 encSI L) (hok : ∀ a ∈ L, okSI a) :
    Calls Try.prog 12 #[.slice A n c] w fun e w' => e = .returned (.bool (lightS L)) ∧ Below w.heap.size w w' := by
  have hmx := hr.max
  unfold maxLen at hmx
  have hcp := hr.cap
  have hlen := hr.len
  by_cases hn : 150 < n
  · have e : lightS L = false := by unfold lightS; rw [hlen, decide_eq_false (by omega)]; rfl
    rw [e]
    have t1 : decide ((150 : Int) < (n : Int)) = true := by rw [decide_eq_true_iff]; omega
    clear hr hok hlen e
    go_enter Try.func12, Try.ntmps12
    go_wp2
    go_ret
    exact ⟨rfl, Below.refl _ _⟩
  have HR := Lib.hid hr
  have HO := Lib.hid hok
  have HE := Lib.hid (lightS_pre (L := L) (by omega))
  have t1 : decide ((150 : Int) < (n : Int)) = false := by rw [decide_eq_false_iff_not]; omega
  have HLn := Lib.hid hlen
  clear hr hok hlen
  go_enter Try.func12, Try.ntmps12
  go_wp2
  go_loopg [10] n (fun kk si wr => ∃ i : Nat, i ≤ n ∧ Hid (kk = n - i) ∧ si = .int .i64 (i : Int) ∧ Hid (Below w.heap.size w wr) ∧ Hid (∀ j b, j < i → L[j]? = some b → b.1.size ≤ 100))
  case atStart => exact ⟨0, by omega, Lib.hid rfl, rfl, Lib.hid (Below.refl _ _), Lib.hid (fun j b h => absurd h (by omega))⟩
  case round =>
    obtain ⟨i, hi, HKK, rfl, HB, HA⟩ := hrel
    by_cases hin : i < n
    · obtain ⟨b, off, rfl, hbl, hc⟩ := (HR.out.below HB.out).at_ (by omega)
      obtain ⟨⟨ky, cs⟩, ha⟩ : ∃ a, L[i]? = some a := ⟨_, List.getElem?_eq_getElem (by rw [HLn.out]; exact hin)⟩
      have hoka := HO.out _ (List.mem_of_getElem? ha)
      have kr0 : wr.cell? ⟨b, off + i * 2, none⟩ = some (.string ky) := hc i _ ha 0 (by omega)
      have kr1 : wr.cell? ⟨b, off + i * 2 + 1, none⟩ = some (.int .i64 cs) := hc i _ ha 1 (by omega)
      unfold okSI maxLen at hoka
      simp only at hoka
      obtain ⟨hky, hcs⟩ := hoka
      obtain ⟨x1, x2, ex1, kr, kw, ex2, bl2, kc2⟩ := box2 wr 37 (.string ⟨#[]⟩) (.int .i64 0) (.string ky) (.int .i64 cs)
      have BL := Lib.hid (HB.out.trans (bl2.mono HB.out.size))
      have kc3 := kc2.rd
      have t2 : (i : Int) < (n : Int) := by omega
      have t3 : (n : Int) ≤ 150 := by omega
      have HIA := Lib.hid (And.intro ha hin)
      clear hc hbl ha bl2 kc2 hcs
      go_upto_region 6 with (fail)
      clear kr kw ex1 kr0 kr1 ex2
      by_cases h1 : (100 : Int) < (ky.size : Int)
      · have H1 := Lib.hid h1
        go_wp2
        go_ret
        have e : lightS L = false := by
          rw [HE.out, List.all_eq_false]
          exact ⟨(ky, cs), List.mem_of_getElem? HIA.out.1, by have := H1.out; simp; omega⟩
        exact ⟨by rw [e]; rfl, BL.out⟩
      · have H1 := Lib.hid h1
        go_wp2
        go_roundg (n - (i + 1))
        case measure => have := HKK.out; have := HIA.out.2; omega
        case rel => exact ⟨i + 1, HIA.out.2, Lib.hid rfl, by go_num, BL, Lib.hid (smS_up HIA.out.1 (by show ky.size ≤ 100; have := H1.out; omega) HA.out)⟩
    · have hie : i = n := by omega
      subst hie
      have e : lightS L = true := by
        rw [HE.out, List.all_eq_true]
        intro a ha
        obtain ⟨j, hj, he⟩ := List.getElem_of_mem ha
        have := HA.out j a (by have := HLn.out; omega) (by rw [List.getElem?_eq_getElem hj, he])
        simpa using this
      have HE2 := Lib.hid e
      clear e
      go_wp2
      go_ret
      exact ⟨by rw [HE2.out]; rfl, HB.out⟩
end Go.Proofs.Ytnpiimaapholiaa
/- The law SummaryFew of layer 8: the plain side. -/
namespace Go.Proofs.Ytnpiimaapholiaa
set_option linter.unusedSimpArgs false
set_option linter.unusedVariables false
open Go.ChangeShapes Go.WideShapes Go.ChangeAt Go.RowKit
/-- a map of numbers, as one of values. -/
def liftH (H : ByteArray → Option Int) : ByteArray → Option Value := fun s => (H s).map (Value.int .i64)
def putH (H : ByteArray → Option Int) (s : ByteArray) (x : Int) : ByteArray → Option Int := fun t => if t = s then some x else H t
theorem liftH_put (H : ByteArray → Option Int) (s : ByteArray) (x : Int) : (fun t => if t = s then some (Value.int .i64 x) else liftH H t) = liftH (putH H s x) := by
  funext t
  unfold liftH putH
  split <;> rfl
theorem liftH_getD (H : ByteArray → Option Int) (s : ByteArray) : (liftH H s).getD (.int .i64 0) = .int .i64 ((H s).getD 0) := by
  unfold liftH; cases H s <;> rfl
theorem liftH_some {H : ByteArray → Option Int} {s : ByteArray} {v : Value} (h : liftH H s = some v) : ∃ x, H s = some x ∧ v = .int .i64 x := by
  unfold liftH at h
  cases hH : H s with
  | none => rw [hH] at h; cases h
  | some x => rw [hH] at h; exact ⟨x, rfl, (Option.some.inj h).symm⟩
theorem liftH_none : liftH (fun _ => none) = fun _ => none := rfl
/-- what the law knows behind i calls. -/
structure FwI (H : ByteArray → Option Int) (M : List Tri) (tot : Int) (cm i : Nat) : Prop where
  len : M.length = cm
  c8 : cm ≤ 8
  ci : cm ≤ i
  tel : ∀ s, tellM M s = (if (H s).isSome then ((H s).getD 0, 0, true) else (0, 0, false))
  tb : 0 ≤ tot ∧ tot ≤ 4096 * (i : Int)
  xb : ∀ s, 0 ≤ (H s).getD 0 ∧ (H s).getD 0 ≤ 4096 * (i : Int)
theorem FwI.skip {H : ByteArray → Option Int} {M : List Tri} {tot : Int} {cm i : Nat} (h : FwI H M tot cm i) : FwI H M tot cm (i + 1) :=
  ⟨h.len, h.c8, by have := h.ci; omega, h.tel, by have := h.tb; omega, fun s => by have := h.xb s; omega⟩
theorem FwI.tells {H : ByteArray → Option Int} {M : List Tri} {tot : Int} {cm i : Nat} (h : FwI H M tot cm i) (s : ByteArray) : (tellM M s).2.2 = (H s).isSome := by
  rw [h.tel s]; cases (H s).isSome <;> rfl
theorem FwI.step {H : ByteArray → Option Int} {M : List Tri} {tot : Int} {cm i : Nat} (h : FwI H M tot cm i) (hu : uniM M) {s : ByteArray} (hs : s.size ≤ 64) {d : Int} (hd : 1 ≤ d ∧ d ≤ 4096) (hi : i ≤ 150) (hk : (H s).isSome = true ∨ cm < 8) :
    FwI (putH H s ((H s).getD 0 + d)) (offerM 8 M tot s d).1 (offerM 8 M tot s d).2 (if (H s).isSome = true then cm else cm + 1) (i + 1) := by
  have htb := h.tb
  have hn : (tellM M s).2.2 = true ∨ M.length < 8 := by rw [h.tells s, h.len]; exact hk
  have key := fun x => offer_tells (n := 8) (tot := tot) (d := d) hu hs hd.1 (by omega) htb.1 hn x
  have hput : ∀ x, putH H s ((H s).getD 0 + d) x = if x = s then some ((H s).getD 0 + d) else H x := fun x => rfl
  refine ⟨?_, ?_, ?_, fun x => ?_, ?_, fun x => ?_⟩
  · rw [(key s).2.2, h.tells s, h.len]
  · have := h.c8
    rcases hk with hk | hk
    · rw [if_pos hk]; omega
    · split <;> omega
  · have := h.ci; split <;> omega
  · rw [(key x).2.1, hput]
    by_cases e : x = s
    · rw [if_pos e, if_pos e, h.tel s]
      show (_, _, true) = ((some ((H s).getD 0 + d)).getD 0, 0, true)
      cases hh : (H s).isSome with
      | true => simp
      | false =>
        have : H s = none := by cases hx : H s with
          | none => rfl
          | some y => rw [hx] at hh; cases hh
        simp [this]
    · rw [if_neg e, if_neg e]; exact h.tel x
  · rw [(key s).1]; omega
  · rw [hput]
    have hx := h.xb x
    have hs := h.xb s
    by_cases e : x = s
    · rw [if_pos e]; show 0 ≤ (H s).getD 0 + d ∧ (H s).getD 0 + d ≤ _; omega
    · rw [if_neg e]; omega
end Go.Proofs.Ytnpiimaapholiaa
/- The law SummaryFew of layer 8, walked. -/
namespace Go.Proofs.Ytnpiimaapholiaa
set_option linter.unusedSimpArgs false
set_option linter.unusedVariables false
open Go.ChangeShapes Go.WideShapes Go.ChangeAt Go.RowKit
theorem SmB.fr {W w w' : World} {Q : SmN} {M : List Tri} {tot : Int} {F : Nat → Prop} (h : SmB W w Q M tot) (hf : Fr F w w') (hF : ∀ k, Q.all k → ¬ F k) (hl : ∀ k, F k → W.heap.size ≤ k) : SmB W w' Q M tot :=
  ⟨h.at_.fr hf hF, h.bl.trans (hf.below h.bl.size hl), h.new⟩
theorem SmB.lt {W w : World} {Q : SmN} {M : List Tri} {tot : Int} (h : SmB W w Q M tot) : ∀ k, Q.all k → k < w.heap.size := by
  obtain ⟨L, σ, h1, _⟩ := h.at_
  exact h1.lt
set_option maxRecDepth 100000 in
set_option maxHeartbeats 8000000 in
theorem smfew_law (w : World) (d1 d2 d3 : Nat) (A : Option Addr) (n c : Nat) (L : List (ByteArray × Int)) (hd : d1 < 18446744073709551616 ∧ d2 < 18446744073709551616 ∧ d3 < 18446744073709551616) (hr : RdL w A n c 2 encSI L) (hok : ∀ a ∈ L, okSI a) :
    Calls Try.prog 7 #[.agg #[.int .u64 (d1 : Int), .int .u64 (d2 : Int), .int .u64 (d3 : Int)], .slice A n c] w fun e w' => e = .returned (.bool true) ∧ Below w.heap.size w w' := by
  have hmx := hr.max
  unfold maxLen at hmx
  have hcp := hr.cap
  have HR := Lib.hid hr
  have HO := Lib.hid hok
  have hmm := @run_makeMap Try.prog
  obtain ⟨w1, hw1, k1, l1, s1⟩ := box_new w #[.int .u64 (d1 : Int), .int .u64 (d2 : Int), .int .u64 (d3 : Int)] 23
  obtain ⟨rb, hrb⟩ : ∃ x, x = w.heap.size := ⟨_, rfl⟩
  rw [← hrb] at k1
  have HRB := Lib.hid hrb
  have K1 := Lib.hid k1
  have L1 := Lib.hid l1
  obtain ⟨X, hX⟩ : ∃ x, x = dX d1 d2 d3 := ⟨_, rfl⟩
  obtain ⟨Y, hY⟩ : ∃ x, x = dA d1 d2 d3 := ⟨_, rfl⟩
  obtain ⟨Z, hZ⟩ : ∃ x, x = dB d1 d2 d3 := ⟨_, rfl⟩
  have hl := d_lt d1 d2 d3
  have CR := Lib.hid (fun wx => smrow_any d1 d2 d3 hd.1 hd.2.1 hd.2.2 wx)
  rw [← hX, ← hY, ← hZ] at CR hl
  have CN := Lib.hid (fun wx (hb : Below w.heap.size w wx) => show Calls Try.prog 13 #[.int .i64 8, .agg #[.int .u64 X, .int .u64 Y, .int .u64 Z]] wx _ from smnewM (W := w) X Y Z hl.1 hl.2.1 hl.2.2 8 (by omega) (by omega) hb)
  clear hr hok hd hX hY hZ hl k1 l1 s1 hrb
  go_enter Try.func7, Try.ntmps7
  go_upto_region 1 with (fail)
  rw [← HRB.out]
  clear hw1
  go_upto_region 3 with (go_at_call 11; ((refine (smfit_any _).mono ?_); rintro e w2 ⟨rfl, b2⟩; have T2 := Lib.hid (G.below_on L1.out b2); have K2 := Lib.hid (K1.out.keep b2); clear b2))
  have CLi := Lib.hid (smlight_any A n c L w2 (HR.out.below T2.out) HO.out)
  cases hlb : lightS L with
  | false =>
    rw [hlb] at CLi
    go_wp2_with (go_at_call 12; ((with_reducible refine CLi.out.mono ?_); rintro e w3 ⟨rfl, b3⟩; have T3 := Lib.hid (G.below_on T2.out b3); clear b3))
    go_ret
    exact ⟨rfl, T3.out⟩
  | true =>
  rw [hlb] at CLi
  have hlen : L.length ≤ 150 := by unfold lightS at hlb; simp at hlb; exact hlb.1
  have hln := HR.out.len
  have hb2 : (n : Int) ≤ 150 := by omega
  clear hlb hlen hln
  go_upto_region 5 with (go_at_call 12; ((with_reducible refine CLi.out.mono ?_); rintro e w3 ⟨rfl, b3⟩; have T3 := Lib.hid (G.below_on T2.out b3); have K3 := Lib.hid (K2.out.keep b3); clear b3))
  have k3 := K3.out.rd
  go_upto_region 6 with (first
    | (go_at_call 14; ((with_reducible refine (CR.out _).mono ?_); rintro e w4 ⟨rfl, b4⟩; have B4 := Lib.hid (G.below_on T3.out b4); clear b4))
    | (go_at_call 13; ((with_reducible refine (CN.out _ B4.out).mono ?_); rintro e w6 ⟨Q, rfl, h5, hn5⟩; have H6 := Lib.hid h5; have HN := Lib.hid hn5; clear h5 hn5)))
  clear k3 CR CN CLi
  go_upto_region 7 with (fail)
  have hm0 : Mp.MapS Try.prog 9 (w6.alloc (.map #[] 0)) w6.heap.size 0 (liftH fun _ => none) := Mp.MapS.new (P := Try.prog) (k := 9) w6
  obtain ⟨mb, hmb⟩ : ∃ mb, mb = w6.heap.size := ⟨_, rfl⟩
  rw [← hmb] at hm0 ⊢
  have bl9 : Below w6.heap.size w6 (w6.alloc (.map #[] 0)) := (Below.refl _ _).alloc (Nat.le_refl _) _
  have S9 := Lib.hid (H6.out.keep bl9)
  have M9 := Lib.hid hm0
  have HMB := Lib.hid (show (∀ k, Q.all k → k ≠ mb) ∧ w.heap.size ≤ mb from ⟨fun k hk e => by have := H6.out.lt k hk; omega, by rw [hmb]; exact H6.out.bl.size⟩)
  generalize w6.alloc (.map #[] 0) = w9 at S9 M9 ⊢
  clear hm0 hmb bl9 hmm
  go_wp2
  go_loopg [29] n (fun kk si wr => ∃ (i cm : Nat) (H : ByteArray → Option Int) (M : List Tri) (tot : Int), i ≤ n ∧ Hid (kk = n - i) ∧ si = .int .i64 (i : Int) ∧ Hid (SmB w wr Q M tot) ∧ Hid (Mp.MapS Try.prog 9 wr mb cm (liftH H)) ∧ Hid (FwI H M tot cm i))
  case atStart => exact ⟨0, 0, _, _, _, by omega, Lib.hid rfl, rfl, S9, M9, Lib.hid ⟨rfl, by omega, by omega, fun s => rfl, by omega, fun s => ⟨Int.le_refl _, Int.le_refl _⟩⟩⟩
  case round =>
    obtain ⟨i, cm, H, M, tot, hi, HKK, rfl, HS, HM, HV⟩ := hrel
    by_cases hin : i < n
    · as_aux_lemma =>
        have hl2 := HR.out.len
        obtain ⟨b, off, rfl, hbl, hc⟩ := (HR.out.below HS.out.bl).at_ (by omega)
        obtain ⟨⟨ky, v⟩, ha⟩ : ∃ a, L[i]? = some a := ⟨_, List.getElem?_eq_getElem (by omega)⟩
        have hoka := HO.out _ (List.mem_of_getElem? ha)
        have kr0 : wr.cell? ⟨b, off + i * 2, none⟩ = some (.string ky) := hc i _ ha 0 (by omega)
        have kr1 : wr.cell? ⟨b, off + i * 2 + 1, none⟩ = some (.int .i64 v) := hc i _ ha 1 (by omega)
        unfold okSI at hoka
        simp only at hoka
        obtain ⟨hky, hv⟩ := hoka
        unfold maxLen at hky
        obtain ⟨x1, x2, ex1, kr, kw, ex2, bl2, kc2⟩ := box2 wr 37 (.string ⟨#[]⟩) (.int .i64 0) (.string ky) (.int .i64 v)
        have S7 := Lib.hid (HS.out.keep bl2)
        have M6 := Lib.hid (HM.out.keep bl2)
        obtain ⟨bx, hbx⟩ : ∃ bx, bx = wr.heap.size := ⟨_, rfl⟩
        rw [← hbx] at kc2
        have kc3 := kc2.rd
        have KC := Lib.hid kc2
        have t2 : (i : Int) < (n : Int) := by omega
        have HIN := Lib.hid hin
        obtain ⟨kx, hkx⟩ : ∃ kx, kx = ky.extract 0 (min (ky.size : Int) 1).toNat := ⟨_, rfl⟩
        have hks : kx.size ≤ 1 := by rw [hkx, ByteArray.size_extract]; omega
        have hkx' : ky.extract 0 (min (ky.size : Int) 1).toNat = kx := hkx.symm
        have HKX := Lib.hid hks
        clear hl2 hc hbl ha bl2 kc2 hky hkx hks
        go_upto_region 10 with (fail)
        rw [← hbx]
        clear kr kw ex1 kr0 kr1 ex2 hbx
        go_upto_region 11 with (fail)
        try rw [hkx']
        clear hkx'
        have hlk := M6.out.look_ok Try.underlying9 Try.underlying49 (z := .int .i64 0) (by kernel_rfl) (s := kx) (by have := HKX.out; unfold maxLen; omega)
        rw [liftH_getD, show (liftH H kx).isSome = (H kx).isSome from by unfold liftH; simp] at hlk
        have hml := fun ty => M6.out.len Try.underlying49 ty
        have htl := HV.out.xb kx
        obtain ⟨hg, hhg⟩ : ∃ hg, hg = (H kx).getD 0 := ⟨_, rfl⟩
        obtain ⟨ob, hob⟩ : ∃ ob, ob = (H kx).isSome := ⟨_, rfl⟩
        rw [← hhg, ← hob] at hlk
        rw [← hhg] at htl
        by_cases hsk : ob = false ∧ cm = 8
        · obtain ⟨h1, h2⟩ := hsk
          rw [h1] at hlk
          have b1 : ((cm : Int) == 8) = true := by rw [beq_iff_eq]; omega
          have fi : IntKind.i64.wrap ((i : Int) + 1) = ((i + 1 : Nat) : Int) := by rw [IntKind.wrap_i64]; omega
          clear h1 h2 hhg hob htl hv
          go_wp2
          go_roundg (n - (i + 1))
          case measure => have := HKK.out; have := HIN.out; omega
          case rel => exact ⟨i + 1, cm, H, M, tot, HIN.out, Lib.hid rfl, rfl, S7, M6, Lib.hid HV.out.skip⟩
        · have HSK := Lib.hid (show (H kx).isSome = true ∨ cm < 8 from by
            rw [← hob]
            have := HV.out.c8
            cases ob with
            | true => exact Or.inl rfl
            | false => exact Or.inr (by have : cm ≠ 8 := fun e => hsk ⟨rfl, e⟩; omega))
          obtain ⟨d, hd⟩ : ∃ d, d = v % 4096 + 1 := ⟨_, rfl⟩
          obtain ⟨y, hy⟩ : ∃ y, y = v % 4096 := ⟨_, rfl⟩
          have m1 : bits .and .i64 v 4095 = y := by rw [hy]; exact i64_mask12 v
          have e1 : IntKind.i64.wrap (y + 1) = d := by rw [IntKind.wrap_i64]; omega
          have hdb : 1 ≤ d ∧ d ≤ 4096 := by omega
          have co := smoffer_any kx (by have := HKX.out; unfold maxLen; omega) d x2 S7.out.at_
          rw [HN.out] at co
          have CO := Lib.hid co
          have HV2 := Lib.hid (HV.out.step (uni_of HS.out.at_).1 (by have := HKX.out; omega) hdb (by omega) HSK.out)
          have HDB := Lib.hid hdb
          have b1 : ob = false → ((cm : Int) == 8) = false := fun h => by rw [beq_eq_false_iff_ne]; intro e; exact hsk ⟨h, by omega⟩
          have HHG := Lib.hid hhg
          have HOB := Lib.hid hob
          have fi : IntKind.i64.wrap ((i : Int) + 1) = ((i + 1 : Nat) : Int) := by rw [IntKind.wrap_i64]; omega
          have eh : IntKind.i64.wrap (hg + d) = hg + d := by rw [IntKind.wrap_i64]; omega
          clear co hd hy hdb hsk hhg hob htl hv
          cases ob with
          | true =>
            clear b1
            go_upto_region 15 with (go_at_call 15; ((with_reducible refine CO.out.mono ?_); rintro e y2 ⟨rfl, s1, f1⟩; have Y2 := Lib.hid (S7.out.step s1 f1); have MY2 := Lib.hid (M6.out.fr f1 (fun e => (HMB.out.1 _ (Or.inl e)) rfl)); clear s1 f1))
            clear hlk hml kc3 m1 e1
            have hlk2 := MY2.out.look Try.underlying9 Try.underlying49 (z := .int .i64 0) (by kernel_rfl) (s := kx) (by have := HKX.out; unfold maxLen; omega)
            rw [liftH_getD, ← HHG.out] at hlk2
            obtain ⟨y3, hst, m3, f3⟩ := MY2.out.store Try.underlying9 Try.underlying49 (by have := HV.out.c8; unfold maxLen; omega) (s := kx) (by have := HKX.out; unfold maxLen; omega) (.int .i64 (hg + d))
            rw [liftH_put, show (liftH H kx).isSome = (H kx).isSome from by unfold liftH; simp] at m3
            have m3' := Lib.hid m3
            have M3 := Lib.hid (show Mp.MapS Try.prog 9 y3 mb (if (H kx).isSome = true then cm else cm + 1) (liftH (putH H kx ((H kx).getD 0 + d))) from by rw [← HHG.out]; exact m3'.out)
            have Y3 := Lib.hid (Y2.out.fr f3 (fun k hk => HMB.out.1 k hk) (fun k hk => by rw [hk]; exact HMB.out.2))
            clear m3 f3 m3'
            go_wp2
            go_roundg (n - (i + 1))
            case measure => have := HKK.out; have := HIN.out; omega
            case rel => exact ⟨i + 1, _, _, _, _, HIN.out, Lib.hid rfl, rfl, Y3, M3, HV2⟩
          | false =>
            have b1 := b1 rfl
            go_upto_region 15 with (go_at_call 15; ((with_reducible refine CO.out.mono ?_); rintro e y2 ⟨rfl, s1, f1⟩; have Y2 := Lib.hid (S7.out.step s1 f1); have MY2 := Lib.hid (M6.out.fr f1 (fun e => (HMB.out.1 _ (Or.inl e)) rfl)); clear s1 f1))
            clear hlk hml kc3 m1 e1
            have hlk2 := MY2.out.look Try.underlying9 Try.underlying49 (z := .int .i64 0) (by kernel_rfl) (s := kx) (by have := HKX.out; unfold maxLen; omega)
            rw [liftH_getD, ← HHG.out] at hlk2
            obtain ⟨y3, hst, m3, f3⟩ := MY2.out.store Try.underlying9 Try.underlying49 (by have := HV.out.c8; unfold maxLen; omega) (s := kx) (by have := HKX.out; unfold maxLen; omega) (.int .i64 (hg + d))
            rw [liftH_put, show (liftH H kx).isSome = (H kx).isSome from by unfold liftH; simp] at m3
            have m3' := Lib.hid m3
            have M3 := Lib.hid (show Mp.MapS Try.prog 9 y3 mb (if (H kx).isSome = true then cm else cm + 1) (liftH (putH H kx ((H kx).getD 0 + d))) from by rw [← HHG.out]; exact m3'.out)
            have Y3 := Lib.hid (Y2.out.fr f3 (fun k hk => HMB.out.1 k hk) (fun k hk => by rw [hk]; exact HMB.out.2))
            clear m3 f3 m3'
            go_wp2
            go_roundg (n - (i + 1))
            case measure => have := HKK.out; have := HIN.out; omega
            case rel => exact ⟨i + 1, _, _, _, _, HIN.out, Lib.hid rfl, rfl, Y3, M3, HV2⟩
    · as_aux_lemma =>
        have hie : i = n := by omega
        subst hie
        clear hin hi HKK
        obtain ⟨wz, hwz⟩ : ∃ wz, wz = wr := ⟨_, rfl⟩
        rw [← hwz] at HS HM ⊢
        clear hwz
        go_upto_region 17 with (fail)
        go_wp2_with (at_range; refine Mp.wpList_rangeS Try.underlying9 Try.underlying49 (by rfl) _ (by rfl) (by rfl) HM.out ?_; intro wr0 hr0 hb0 hs0; have R0 := Lib.hid hr0; have HB0 := Lib.hid hb0; clear hr0 hb0)
        go_frame
        obtain ⟨rr, hrr⟩ : ∃ rr, rr = wz.heap.size := ⟨_, rfl⟩
        rw [← hrr] at R0 ⊢
        have RR := Lib.hid (show (∀ k, Q.all k → k ≠ rr) ∧ w.heap.size ≤ rr from ⟨fun k hk e => by have := HS.out.lt k hk; omega, by rw [hrr]; exact HS.out.bl.size⟩)
        clear hrr hs0
        go_loopg [] cm (fun kq wq => ∃ left, Hid (Mp.RangeS Try.prog 9 wq mb rr cm (liftH H) left kq) ∧ Hid (SmB w wq Q M tot))
        case atStart => exact ⟨_, R0, Lib.hid (HS.out.keep HB0.out)⟩
        case round =>
          obtain ⟨left, RS, SQ⟩ := hrel
          go_wp2_with (at_next; refine Mp.wpList_nextS Try.underlying9 (by rfl) _ (by rfl) (by rfl) RS.out ?_ ?_)
          · intro _ _
            (try go_frame)
            have CL := Lib.hid (smlenM wr SQ.out.at_)
            rw [HV.out.len] at CL
            have hml := fun ty => RS.out.map.len Try.underlying49 ty
            have b1 : ((cm : Int) == (cm : Int)) = true := by simp
            go_wp2_with (go_at_call 18; ((with_reducible refine CL.out.mono ?_); rintro e wx ⟨rfl, rfl⟩))
            go_ret
            exact ⟨rfl, SQ.out.bl⟩
          · intro t u w4 nr hts hlf hMt hrs hlt hfr hsz hen
            obtain ⟨x, hHx, rfl⟩ := liftH_some hMt
            have HLT2 := Lib.hid hlt
            have RS2 := Lib.hid hrs
            have SQ2 := Lib.hid (SQ.out.fr hfr (fun k hk => RR.out.1 k hk) (fun k hk => by rw [hk]; exact RR.out.2))
            have htl := HV.out.tel t
            rw [hHx] at htl
            have htl : tellM M t = (x, 0, true) := htl
            have hcm := smcountM_any t hts w4 SQ2.out.at_
            rw [htl] at hcm
            have CM := Lib.hid (show Calls Try.prog 21 #[.pointer (some ⟨Q.s, 0, none⟩), .string t] w4 (fun e w' => e = .returned (.tuple #[.int .i64 x, .int .i64 0, .bool true]) ∧ Below w4.heap.size w4 w') from hcm)
            have b1 : (x != x) = false := by simp
            clear hMt hrs hlt hfr hsz hlf hHx hts htl hcm
            (try go_frame)
            go_wp2_with (go_at_call 21; ((with_reducible refine CM.out.mono ?_); rintro e w5 ⟨rfl, b5⟩; have RS5 := Lib.hid (RS2.out.keep b5); have SQ5 := Lib.hid (SQ2.out.keep b5); clear b5))
            go_roundg nr
            case measure => exact HLT2.out
            case rel => exact ⟨_, RS5, SQ5⟩
end Go.Proofs.Ytnpiimaapholiaa
