/- The contracts of layer 19 (script): Decode's result as it lies, the example. -/
import Derived.Test.YtodlgkpgpffpaaaScD
namespace Go.Proofs.Ytodlgkpgpffpaaa
open Go.ChangeShapes Go.WideShapes Go.ChangeAt Go.RowKit
/-- acts as they lie. -/
structure ActsAt (w : World) (base : Nat) (A : Option Addr) (c : Nat) (ls : List ActV) : Prop where
  cap : ls.length ≤ c
  max : c ≤ maxLen
  at_ : 0 < ls.length → ∃ g, A = some ⟨g, 0, none⟩ ∧ base ≤ g ∧ g < w.heap.size ∧ ∀ (j : Nat) (h : j < ls.length) (i : Nat), i < 6 → w.cell? ⟨g, j * 6 + i, none⟩ = (ls[j]).cells[i]?
theorem acts_at {w : World} {base : Nat} {v : Value} {ls : List ActV} (h : w.ownsRow base 32 6 v ls.length (cells6 ls)) : ∃ A cap, v = .slice A ls.length cap ∧ ActsAt w base A cap ls := by
  rcases h.2 with ⟨rfl, h0⟩ | ⟨g, cap, cur, hv, hb, hg, hnc, hcm, hcs, htake⟩
  · exact ⟨none, 0, by rw [h0], by omega, by unfold maxLen; omega, fun h => absurd h (by omega)⟩
  · refine ⟨some ⟨g, 0, none⟩, cap, hv, hnc, hcm, fun h0 => ⟨g, rfl, hb, lt_of_block hg, fun j hj i hi => ?_⟩⟩
    subst hv
    rw [← cells6_at ls j hj i hi]
    exact h.cellAt _ (by omega)
theorem ActsAt.keep {w w' : World} {base cap : Nat} {A : Option Addr} {ls : List ActV} (h : ActsAt w base A cap ls) (hb : Below w.heap.size w w') : ActsAt w' base A cap ls :=
  ⟨h.cap, h.max, fun h0 => by
    obtain ⟨g, e, hg, hlt, hc⟩ := h.at_ h0
    exact ⟨g, e, hg, Nat.lt_of_lt_of_le hlt hb.size, fun j hj i hi => (hb.cell (p := ⟨g, j * 6 + i, none⟩) hlt).trans (hc j hj i hi)⟩⟩
theorem decode_x (A : Option Addr) (n c : Nat) (q : List Int) (w : World) (hr : RdI w .u8 A n c q) (hn : n ≤ 1000000) :
    Calls Try.prog 11 #[.slice A n c] w fun e w' => ∃ A' cap ls, e = .returned (.slice A' ls.length cap) ∧ ActsAt w' (w.heap.size + 1) A' cap ls ∧ ls.map ActV.to6 = decF q.length q 0 ∧ Below w.heap.size w w' := by
  refine (decode_any A n c q w hr hn).mono ?_
  rintro e w' ⟨v, ls, rfl, ho, hd, hf⟩
  obtain ⟨A', cap, rfl, ha⟩ := acts_at ho
  exact ⟨A', cap, ls, rfl, ha, hd, hf.below (Nat.le_refl _) (fun k hk => hk.elim)⟩
theorem one_act {ls : List ActV} {x : Act6} (h : ls.map ActV.to6 = [x]) : ∃ a, ls = [a] ∧ a.to6 = x := by
  cases ls with
  | nil => simp at h
  | cons a r =>
    cases r with
    | nil => exact ⟨a, rfl, by simpa using h⟩
    | cons b r => simp at h
theorem to6_at {ls : List ActV} {l : List Act6} (h : ls.map ActV.to6 = l) (j : Nat) (hj : j < ls.length) (hj' : j < l.length) : (ls[j]).to6 = l[j] := by
  subst h; simp
theorem fit_dec : decF 5 [2, 0, 5, 1, 9] 0 = [⟨2, 5, 0, 1, 0, 0⟩] := by rfl
theorem fit_any (w : World) : Calls Try.prog 7 #[] w fun e w' => e = .returned (.bool true) ∧ Below w.heap.size w w' := by
  go_enter Try.func7, Try.ntmps7
  have NW := Lib.hid (heap_alloc_new w (.cells #[.int .u8 2, .int .u8 0, .int .u8 5, .int .u8 1, .int .u8 9] 5))
  have CD := Lib.hid (decode_x (some ⟨w.heap.size, 0, none⟩) 5 5 [2, 0, 5, 1, 9] _ (rd_blk (k := .u8) NW.out rfl (by decide) (by decide)) (by omega))
  go_upto_region 2 with (go_at_call 11; ((with_reducible refine CD.out.mono ?_); rintro e w1 ⟨A1, c1, ls, rfl, ha, hd, hb⟩; have HA := Lib.hid ha; have HD := Lib.hid hd; have HB := Lib.hid ((Below.trans ((Below.refl w.heap.size w).alloc (Nat.le_refl _) _) (hb.mono (by simp)))); clear ha hd hb))
  have hd := HD.out
  rw [show ([2, 0, 5, 1, 9] : List Int).length = 5 from rfl, fit_dec] at hd
  · obtain ⟨a, rfl, ha⟩ := one_act hd
    obtain ⟨kd, ck, cn, aA, dl, dc, an, aB, sl, sc⟩ := a
    simp only [ActV.to6, Act6.mk.injEq] at ha
    obtain ⟨rfl, rfl, rfl, rfl, rfl, rfl⟩ := ha
    obtain ⟨g, rfl, _, hlt, hc⟩ := HA.out.at_ (by simp)
    have hcap := HA.out.cap
    have c0 := hc 0 (by simp) 0 (by omega)
    have c1 := hc 0 (by simp) 1 (by omega)
    have c3 := hc 0 (by simp) 3 (by omega)
    simp [ActV.cells] at c0 c1 c3
    simp only [List.length_singleton] at hcap
    clear hc
    go_wp2
    go_ret
    exact ⟨rfl, HB.out⟩
end Go.Proofs.Ytodlgkpgpffpaaa
