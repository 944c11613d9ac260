/- The example of layer 4 (keys), and two of its laws, walked. -/
import Derived.Test.YtaicfgjipekooaaKyN
namespace Go.Proofs.Ytaicfgjipekooaa
open Go.ChangeShapes Go.WideShapes Go.ChangeAt Go.RowKit
theorem below_on {W0 w w' : World} (h : Below W0.heap.size W0 w) (b : Below w.heap.size w w') : Below W0.heap.size W0 w' := h.trans (b.mono h.size)
/-- a store with another key at a place. -/
abbrev upd (K : Nat → Option ByteArray) (i : Nat) (k : Option ByteArray) : Nat → Option ByteArray := fun j => if j = i then k else K j
set_option maxHeartbeats 1000000 in
theorem fit_any (w : World) : Calls Try.prog 7 #[] w fun e w' => e = .returned (.bool true) ∧ Below w.heap.size w w' := by
  go_enter Try.func7, Try.ntmps7
  go_wp2_with (fail)
  refine (show Calls Try.prog 8 #[.int .i64 2] w _ from new_yes 2 (by omega) w).mono ?_
  rintro e w1 ⟨b, gb, gs, gf, rfl, h1, b1, hb⟩
  have H1 := Lib.hid (show KeysIn w1 b gb gs gf 2 ([1] ++ [0]) (fun _ => none) from h1)
  have B1 := Lib.hid b1
  have HB := Lib.hid (fun k (hk : kyF b gb gs gf k) => (show w.heap.size ≤ k by rcases hk with h | h | h | h <;> omega))
  clear h1 b1 hb
  go_wp2_with (fail)
  refine (put_yes 0 ⟨#[97]⟩ w1 H1.out (by decide)).mono ?_
  rintro e w2 ⟨rfl, h2, f2⟩
  have H2 := Lib.hid (show KeysIn w2 b gb gs gf 2 ([] ++ [1]) (upd (fun _ => none) 0 (some ⟨#[97]⟩)) from h2)
  have B2 := Lib.hid (B1.out.trans (f2.below B1.out.size HB.out))
  clear h2 f2 H1 B1
  go_wp2_with (fail)
  refine (put_yes 1 ⟨#[98]⟩ w2 H2.out (by decide)).mono ?_
  rintro e w3 ⟨rfl, h3, f3⟩
  have H3 := Lib.hid (show KeysIn w3 b gb gs gf 2 [] (upd (upd (fun _ => none) 0 (some ⟨#[97]⟩)) 1 (some ⟨#[98]⟩)) from h3)
  have B3 := Lib.hid (B2.out.trans (f3.below B2.out.size HB.out))
  clear h3 f3 H2 B2
  go_wp2_with (fail)
  refine (put_no ⟨#[99]⟩ w3 H3.out (Or.inr rfl)).mono ?_
  rintro e w4 ⟨rfl, rfl⟩
  go_wp2_with (fail)
  refine (show Calls Try.prog 10 #[.pointer (some ⟨b, 0, none⟩), .int .i64 0] w3 _ from free_yes 0 w3 H3.out rfl).mono ?_
  rintro e w5 ⟨rfl, h5, f5⟩
  have H5 := Lib.hid (show KeysIn w5 b gb gs gf 2 ([] ++ [0]) _ from h5)
  have B5 := Lib.hid (B3.out.trans (f5.below B3.out.size HB.out))
  clear h5 f5 H3 B3
  go_wp2_with (fail)
  refine (put_yes 0 ⟨#[99]⟩ w5 H5.out (by decide)).mono ?_
  rintro e w6 ⟨rfl, h6, f6⟩
  have B6 := Lib.hid (B5.out.trans (f6.below B5.out.size HB.out))
  clear h6 f6 H5 B5
  go_wp2_with (go_at_call 15; refine (bytes_any 2 (by decide) _).mono ?_; rintro e w7 ⟨rfl, rfl⟩)
  go_ret
  exact ⟨rfl, B6.out⟩
set_option maxHeartbeats 2000000 in
set_option maxRecDepth 100000 in
theorem bytes_law (w : World) (s t : ByteArray) (hs0 : s.size ≤ maxLen) (ht0 : t.size ≤ maxLen) :
    Calls Try.prog 6 #[.string s, .string t] w fun e w' => e = .returned (.bool true) ∧ Below w.heap.size w w' := by
  unfold maxLen at hs0 ht0
  by_cases hn : (200 : Int) < (s.size : Int)
  · go_enter Try.func6, Try.ntmps6
    go_wp2_with (go_at_call 7; refine (fit_any _).mono ?_; rintro e w1 ⟨rfl, b1⟩)
    go_ret
    exact ⟨rfl, b1⟩
  have hnf : decide ((200 : Int) < (s.size : Int)) = false := by simpa using hn
  by_cases hm : (200 : Int) < (t.size : Int)
  · have hmt : decide ((200 : Int) < (t.size : Int)) = true := by simpa using hm
    go_enter Try.func6, Try.ntmps6
    go_wp2_with (go_at_call 7; refine (fit_any _).mono ?_; rintro e w1 ⟨rfl, b1⟩)
    go_ret
    exact ⟨rfl, b1⟩
  have hmf : decide ((200 : Int) < (t.size : Int)) = false := by simpa using hm
  go_enter Try.func6, Try.ntmps6
  go_upto_region 5 with (go_at_call 7; refine (fit_any _).mono ?_; rintro e w1 ⟨rfl, b1⟩; have B0 := Lib.hid b1; clear b1)
  go_wp2_with (fail)
  refine (show Calls Try.prog 8 #[.int .i64 2] w1 _ from new_yes 2 (by omega) w1).mono ?_
  rintro e w2 ⟨b, gb, gs, gf, rfl, h1, b1, hb⟩
  have H1 := Lib.hid (show KeysIn w2 b gb gs gf 2 ([1] ++ [0]) (fun _ => none) from h1)
  have B1 := Lib.hid (below_on B0.out b1)
  have HB := Lib.hid (fun k (hk : kyF b gb gs gf k) => (show w.heap.size ≤ k by have := B0.out.size; rcases hk with h | h | h | h <;> omega))
  clear h1 b1 hb B0
  by_cases hs : s.size ≤ 64
  · have s1 : decide ((s.size : Int) ≤ 64) = true := by simp; omega
    have s2 : decide (s.size ≤ 64) = true := by simp; omega
    by_cases ht : t.size ≤ 64
    · have t1 : decide ((t.size : Int) ≤ 64) = true := by simp; omega
      have t2 : decide (t.size ≤ 64) = true := by simp; omega
      go_wp2_with (fail)
      refine (put_yes 0 s w2 H1.out hs).mono ?_
      rintro e w3 ⟨rfl, h3, f3⟩
      have H3 := Lib.hid (show KeysIn w3 b gb gs gf 2 ([] ++ [1]) (upd (fun _ => none) 0 (some s)) from h3)
      have B3 := Lib.hid (B1.out.trans (f3.below B1.out.size HB.out))
      clear h3 f3 H1 B1
      go_wp2_with (fail)
      refine (put_yes 1 t w3 H3.out ht).mono ?_
      rintro e w4 ⟨rfl, h4, f4⟩
      have H4 := Lib.hid (show KeysIn w4 b gb gs gf 2 [] (upd (upd (fun _ => none) 0 (some s)) 1 (some t)) from h4)
      have B4 := Lib.hid (B3.out.trans (f4.below B3.out.size HB.out))
      clear h4 f4 H3 B3
      go_wp2_with (fail)
      refine (show Calls Try.prog 11 #[.pointer (some ⟨b, 0, none⟩), .int .i64 0] w4 _ from key_yes 0 s w4 H4.out (by omega) rfl).mono ?_
      rintro e w5 ⟨rfl, b5⟩
      have H5 := Lib.hid (H4.out.keep b5)
      have B5 := Lib.hid (below_on B4.out b5)
      clear b5 H4 B4
      go_wp2_with (fail)
      refine (show Calls Try.prog 11 #[.pointer (some ⟨b, 0, none⟩), .int .i64 1] w5 _ from key_yes 1 t w5 H5.out (by omega) rfl).mono ?_
      rintro e w6 ⟨rfl, b6⟩
      have H6 := Lib.hid (H5.out.keep b6)
      have B6 := Lib.hid (below_on B5.out b6)
      clear b6 H5 B5
      go_wp2_with (fail)
      refine (is_any 0 s w6 H6.out).mono ?_
      rintro e w7 ⟨rfl, b7⟩
      have H7 := Lib.hid (H6.out.keep b7)
      have B7 := Lib.hid (below_on B6.out b7)
      have e1 : isB (upd (upd (fun _ => none) 0 (some s)) 1 (some t)) 2 0 s = true := by unfold isB; simp [upd]
      clear b7 H6 B6
      go_wp2_with (fail)
      refine (is_any 0 t w7 H7.out).mono ?_
      rintro e w8 ⟨rfl, b8⟩
      have B8 := Lib.hid (below_on B7.out b8)
      have e2 : isB (upd (upd (fun _ => none) 0 (some s)) 1 (some t)) 2 0 t = (s.toList == t.toList) := by unfold isB; simp [upd]
      clear b8 H7 B7
      go_wp2_with (fail)
      go_ret
      exact ⟨rfl, B8.out⟩
    · have t1 : decide ((t.size : Int) ≤ 64) = false := by simp; omega
      have t2 : decide (t.size ≤ 64) = false := by simp; omega
      go_wp2_with (fail)
      refine (put_yes 0 s w2 H1.out hs).mono ?_
      rintro e w3 ⟨rfl, h3, f3⟩
      have H3 := Lib.hid (show KeysIn w3 b gb gs gf 2 [1] (upd (fun _ => none) 0 (some s)) from h3)
      have B3 := Lib.hid (B1.out.trans (f3.below B1.out.size HB.out))
      clear h3 f3 H1 B1
      go_wp2_with (fail)
      refine (put_no t w3 H3.out (Or.inl (by omega))).mono ?_
      rintro e w4 ⟨rfl, rfl⟩
      go_wp2_with (fail)
      refine (show Calls Try.prog 11 #[.pointer (some ⟨b, 0, none⟩), .int .i64 0] w3 _ from key_yes 0 s w3 H3.out (by omega) rfl).mono ?_
      rintro e w5 ⟨rfl, b5⟩
      have H5 := Lib.hid (H3.out.keep b5)
      have B5 := Lib.hid (below_on B3.out b5)
      clear b5 H3 B3
      go_wp2_with (fail)
      refine (key_no (-1) w5 H5.out rfl).mono ?_
      rintro e w6 ⟨rfl, rfl⟩
      go_wp2_with (fail)
      refine (is_any 0 s w5 H5.out).mono ?_
      rintro e w7 ⟨rfl, b7⟩
      have H7 := Lib.hid (H5.out.keep b7)
      have B7 := Lib.hid (below_on B5.out b7)
      have e1 : isB (upd (fun _ => none) 0 (some s)) 2 0 s = true := by unfold isB; simp [upd]
      clear b7 H5 B5
      go_wp2_with (fail)
      refine (is_any 0 t w7 H7.out).mono ?_
      rintro e w8 ⟨rfl, b8⟩
      have B8 := Lib.hid (below_on B7.out b8)
      have e2 : isB (upd (fun _ => none) 0 (some s)) 2 0 t = (s.toList == t.toList) := by unfold isB; simp [upd]
      clear b8 H7 B7
      go_wp2_with (fail)
      go_ret
      exact ⟨rfl, B8.out⟩
  · have s1 : decide ((s.size : Int) ≤ 64) = false := by simp; omega
    have s2 : decide (s.size ≤ 64) = false := by simp; omega
    by_cases ht : t.size ≤ 64
    · have t1 : decide ((t.size : Int) ≤ 64) = true := by simp; omega
      have t2 : decide (t.size ≤ 64) = true := by simp; omega
      go_wp2_with (fail)
      refine (put_no s w2 H1.out (Or.inl (by omega))).mono ?_
      rintro e w3 ⟨rfl, rfl⟩
      go_wp2_with (fail)
      refine (put_yes 0 t w2 H1.out ht).mono ?_
      rintro e w4 ⟨rfl, h4, f4⟩
      have H4 := Lib.hid (show KeysIn w4 b gb gs gf 2 [1] (upd (fun _ => none) 0 (some t)) from h4)
      have B4 := Lib.hid (B1.out.trans (f4.below B1.out.size HB.out))
      clear h4 f4 H1 B1
      go_wp2_with (fail)
      refine (key_no (-1) w4 H4.out rfl).mono ?_
      rintro e w6 ⟨rfl, rfl⟩
      go_wp2_with (fail)
      refine (show Calls Try.prog 11 #[.pointer (some ⟨b, 0, none⟩), .int .i64 0] w4 _ from key_yes 0 t w4 H4.out (by omega) rfl).mono ?_
      rintro e w5 ⟨rfl, b5⟩
      have B5 := Lib.hid (below_on B4.out b5)
      clear b5 H4 B4
      go_wp2_with (fail)
      go_ret
      exact ⟨rfl, B5.out⟩
    · have t1 : decide ((t.size : Int) ≤ 64) = false := by simp; omega
      have t2 : decide (t.size ≤ 64) = false := by simp; omega
      go_wp2_with (fail)
      refine (put_no s w2 H1.out (Or.inl (by omega))).mono ?_
      rintro e w3 ⟨rfl, rfl⟩
      go_wp2_with (fail)
      refine (put_no t w2 H1.out (Or.inl (by omega))).mono ?_
      rintro e w3 ⟨rfl, rfl⟩
      go_wp2_with (fail)
      refine (key_no (-1) w2 H1.out rfl).mono ?_
      rintro e w6 ⟨rfl, rfl⟩
      go_wp2_with (fail)
      refine (key_no (-1) w2 H1.out rfl).mono ?_
      rintro e w6 ⟨rfl, rfl⟩
      go_wp2_with (fail)
      go_ret
      exact ⟨rfl, B1.out⟩
end Go.Proofs.Ytaicfgjipekooaa
