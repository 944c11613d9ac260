/- The contracts of layer 8 (summary): New, Bytes. -/
import Derived.Test.YtnpiimaapholiaaSmO
import Derived.Test.YtnpiimaapholiaaIxL
namespace Go.Proofs.Ytnpiimaapholiaa
set_option linter.unusedSimpArgs false
set_option linter.unusedVariables false
open Go.ChangeShapes Go.WideShapes Go.ChangeAt Go.RowKit
theorem make_rws0 {α : Type} {enc : α → List Value} {m : Nat} (h : ∀ a, (enc a).length = m) (hm : 0 < m) (a : α) {P : Program} {t e : TypeId} {i : TypeInfo} {z : Value} {B : Nat} (hc : z.cells = (enc a).toArray) (ht : P.underlying t = some (.slice e)) (hi : P.info? e = some i) (hz : i.zero = some z) (hs : i.size = m) (hb : i.bytes = B) (n : Nat) (hn : B * n ≤ 281474976710656) (hn2 : n ≤ 281474976710656) (w : World) :
    (Instr.makeSlice t (.int .i64 0) (.int .i64 (n : Int))).run P w = .ok (.slice (some ⟨w.heap.size, 0, none⟩) 0 n) (w.alloc (.cells (rws enc (List.replicate n a)).toArray e)) := by
  have h2 := run_make w t e i z ht hi hz .i64 .i64 0 (n : Int) (by omega) (by omega) (by rw [hb]; omega) (by omega)
  rw [h2, hs, hc]
  simp only [Int.toNat_natCast, Int.toNat_zero]
  rw [rws_made h hm]
def ent0 : Ent := ⟨⟨#[]⟩, 0, 0, 0⟩
theorem ok_new (n : Nat) : SmOK n [] 0 (kNew n) := ⟨(fun x hx => by cases hx), (fun i s e => by cases e), List.nodup_nil, by simp [kNew], (fun x hx => by cases hx), by omega⟩
theorem info_ent : (Try.prog.info? 74).map (fun i => (i.zero, i.size, i.bytes)) = some (some (.agg #[.int .i64 0, .int .i64 0, .int .i64 0]), 3, 24) := by kernel_rfl
theorem hold_al {W0 W1 : World} {rb : Nat} {C : Array Value} (h : ∀ j, W1.cell? ⟨rb, j, none⟩ = C[j]?) (hb : Below W0.heap.size W0 W1) (hr : rb < W0.heap.size) (o : Obj) : (∀ j, (W1.alloc o).cell? ⟨rb, j, none⟩ = C[j]?) ∧ Below W0.heap.size W0 (W1.alloc o) :=
  ⟨fun j => by rw [← h j]; exact (Fr.alloc (F := fun _ => False) (Fr.refl _ _) o).cell (by have := hb.size; omega) (fun h => h), hb.alloc hb.size o⟩
set_option maxHeartbeats 4000000 in
theorem smnew_any (X A B : Nat) (hX : X < 2305843009213693951) (hA : A < 2305843009213693951) (hB : B < 2305843009213693951) (n : Nat) (h1 : 1 ≤ n) (hn : n ≤ 64) (w : World) :
    Calls Try.prog 13 #[.int .i64 (n : Int), .agg #[.int .u64 X, .int .u64 A, .int .u64 B]] w fun e w' => ∃ Q : SmN, e = .returned (.pointer (some ⟨Q.s, 0, none⟩)) ∧ SmAt w' Q [] 0 (kNew n) ∧ Q.N.n = n ∧ (∀ k, Q.all k → w.heap.size ≤ k) ∧ Below w.heap.size w w' := by
  obtain ⟨i0, hi, hz0, hz1, hz2⟩ := info_parts info_ent
  have hmk := make_rws0 encE_len (by omega) ent0 (P := Try.prog) (t := 66) (e := 74) rfl Try.underlying66 hi hz0 hz1 hz2 n (by omega) (by omega)
  have CK := Lib.hid (fun w => new_yes n (by omega) w)
  have t1 : decide ((n : Int) < 1) = false := by rw [decide_eq_false_iff_not]; omega
  have t2 : decide ((64 : Int) < (n : Int)) = false := by rw [decide_eq_false_iff_not]; omega
  have t0 : (n : Int) ≤ 64 := by omega
  have HN := Lib.hid (And.intro h1 hn)
  clear hi hz0 hz1 hz2 h1 hn
  go_enter Try.func13, Try.ntmps13
  go_upto_region 1 with (fail)
  obtain ⟨w1, hw1, hbk, hbl, hsz⟩ := box_new w #[.int .u64 (X : Int), .int .u64 (A : Int), .int .u64 (B : Int)] 30
  rw [hw1]
  obtain ⟨rb, hrb⟩ : ∃ rb, rb = w.heap.size := ⟨_, rfl⟩
  rw [← hrb] at hbk ⊢
  have BK := Lib.hid hbk
  have HB := Lib.hid hbl
  have HS := Lib.hid (And.intro hsz hrb)
  clear hbk hbl hsz hw1 hrb
  go_upto_region 4 with (go_at_call 25; ((with_reducible refine (CK.out _).mono ?_); rintro e w2 ⟨sb, sgb, sgs, sgf, rfl, hk, bk, hb⟩; have KK := Lib.hid hk; have HBB := Lib.hid hb; have K2 := Lib.hid (BK.out.keep bk); have HB2 := Lib.hid (below_in HB.out bk); have HZ := Lib.hid bk.size; clear hk bk hb))
  have k : ∀ j, w2.drew.cell? ⟨rb, j, none⟩ = (#[.int .u64 (X : Int), .int .u64 (A : Int), .int .u64 (B : Int)] : Array Value)[j]? := K2.out.drew.rd
  have y2 : Below w2.heap.size w2 w2.drew := below_draws (Below.refl _ _) 1
  have RL := Lib.hid (lt_of_block K2.out)
  have CI := Lib.hid (fun wx (hx : Below w2.heap.size w2 wx) => show Calls Try.prog 26 #[.pointer (some ⟨sb, 0, none⟩), .agg #[.int .u64 X, .int .u64 A, .int .u64 B]] wx (fun e w' => ∃ x g, e = .returned (.pointer (some ⟨x, 0, none⟩)) ∧ IdxAt w' ⟨x, sb, X, A, B, g, sgb, sgs, sgf, n⟩ (kNew n) ∧ (∀ j, w'.cell? ⟨rb, j, none⟩ = (#[.int .u64 (X : Int), .int .u64 (A : Int), .int .u64 (B : Int)] : Array Value)[j]?) ∧ Below w2.heap.size w2 w' ∧ Below wx.heap.size wx w' ∧ wx.heap.size ≤ x ∧ wx.heap.size ≤ g) from (ixnew_st X A B hX hA hB sb sgb sgs sgf n wx (KK.out.keep hx)).mono (fun e w' ⟨x, g, he, hi, hb, hx1, hg1⟩ => ⟨x, g, he, hi, ((K2.out.keep hx).keep hb).rd, below_in hx hb, hb, hx1, hg1⟩))
  go_region_held3 (fun w' => (∀ j, w'.cell? ⟨rb, j, none⟩ = (#[.int .u64 (X : Int), .int .u64 (A : Int), .int .u64 (B : Int)] : Array Value)[j]?) ∧ Below w2.heap.size w2 w') (first | (refine ⟨?_, ?_⟩ <;> assumption) | exact hold_al (by assumption) (by assumption) RL.out _ | exact hold_al (hold_al (by assumption) (by assumption) RL.out _).1 (hold_al (by assumption) (by assumption) RL.out _).2 RL.out _)
    ((go_at_call 26; ((with_reducible refine (CI.out _ (by first | assumption | exact And.right (by assumption))).mono ?_); rintro e w3 ⟨x, g, rfl, hi, z1, z2, z3, z4, z5⟩; have I3 := Lib.hid hi; have B3 := Lib.hid z3; have X3 := Lib.hid (And.intro z4 z5); clear hi z3 z4 z5)))
  all_goals
    go_wp2
    go_ret
  all_goals
    have hn := HN.out
    have hkl := KK.out.lt
    have hbb := HBB.out
    have hx := X3.out
    have hil := I3.out.lt
    have l1 := hil x (Or.inr rfl)
    have l2 := hil g (Or.inl (Or.inl rfl))
    have l3 := z2.size
    have l4 := HZ.out
    have l5 := HS.out
    have l6 := HB.out.size
    have l7 : w2.drew.heap.size = w2.heap.size := rfl
  · obtain ⟨w4, hw4, k4, b4, s4⟩ := box_new w3 (rws encE (List.replicate n ent0)).toArray 74
    rw [hw4]
    obtain ⟨w5, hw5, k5, b5, s5⟩ := box_new w4 #[.pointer (some ⟨sb, 0, none⟩), .pointer (some ⟨x, 0, none⟩), .slice (some ⟨w3.heap.size, 0, none⟩) 0 n, .int .i64 0] 68
    rw [hw5]
    rw [s4] at k5
    have bb := below_in (below_in (below_in HB2.out z2) b4) b5
    refine ⟨⟨w3.heap.size + 1, w3.heap.size, ⟨x, sb, X, A, B, g, sgb, sgs, sgf, n⟩⟩, rfl, ⟨k5, ⟨List.replicate n ent0, k4.keep b5, by simp⟩, (I3.out.keep b4).keep b5, hn, ⟨by simp only; omega, ?_⟩, ok_new n⟩, rfl, ?_, bb⟩
    · rintro k ((hk | hk | hk | hk | hk) | hk) <;> simp only at hk ⊢ <;> omega
    · rintro k (((hk | hk | hk | hk | hk) | hk | hk) | hk) <;> simp only at hk ⊢ <;> omega
  · obtain ⟨w5, hw5, k5, b5, s5⟩ := box_new w3 #[.pointer (some ⟨sb, 0, none⟩), .pointer (some ⟨x, 0, none⟩), .slice (some ⟨w2.heap.size, 0, none⟩) 0 n, .int .i64 0] 68
    rw [hw5]
    have k4 : Blk w3 w2.heap.size 74 (rws encE (List.replicate n ent0)).toArray := by
      obtain ⟨w4, hw4, k4, b4, s4⟩ := box_new w2 (rws encE (List.replicate n ent0)).toArray 74
      have b3 := B3.out
      rw [hw4] at b3
      exact k4.drew.keep b3
    have l8 : (w2.alloc (Obj.cells (rws encE (List.replicate n ent0)).toArray 74)).drew.heap.size = w2.heap.size + 1 := by
      show (w2.heap.push _).size = _
      simp
    rw [l8] at hx
    have bb := below_in (below_in HB2.out z2) b5
    refine ⟨⟨w3.heap.size, w2.heap.size, ⟨x, sb, X, A, B, g, sgb, sgs, sgf, n⟩⟩, rfl, ⟨k5, ⟨List.replicate n ent0, k4.keep b5, by simp⟩, I3.out.keep b5, hn, ⟨by simp only; omega, ?_⟩, ok_new n⟩, rfl, ?_, bb⟩
    · rintro k ((hk | hk | hk | hk | hk) | hk) <;> simp only at hk ⊢ <;> omega
    · rintro k (((hk | hk | hk | hk | hk) | hk | hk) | hk) <;> simp only at hk ⊢ <;> omega
/-- none. -/
theorem smnew_no (n : Int) (hn : n < 1 ∨ 64 < n) (v : Value) (hv : ∃ X A B : Int, v = .agg #[.int .u64 X, .int .u64 A, .int .u64 B]) (w : World) : Calls Try.prog 13 #[.int .i64 n, v] w fun e w' => e = .returned (.pointer none) ∧ Below w.heap.size w w' := by
  obtain ⟨X, A, B, rfl⟩ := hv
  by_cases h1 : n < 1
  · have t1 : decide (n < (1 : Int)) = true := by rw [decide_eq_true_iff]; exact h1
    clear hn
    go_enter Try.func13, Try.ntmps13
    go_wp2
    go_ret
    exact ⟨rfl, (Below.refl _ _).alloc (Nat.le_refl _) _⟩
  · have t1 : decide (n < (1 : Int)) = false := by rw [decide_eq_false_iff_not]; exact h1
    have t2 : decide ((64 : Int) < n) = true := by rw [decide_eq_true_iff]; omega
    clear hn
    go_enter Try.func13, Try.ntmps13
    go_wp2
    go_ret
    exact ⟨rfl, (Below.refl _ _).alloc (Nat.le_refl _) _⟩
end Go.Proofs.Ytnpiimaapholiaa
