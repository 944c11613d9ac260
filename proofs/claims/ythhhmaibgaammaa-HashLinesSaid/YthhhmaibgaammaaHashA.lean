/- The law HashApart of layer 3 (hash), walked. -/
import Derived.Test.YthhhmaibgaammaaHashL
import Derived.Test.YthhhmaibgaammaaFermat
import Derived.Deep.RegionHeld3
namespace Go.Proofs.Ythhhmaibgaammaa
open Go.ChangeShapes Go.WideShapes Go.ChangeAt Go.RowKit

namespace Ha
theorem num_inj : ∀ (n : Nat) (l m : List UInt8), l.length = n → m.length = n → num l = num m → l = m := by
  intro n
  induction n with
  | zero => intro l m h g _; rw [List.eq_nil_of_length_eq_zero h, List.eq_nil_of_length_eq_zero g]
  | succ n ih =>
    intro l m h g e
    obtain ⟨l', c, rfl⟩ : ∃ l' c, l = l' ++ [c] := ⟨_, _, (List.dropLast_concat_getLast (by intro e; subst e; simp at h)).symm⟩
    obtain ⟨m', d, rfl⟩ : ∃ l' c, m = l' ++ [c] := ⟨_, _, (List.dropLast_concat_getLast (by intro e; subst e; simp at g)).symm⟩
    simp only [List.length_append, List.length_cons, List.length_nil] at h g
    rw [num_snoc, num_snoc] at e
    have hc := UInt8.toNat_lt c
    have hd := UInt8.toNat_lt d
    have e1 : num l' = num m' := by omega
    have e2 : c.toNat = d.toNat := by omega
    rw [ih _ _ (by omega) (by omega) e1, UInt8.toNat_inj.1 e2]
theorem mod_cancel {a b c p : Nat} (ha : a < p) (hb : b < p) (hc : c < p) (h : (a + c) % p = (b + c) % p) : a = b := by
  have h1 : (a + c) % p = if a + c < p then a + c else a + c - p := by
    split
    · exact Nat.mod_eq_of_lt ‹_›
    · rw [Nat.mod_eq_sub_mod (by omega), Nat.mod_eq_of_lt (by omega)]
  have h2 : (b + c) % p = if b + c < p then b + c else b + c - p := by
    split
    · exact Nat.mod_eq_of_lt ‹_›
    · rw [Nat.mod_eq_sub_mod (by omega), Nat.mod_eq_of_lt (by omega)]
  rw [h1, h2] at h
  split at h <;> split at h <;> omega
theorem mul_cancel {a b c : Nat} (ha : a < Fm.P) (hb : b < Fm.P) (hc : c < Fm.P) (h0 : 0 < c) (h : a * c % Fm.P = b * c % Fm.P) : a = b := by
  have i := Fm.inv_mul c (Fm.N - 1) (by decide) h0 hc
  have h1 : a * c * (c ^ (Fm.N - 1) % Fm.P) % Fm.P = a := by
    rw [Nat.mul_assoc, Nat.mul_mod, i, Nat.mul_one, Nat.mod_mod, Nat.mod_eq_of_lt ha]
  have h2 : b * c * (c ^ (Fm.N - 1) % Fm.P) % Fm.P = b := by
    rw [Nat.mul_assoc, Nat.mul_mod, i, Nat.mul_one, Nat.mod_mod, Nat.mod_eq_of_lt hb]
  rw [← h1, ← h2, Nat.mul_mod, h, ← Nat.mul_mod]
theorem poly_short {X h : Nat} {l : List UInt8} (h1 : l ≠ []) (h7 : l.length ≤ 7) : poly X h l = (h * X % 2305843009213693951 + num l) % 2305843009213693951 := by
  rw [poly_cons h1, List.take_of_length_le h7, List.drop_of_length_le h7, poly_nil]
theorem hof_inj {X A B : Nat} {l m : List UInt8} (hA : A < 2305843009213693951) (hA0 : 0 < A) (hB : B < 2305843009213693951) (h7 : l.length ≤ 7) (hlm : m.length = l.length) (h : hof X A B l = hof X A B m) : l = m := by
  unfold hof at h
  rw [hlm] at h
  have h1 := mod_cancel (Nat.mod_lt _ (by omega)) (Nat.mod_lt _ (by omega)) hB h
  by_cases e : l = []
  · subst e
    exact (List.eq_nil_of_length_eq_zero hlm).symm
  · have e2 : m ≠ [] := by intro e2; subst e2; exact e (List.eq_nil_of_length_eq_zero hlm.symm)
    have hl0 : (l.length + 1) % 2305843009213693951 < 2305843009213693951 := Nat.mod_lt _ (by omega)
    have p1 := poly_lt X l.length ((l.length + 1) % 2305843009213693951) l (Nat.le_refl _) hl0
    have p2 := poly_lt X m.length ((l.length + 1) % 2305843009213693951) m (Nat.le_refl _) hl0
    have h2 := mul_cancel p1 p2 hA hA0 h1
    rw [poly_short e h7, poly_short e2 (by omega), Nat.add_comm _ (num l), Nat.add_comm _ (num m)] at h2
    have n1 := num_lt7 l h7
    have n2 := num_lt7 m (by omega)
    have h3 := mod_cancel (by omega) (by omega) (Nat.mod_lt _ (by omega)) h2
    exact num_inj l.length l m rfl hlm h3
end Ha
/-- Of on a row, said of the row's cells and what stood below. -/
theorem of_held (W0 : World) (bx X A B : Nat) (hX : X < 2305843009213693951) (hA : A < 2305843009213693951) (hB : B < 2305843009213693951) (s : ByteArray) (hs : s.size ≤ maxLen) (w : World)
    (k0 : w.cell? ⟨bx, 0, none⟩ = some (.int .u64 (X : Int))) (k1 : w.cell? ⟨bx, 1, none⟩ = some (.int .u64 (A : Int))) (k2 : w.cell? ⟨bx, 2, none⟩ = some (.int .u64 (B : Int))) (hb : Below W0.heap.size W0 w) :
    Calls Try.prog 10 #[.agg #[.int .u64 X, .int .u64 A, .int .u64 B], .string s] w fun e w' => e = .returned (.int .u64 (Ha.hof X A B s.data.toList : Nat)) ∧
      w'.cell? ⟨bx, 0, none⟩ = some (.int .u64 (X : Int)) ∧ w'.cell? ⟨bx, 1, none⟩ = some (.int .u64 (A : Int)) ∧ w'.cell? ⟨bx, 2, none⟩ = some (.int .u64 (B : Int)) ∧ Below W0.heap.size W0 w' := by
  refine (rowof_any X A B hX hA hB s hs w).mono ?_
  rintro e w' ⟨rfl, b⟩
  exact ⟨rfl, (b.cell (lt_of_cell k0)).trans k0, (b.cell (lt_of_cell k1)).trans k1, (b.cell (lt_of_cell k2)).trans k2, hb.trans (b.mono hb.size)⟩
theorem bytes_ext {a b : ByteArray} (h : a.data.toList = b.data.toList) : a = b := by
  cases a; cases b; simp only at h; rw [Array.toList_inj.1 h]
theorem rA_pos (zs : List Int) (i : Nat) : 0 < rA zs i := Nat.succ_pos _
set_option maxHeartbeats 1000000 in
theorem apart_law (w : World) (D : Option Addr) (n c : Nat) (zs : List Int) (a b : ByteArray) (hr : RdI w .u64 D n c zs) (ha : a.size ≤ maxLen) (hb : b.size ≤ maxLen) :
    Calls Try.prog 4 #[.slice D n c, .string a, .string b] w fun e w' => e = .returned (.bool true) ∧ Below w.heap.size w w' := by
  have hcap := hr.cap
  have hmax := hr.max
  unfold maxLen at hmax ha hb
  by_cases h1 : 100 < n
  · have t1 : decide ((100 : Int) < (n : Int)) = true := by rw [decide_eq_true_eq]; omega
    clear h1
    go_enter Try.func4, Try.ntmps4
    go_wp2_with (first | (go_at_call 7; refine (fit_any _).mono ?_; rintro e w1 ⟨rfl, b1⟩; have B1 := Lib.hid b1; clear b1))
    go_ret
    exact ⟨rfl, B1.out⟩
  have t1 : decide ((100 : Int) < (n : Int)) = false := by rw [decide_eq_false_iff_not]; omega
  by_cases h2 : 7 < a.size
  · have t2 : decide ((7 : Int) < (a.size : Int)) = true := by rw [decide_eq_true_eq]; omega
    clear h1 h2
    go_enter Try.func4, Try.ntmps4
    go_wp2_with (first | (go_at_call 7; refine (fit_any _).mono ?_; rintro e w1 ⟨rfl, b1⟩; have B1 := Lib.hid b1; clear b1))
    go_ret
    exact ⟨rfl, B1.out⟩
  have t2 : decide ((7 : Int) < (a.size : Int)) = false := by rw [decide_eq_false_iff_not]; omega
  by_cases h3 : b.size = a.size
  · have t3 : ((b.size : Int) != (a.size : Int)) = false := by rw [bne_eq_false_iff_eq]; omega
    have h2' : a.size ≤ 7 := by omega
    have HS := Lib.hid h3
    have HSS := Lib.hid h2'
    have RR := Lib.hid hr
    clear h1 h2 h3 hr h2'
    go_enter Try.func4, Try.ntmps4
    go_wp2_with (first
      | (go_at_call 7; refine (fit_any _).mono ?_; rintro e w1 ⟨rfl, b1⟩; have B1 := Lib.hid b1; clear b1)
      | (go_at_call 9; refine (rows_any w1 D n c zs (RR.out.below B1.out) 3 (by omega)).mono ?_; rintro e w2 ⟨rfl, r2, b2⟩; have B2 := Lib.hid b2; have R2 := Lib.hid r2; clear b2 r2))
    clear t1 t2 t3
    go_loopg [29] 3 (fun k si wr => ∃ i : Nat, i ≤ 3 ∧ k = 3 - i ∧ si = .int .i64 (i : Int) ∧ Below w2.heap.size w2 wr)
    case atStart => exact ⟨0, by omega, by omega, rfl, Below.refl _ _⟩
    case round =>
      obtain ⟨i, hi, hkk, rfl, hb⟩ := hrel
      have HK := Lib.hid hkk
      have HB := Lib.hid hb
      clear hkk hb
      by_cases hin : i < 3
      · obtain ⟨C, q1, q2, q3⟩ := R2.out.blk
        have hlt := lt_of_block q1
        obtain ⟨C, q1, q2, q3⟩ := (R2.out.below HB.out hlt).blk
        obtain ⟨g0, g1, g2⟩ := q3 i hin
        rw [Nat.mul_comm] at g0 g1 g2
        have k0 := (cell_at q1).trans g0
        have k1 := (cell_at q1).trans g1
        have k2 := (cell_at q1).trans g2
        have hX := rX_lt zs i
        have hA := rA_lt zs i
        have hA0 := rA_pos zs i
        have hB := rB_lt zs i
        obtain ⟨X, eX⟩ : ∃ z, z = rX zs i := ⟨_, rfl⟩
        obtain ⟨A, eA⟩ : ∃ z, z = rA zs i := ⟨_, rfl⟩
        obtain ⟨B, eB⟩ : ∃ z, z = rB zs i := ⟨_, rfl⟩
        rw [← eX] at k0 hX
        rw [← eA] at k1 hA hA0
        rw [← eB] at k2 hB
        clear q1 q2 q3 g0 g1 g2 eX eA eB
        go_upto_region 8 with (fail)
        have m0 : (wr.alloc (.cells #[.int .u64 X, .int .u64 A, .int .u64 B] 30)).cell? ⟨wr.heap.size, 0, none⟩ = some (.int .u64 (X : Int)) := cell_at (heap_alloc_new wr _)
        have m1 : (wr.alloc (.cells #[.int .u64 X, .int .u64 A, .int .u64 B] 30)).cell? ⟨wr.heap.size, 1, none⟩ = some (.int .u64 (A : Int)) := cell_at (heap_alloc_new wr _)
        have m2 : (wr.alloc (.cells #[.int .u64 X, .int .u64 A, .int .u64 B] 30)).cell? ⟨wr.heap.size, 2, none⟩ = some (.int .u64 (B : Int)) := cell_at (heap_alloc_new wr _)
        have mb := HB.out.alloc HB.out.size (.cells #[.int .u64 X, .int .u64 A, .int .u64 B] 30)
        generalize wr.alloc (.cells #[.int .u64 X, .int .u64 A, .int .u64 B] 30) = wn at m0 m1 m2 mb ⊢
        generalize wr.heap.size = bx at m0 m1 m2 mb ⊢
        clear k0 k1 k2 HB
        have mm0 : wn.drew.cell? ⟨bx, 0, none⟩ = some (.int .u64 (X : Int)) := m0
        have mm1 : wn.drew.cell? ⟨bx, 1, none⟩ = some (.int .u64 (A : Int)) := m1
        have mm2 : wn.drew.cell? ⟨bx, 2, none⟩ = some (.int .u64 (B : Int)) := m2
        have mmb : Below w2.heap.size w2 wn.drew := below_draws mb 1
        clear m0 m1 m2 mb
        have CA := fun w' => of_held w2 bx X A B hX hA hB a (by unfold maxLen; exact ha) w'
        have CB := fun w' => of_held w2 bx X A B hX hA hB b (by unfold maxLen; exact hb) w'
        obtain ⟨x, hx⟩ : ∃ z, z = Ha.hof X A B a.data.toList := ⟨_, rfl⟩
        obtain ⟨y, hy⟩ : ∃ z, z = Ha.hof X A B b.data.toList := ⟨_, rfl⟩
        rw [← hx] at CA
        rw [← hy] at CB
        have T : ∃ t, ((x : Int) == (y : Int)) = t ∧ (a.toList == b.toList) = t := by
          refine ⟨a.toList == b.toList, ?_, rfl⟩
          by_cases g : a = b
          · subst g
            rw [show x = y from hx.trans hy.symm, beq_self_eq_true, beq_self_eq_true]
          · rw [show (a.toList == b.toList) = false from beq_eq_false_iff_ne.2 (fun e => g (bytes_ext (by rw [ByteArray.toList_eq, ByteArray.toList_eq] at e; exact e))), beq_eq_false_iff_ne]
            intro e
            have e : x = y := by omega
            refine g (bytes_ext (Ha.hof_inj hA hA0 hB ?_ ?_ (hx.symm.trans (e.trans hy))))
            · rw [Array.length_toList]; exact HSS.out
            · rw [Array.length_toList, Array.length_toList]; exact HS.out
        obtain ⟨t, T1, T2⟩ := T
        have QA := Lib.hid CA
        have QB := Lib.hid CB
        clear CA CB hx hy
        go_region_held3 (fun w' => w'.cell? ⟨bx, 0, none⟩ = some (.int .u64 (X : Int)) ∧ w'.cell? ⟨bx, 1, none⟩ = some (.int .u64 (A : Int)) ∧ w'.cell? ⟨bx, 2, none⟩ = some (.int .u64 (B : Int)) ∧ Below w2.heap.size w2 w') (first | (refine ⟨?_, ?_, ?_, ?_⟩ <;> assumption) | go_keep)
          (first
            | (go_at_call 10; first | ((with_reducible refine (QA.out _ (by assumption) (by assumption) (by assumption) (by assumption)).mono ?_); rintro e w' ⟨rfl, z0, z1, z2, z3⟩) | ((with_reducible refine (QB.out _ (by assumption) (by assumption) (by assumption) (by assumption)).mono ?_); rintro e w' ⟨rfl, z0, z1, z2, z3⟩)))
        all_goals
          go_wp2
          go_roundg (3 - (i + 1))
          case measure => have := HK.out; omega
          case rel => exact ⟨i + 1, by omega, by omega, by go_num, z3⟩
      · go_wp2
        go_ret
        exact ⟨rfl, B1.out.trans ((B2.out.trans (HB.out.mono B2.out.size)).mono B1.out.size)⟩
  · have t3 : ((b.size : Int) != (a.size : Int)) = true := by rw [bne_iff_ne]; omega
    clear h1 h2 h3
    go_enter Try.func4, Try.ntmps4
    go_wp2_with (first | (go_at_call 7; refine (fit_any _).mono ?_; rintro e w1 ⟨rfl, b1⟩; have B1 := Lib.hid b1; clear b1))
    go_ret
    exact ⟨rfl, B1.out⟩
end Go.Proofs.Ythhhmaibgaammaa
