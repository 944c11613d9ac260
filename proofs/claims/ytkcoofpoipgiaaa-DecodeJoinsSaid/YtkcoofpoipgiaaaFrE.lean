/- The contracts of layer 13 (frame): Encode, and the document's. -/
import Derived.Test.YtkcoofpoipgiaaaFr
namespace Go.Proofs.Ytkcoofpoipgiaaa
open Go.ChangeShapes Go.WideShapes Go.ChangeAt Go.RowKit
def fillN (n : Nat) (x : Int) (i : Nat) : List Int := List.replicate (n - i) 0 ++ be i x
theorem fillN_length (n : Nat) (x : Int) (i : Nat) (h : i ≤ n) : (fillN n x i).length = n := by unfold fillN; rw [List.length_append, List.length_replicate, be_length]; omega
theorem fillN_set (n : Nat) (x : Int) (i : Nat) (h : i < n) : (fillN n x i).set (n - 1 - i) (x / 256 ^ i % 256) = fillN n x (i + 1) := by
  unfold fillN
  rw [be_cons, show n - i = (n - 1 - i) + 1 by omega, show n - (i + 1) = n - 1 - i by omega]
  rw [List.set_append_left _ _ (by simp)]
  rw [List.replicate_succ']
  rw [List.set_append_right _ _ (by simp)]
  simp
theorem fillN_all (n : Nat) (x : Int) : fillN n x n = be n x := by unfold fillN; simp
set_option maxHeartbeats 4000000 in
theorem put_any (B : Nat) (v : Value) (bs : List Int) (x : Int) (n : Nat) (hx : 0 ≤ x ∧ x < 18446744073709551616) (hn : n ≤ 8) (hm : bs.length ≤ 1000000) (w : World) (ho : Own w B v bs) (hB : B ≤ w.heap.size) :
    Calls Try.prog 21 #[v, .int .i64 (n : Int), .int .u64 x] w fun e w' => ∃ v', e = .returned v' ∧ Own w' B v' (bs ++ be n x) ∧ Fr (fun k => B ≤ k) w w' := by
  have HO := Lib.hid ho
  have HBS := Lib.hid hB
  have HX := Lib.hid hx
  obtain ⟨i0, hi, hz0, hz1, hz2⟩ := info_parts info_u8
  have hmk := make_bytes (P := Try.prog) (t := 22) (e := 5) (by rfl) hi hz0 hz1 hz2 n (by omega)
  have hn1 : (n : Int) ≤ 8 := by omega
  clear ho hB hx hi hz0 hz1 hz2
  go_enter Try.func21, Try.ntmps21
  go_wp2
  obtain ⟨w1, hw1, hbk, hbl, hsz⟩ := box_new w (byC (fillN n x 0)) 5
  have e0 : noughts n = byC (fillN n x 0) := by unfold noughts byC fillN be; simp
  rw [e0, hw1]
  obtain ⟨ab, hab⟩ : ∃ ab, ab = w.heap.size := ⟨_, rfl⟩
  rw [← hab] at hbk ⊢
  have HAB := Lib.hid hab
  have B1 := Lib.hid hbk
  have F1 := Lib.hid hbl
  clear hw1 hbk hbl hsz hab e0 hmk
  go_loopg [2, 8] n (fun k s2 s8 wr => ∃ i : Nat, i ≤ n ∧ k = n - i ∧ s2 = .int .u64 (x / 256 ^ i) ∧ s8 = .int .i64 ((n : Int) - 1 - (i : Int)) ∧ Blk wr ab 5 (byC (fillN n x i)) ∧ Fr (fun k => k = ab) w1 wr)
  case atStart => exact ⟨0, by omega, by omega, by simp, by first | rfl | go_num, B1.out, Fr.refl _ _⟩
  case round =>
    obtain ⟨i, hi, hkk, rfl, rfl, hb, hf⟩ := hrel
    have HK := Lib.hid hkk
    have HB := Lib.hid hb
    have HF := Lib.hid hf
    clear hkk hf
    by_cases hin : i < n
    · obtain ⟨y, hy⟩ : ∃ y, y = x / 256 ^ i := ⟨_, rfl⟩
      have hy0 : 0 ≤ y ∧ y < 18446744073709551616 := by
        have hp : (0 : Int) < 256 ^ i := Int.pow_pos (by decide)
        have hx := HX.out
        rw [hy]
        exact ⟨Int.ediv_nonneg hx.1 (by omega), Int.lt_of_le_of_lt (Int.ediv_le_self _ hx.1) hx.2⟩
      rw [← hy]
      obtain ⟨z, hz⟩ : ∃ z, y % 256 = z := ⟨_, rfl⟩
      have hz1 : 0 ≤ z ∧ z ≤ 255 := by omega
      have e3 : IntKind.u8.wrap z = z := by rw [IntKind.wrap_u8]; omega
      have HS := Lib.hid (show (fillN n x i).set (n - 1 - i) z = fillN n x (i + 1) from by rw [← hz, hy]; exact fillN_set n x i hin)
      have HY := Lib.hid (show x / 256 ^ (i + 1) = y / 256 from by rw [hy, Int.pow_succ, Int.ediv_ediv_of_nonneg (Int.pow_nonneg (by decide))])
      have kw := hb.wr
      have hsz := fillN_length n x i hi
      obtain ⟨j, hj⟩ : ∃ j : Nat, (n : Int) - 1 - (i : Int) = (j : Int) := ⟨n - 1 - i, by omega⟩
      have hj7 : j < n := by omega
      have hj8 : (j : Int) ≤ 8 := by omega
      have HJ := Lib.hid hj
      have kx : wr.cell? ⟨ab, j, none⟩ = some (.int .u8 ((fillN n x i).getD j 0)) := by rw [hb.rd]; exact byC_get _ _ (by omega)
      rw [hj]
      clear hy hb hsz hj
      go_wp2
      go_roundg (n - (i + 1))
      case measure => have := HK.out; omega
      case rel =>
        have hl := lt_of_block HB.out
        have hj := HJ.out
        have ej : j = n - 1 - i := by omega
        rw [setCell_obj HB.out, byC_set, ej, HS.out]
        refine ⟨i + 1, by omega, by omega, by rw [HY.out], ?_, setObj_at hl _, HF.out.trans (Fr.setObj (F := fun k => k = ab) (Fr.refl _ _) rfl _)⟩
        first | (congr 1; omega) | go_num
    · have hie : i = n := by omega
      subst hie
      have t : (i : Int) - 1 - (i : Int) = -1 := by omega
      rw [t]
      have HR := Lib.hid (show RdI wr .u8 (some ⟨ab, 0, none⟩) i i (be i x) from by
        rw [fillN_all] at hb
        exact rd_blk hb (be_length i x) (by unfold maxLen; omega) (fun z hz => u8_wf (be_byt _ _ z hz)))
      have HO2 := Lib.hid ((HO.out.below F1.out).fr HF.out (fun g hg => by have := (HO.out.lt g hg).2; have := HAB.out; omega))
      clear hb t
      go_wp2_with (at_builtin; refine wpList_appI (by rfl) _ _ i (by rfl) (by rfl) (by rfl) HO2.out HR.out (by omega) (by have := HBS.out; have := F1.out.size; have := HF.out.size; omega) ?_; intro v' w9 hown9 hgrow9; have HO9 := Lib.hid hown9; have HG9 := Lib.hid hgrow9; clear hown9 hgrow9)
      go_ret
      refine ⟨v', rfl, HO9.out, ?_⟩
      refine (((Fr.of_below F1.out).trans (HF.out.mono (fun k hk => ?_))).trans ((fr_row HG9.out).mono (fun k hk => ?_)))
      · have := HBS.out; have := HAB.out; omega
      · exact (HO.out.lt k hk).1
theorem put_x (B : Nat) (v : Value) (bs : List Int) (x z : Int) (n : Nat) (hz : z = (n : Int)) (hx : 0 ≤ x ∧ x < 18446744073709551616) (hn : n ≤ 8) (hm : bs.length ≤ 1000000) (w : World) (ho : Own w B v bs) (hB : B ≤ w.heap.size) :
    Calls Try.prog 21 #[v, .int .i64 z, .int .u64 x] w fun e w' => ∃ v', e = .returned v' ∧ Own w' B v' (bs ++ be n x) ∧ Fr (fun k => B ≤ k) w w' := by
  subst hz
  exact put_any B v bs x n hx hn hm w ho hB
theorem be2 (n : Int) (h : 0 ≤ n ∧ n < 256) : be 2 n = [0, n] := by
  simp [be]; omega
theorem two_lit (w : World) (o : Obj) (c : Array Value) (t : TypeId) : Blk ((w.alloc o).alloc (.cells c t)) (w.heap.size + 1) t c := by
  have h := heap_alloc_new (w.alloc o) (.cells c t)
  rw [show (w.alloc o).heap.size = w.heap.size + 1 by simp] at h
  exact h
theorem own_lit (w : World) (base n : Nat) (xs : List Int) (hb : base ≤ w.heap.size) (hl : xs.length = n) (hm : n ≤ maxLen) : Own (w.alloc (.cells (byC xs) 5)) base (.slice (some ⟨w.heap.size, 0, none⟩) n n) xs :=
  own_blk (heap_alloc_new w _) hb hl hm
/-- what Right asks, taken apart. -/
theorem right_op {op rule cost k rules : Int} {s : ByteArray} (h : rightP (mkR op rule cost s k) rules) : (0 ≤ rule ∧ rule < rules ∧ rule ≤ 255) ∧ (((op = 1 ∨ op = 2) ∧ s.size ≤ 64 ∧ k = 0) ∨ (op = 3 ∧ cost = 0 ∧ s = ⟨#[]⟩ ∧ k = 0) ∨ (op = 4 ∧ cost = 0 ∧ s = ⟨#[]⟩ ∧ 0 ≤ k ∧ k ≤ 255)) := by
  unfold rightP mkR at h
  simp only [nums_length, nums_nil] at h
  refine ⟨h.1, ?_⟩
  rcases h.2 with a | ⟨a, b, c, d⟩ | ⟨a, b, c, d⟩
  · exact .inl a
  · exact .inr (.inl ⟨a, b, size0 c, d⟩)
  · exact .inr (.inr ⟨a, b, size0 c, d⟩)
end Go.Proofs.Ytkcoofpoipgiaaa
