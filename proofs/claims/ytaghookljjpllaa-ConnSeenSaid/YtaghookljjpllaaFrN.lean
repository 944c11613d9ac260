/- The contracts of layer 13 (frame): numbers and texts written. -/
import Derived.Test.YtaghookljjpllaaApp
import Derived.Test.YtaghookljjpllaaFrM
import Derived.Test.YtaghookljjpllaaBits
import Derived.Deep.RegionHeld3
import Derived.StillTailTactics
import Derived.BigQuiet
import Derived.Below
import Derived.Deep.LoopGhost
import Derived.Deep.QuietTactic
import Derived.Outline
import Derived.Deep.Cut
import Derived.Deep.AppendLies
namespace Go.Proofs.Ytaghookljjpllaa
set_option linter.unusedSimpArgs false
set_option linter.unusedVariables false
open Go.ChangeShapes Go.WideShapes Go.ChangeAt Go.RowKit
theorem be_cons : ∀ (i : Nat) (x : Int), be (i + 1) x = (x / 256 ^ i % 256) :: be i x
  | 0, x => by simp [be]
  | i + 1, x => by
    rw [be, be_cons i (x / 256), be, List.cons_append, Int.pow_succ, Int.mul_comm, Int.ediv_ediv_of_nonneg (by omega)]
theorem be_drop : ∀ (k n : Nat) (x : Int), (be (n + k) x).drop k = be n x
  | 0, _, _ => rfl
  | k + 1, n, x => by rw [← Nat.add_assoc, be_cons, List.drop_succ_cons, be_drop k n x]
def numAll (x : Int) (i : Nat) : List Int := List.replicate (8 - i) 0 ++ be i x
theorem numAll_length (x : Int) (i : Nat) (h : i ≤ 8) : (numAll x i).length = 8 := by unfold numAll; rw [List.length_append, List.length_replicate, be_length]; omega
theorem numAll_set (x : Int) (i : Nat) (h : i < 8) : (numAll x i).set (7 - i) (x / 256 ^ i % 256) = numAll x (i + 1) := by
  unfold numAll
  rw [be_cons, show 8 - i = (7 - i) + 1 by omega, show 8 - (i + 1) = 7 - i by omega]
  rw [List.set_append_left _ _ (by simp)]
  rw [List.replicate_succ']
  rw [List.set_append_right _ _ (by simp)]
  simp
/-- a slice's end, where its room isn't its beginning's. -/
theorem rdI_end {w : World} {k : IntKind} {d off n c : Nat} {zs : List Int} (h : RdI w k (some ⟨d, off, none⟩) n c zs) {m : Nat} (hm : m ≤ n) : RdI w k (some ⟨d, off + m, none⟩) (n - m) (c - m) (zs.drop m) := by
  have hl := h.len
  have hc := h.cap
  have hx := h.max
  refine ⟨by rw [List.length_drop]; omega, by omega, by omega, fun h0 => ?_, fun z hz => h.wf z (List.mem_of_mem_drop hz)⟩
  obtain ⟨b', off', e, hlt, hcs⟩ := h.at_ (by omega)
  injection e with e; injection e with e1 e2
  subst e1 e2
  exact ⟨d, off + m, rfl, hlt, fun i hi => by rw [Nat.add_assoc, hcs (m + i) (by omega)]; simp [List.getD]⟩
theorem slice_arr (ab d n : Nat) (hd : d + n = 8) (hn : 1 ≤ n) (w : World) :
    (Instr.sliceAt 96 (.pointer (some ⟨ab, 0, none⟩)) (some (.int .i64 (d : Int))) none none).run Try.prog w = .ok (.slice (some ⟨ab, d, none⟩) n n) w := by
  have hlen : Try.prog.arrayLen 96 = 8 := by kernel_rfl
  have hel : (sizeOf (Try.prog.elem 96)).run Try.prog w = .ok 1 w := by
    obtain ⟨i0, hi0, hz0, hz1, hz2⟩ := info_parts info_u8
    have e : Try.prog.elem 96 = 5 := by kernel_rfl
    rw [e]
    simp [sizeOf, typeInfo, hi0, hz1]
  rw [run_sliceAt_array_l w 96 _ (by kernel_rfl) .i64 (d : Int) (by omega) (by rw [hlen]; omega), hlen, hel]
  have e1 : ¬ 8 = ((d : Int)).toNat := by omega
  simp [slicedAt, Result.andThen_ok, e1]
  have e2 : ¬ 8 = d := by omega
  refine ⟨?_, by omega⟩
  rw [if_neg e2]
  simp [Addr.add]
  omega
set_option maxHeartbeats 4000000 in
theorem number_any (B : Nat) (v : Value) (bs : List Int) (x : Int) (n : Nat) (hx : 0 ≤ x ∧ x < 18446744073709551616) (hn : 1 ≤ n ∧ n ≤ 8) (hm : bs.length ≤ 1000000) (w : World) (ho : Own w B v bs) (hB : B ≤ w.heap.size) :
    Calls Try.prog 41 #[v, .int .u64 x, .int .i64 (n : Int)] w fun e w' => ∃ v', e = .returned v' ∧ Own w' B v' (bs ++ be n x) ∧ Fr (fun k => B ≤ k) w w' := by
  have HO := Lib.hid ho
  have HBS := Lib.hid hB
  have HX := Lib.hid hx
  clear ho hB hx
  go_enter Try.func41, Try.ntmps41
  go_wp2
  obtain ⟨w1, hw1, hbk, hbl, hsz⟩ := box_new w (byC (numAll x 0)) 96
  change Code.wp _ _ _ _ (w.alloc (.cells (byC (numAll x 0)) 96))
  rw [hw1]
  obtain ⟨ab, hab⟩ : ∃ ab, ab = w.heap.size := ⟨_, rfl⟩
  rw [← hab] at hbk ⊢
  have HAB := Lib.hid hab
  have B1 := Lib.hid hbk
  have F1 := Lib.hid hbl
  clear hw1 hbk hbl hsz hab
  go_loopg [9] 8 (fun k s9 wr => ∃ i : Nat, i ≤ 8 ∧ k = 8 - i ∧ s9 = .int .i64 (i : Int) ∧ Blk wr ab 96 (byC (numAll x i)) ∧ Fr (fun k => k = ab) w1 wr)
  case atStart => exact ⟨0, by omega, by omega, rfl, B1.out, Fr.refl _ _⟩
  case round =>
    obtain ⟨i, hi, hkk, rfl, hb, hf⟩ := hrel
    have HK := Lib.hid hkk
    have HB := Lib.hid hb
    have HF := Lib.hid hf
    clear hkk hf
    by_cases hin : i < 8
    · obtain ⟨P, hP⟩ : ∃ P, P = (2 : Int) ^ (8 * (i : Int)).toNat := ⟨_, rfl⟩
      have e1 : (2 : Int) ^ (8 * (i : Int)).toNat = P := hP.symm
      have hP2 : P = 256 ^ i := by rw [hP, show (8 * (i : Int)).toNat = 8 * i by omega, Int.pow_mul]; rfl
      obtain ⟨y, hy⟩ : ∃ y, y = x / P := ⟨_, rfl⟩
      have e2 : x / P = y := hy.symm
      have hy0 : 0 ≤ y ∧ y < 18446744073709551616 := by
        have hp : 0 < P := by rw [hP2]; exact Int.pow_pos (by decide)
        have hx := HX.out
        rw [hy]
        exact ⟨Int.ediv_nonneg hx.1 (by omega), Int.lt_of_le_of_lt (Int.ediv_le_self _ hx.1) hx.2⟩
      obtain ⟨z, hz⟩ : ∃ z, z = y % 256 := ⟨_, rfl⟩
      have e3 : IntKind.u8.wrap y = z := by rw [IntKind.wrap_u8, hz]
      have hxb := HX.out
      have HS := Lib.hid (show (numAll x i).set (7 - i) z = numAll x (i + 1) from by rw [hz, hy, hP2]; exact numAll_set x i hin)
      have kw := hb.wr
      have kr := hb.rd
      have hsz := numAll_length x i (by omega)
      have kc : (byC (numAll x i)).size = 8 := by unfold byC; simp [hsz]
      obtain ⟨j, hj⟩ : ∃ j : Nat, (7 : Int) - (i : Int) = (j : Int) := ⟨7 - i, by omega⟩
      have hj7 : j ≤ 7 := by omega
      have HJ := Lib.hid hj
      have kx : wr.cell? ⟨ab, j, none⟩ = some (.int .u8 ((numAll x i).getD j 0)) := by rw [kr]; exact byC_get _ _ (by omega)
      clear hP hP2 hy hz hb kr hsz kc
      go_wp2
      go_roundg (8 - (i + 1))
      case measure => have := HK.out; omega
      case rel =>
        have hl := lt_of_block HB.out
        have hj := HJ.out
        have ej : j = 7 - i := by omega
        rw [setCell_obj HB.out, byC_set, ej, HS.out]
        exact ⟨i + 1, by omega, by omega, by go_num, setObj_at hl _, HF.out.trans (Fr.setObj (F := fun k => k = ab) (Fr.refl _ _) rfl _)⟩
    · have hie : i = 8 := by omega
      subst hie
      obtain ⟨d, hd⟩ : ∃ d : Nat, (8 : Int) - (n : Int) = (d : Int) := ⟨8 - n, by omega⟩
      have hd8 : d + n = 8 := by omega
      have hsl := slice_arr ab d n hd8 hn.1
      have HR := Lib.hid (show RdI wr .u8 (some ⟨ab, d, none⟩) n n (be n x) from by
        have h0 : RdI wr .u8 (some ⟨ab, 0, none⟩) 8 8 (be 8 x) := rd_blk hb (be_length 8 x) (by decide) (fun z hz => u8_wf (be_byt _ _ z hz))
        have h1 := rdI_end h0 (m := d) (by omega)
        rw [Nat.zero_add, show 8 - d = n by omega, show (8 : Nat) = n + d by omega, be_drop] at h1
        exact h1)
      have HO2 := Lib.hid ((HO.out.below F1.out).fr HF.out (fun g hg => by have := (HO.out.lt g hg).2; have := HAB.out; omega))
      clear hb
      go_wp2_with (at_builtin; refine wpList_appI (by rfl) _ _ n (by rfl) (by rfl) (by rfl) HO2.out HR.out (by omega) (by have := HBS.out; have := F1.out.size; have := HF.out.size; omega) ?_; intro v' w9 hown9 hgrow9; have HO9 := Lib.hid hown9; have HG9 := Lib.hid hgrow9; clear hown9 hgrow9)
      go_ret
      refine ⟨v', rfl, HO9.out, ?_⟩
      refine (((Fr.of_below F1.out).trans (HF.out.mono (fun k hk => ?_))).trans ((fr_row HG9.out).mono (fun k hk => ?_)))
      · have := HBS.out; have := HAB.out; omega
      · exact (HO.out.lt k hk).1
theorem number_x (B : Nat) (v : Value) (bs : List Int) (x z : Int) (n : Nat) (hz : z = (n : Int)) (hx : 0 ≤ x ∧ x < 18446744073709551616) (hn : 1 ≤ n ∧ n ≤ 8) (hm : bs.length ≤ 1000000) (w : World) (ho : Own w B v bs) (hB : B ≤ w.heap.size) :
    Calls Try.prog 41 #[v, .int .u64 x, .int .i64 z] w fun e w' => ∃ v', e = .returned v' ∧ Own w' B v' (bs ++ be n x) ∧ Fr (fun k => B ≤ k) w w' := by
  subst hz
  exact number_any B v bs x n hx hn hm w ho hB
theorem own_blk {w : World} {base g n : Nat} {xs : List Int} (h : Blk w g 5 (byC xs)) (hb : base ≤ g) (hl : xs.length = n) (hm : n ≤ maxLen) : Own w base (.slice (some ⟨g, 0, none⟩) n n) xs := by
  subst hl
  refine ⟨by simp, .inr ⟨g, xs.length, byC xs, rfl, hb, h, Nat.le_refl _, hm, by simp [byC], ?_⟩⟩
  simp only [byC, Nat.mul_one]
  exact List.take_of_length_le (by simp)
theorem framed_any (sign : Int) (hs : 0 ≤ sign ∧ sign ≤ 255) (A : Option Addr) (n c : Nat) (zs : List Int) (hn : n ≤ 60000) (w : World) (hr : RdI w .u8 A n c zs) :
    Calls Try.prog 38 #[.int .u8 sign, .slice A n c] w fun e w' => ∃ v', e = .returned v' ∧ Own w' w.heap.size v' (sign :: 1 :: (be 2 (n : Int) ++ zs)) ∧ Below w.heap.size w w' := by
  have hcp := hr.cap
  have hmx := hr.max
  unfold maxLen at hmx
  have HRI := Lib.hid hr
  have e1 : IntKind.u64.wrap (n : Int) = (n : Int) := by rw [IntKind.wrap_u64]; omega
  have HO0 := Lib.hid (own_blk (n := 2) (xs := [sign, 1]) (show Blk (w.alloc (.cells #[.int .u8 sign, .int .u8 1] 5)) w.heap.size 5 (byC [sign, 1]) from heap_alloc_new w _) (Nat.le_refl _) rfl (by decide))
  have b1 := Lib.hid ((Below.refl w.heap.size w).alloc (Nat.le_refl _) (.cells #[.int .u8 sign, .int .u8 1] 5))
  clear hr hs
  go_enter Try.func38, Try.ntmps38
  go_wp2_with (first
    | (go_at_call 41; ((with_reducible refine (number_x w.heap.size _ [sign, 1] (n : Int) 2 2 rfl (by omega) (by omega) (by simp) _ HO0.out (by simp)).mono ?_); rintro e w1 ⟨v1, rfl, o1, f1⟩; have HO1 := Lib.hid o1; have HF1 := Lib.hid (b1.out.trans (f1.below (by simp) (fun k hk => hk))); clear o1 f1))
    | (at_builtin; refine wpList_appI (by rfl) _ _ c (by rfl) (by rfl) (by rfl) HO1.out (HRI.out.below HF1.out) (by simp [be_length]; omega) HF1.out.size ?_; intro v2 w2 hown2 hgrow2; have HO2 := Lib.hid hown2; have HG2 := Lib.hid hgrow2; clear hown2 hgrow2))
  go_ret
  refine ⟨v2, rfl, by simpa using HO2.out, HF1.out.trans ((fr_row HG2.out).below HF1.out.size (fun k hk => (HO1.out.lt k hk).1))⟩
end Go.Proofs.Ytaghookljjpllaa
