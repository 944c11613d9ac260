/- The contracts of layer 17 (config): numbers of eight bytes, read and written. -/
import Derived.Test.YtfpknklnbgmflaaCfK
import Derived.Test.YtfpknklnbgmflaaFaZ
namespace Go.Proofs.Ytfpknklnbgmflaa
set_option linter.unusedSimpArgs false
set_option linter.unusedVariables false
open Go.ChangeShapes Go.WideShapes Go.ChangeAt Go.RowKit Go.Deep
theorem rdI_none {w : World} {k : IntKind} {A : Option Addr} {c : Nat} (hc : c ≤ maxLen) : RdI w k A 0 c [] := ⟨rfl, Nat.zero_le _, hc, fun h => absurd h (by omega), (fun z hz => by cases hz)⟩
theorem rdI_hd {w : World} {A : Option Addr} {n c : Nat} {q : List Int} (h : RdI w .u8 A n c q) : byt q := fun x hx => wf_u8 (h.wf x hx)
theorem or_u64x (n c : Nat) (hc : c < 256) (h : n < 72057594037927936) : bits .or .u64 ((n : Int) * 256) (c : Int) = (n : Int) * 256 + (c : Int) := by
  have h1 : (n * 256 ||| c) = n * 256 + c := by
    rw [Nat.mul_comm, show 256 = 2 ^ 8 from rfl]
    exact (Nat.two_pow_add_eq_or_of_lt (by omega) n).symm
  show IntKind.u64.wrap (((BitVec.ofInt 64 ((n : Int) * 256) ||| BitVec.ofInt 64 (c : Int)).toNat : Nat) : Int) = _
  rw [BitVec.toNat_or, BitVec.toNat_ofInt, BitVec.toNat_ofInt]
  rw [show ((n : Int) * 256 % ((2 ^ 64 : Nat) : Int)).toNat = n * 256 by omega, show ((c : Int) % ((2 ^ 64 : Nat) : Int)).toNat = c by omega, h1, IntKind.wrap_u64]
  omega
/-- the middle of a slice. -/
theorem slice_mid {w : World} {A : Option Addr} {n c : Nat} {q : List Int} (h : RdI w .u8 A n c q) {a b : Nat} (hab : a ≤ b) (hb : b ≤ n) :
    ∃ A', (∀ W, (Instr.slice 33 (.slice A n c) (some (.int .i64 (a : Int))) (some (.int .i64 (b : Int))) none).run Try.prog W = .ok (.slice A' (b - a) (c - a)) W) ∧ RdI w .u8 A' (b - a) (c - a) ((q.drop a).take (b - a)) := by
  have hc := h.cap
  have hm := h.max
  have hl := h.len
  refine ⟨if c = a then A else A.map (·.add (a * 1)), fun W => ?_, ?_⟩
  · rw [run_slice_lh W 33 A n c (by kernel_rfl) .i64 .i64 (a : Int) (b : Int) (by omega) (by omega) (by omega)]
    show (Result.andThen _ _) = _
    rw [show (sizeOf (Try.prog.elem 33)).run Try.prog W = .ok 1 W from by kernel_rfl]
    simp [sliced]
  · by_cases hlt : a < b
    · obtain ⟨d, off, rfl, hd, hcs⟩ := h.at_ (by omega)
      rw [if_neg (by omega)]
      refine ⟨by rw [List.length_take, List.length_drop]; omega, by omega, by omega, fun _ => ⟨d, off + a, ?_, hd, fun i hi => ?_⟩, fun z hz => h.wf z (List.mem_of_mem_drop (List.mem_of_mem_take hz))⟩
      · by_cases h0 : a = 0
        · subst h0; simp [Addr.add]
        · simp [Addr.add, h0]
      · rw [Nat.add_assoc, hcs (a + i) (by omega)]
        simp [List.getD, List.getElem?_take, hi]
    · have e0 : b - a = 0 := by omega
      rw [e0, List.take_zero]
      exact rdI_none (by omega)
/-- the tail of a slice. -/
theorem slice_tail {w : World} {A : Option Addr} {n c : Nat} {q : List Int} (h : RdI w .u8 A n c q) {t : Nat} (ht : t ≤ n) :
    ∃ A', (∀ W, (Instr.slice 33 (.slice A n c) (some (.int .i64 (t : Int))) none none).run Try.prog W = .ok (.slice A' (n - t) (c - t)) W) ∧ RdI w .u8 A' (n - t) (c - t) (q.drop t) := by
  have hc := h.cap
  have hm := h.max
  obtain ⟨A', _, hr⟩ := slice_mid h ht (Nat.le_refl n)
  rw [List.take_of_length_le (by rw [List.length_drop, h.len]; omega)] at hr
  refine ⟨if c = t then A else A.map (·.add (t * 1)), fun W => ?_, ?_⟩
  · rw [run_slice_l W 33 A n c (by kernel_rfl) .i64 (t : Int) (by omega) (by omega)]
    show (Result.andThen _ _) = _
    rw [show (sizeOf (Try.prog.elem 33)).run Try.prog W = .ok 1 W from by kernel_rfl]
    simp [sliced]
  · by_cases hlt : t < n
    · obtain ⟨d, off, rfl, _, _⟩ := h.at_ (by omega)
      rw [if_neg (by omega)]
      have := rdI_end h ht
      by_cases h0 : t = 0
      · subst h0; simpa [Addr.add] using this
      · simpa [Addr.add, h0] using this
    · have e0 : n - t = 0 := by omega
      have e1 : q.drop t = [] := List.drop_eq_nil_of_le (by have := h.len; omega)
      rw [e0, e1]
      exact rdI_none (by omega)
set_option maxHeartbeats 4000000 in
set_option maxRecDepth 100000 in
theorem cnum_any (A : Option Addr) (n c : Nat) (z : List Int) (i : Nat) (iz : Int) (hz : iz = (i : Int)) (hi : (i + 1) * 8 ≤ n) (w : World) (hr : RdI w .u8 A n c z) :
    Calls Try.prog 31 #[.slice A n c, .int .i64 iz] w fun e w' => e = .returned (.int .i64 (num8 (z.drop (8 * i)))) ∧ Below w.heap.size w w' := by
  subst hz
  have hcp := hr.cap
  have hmx := hr.max
  unfold maxLen at hmx
  obtain ⟨lo, hlo⟩ : ∃ lo, lo = 8 * i := ⟨_, rfl⟩
  obtain ⟨A', hsl, hr'⟩ := slice_mid hr (a := lo) (b := lo + 8) (by omega) (by omega)
  rw [show lo + 8 - lo = 8 by omega] at hsl hr'
  have e1 : (i : Int) * 8 = (lo : Int) := by omega
  obtain ⟨hi8, hhi⟩ : ∃ x : Nat, x = lo + 8 := ⟨_, rfl⟩
  rw [← hhi] at hsl
  have e2 : ((i : Int) + 1) * 8 = (hi8 : Int) := by omega
  have e3 : (lo : Int) + 8 = (hi8 : Int) := by omega
  have e4 : wrap64 ((lo : Int) + 8) = (hi8 : Int) := by unfold wrap64; omega
  have e5 : wrap64 (hi8 : Int) = (hi8 : Int) := by unfold wrap64; omega
  obtain ⟨zz, hzz⟩ : ∃ zz, zz = (z.drop lo).take 8 := ⟨_, rfl⟩
  rw [← hzz] at hr'
  have HB := Lib.hid (rdI_hd hr')
  have HL := Lib.hid hr'.len
  have HE := Lib.hid (show num8 (z.drop (8 * i)) = num8 zz from by
    unfold num8
    congr 1
    rw [hzz, ← hlo]
    have hll : 8 ≤ (z.drop lo).length := by rw [List.length_drop, hr.len]; omega
    rw [← pre_app ((z.drop lo).take 8) ((z.drop lo).drop 8) 8 (by rw [List.length_take]; omega), List.take_append_drop])
  obtain ⟨d, off, rfl, hlt, hc⟩ := hr'.at_ (by omega)
  have HC := Lib.hid hc
  have hib : (i : Int) ≤ 1152921504606846975 := by omega
  clear hr hr' hzz hlo hi hc hhi hcp
  go_enter Try.func31, Try.ntmps31
  go_upto_region 3 with (fail)
  go_loopg [5, 16] 8 (fun k s5 s16 wr => ∃ j : Nat, j ≤ 8 ∧ k = 8 - j ∧ s16 = .int .i64 (j : Int) ∧ s5 = .int .u64 (preZ zz j) ∧ wr = w)
  case atStart => exact ⟨0, by omega, by omega, rfl, rfl, rfl⟩
  case round =>
    obtain ⟨j, hj, hkk, rfl, rfl, rfl⟩ := hrel
    have HK := Lib.hid hkk
    clear hkk
    by_cases hj8 : j < 8
    · have hcj := HC.out j hj8
      have hb := byt_getD HB.out j
      have hp := pre_bd HB.out j
      have hpw : (256 : Int) ^ j ≤ 72057594037927936 := by
        have : ∀ m : Fin 8, (256 : Int) ^ m.val ≤ 72057594037927936 := by decide
        exact this ⟨j, hj8⟩
      obtain ⟨X, hX⟩ : ∃ X : Nat, preZ zz j = (X : Int) := ⟨(preZ zz j).toNat, by omega⟩
      obtain ⟨y, hy⟩ : ∃ y : Nat, zz.getD j 0 = (y : Int) := ⟨(zz.getD j 0).toNat, by omega⟩
      have HN := Lib.hid (show preZ zz (j + 1) = (X : Int) * 256 + (y : Int) from by rw [preZ, hX, hy])
      rw [hy] at hcj
      rw [hX]
      have eo := or_u64x X y (by omega) (by omega)
      obtain ⟨P, hP⟩ : ∃ P : Nat, P = X * 256 := ⟨_, rfl⟩
      obtain ⟨Q, hQ⟩ : ∃ Q : Nat, Q = X * 256 + y := ⟨_, rfl⟩
      have HQ := Lib.hid (show (X : Int) * 256 + (y : Int) = (Q : Int) from by omega)
      have eP : (X : Int) * 256 = (P : Int) := by omega
      have eS : (X : Int) * 2 ^ 8 = (P : Int) := by rw [show (2 : Int) ^ 8 = 256 from rfl]; exact eP
      rw [HQ.out, eP] at eo
      have ew : IntKind.u64.wrap (P : Int) = (P : Int) := by rw [IntKind.wrap_u64]; omega
      have ew2 : IntKind.u64.wrap (y : Int) = (y : Int) := by rw [IntKind.wrap_u64]; omega
      have hXb : (X : Int) ≤ 72057594037927935 := by omega
      have hyb : (y : Int) ≤ 255 := by omega
      have hPb : (P : Int) ≤ 18446744073709551360 := by omega
      clear hb hp hpw hX hy hP hQ
      go_wp2
      go_roundg (8 - (j + 1))
      case measure => have := HK.out; omega
      case rel => exact ⟨j + 1, by omega, by omega, by go_num, by rw [HN.out, HQ.out], rfl⟩
    · have hje : j = 8 := by omega
      subst hje
      have hp := pre_bd HB.out 8
      have hpw : (256 : Int) ^ 8 = 18446744073709551616 := by decide
      rw [hpw] at hp
      have ew : IntKind.i64.wrap (preZ zz 8) = num8 zz := by
        rw [IntKind.wrap_i64]
        unfold num8 sg
        split <;> omega
      go_wp2
      go_ret
      exact ⟨by rw [HE.out]; rfl, Below.refl _ _⟩
end Go.Proofs.Ytfpknklnbgmflaa
