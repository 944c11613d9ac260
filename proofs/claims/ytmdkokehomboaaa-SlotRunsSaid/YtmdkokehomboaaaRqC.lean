/- The contracts of the document's layer 3 (hash), continued: functions out of draws, places. -/
import Derived.Test.YtmdkokehomboaaaRqB
import Derived.Test.YtmdkokehomboaaaOwnP
namespace Go.Proofs.Ytmdkokehomboaaa.R3
set_option linter.unusedSimpArgs false
set_option linter.unusedVariables false
set_option maxRecDepth 100000
open Go Go.ChangeShapes Go.WideShapes Go.ChangeAt Go.RowKit
theorem draw_any (W w : World) (A : Option Addr) (n c : Nat) (zs : List Int) (hr : RdI W .u64 A n c zs) (hb : Below W.heap.size W w) (i : Nat) (hi : i < 1000) :
    Calls Try.prog 25 #[.slice A n c, .int .i64 i] w fun e w' => e = .returned (.int .u64 (drw zs i : Nat)) ∧ w = w' := by
  have hcap := hr.cap
  have hmax := hr.max
  have hlen := hr.len
  unfold maxLen at hmax
  by_cases h : i < n
  · obtain ⟨b0, off, hA, hlt, hcell⟩ := hr.at_ (by omega)
    subst hA
    obtain ⟨z, hz⟩ : ∃ z, z = zs.getD i 0 := ⟨_, rfl⟩
    have hzw := bounds_u64 (hr.wf_at h)
    have hc := hcell i h
    rw [← hz] at hzw hc
    have hcr : w.cell? ⟨b0, off + i, none⟩ = some (.int .u64 z) := by rw [hb.cell (p := ⟨b0, off + i, none⟩) hlt]; exact hc
    have hd : ((drw zs i : Nat) : Int) = z := by unfold drw; rw [← hz]; omega
    rw [hd]
    clear hz hc hcell hd hr hlen
    go_enter Try.func25, Try.ntmps25
    go_wp2
    go_ret
    exact ⟨rfl, rfl⟩
  · have hd : drw zs i = 0 := by unfold drw; rw [show zs.getD i 0 = 0 by simp [List.getD, List.getElem?_eq_none (show zs.length ≤ i by omega)]]; rfl
    rw [hd]
    clear hd hr hlen
    go_enter Try.func25, Try.ntmps25
    go_wp2
    go_ret
    exact ⟨rfl, rfl⟩

def enc3 (zs : List Int) (j : Nat) : List Value := [.int .u64 (rX zs j), .int .u64 (rA zs j), .int .u64 (rB zs j)]
theorem enc3_len (zs : List Int) (j : Nat) : (enc3 zs j).length = 3 := rfl
theorem Try.infoRow3 : (Try.prog.info? 41).map (fun i => (i.zero, i.size, i.bytes)) = some (some (.agg #[.int .u64 0, .int .u64 0, .int .u64 0]), 3, 24) := by kernel_rfl
set_option maxHeartbeats 4000000 in
theorem rows_any (w : World) (A : Option Addr) (n c : Nat) (zs : List Int) (hr : RdI w .u64 A n c zs) (k : Nat) (hk : k ≤ 8) :
    Calls Try.prog 13 #[.slice A n c, .int .i64 k] w fun e w' => ∃ v, e = .returned v ∧ OwR w' w.heap.size 41 3 (enc3 zs) v (List.range k) ∧ Below w.heap.size w w' := by
  obtain ⟨i0, hi0, hz0, hz1, hz2⟩ := info_parts Try.infoRow3
  have HI := Lib.hid (And.intro hi0 (And.intro hz0 (And.intro hz1 hz2)))
  have HR := Lib.hid hr
  clear hr hi0 hz0 hz1 hz2
  go_enter Try.func13, Try.ntmps13
  go_wp2
  go_loopg [5, 6] k (fun kk sv si wr => ∃ (i : Nat), i ≤ k ∧ kk = k - i ∧ si = .int .i64 (i : Int) ∧ Hid (OwR wr w.heap.size 41 3 (enc3 zs) sv (List.range i)) ∧ Hid (Below w.heap.size w wr))
  case atStart => exact ⟨0, by omega, by omega, rfl, Lib.hid OwR.nil, Lib.hid (Below.refl _ _)⟩
  case round =>
    obtain ⟨i, hi, hkk, rfl, HO, HB⟩ := hrel
    have HK := Lib.hid hkk
    clear hkk
    by_cases hin : i < k
    · have g1 : decide ((i : Int) < (k : Int)) = true := by rw [decide_eq_true_iff]; omega
      have g2 : decide ((i : Int) < 9) = true := by rw [decide_eq_true_iff]; omega
      obtain ⟨j0, hj0⟩ : ∃ z, z = 3 * i := ⟨_, rfl⟩
      obtain ⟨j1, hj1⟩ : ∃ z, z = 3 * i + 1 := ⟨_, rfl⟩
      obtain ⟨j2, hj2⟩ : ∃ z, z = 3 * i + 2 := ⟨_, rfl⟩
      have e0 : 3 * (i : Int) = (j0 : Int) := by omega
      have e1 : (j0 : Int) + 1 = (j1 : Int) := by omega
      have e2 : (j0 : Int) + 2 = (j2 : Int) := by omega
      have hjb : j2 < 1000 := by omega
      have d0 := draw_any w wr A n c zs HR.out HB.out j0 (by omega)
      have d1 := draw_any w wr A n c zs HR.out HB.out j1 (by omega)
      have d2 := draw_any w wr A n c zs HR.out HB.out j2 (by omega)
      have u : ∀ j, drw zs j < 18446744073709551616 := by
        intro j
        unfold drw
        by_cases g : j < zs.length
        · have hl := HR.out.len
          have := bounds_u64 (HR.out.wf_at (i := j) (by omega))
          omega
        · rw [show zs.getD j 0 = 0 by simp [List.getD, List.getElem?_eq_none (show zs.length ≤ j by omega)]]; decide
      have he : enc3 zs i = [.int .u64 (drw zs j0 % 2305843009213693950 + 1 : Nat), .int .u64 (drw zs j1 % 2305843009213693950 + 1 : Nat), .int .u64 (drw zs j2 % 2305843009213693951 : Nat)] := by rw [hj0, hj1, hj2]; rfl
      have u0 := u j0
      have u1 := u j1
      have u2 := u j2
      obtain ⟨a0, ha0⟩ : ∃ z, z = drw zs j0 := ⟨_, rfl⟩
      obtain ⟨a1, ha1⟩ : ∃ z, z = drw zs j1 := ⟨_, rfl⟩
      obtain ⟨a2, ha2⟩ : ∃ z, z = drw zs j2 := ⟨_, rfl⟩
      rw [← ha0, ← ha1, ← ha2] at he
      rw [← ha0] at d0 u0
      rw [← ha1] at d1 u1
      rw [← ha2] at d2 u2
      obtain ⟨b0, hb0⟩ : ∃ z, z = a0 % 2305843009213693950 := ⟨_, rfl⟩
      obtain ⟨b1, hb1⟩ : ∃ z, z = a1 % 2305843009213693950 := ⟨_, rfl⟩
      obtain ⟨b2, hb2⟩ : ∃ z, z = a2 % 2305843009213693951 := ⟨_, rfl⟩
      have f0 : (a0 : Int) % 2305843009213693950 = (b0 : Int) := by omega
      have f1 : (a1 : Int) % 2305843009213693950 = (b1 : Int) := by omega
      have f2 : (a2 : Int) % 2305843009213693951 = (b2 : Int) := by omega
      have f0' : (a0 : Int).tmod 2305843009213693950 = (b0 : Int) := by rw [Int.tmod_eq_emod_of_nonneg (by omega)]; exact f0
      have f1' : (a1 : Int).tmod 2305843009213693950 = (b1 : Int) := by rw [Int.tmod_eq_emod_of_nonneg (by omega)]; exact f1
      have f2' : (a2 : Int).tmod 2305843009213693951 = (b2 : Int) := by rw [Int.tmod_eq_emod_of_nonneg (by omega)]; exact f2
      rw [← hb0, ← hb1, ← hb2] at he
      obtain ⟨x0, hx0⟩ : ∃ z, z = b0 + 1 := ⟨_, rfl⟩
      obtain ⟨x1, hx1⟩ : ∃ z, z = b1 + 1 := ⟨_, rfl⟩
      rw [← hx0, ← hx1] at he
      have k0 : (b0 : Int) + 1 = (x0 : Int) := by omega
      have k1 : (b1 : Int) + 1 = (x1 : Int) := by omega
      have hb0l : b0 < 2305843009213693950 := by omega
      have hb1l : b1 < 2305843009213693950 := by omega
      have D0 := Lib.hid d0
      have D1 := Lib.hid d1
      have D2 := Lib.hid d2
      have HE := Lib.hid he
      clear d0 d1 d2 u he ha0 ha1 ha2 hj0 hj1 hj2 hb0 hb1 hb2 hx0 hx1 f0 f1 f2
      go_wp2_with (first
        | (go_at_call 25; (first
            | ((with_reducible refine D0.out.mono ?_); rintro e w' ⟨rfl, rfl⟩)
            | ((with_reducible refine D1.out.mono ?_); rintro e w' ⟨rfl, rfl⟩)
            | ((with_reducible refine D2.out.mono ?_); rintro e w' ⟨rfl, rfl⟩)))
        | (at_builtin; rw [← HE.out]; go_loud (refine wpList_push (w0 := wr) (enc := enc3 zs) (L := List.range i) (base := w.heap.size) (by rfl) _ _ (by rfl) (by rfl) (by rfl) Try.underlying31 HI.out.1 HI.out.2.1 HI.out.2.2.1 HI.out.2.2.2 (by rfl) (by omega) HO.out HB.out.size i (enc3_len zs) (by intro u hu; simp [enc3] at hu; rcases hu with rfl | rfl | rfl <;> rfl) (by rw [List.length_range]; omega) (by rw [List.length_range]; unfold maxLen; omega) ?_); intro gl cl w9 hown9 hf9 hgl9; have O9 := Lib.hid hown9; have F9 := Lib.hid hf9; clear hown9 hf9 hgl9))
      go_roundg (k - (i + 1))
      case measure => have := HK.out; omega
      case rel => exact ⟨i + 1, by omega, rfl, by go_num, Lib.hid (by have h := O9.out; rw [List.length_range] at h; rw [List.range_succ]; exact h), Lib.hid (HB.out.trans (F9.out.below HB.out.size (fun k hk => HO.out.base_le k hk)))⟩
    · have hie : i = k := by omega
      subst hie
      have g1 : decide ((i : Int) < (i : Int)) = false := by rw [decide_eq_false_iff_not]; omega
      go_wp2
      go_ret
      exact ⟨_, rfl, HO.out, HB.out⟩
set_option maxHeartbeats 1000000 in
theorem bucket_any (X A B : Nat) (hX : X < 2305843009213693951) (hA : A < 2305843009213693951) (hB : B < 2305843009213693951) (s : ByteArray) (hs : s.size ≤ maxLen) (W : Nat) (hW : 1 ≤ W ∧ W ≤ 1048576) (w : World) :
    Calls Try.prog 15 #[.agg #[.int .u64 X, .int .u64 A, .int .u64 B], .string s, .int .i64 W] w fun e w' => e = .returned (.int .i64 (plc (Ha.hof X A B s.data.toList) (W : Int) : Nat)) ∧ Below w.heap.size w w' := by
  have hl := Ha.hof_lt X A B s.data.toList
  have c1 := fun w => of_any X A B hX hA hB s hs w
  obtain ⟨h, hh⟩ : ∃ z, z = Ha.hof X A B s.data.toList := ⟨_, rfl⟩
  rw [← hh] at c1 hl ⊢
  have hmul : h * W ≤ 2305843009213693951 * 1048576 := Nat.mul_le_mul (by omega) hW.2
  have hq := Quo.of (a := h) (b := W) (c := 2305843009213693951) (by omega)
  have hp : plc h (W : Int) = h * W / 2305843009213693951 := by
    unfold plc
    rw [if_neg (by omega), Int.toNat_natCast, Nat.mod_eq_of_lt hl]
  have hqb : h * W / 2305843009213693951 ≤ 1048576 := by omega
  rw [hp]
  have c2 : ∀ w, Calls Try.prog 26 #[.int .u64 h, .int .u64 W, .int .u64 2305843009213693951] w fun e w' => e = .returned (.tuple #[.int .u64 ((h * W / 2305843009213693951 : Nat) : Int), .bool true]) ∧ w = w' := fun w => rdown_yes h W 2305843009213693951 _ _ (by omega) (by omega) (by omega) hq w
  obtain ⟨q, hqq⟩ : ∃ z, z = h * W / 2305843009213693951 := ⟨_, rfl⟩
  rw [← hqq] at c2 hqb ⊢
  have C1 := Lib.hid c1
  have C2 := Lib.hid c2
  obtain ⟨w1, e1, k1, b1, s1⟩ := box_new w #[.int .u64 X, .int .u64 A, .int .u64 B] 41
  obtain ⟨rb, hrb⟩ : ∃ z, z = w.heap.size := ⟨_, rfl⟩
  rw [← hrb] at k1
  have B1 := Lib.hid b1
  have k1r := k1.rd
  clear c1 c2 hh hq hp hqq hmul
  go_enter Try.func15, Try.ntmps15
  go_upto_region 1 with (fail)
  rw [← hrb]
  clear e1 k1 b1 s1 hrb
  go_wp2_with (first
    | (go_at_call 27; (with_reducible refine (C1.out _).mono ?_); rintro e w2 ⟨rfl, b2⟩; have B2 := Lib.hid (B1.out.trans (b2.mono B1.out.size)); clear b2)
    | (go_at_call 26; (with_reducible refine (C2.out _).mono ?_); rintro e w3 ⟨rfl, rfl⟩))
  go_ret
  exact ⟨rfl, B2.out⟩
end Go.Proofs.Ytmdkokehomboaaa.R3
