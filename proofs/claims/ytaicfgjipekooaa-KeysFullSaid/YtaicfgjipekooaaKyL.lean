/- The laws of layer 4 (keys), walked: full. -/
import Derived.Test.YtaicfgjipekooaaKyE
namespace Go.Proofs.Ytaicfgjipekooaa
open Go.ChangeShapes Go.WideShapes Go.ChangeAt Go.RowKit
/-- the places that are still free when so many keys were put into a new store. -/
def flN (N i : Nat) : List Nat := ((List.range N).drop i).reverse
theorem flN_step {N i : Nat} (h : i < N) : flN N i = flN N (i + 1) ++ [i] := by
  unfold flN
  rw [List.drop_eq_getElem_cons (by simpa using h), List.reverse_cons, List.getElem_range]
theorem flN_end (N : Nat) : flN N N = [] := by unfold flN; rw [List.drop_eq_nil_of_le (by simp)]; rfl
theorem flN_zero (N : Nat) : flN N 0 = (List.range N).reverse := rfl
theorem rdI_at {w W : World} {k : IntKind} {n c bs off : Nat} {zs : List Int} (h : RdI w k (some ⟨bs, off, none⟩) n c zs) (hb : Below w.heap.size w W) {i : Nat} (hi : i < n) : W.cell? ⟨bs, off + i, none⟩ = some (.int k (zs.getD i 0)) := by
  obtain ⟨b', off', e, hlt, hc⟩ := h.at_ (by omega)
  injection e with e; injection e with e1 e2
  subst e1 e2
  exact (hb.cell (p := ⟨bs, off + i, none⟩) hlt).trans (hc i hi)
set_option maxHeartbeats 2000000 in
set_option maxRecDepth 100000 in
theorem full_law (w : World) (a : Int) (A : Option Addr) (m c : Nat) (zs : List Int) (ha : -9223372036854775808 ≤ a ∧ a ≤ 9223372036854775807) (hr : RdI w .i64 A m c zs) :
    Calls Try.prog 5 #[.int .i64 a, .slice A m c] w fun e w' => e = .returned (.bool true) ∧ Below w.heap.size w w' := by
  have hmx := hr.max
  unfold maxLen at hmx
  have hcp := hr.cap
  obtain ⟨k, hk⟩ : ∃ k : Nat, a % 32 = (k : Int) := ⟨(a % 32).toNat, by omega⟩
  have e1 : bits .and .i64 a 31 = (k : Int) := by rw [i64_mask5, hk]
  obtain ⟨N, hN⟩ : ∃ N : Nat, N = k + 1 := ⟨_, rfl⟩
  have es : (k : Int) + 1 = (N : Int) := by omega
  have kb : (k : Int) ≤ 31 := by omega
  have hNi : (N : Int) ≤ 32 := by omega
  have hNb : 1 ≤ N ∧ N ≤ 32 := by omega
  by_cases hn : (100 : Int) < (m : Int)
  · clear hr hk hN ha hNb
    go_enter Try.func5, Try.ntmps5
    go_wp2_with (go_at_call 7; refine (fit_any _).mono ?_; rintro e w1 ⟨rfl, b1⟩)
    go_ret
    exact ⟨rfl, b1⟩
  have hn2 : (m : Int) ≤ 100 := by omega
  have c1 := fun w => new_yes N (by omega) w
  have C1 := Lib.hid c1
  have HR := Lib.hid hr
  have HN := Lib.hid hNb
  clear c1 hr hk hn ha hN hNb
  go_enter Try.func5, Try.ntmps5
  go_wp2_with (first
    | (go_at_call 7; refine (fit_any _).mono ?_; rintro e w1 ⟨rfl, b1⟩; have B1 := Lib.hid b1; clear b1)
    | (go_at_call 8; ((with_reducible refine (C1.out _).mono ?_); rintro e w2 ⟨b, gb, gs, gf, rfl, hb, b2, hbb⟩; have HB := Lib.hid hb; have B2 := Lib.hid (below_on B1.out b2); have HK := Lib.hid (fun k (hk : kyF b gb gs gf k) => (show w.heap.size ≤ k by have := B1.out.size; rcases hk with h | h | h | h <;> omega)); clear hb b2 hbb)))
  go_loopg [24] N (fun k si wr => ∃ (i : Nat) (K : Nat → Option ByteArray), i ≤ N ∧ k = N - i ∧ si = .int .i64 (i : Int) ∧ KeysIn wr b gb gs gf N (flN N i) K ∧ Fr (kyF b gb gs gf) w2 wr)
  case atStart => exact ⟨0, _, by omega, by omega, rfl, HB.out, Fr.refl _ _⟩
  case round =>
    obtain ⟨i, K, hi, hkk, rfl, hb, hf⟩ := hrel
    have HKK := Lib.hid hkk
    have HF := Lib.hid hf
    have BW := Lib.hid (B2.out.trans (hf.below B2.out.size HK.out))
    clear hkk hf
    by_cases hin : i < N
    · rw [flN_step hin] at hb
      have HBR := Lib.hid hb
      have eu : IntKind.u8.wrap (i : Int) = (i : Int) := by rw [IntKind.wrap_u8]; omega
      have hcv := fun (hb : Blk (wr.alloc (.cells #[.int .u8 (i : Int)] 5)) wr.heap.size 5 #[.int .u8 (i : Int)]) => conv_str (P := Try.prog) (dst := 9) Try.underlying39 Try.underlying5 Try.underlying9 (rd_blk (n := 1) (zs := [(i : Int)]) (k := .u8) hb rfl (by decide) (by intro z hz; rw [List.mem_singleton.1 hz]; exact u8_wf (by omega)))
      have hcv := hcv (heap_alloc_new wr _)
      obtain ⟨s1, hs1⟩ : ∃ s1, s1 = strOfNums [(i : Int)] := ⟨_, rfl⟩
      rw [← hs1] at hcv
      have hsz : s1.size = 1 := by rw [hs1, str_size]; rfl
      have HSZ := Lib.hid hsz
      clear hs1 hsz hb
      go_wp2_with (fail)
      have bx : Below wr.heap.size wr (wr.alloc (.cells #[.int .u8 (i : Int)] 5)) := (Below.refl _ _).alloc (Nat.le_refl _) _
      generalize wr.alloc (.cells #[.int .u8 (i : Int)] 5) = x1 at bx hcv ⊢
      have h1 := HBR.out.keep bx
      refine (put_yes i s1 x1 h1 (by rw [HSZ.out]; decide)).mono ?_
      rintro e w3 ⟨rfl, h3, f3⟩
      have H3 := Lib.hid h3
      have F3 := Lib.hid (HF.out.trans ((Fr.of_below bx).trans f3))
      clear h1 h3 f3 bx hcv
      go_wp2
      go_roundg (N - (i + 1))
      case measure => have := HKK.out; omega
      case rel => exact ⟨i + 1, _, by omega, by omega, by go_num, H3.out, F3.out⟩
    · have hie : i = N := by omega
      subst hie
      rw [flN_end] at hb
      obtain ⟨wo, rfl⟩ : ∃ wo : World, wo = wr := ⟨_, rfl⟩
      have HBR := Lib.hid hb
      have cu := used_any wo hb
      rw [List.length_nil, Nat.sub_zero] at cu
      have CU := Lib.hid cu
      clear hb cu
      go_wp2_with (first
        | (go_at_call 9; ((with_reducible refine (put_no _ wo HBR.out (Or.inr rfl)).mono ?_); rintro e w4 ⟨rfl, rfl⟩))
        | (go_at_call 14; ((with_reducible refine CU.out.mono ?_); rintro e w5 ⟨rfl, b5⟩; have H5 := Lib.hid (HBR.out.keep b5); have F5 := Lib.hid (HF.out.trans (Fr.of_below (F := kyF b gb gs gf) b5)); clear b5)))
      go_loopg [7, 47] m (fun k la si wr => ∃ (j : Nat) (fl : List Nat) (K : Nat → Option ByteArray) (l : Int), j ≤ m ∧ k = m - j ∧ si = .int .i64 (j : Int) ∧ la = .int .i64 l ∧ KeysIn wr b gb gs gf i fl K ∧ Fr (kyF b gb gs gf) w2 wr ∧ ((l = -1 ∧ fl = []) ∨ ∃ f x, fl = f ++ [x] ∧ l = ((x : Nat) : Int)))
      case atStart => exact ⟨0, _, _, -1, by omega, by omega, rfl, rfl, H5.out, F5.out, Or.inl ⟨rfl, rfl⟩⟩
      case round =>
        obtain ⟨j, fl, K', l, hj, hkk, rfl, rfl, hb, hf, hl⟩ := hrel
        have HKK2 := Lib.hid hkk
        have HF2 := Lib.hid hf
        have HB2 := Lib.hid hb
        have HL2 := Lib.hid hl
        have BW2 := Lib.hid (B2.out.trans (hf.below B2.out.size HK.out))
        clear hkk hf hb
        by_cases hjm : j < m
        · obtain ⟨bs, off, rfl, hlt, _⟩ := HR.out.at_ (by omega)
          have q0 := rdI_at HR.out BW2.out hjm
          obtain ⟨o, ho⟩ : ∃ o, o = zs.getD j 0 := ⟨_, rfl⟩
          rw [← ho] at q0
          obtain ⟨x, hx⟩ : ∃ x : Nat, o % 32 = (x : Int) := ⟨(o % 32).toNat, by omega⟩
          have e2 : bits .and .i64 o 31 = (x : Int) := by rw [i64_mask5, hx]
          clear ho hx hl
          cases hk : hasB K' i (x : Int) with
          | true =>
            have hk2 : x < i ∧ (K' x).isSome = true := by unfold hasB at hk; simpa using hk
            obtain ⟨s2, hs2⟩ := Option.isSome_iff_exists.1 hk2.2
            have ck := key_yes x s2 wr HB2.out hk2.1 hs2
            have cf := fun W h => free_yes x W (h : KeysIn W b gb gs gf i fl K') hk2.2
            have CK := Lib.hid ck
            have CF := Lib.hid cf
            clear ck cf hk hk2 hs2
            go_wp2_with (fail)
            refine CK.out.mono ?_
            rintro e w6 ⟨rfl, b6⟩
            have H6 := Lib.hid (HB2.out.keep b6)
            have F6 := Lib.hid (HF2.out.trans (Fr.of_below (F := kyF b gb gs gf) b6))
            clear b6
            go_wp2_with (fail)
            refine (CF.out _ H6.out).mono ?_
            rintro e w7 ⟨rfl, h7, f7⟩
            have H7 := Lib.hid h7
            have F7 := Lib.hid (F6.out.trans f7)
            clear h7 f7
            go_wp2
            go_roundg (m - (j + 1))
            case measure => have := HKK2.out; omega
            case rel => exact ⟨j + 1, _, _, _, by omega, by omega, by go_num, rfl, H7.out, F7.out, Or.inr ⟨fl, x, rfl, rfl⟩⟩
          | false =>
            have ck := key_no (x : Int) wr HB2.out hk
            have cf := free_no (x : Int) wr HB2.out hk
            have CK := Lib.hid ck
            have CF := Lib.hid cf
            clear ck cf hk
            go_wp2_with (fail)
            refine CK.out.mono ?_
            rintro e w6 ⟨rfl, rfl⟩
            go_wp2_with (fail)
            refine CF.out.mono ?_
            rintro e w7 ⟨rfl, rfl⟩
            go_wp2
            go_roundg (m - (j + 1))
            case measure => have := HKK2.out; omega
            case rel => exact ⟨j + 1, _, _, _, by omega, by omega, by go_num, rfl, HB2.out, HF2.out, HL2.out⟩
        · rcases hl with ⟨rfl, rfl⟩ | ⟨f, x, rfl, rfl⟩
          · go_wp2
            go_ret
            exact ⟨rfl, BW2.out⟩
          · have t1 : ¬ (x : Int) < 0 := by omega
            have t2 : decide ((x : Int) < 0) = false := by simp
            go_wp2_with (fail)
            refine (put_yes x ⟨#[120]⟩ _ HB2.out (by decide)).mono ?_
            rintro e w7 ⟨rfl, h7, f7⟩
            have B7 := Lib.hid (BW2.out.trans (f7.below BW2.out.size HK.out))
            clear h7 f7
            go_wp2
            go_ret
            exact ⟨rfl, B7.out⟩
end Go.Proofs.Ytaicfgjipekooaa
