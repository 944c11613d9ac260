/- The law IndexFull of layer 5 (index), walked. -/
import Derived.Test.YtebcgiblgkiceaaIxL
import Derived.Test.YtebcgiblgkiceaaRdL
import Derived.Test.YtebcgiblgkiceaaBits
import Derived.Test.YtebcgiblgkiceaaGen
namespace Go.Proofs.Ytebcgiblgkiceaa
set_option linter.unusedSimpArgs false
set_option linter.unusedVariables false
open Go.ChangeShapes Go.WideShapes Go.ChangeAt Go.RowKit
/-- the name of a number. -/
def nm (p : Nat) : ByteArray := strOfNums [((97 + p % 26 : Nat) : Int), ((97 + p / 26 : Nat) : Int)]
theorem nm_inj : ∀ p, p < 32 → ∀ q, q < 32 → nm p = nm q → p = q := by decide +kernel
theorem nm_zz : ∀ p, p < 32 → nm p ≠ ⟨#[122, 122]⟩ := by decide +kernel
theorem nm_size (p : Nat) : (nm p).size = 2 := by unfold nm; rw [str_size]; rfl
set_option maxHeartbeats 1000000 in
theorem nm_any (p : Nat) (hp : p < 32) (w : World) : Calls Try.prog 16 #[.int .i64 (p : Int)] w fun e w' => e = .returned (.string (nm p)) ∧ Below w.heap.size w w' := by
  obtain ⟨r, hr⟩ : ∃ r, r = p % 26 := ⟨_, rfl⟩
  obtain ⟨q, hq⟩ : ∃ q, q = p / 26 := ⟨_, rfl⟩
  obtain ⟨a, ha⟩ : ∃ a, a = 97 + r := ⟨_, rfl⟩
  obtain ⟨b, hb⟩ : ∃ b, b = 97 + q := ⟨_, rfl⟩
  have e1 : (p : Int) % 26 = (r : Int) := by omega
  have e2 : (p : Int) / 26 = (q : Int) := by omega
  have e3 : 97 + (r : Int) = (a : Int) := by omega
  have e4 : 97 + (q : Int) = (b : Int) := by omega
  have e5 : IntKind.u8.wrap (a : Int) = (a : Int) := by rw [IntKind.wrap_u8]; omega
  have e6 : IntKind.u8.wrap (b : Int) = (b : Int) := by rw [IntKind.wrap_u8]; omega
  have HE := Lib.hid (show nm p = strOfNums [(a : Int), (b : Int)] by unfold nm; rw [← hr, ← hq, ← ha, ← hb])
  have t1 : (r : Int) < 26 := by omega
  have t2 : (q : Int) < 26 := by omega
  have HAB := Lib.hid (show a ≤ 255 ∧ b ≤ 255 by omega)
  have hcv : ∀ wx : World, RdI wx .u8 (some ⟨w.heap.size, 0, none⟩) 2 2 [(a : Int), (b : Int)] → (convert 42 9 (.slice (some ⟨w.heap.size, 0, none⟩) 2 2)).run Try.prog wx = .ok (.string (strOfNums [(a : Int), (b : Int)])) wx :=
    fun wx h => conv_str (P := Try.prog) (dst := 9) Try.underlying42 Try.underlying5 Try.underlying9 h
  have hcv2 := hcv (w.alloc (.cells #[.int .u8 (a : Int), .int .u8 (b : Int)] 5)) (rd_blk (k := .u8) (zs := [(a : Int), (b : Int)]) (heap_alloc_new w _) rfl (by unfold maxLen; omega) (by
    intro z hz
    simp only [List.mem_cons, List.not_mem_nil, or_false] at hz
    rcases hz with rfl | rfl <;> exact u8_wf (by omega)))
  clear hr hq ha hb hcv hp
  go_enter Try.func16, Try.ntmps16
  go_wp2
  go_ret
  refine ⟨?_, (Below.refl _ _).alloc (Nat.le_refl _) _⟩
  rw [HE.out]
  rfl
def fullK (j : Nat) : Nat → Option ByteArray := fun p => if p < j then some (nm p) else none
def fullF (n j : Nat) : List Nat := ((List.range n).drop j).reverse
theorem fullF_step {n j : Nat} (h : j < n) : fullF n j = fullF n (j + 1) ++ [j] := by
  unfold fullF
  rw [List.drop_eq_getElem_cons (by simpa using h), List.reverse_cons]
  simp
theorem fullK_step (j : Nat) : (fun q => if q = j then some (nm j) else fullK j q) = fullK (j + 1) := by
  funext q
  unfold fullK
  by_cases h : q = j
  · subst h; simp
  · rw [if_neg h]
    by_cases h2 : q < j
    · rw [if_pos h2, if_pos (by omega)]
    · rw [if_neg h2, if_neg (by omega)]
theorem fullK_no {j : Nat} (hj : j < 32) (i : Nat) : fullK j i ≠ some (nm j) := by
  unfold fullK
  split
  · rename_i h
    intro e; injection e with e
    have := nm_inj i (by omega) j hj e
    omega
  · simp
def goneK (n : Nat) (G : Nat → Bool) : Nat → Option ByteArray := fun p => if p < n ∧ G p = false then some (nm p) else none
theorem goneK_start (n : Nat) : fullK n = goneK n (fun _ => false) := by
  funext p; unfold fullK goneK; simp
def upB (G : Nat → Bool) (i : Nat) : Nat → Bool := fun p => if p = i then true else G p
theorem goneK_take (n i : Nat) (G : Nat → Bool) : (fun j => if j = i then none else goneK n G j) = goneK n (upB G i) := by
  funext p
  unfold goneK upB
  by_cases h : p = i
  · subst h; simp
  · simp [h]
theorem goneK_same {n i : Nat} {G : Nat → Bool} (h : G i = true) : goneK n (upB G i) = goneK n G := by
  congr 1
  funext p; unfold upB; split
  · rename_i e; rw [e, h]
  · rfl
theorem goneK_yes {n i : Nat} {G : Nat → Bool} (hi : i < n) (h : G i = false) : goneK n G i = some (nm i) := by unfold goneK; rw [if_pos ⟨hi, h⟩]
theorem goneK_no {n i : Nat} {G : Nat → Bool} (hn : n ≤ 32) (hi : i < 32) (h : G i = true) (p : Nat) : goneK n G p ≠ some (nm i) := by
  unfold goneK
  split
  · rename_i hp
    intro e; injection e with e
    have := nm_inj p (by omega) i hi e
    rw [this, h] at hp; exact absurd hp.2 (by simp)
  · simp
abbrev bolC (G : Nat → Bool) (n : Nat) : Array Value := ((List.range n).map fun i => Value.bool (G i)).toArray
theorem bolC_get (G : Nat → Bool) (n i : Nat) (h : i < n) : (bolC G n)[i]? = some (.bool (G i)) := by
  unfold bolC
  rw [List.getElem?_toArray, List.getElem?_map, List.getElem?_range h]
  rfl
theorem bolC_set (G : Nat → Bool) (n i : Nat) : (bolC G n).setIfInBounds i (.bool true) = bolC (upB G i) n := by
  apply Array.ext_getElem?
  intro j
  rw [Array.getElem?_setIfInBounds]
  by_cases hj : j < n
  · rw [bolC_get _ _ _ hj]
    by_cases hij : i = j
    · subst hij; simp [upB, hj]
    · rw [if_neg hij, bolC_get _ _ _ hj]; simp [upB, Ne.symm hij]
  · rw [Array.getElem?_eq_none (by simp; omega : (bolC (upB G i) n).size ≤ j)]
    split
    · rename_i h; rw [if_neg (by simp; omega)]
    · rw [Array.getElem?_eq_none (by simp; omega)]
theorem bolC_new (n : Nat) : (List.replicate n (Value.bool false)).toArray = bolC (fun _ => false) n := by
  unfold bolC
  congr 1
  apply List.ext_getElem
  · simp
  · intro i h1 h2; simp
theorem info_bool : (Try.prog.info? 4).map (fun i => (i.zero, i.size, i.bytes)) = some (some (.bool false), 1, 1) := by kernel_rfl
set_option maxHeartbeats 8000000 in
set_option maxRecDepth 100000 in
theorem full_law (w : World) (a : Int) (d1 d2 d3 : Nat) (A : Option Addr) (m c : Nat) (zs : List Int) (ha : -9223372036854775808 ≤ a ∧ a ≤ 9223372036854775807) (hd : d1 < 18446744073709551616 ∧ d2 < 18446744073709551616 ∧ d3 < 18446744073709551616) (hr : RdI w .i64 A m c zs) :
    Calls Try.prog 4 #[.int .i64 a, .agg #[.int .u64 d1, .int .u64 d2, .int .u64 d3], .slice A m c] w fun e w' => e = .returned (.bool true) ∧ Below w.heap.size w w' := by
  have hmx := hr.max
  unfold maxLen at hmx
  have hcp := hr.cap
  obtain ⟨n0, hn0⟩ : ∃ k : Nat, a % 32 = (k : Int) := ⟨(a % 32).toNat, by omega⟩
  have e1 : bits .and .i64 a 31 = (n0 : Int) := by rw [i64_mask5, hn0]
  have hn0b : n0 ≤ 31 := by omega
  obtain ⟨n, hn⟩ : ∃ n, n = n0 + 1 := ⟨_, rfl⟩
  have e2 : (n0 : Int) + 1 = (n : Int) := by omega
  have hnb : 1 ≤ n ∧ n ≤ 32 := by omega
  obtain ⟨hnb1, hnb2⟩ := hnb
  have CR := Lib.hid (fun w => row_any d1 d2 d3 hd.1 hd.2.1 hd.2.2 w)
  by_cases hm : (100 : Int) < (m : Int)
  · clear hr hn0 ha hd hn
    go_enter Try.func4, Try.ntmps4
    go_wp2_with (go_at_call 7; refine (ixfit_any _).mono ?_; rintro e w1 ⟨rfl, bb⟩; have B1 := Lib.hid (below_in ((Below.refl _ _).alloc (Nat.le_refl _) _) bb); clear bb)
    go_ret
    exact ⟨rfl, B1.out⟩
  have hm2 : (m : Int) ≤ 100 := by omega
  have DL := Lib.hid (d_lt d1 d2 d3)
  obtain ⟨X, hX⟩ : ∃ X, X = dX d1 d2 d3 := ⟨_, rfl⟩
  obtain ⟨Y, hY⟩ : ∃ X, X = dA d1 d2 d3 := ⟨_, rfl⟩
  obtain ⟨Z, hZ⟩ : ∃ X, X = dB d1 d2 d3 := ⟨_, rfl⟩
  rw [← hX, ← hY, ← hZ] at CR DL
  have HR := Lib.hid hr
  clear hr hn0 ha hd hm hn hX hY hZ
  go_enter Try.func4, Try.ntmps4
  go_upto_region 1 with (fail)
  obtain ⟨w0, hw0, k0, l0, s0⟩ := box_new w #[.int .u64 (d1 : Int), .int .u64 (d2 : Int), .int .u64 (d3 : Int)] 23
  rw [hw0]
  obtain ⟨db, hdb⟩ : ∃ db, db = w.heap.size := ⟨_, rfl⟩
  rw [← hdb] at k0 ⊢
  have K0 := Lib.hid k0
  have L0 := Lib.hid l0
  clear hw0 k0 l0 s0 hdb
  go_upto_region 7 with (first
    | (go_at_call 7; refine (ixfit_any _).mono ?_; rintro e w1 ⟨rfl, bb⟩; have K1 := Lib.hid (K0.out.keep bb); have L1 := Lib.hid (below_in L0.out bb); clear bb)
    | (go_at_call 8; ((with_reducible refine (new_yes n (by omega) _).mono ?_); rintro e w2 ⟨b, gb, gs, gf, rfl, hk, bk, hb⟩; have KK := Lib.hid hk; have K2 := Lib.hid (K1.out.keep bk); have L2 := Lib.hid (below_in L1.out bk); have HB := Lib.hid hb; have Z2 := Lib.hid bk.size; have k2 := (K1.out.keep bk).rd; clear hk bk hb)))
  go_upto_region 8 with (first
    | (go_at_call 10; ((with_reducible refine (CR.out _).mono ?_); rintro e w3 ⟨rfl, bk⟩; have KK3 := Lib.hid (KK.out.keep bk); have L3 := Lib.hid (below_in L2.out bk); have K3 := Lib.hid (K2.out.keep bk); have Z3 := Lib.hid bk.size; clear bk))
    | (go_at_call 9; ((with_reducible refine (ixnew_st X Y Z DL.out.1 DL.out.2.1 DL.out.2.2 b gb gs gf n _ KK3.out).mono ?_); rintro e w4 ⟨x, g, rfl, hi, bk, hb⟩; have I1 := Lib.hid hi; have HX := Lib.hid hb; have L4 := Lib.hid (below_in L3.out bk); have K4 := Lib.hid (K3.out.keep bk); clear hi bk hb)))
  obtain ⟨N, hN⟩ : ∃ N : IxN, N = ⟨x, b, X, Y, Z, g, gb, gs, gf, n⟩ := ⟨_, rfl⟩
  have I0 := I1.out
  rw [← hN] at I0
  have hl1 := I0.lt
  have y1 := HB.out
  have y2 := HX.out
  have z1 := L1.out.size
  have z2 := Z2.out
  have z3 := Z3.out
  have HF := Lib.hid (show ∀ k, (N.F k ∨ k = N.x) → w1.heap.size ≤ k from fun k hk => by
    rw [hN] at hk
    rcases hk with (hk | hk | hk | hk | hk) | hk <;> simp only at hk <;> omega)
  have e3 : x = N.x := by rw [hN]
  have NN := Lib.hid (show N.n = n by rw [hN])
  have I2 := Lib.hid I0
  have HLT := Lib.hid hl1
  have Z1 := Lib.hid z1
  have K1L := Lib.hid (lt_of_block K1.out)
  clear k2 hN I0 hl1 y1 y2 z1 z2 z3
  subst e3
  clear KK KK3 I1 HX HB Z2 Z3 K0 K1 K2 K3 L0 L1 L2 L3 DL
  go_wp2
  have NSZ := Lib.hid (fun p : Nat => show (nm p).size ≤ maxLen from by rw [nm_size]; decide)
  go_loopg [33] n (fun k si wr => ∃ j : Nat, si = .int .i64 (j : Int) ∧ j ≤ n ∧ Hid (k = n - j) ∧ Hid (IdxIn wr N (fullF n j) (fullK j)) ∧ Hid (Fr N.F w4 wr))
  case atStart => exact ⟨0, rfl, by omega, Lib.hid rfl, I2, Lib.hid (Fr.refl _ _)⟩
  case round =>
    obtain ⟨j, rfl, hj, HK, IJ, FJ⟩ := hrel
    by_cases hjn : j < n
    · have HJ := Lib.hid hjn
      have u1 : ((j : Int) != (j : Int)) = false := by simp
      have t1 : (j : Int) < (n : Int) := by omega
      go_wp2_with (fail)
      refine (nm_any j (by omega) _).mono ?_
      rintro e wa ⟨rfl, ba⟩
      have IA := Lib.hid (show IdxIn wa N (fullF n (j + 1) ++ [j]) (fullK j) from by rw [← fullF_step HJ.out]; exact IJ.out.keep ba)
      have FA := Lib.hid (FJ.out.trans (Fr.of_below ba))
      clear ba
      go_wp2_with (fail)
      refine (ixput_yes j (nm j) wa IA.out (fullK_no (by omega)) (by rw [nm_size]; omega)).mono ?_
      rintro e wb ⟨rfl, hb, fb⟩
      rw [fullK_step] at hb
      have IB := Lib.hid hb
      have FB := Lib.hid (FA.out.trans fb)
      clear hb fb
      go_wp2_with (fail)
      refine (nm_any j (by omega) _).mono ?_
      rintro e wc ⟨rfl, bc⟩
      have IC := Lib.hid (IB.out.keep bc)
      have FC := Lib.hid (FB.out.trans (Fr.of_below bc))
      clear bc
      go_wp2_with (fail)
      refine (ixput_has j (nm j) (NSZ.out j) wc IC.out (by unfold fullK; rw [if_pos (by omega)])).mono ?_
      rintro e wd ⟨rfl, bd⟩
      have ID := Lib.hid (IC.out.keep bd)
      have FD := Lib.hid (FC.out.trans (Fr.of_below bd))
      clear bd
      go_wp2
      go_roundg (n - (j + 1))
      case measure => have := HK.out; omega
      case rel => exact ⟨j + 1, by go_num, HJ.out, Lib.hid rfl, ID, FD⟩
    · have hje : j = n := by omega
      subst hje
      have HJN := Lib.hid hnb2
      go_wp2_with (fail)
      refine (ixput_full ⟨#[122, 122]⟩ (by decide) wr IJ.out (fun i => ?_) (Or.inr ?_)).mono ?_
      · unfold fullK
        split
        · intro e; injection e with e; exact nm_zz i (by omega) e
        · simp
      · unfold fullF; rw [List.drop_eq_nil_of_le (by simp)]; rfl
      rintro e w5 ⟨rfl, b5⟩
      have I5 := Lib.hid (show IdxIn w5 N (fullF j j) (goneK j (fun _ => false)) from by rw [← goneK_start]; exact IJ.out.keep b5)
      have F5 := Lib.hid (FJ.out.trans (Fr.of_below b5))
      clear b5
      obtain ⟨iB, hB, hB0, hB1, hB2⟩ := info_parts info_bool
      have mk2 := G.make_one (P := Try.prog) Try.underlying44 hB hB0 rfl hB1 hB2 j (by omega) (by omega)
      rw [bolC_new] at mk2
      clear hB hB0 hB1 hB2
      go_upto_region 18 with (fail)
      obtain ⟨w6, hw6, k6, l6, s6⟩ := box_new w5 (bolC (fun _ => false) j) 4
      rw [hw6]
      obtain ⟨hb, hhb⟩ : ∃ hb, hb = w5.heap.size := ⟨_, rfl⟩
      rw [← hhb] at k6 s6 ⊢
      have I6 := Lib.hid (I5.out.keep l6)
      have F6 := Lib.hid (F5.out.trans (Fr.of_below l6))
      have K6 := Lib.hid k6
      have HHB := Lib.hid (show (∀ k, (N.F k ∨ k = N.x) → k < hb) from fun k hk => by rw [hhb]; exact I5.out.lt k hk)
      have HB4 := Lib.hid (show w4.heap.size ≤ hb from by rw [hhb]; exact F5.out.size)
      clear mk2 hw6 k6 l6 s6 hhb
      go_wp2
      go_loopg [59] m (fun k si wr => ∃ (q : Nat) (G : Nat → Bool) (fl : List Nat), si = .int .i64 (q : Int) ∧ q ≤ m ∧ Hid (k = m - q) ∧ Hid (IdxIn wr N fl (goneK j G)) ∧ Hid (Blk wr hb 4 (bolC G j)) ∧ Hid (Fr (fun k => N.F k ∨ k = hb) w4 wr))
      case atStart => exact ⟨0, fun _ => false, fullF j j, rfl, by omega, Lib.hid rfl, I6, K6, Lib.hid (F6.out.mono (fun k hk => Or.inl hk))⟩
      case round =>
        obtain ⟨q, G, fl, rfl, hq, HKq, IQ, KQ, FQ⟩ := hrel
        have HWL := Lib.hid (show Below w.heap.size w wr from L4.out.trans (FQ.out.below L4.out.size (fun k hk => by
          have := Z1.out; have := HB4.out; have := L4.out.size
          rcases hk with hk | hk
          · have := HF.out k (Or.inl hk); omega
          · omega)))
        by_cases hqm : q < m
        · have HQ := Lib.hid hqm
          obtain ⟨rb, off, rfl, hlt, hc⟩ := HR.out.at_ (by omega)
          obtain ⟨z, hz⟩ : ∃ z, z = zs.getD q 0 := ⟨_, rfl⟩
          have kz : wr.cell? ⟨rb, off + q, none⟩ = some (.int .i64 z) := by rw [HWL.out.cell (p := ⟨rb, off + q, none⟩) hlt, hz]; exact hc q hqm
          obtain ⟨i0, hi0⟩ : ∃ k : Nat, z % 32 = (k : Int) := ⟨(z % 32).toNat, by omega⟩
          have e9 : bits .and .i64 z 31 = (i0 : Int) := by rw [i64_mask5, hi0]
          have hi32 : i0 < 32 := by omega
          have HI := Lib.hid hi32
          have t1 : (q : Int) < (m : Int) := by omega
          have t1' : decide (q < m) = true := by simpa using hqm
          clear hc hz hi0 hlt hqm
          by_cases hin : i0 < j
          · have t2 : decide (j ≤ i0) = false := by rw [decide_eq_false_iff_not]; omega
            have HN2 := Lib.hid hin
            obtain ⟨v, CRm, hv⟩ : ∃ v : Int, Hid (∀ wx, IdxIn wx N fl (goneK j G) → Calls Try.prog 13 #[.pointer (some ⟨N.x, 0, none⟩), .string (nm i0)] wx (fun e w' => e = .returned (.int .i64 v) ∧ ∃ fl', IdxIn w' N fl' (goneK j (upB G i0)) ∧ Fr N.F wx w')) ∧ ((G i0 = true ∧ v = -1) ∨ (G i0 = false ∧ v = (i0 : Int))) := by
              cases hG : G i0 with
              | true => exact ⟨-1, Lib.hid (fun wx hx => (ixremove_no (nm i0) (NSZ.out i0) wx hx (goneK_no HJN.out HI.out hG)).mono (fun e w' hh => ⟨hh.1, fl, by rw [goneK_same hG]; exact hx.keep hh.2, Fr.of_below hh.2⟩)), Or.inl ⟨rfl, rfl⟩⟩
              | false => exact ⟨(i0 : Int), Lib.hid (fun wx hx => (ixremove_yes i0 (nm i0) (NSZ.out i0) wx hx (goneK_yes HN2.out hG)).mono (fun e w' hh => ⟨hh.1, fl ++ [i0], by rw [← goneK_take]; exact hh.2.1, hh.2.2⟩)), Or.inr ⟨rfl, rfl⟩⟩
            have t3 : (i0 : Int) < (j : Int) := by omega
            have kh0 := KQ.out.wr
            rcases hv with ⟨hG, rfl⟩ | ⟨hG, rfl⟩
            all_goals
              have kh : wr.cell? ⟨hb, i0, none⟩ = some (.bool (G i0)) := by rw [blk_cell KQ.out]; exact bolC_get G j i0 hin
              rw [hG] at kh
              have u1 : ((i0 : Int) != (i0 : Int)) = false := by simp
              clear hin hG kh0
              go_wp2_with (fail)
              refine (nm_any i0 hi32 _).mono ?_
              rintro e wa ⟨rfl, ba⟩
              have IA := Lib.hid (IQ.out.keep ba)
              have KA := Lib.hid (KQ.out.keep ba)
              have FA := Lib.hid (FQ.out.trans (Fr.of_below ba))
              clear ba kh kz
              go_wp2_with (fail)
              refine (CRm.out wa IA.out).mono ?_
              rintro e wb ⟨rfl, fl', ib, fb⟩
              have IB := Lib.hid ib
              have KB := Lib.hid (KA.out.fr fb (fun hF => by have := HHB.out hb (Or.inl hF); omega))
              have FB := Lib.hid (FA.out.trans (fb.mono (fun k hk => Or.inl hk)))
              clear ib fb
              have kh : wb.cell? ⟨hb, i0, none⟩ = some (.bool (G i0)) := by rw [blk_cell KB.out]; exact bolC_get G j i0 HN2.out
              have kh0 := KB.out.wr
              go_upto_region 29 with (fail)
              have hltb := lt_of_block KB.out
              rw [setCell_obj KB.out, bolC_set]
              have IC := Lib.hid (show IdxIn (setObj wb hb (.cells (bolC (upB G i0) j) 4 (0, 0))) N fl' (goneK j (upB G i0)) from IB.out.fr (Fr.setObj (F := fun k => k = hb) (Fr.refl _ _) rfl _) (fun k hk he => by have := HHB.out k hk; omega))
              have KC := Lib.hid (show Blk (setObj wb hb (.cells (bolC (upB G i0) j) 4 (0, 0))) hb 4 (bolC (upB G i0) j) from setObj_at hltb _)
              have FC := Lib.hid (show Fr (fun k => N.F k ∨ k = hb) w4 (setObj wb hb (.cells (bolC (upB G i0) j) 4 (0, 0))) from Fr.setObj FB.out (Or.inr rfl) _)
              generalize (setObj wb hb (.cells (bolC (upB G i0) j) 4 (0, 0))) = wc at IC KC FC ⊢
              clear kh kh0 hltb
              go_wp2
              go_loopg [84] j (fun k si wr => ∃ p : Nat, si = .int .i64 (p : Int) ∧ p ≤ j ∧ Hid (k = j - p) ∧ Hid (Below wc.heap.size wc wr))
              case atStart => exact ⟨0, rfl, by omega, Lib.hid rfl, Lib.hid (Below.refl _ _)⟩
              case round =>
                obtain ⟨p, rfl, hp, HKp, BP⟩ := hrel
                by_cases hpj : p < j
                · have HP := Lib.hid hpj
                  have t4 : (p : Int) < (j : Int) := by omega
                  obtain ⟨v, CF, hv⟩ : ∃ v : Int, Hid (∀ wx, Below wc.heap.size wc wx → Calls Try.prog 14 #[.pointer (some ⟨N.x, 0, none⟩), .string (nm p)] wx (fun e w' => e = .returned (.int .i64 v) ∧ Below wx.heap.size wx w')) ∧ ((upB G i0 p = true ∧ v = -1) ∨ (upB G i0 p = false ∧ v = (p : Int))) := by
                    cases hG : upB G i0 p with
                    | true => exact ⟨-1, Lib.hid (fun wx hx => ixfind_no (nm p) (NSZ.out p) wx (IC.out.keep hx) (goneK_no HJN.out (by omega) hG)), Or.inl ⟨rfl, rfl⟩⟩
                    | false => exact ⟨(p : Int), Lib.hid (fun wx hx => ixfind_yes p (nm p) (NSZ.out p) wx (IC.out.keep hx) (goneK_yes HP.out hG)), Or.inr ⟨rfl, rfl⟩⟩
                  have CN := Lib.hid (fun wx => nm_any p (by omega) wx)
                  rcases hv with ⟨hG, rfl⟩ | ⟨hG, rfl⟩
                  · have SS := Lib.hid (fun wx (hx : Below wc.heap.size wc wx) => show wx.cell? ⟨hb, p, none⟩ = some (.bool (upB G i0 p)) from by rw [blk_cell (KC.out.keep hx)]; exact bolC_get (upB G i0) j p HP.out)
                    rw [hG] at SS
                    have y1 : Below wc.heap.size wc wr.drew := below_draws BP.out 1
                    have y2 := SS.out _ y1
                    have Y1 := Lib.hid y1
                    have u2 : ((p : Int) == (p : Int)) = true := by simp
                    have u3 : ((-1 : Int) == (p : Int)) = false := beq_eq_false_iff_ne.2 (by omega)
                    clear hG y1 hpj
                    go_upto_region 32 with (fail)
                    go_region_held3 (fun w' => w'.cell? ⟨hb, p, none⟩ = some (.bool true)) (assumption)
                      (first
                        | (go_at_call 16; ((with_reducible refine (CN.out _).mono ?_); rintro e wf ⟨rfl, bf⟩; have Y2 := Lib.hid (below_in Y1.out bf); have y3 := SS.out _ (below_in Y1.out bf); clear bf))
                        | (go_at_call 14; ((with_reducible refine (CF.out _ Y2.out).mono ?_); rintro e wg ⟨rfl, bf⟩; have Y3 := Lib.hid (below_in Y2.out bf); have y4 := SS.out _ (below_in Y2.out bf); clear bf)))
                    clear y2 y3 y4
                    go_wp2
                    go_roundg (j - (p + 1))
                    case measure => have := HKp.out; have := HP.out; omega
                    case rel => exact ⟨p + 1, by go_num, HP.out, Lib.hid rfl, Y3⟩
                  · have SS := Lib.hid (fun wx (hx : Below wc.heap.size wc wx) => show wx.cell? ⟨hb, p, none⟩ = some (.bool (upB G i0 p)) from by rw [blk_cell (KC.out.keep hx)]; exact bolC_get (upB G i0) j p HP.out)
                    rw [hG] at SS
                    have y1 : Below wc.heap.size wc wr.drew := below_draws BP.out 1
                    have y2 := SS.out _ y1
                    have Y1 := Lib.hid y1
                    have u2 : ((p : Int) == (p : Int)) = true := by simp
                    have u3 : ((-1 : Int) == (p : Int)) = false := beq_eq_false_iff_ne.2 (by omega)
                    clear hG y1 hpj
                    go_upto_region 32 with (fail)
                    go_region_held3 (fun w' => w'.cell? ⟨hb, p, none⟩ = some (.bool false)) (assumption)
                      (first
                        | (go_at_call 16; ((with_reducible refine (CN.out _).mono ?_); rintro e wf ⟨rfl, bf⟩; have Y2 := Lib.hid (below_in Y1.out bf); have y3 := SS.out _ (below_in Y1.out bf); clear bf))
                        | (go_at_call 14; ((with_reducible refine (CF.out _ Y2.out).mono ?_); rintro e wg ⟨rfl, bf⟩; have Y3 := Lib.hid (below_in Y2.out bf); have y4 := SS.out _ (below_in Y2.out bf); clear bf)))
                    clear y2 y3 y4
                    go_wp2
                    go_roundg (j - (p + 1))
                    case measure => have := HKp.out; have := HP.out; omega
                    case rel => exact ⟨p + 1, by go_num, HP.out, Lib.hid rfl, Y3⟩
                · have hpe : p = j := by omega
                  subst hpe
                  go_wp2
                  go_roundg (m - (q + 1))
                  case measure => have := HKq.out; have := HQ.out; omega
                  case rel => exact ⟨q + 1, upB G i0, fl', by go_num, HQ.out, Lib.hid rfl, Lib.hid (IC.out.keep BP.out), Lib.hid (KC.out.keep BP.out), Lib.hid (FC.out.trans (Fr.of_below BP.out))⟩
          · have t2 : decide (j ≤ i0) = true := by rw [decide_eq_true_eq]; omega
            go_wp2
            go_roundg (m - (q + 1))
            case measure => have := HKq.out; have := HQ.out; omega
            case rel => exact ⟨q + 1, G, fl, by go_num, HQ.out, Lib.hid rfl, IQ, KQ, FQ⟩
        · have hqe : q = m := by omega
          subst hqe
          have KD := Lib.hid (show Blk wr db 23 #[.int .u64 (d1 : Int), .int .u64 (d2 : Int), .int .u64 (d3 : Int)] from K4.out.fr FQ.out (by
            have h1 := K1L.out
            have h2 := lt_of_block K4.out
            have h3 := HB4.out
            rintro (hk | hk)
            · have := HF.out db (Or.inl hk); omega
            · omega))
          have kd := KD.out.rd
          have CB := Lib.hid (fun wx => show Calls Try.prog 17 #[.int .i64 (j : Int)] wx (fun e w' => e = .returned (.int .i64 (4 * (2 * (j : Int) + 1))) ∧ wx = w') from by
            have := ixbytes_any j (by omega) wx
            rwa [show ((2 * j + 1 : Nat) : Int) = 2 * (j : Int) + 1 by omega] at this)
          have u1 : ((4 * (2 * (j : Int) + 1)) == (4 * (2 * (j : Int) + 1))) = true := by simp
          go_wp2_with (first
            | (go_at_call 14; ((with_reducible refine (ixfind_nil _ _).mono ?_); rintro e wa ⟨rfl, rfl⟩))
            | (go_at_call 11; ((with_reducible refine (ixput_nil _ _).mono ?_); rintro e wa ⟨rfl, rfl⟩))
            | (go_at_call 13; ((with_reducible refine (ixremove_nil _ _).mono ?_); rintro e wa ⟨rfl, rfl⟩))
            | (go_at_call 10; ((with_reducible refine (CR.out _).mono ?_); rintro e wb ⟨rfl, bb⟩; have BB := Lib.hid bb; clear bb))
            | (go_at_call 9; ((with_reducible refine (ixnew_nil X Y Z _).mono ?_); rintro e wc ⟨rfl, bb⟩; have BC := Lib.hid bb; clear bb))
            | (go_at_call 17; ((with_reducible refine (CB.out _).mono ?_); rintro e wd ⟨rfl, rfl⟩)))
          go_ret
          exact ⟨rfl, below_in (below_in HWL.out BB.out) BC.out⟩
end Go.Proofs.Ytebcgiblgkiceaa
