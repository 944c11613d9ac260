/- The laws of layer 9 (cell), walked: all later by so much. -/
import Derived.Test.YtfegoehiopkcnaaCellW
import Derived.Test.YtfegoehiopkcnaaPhase
import Derived.Test.YtfegoehiopkcnaaGen
namespace Go.Proofs.Ytfegoehiopkcnaa
set_option linter.unusedSimpArgs false
set_option linter.unusedVariables false
set_option maxRecDepth 100000
open Go.ChangeShapes Go.WideShapes Go.ChangeAt Go.RowKit
open Ar (inR)
/-- what a call for a cost leaves, of a cell and of one that is so much later. -/
theorem take_pair {F S C D U W B L t co sh : Int} (h : Rng F S C D U W B L t) (h' : Rng (F + sh) (S + sh) C D U W B L (t + sh)) (hc : 1 ≤ co ∧ co ≤ B) :
    ∃ (b : Bool) (F' D' : Int), ((F' = F ∧ D' = D) ∨ (t ≤ F' ∧ F' ≤ t + B * U ∧ D' = D + co)) ∧
      (∀ w bc, CellAt w bc F S C D → Calls Try.prog 21 #[.pointer (some ⟨bc, 0, none⟩), pv U W B L, .int .i64 t, .int .i64 co] w fun e w' => e = .returned (.bool b) ∧ CellAt w' bc F' S C D' ∧ Fr (fun k => k = bc) w w') ∧
      (∀ w bc, CellAt w bc (F + sh) (S + sh) C D → Calls Try.prog 21 #[.pointer (some ⟨bc, 0, none⟩), pv U W B L, .int .i64 (t + sh), .int .i64 co] w fun e w' => e = .returned (.bool b) ∧ CellAt w' bc (F' + sh) (S + sh) C D' ∧ Fr (fun k => k = bc) w w') := by
  have hr := (shift_facts (F := F) (S := S) (C := C) (D := D) (U := U) (W := W) (B := B) (L := L) (t := t) sh).1
  have hm := (shift_facts (F := F) (S := S) (C := C) (D := D) (U := U) (W := W) (B := B) (L := L) (t := t) sh).2.2.2.2
  by_cases hle : co ≤ roomP F S C D U W B L t
  · have l1 := (take_leaves h ⟨hc.1, hle⟩).1
    have h4 : 0 ≤ co * U := Int.mul_nonneg (by omega) (by have := h.U; omega)
    refine ⟨true, max F t + co * U, D + co, Or.inr ⟨by omega, l1, rfl⟩, fun w bc hca => ?_, fun w bc hca => ?_⟩
    · exact take_rng_yes h ⟨hc.1, hle⟩ w bc hca
    · have := take_rng_yes h' ⟨hc.1, by rw [hr]; exact hle⟩ w bc hca
      rw [hm] at this
      exact this
  · refine ⟨false, F, D, Or.inl ⟨rfl, rfl⟩, fun w bc hca => ?_, fun w bc hca => ?_⟩
    · refine (take_rng_no h (Or.inr (by omega)) w bc hca).mono ?_
      rintro e w' ⟨rfl, h1⟩
      exact ⟨rfl, hca.below h1, Fr.of_below h1⟩
    · refine (take_rng_no h' (Or.inr (by rw [hr]; omega)) w bc hca).mono ?_
      rintro e w' ⟨rfl, h1⟩
      exact ⟨rfl, hca.below h1, Fr.of_below h1⟩
theorem cellAt_of {w : World} {b : Nat} {F S C D : Int} (h : Blk w b 36 #[.int .i64 F, .int .i64 S, .int .i64 C, .int .i64 D]) : CellAt w b F S C D := h
set_option maxHeartbeats 6000000 in
set_option maxRecDepth 100000 in
theorem shift_law (w : World) (a b c s0 : Int) (A : Option Addr) (n cap : Nat) (x y : Nat → Int) (ha : inR a) (hb : inR b) (hc : inR c) (_hs0 : -9223372036854775808 ≤ s0 ∧ s0 ≤ 9223372036854775807) (hr : RdP w A n cap x y) :
    Calls Try.prog 10 #[.agg #[.int .i64 a, .int .i64 b, .int .i64 c], .int .i64 s0, .slice A n cap] w fun e w' => e = .returned (.bool true) ∧ Below w.heap.size w w' := by
  by_cases hn : (100 : Int) < (n : Int)
  · have hmx := hr.max
    unfold maxLen at hmx
    clear hr
    go_enter Try.func10, Try.ntmps10
    go_wp2_with (go_at_call 11; refine (fit_any _).mono ?_; rintro e w1 ⟨rfl, b1⟩; have B1 := Lib.hid (Below.trans ((Below.refl w.heap.size w).alloc (Nat.le_refl _) _) (b1.mono (by simp))); clear b1)
    go_ret
    exact ⟨rfl, B1.out⟩
  have c0 := fun w => rule_any a b c ha hb hc w
  obtain ⟨f1, f2, f3, f4, f5, f6⟩ := plan_facts a b c
  obtain ⟨L, hL⟩ : ∃ z, z = planL a := ⟨_, rfl⟩
  obtain ⟨W, hW⟩ : ∃ z, z = planW b := ⟨_, rfl⟩
  obtain ⟨B, hB⟩ : ∃ z, z = planB a c := ⟨_, rfl⟩
  rw [← hL, ← hW, ← hB] at c0
  rw [← hL] at f1 f2 f6
  rw [← hW] at f3 f4
  rw [← hB] at f5 f6
  have c1 := fun w => of_any L W B 0 0 0 0 0 false (by unfold inR; omega) (by unfold inR; omega) (by unfold inR; omega) w
  obtain ⟨u1, u2, _⟩ := plan_unit ⟨f1, f2⟩ ⟨f3, f4⟩ ⟨f5, f6⟩
  obtain ⟨U, hU⟩ : ∃ z, z = unitZ W (L + 1 - B) := ⟨_, rfl⟩
  rw [← hU] at c1 u1 u2
  have hn2 : (n : Int) ≤ 100 := by omega
  obtain ⟨sh, hsh⟩ : ∃ k, k = s0 % 1152921504606846976 := ⟨_, rfl⟩
  have ek : bits .and .i64 s0 1152921504606846975 = sh := by rw [i64_mask60, hsh]
  have hshb : 0 ≤ sh ∧ sh ≤ 1152921504606846975 := by omega
  have c2 := fun w => new_any 3 1 w
  have c3 := fun w => new_any (3 + sh) 1 w
  have C0 := Lib.hid c0
  have C1 := Lib.hid c1
  have C2 := Lib.hid c2
  have C3 := Lib.hid c3
  have HR := Lib.hid hr
  clear c0 c1 c2 c3 hL hW hB hU ha hb hc hr hn hsh
  go_enter Try.func10, Try.ntmps10
  have h0 : Blk (w.alloc (.cells #[.int .i64 a, .int .i64 b, .int .i64 c] 23)) w.heap.size 23 #[.int .i64 a, .int .i64 b, .int .i64 c] := heap_alloc_new w _
  have B0 := Lib.hid ((Below.refl w.heap.size w).alloc (Nat.le_refl _) (.cells #[.int .i64 a, .int .i64 b, .int .i64 c] 23))
  have H0 := Lib.hid h0
  clear h0
  go_upto_region 5 with (first
    | (go_at_call 11; refine (fit_any _).mono ?_; rintro e w1 ⟨rfl, b1⟩; have h1 := (H0.out.keep b1).rd; have B1 := Lib.hid (B0.out.trans (b1.mono (by simp))); clear b1))
  go_upto_region 6 with (first
    | (go_at_call 12; ((with_reducible refine (C0.out _).mono ?_); rintro e w2 ⟨rfl, b2⟩; have B2 := Lib.hid (below_from B1.out b2); clear b2)))
  obtain ⟨w2', e2, r2, b2, s2⟩ := box_new w2 #[.int .i64 L, .int .i64 W, .int .i64 B, .int .i64 0, .int .i64 0, .int .i64 0, .int .i64 0, .int .i64 0, .bool false] 28
  rw [e2]
  have B2' := Lib.hid (below_from B2.out b2)
  generalize hrb : w2.heap.size = rb at r2 ⊢
  have R2 := Lib.hid r2
  have r2c := r2.rd
  clear e2 b2 s2 hrb h1 B1 B2 B0 H0 r2
  go_upto_region 7 with (first
    | (go_at_call 13; ((with_reducible refine (C1.out _).mono ?_); rintro e w3 ⟨rfl, b3⟩; have R3 := Lib.hid (R2.out.keep b3); have B3 := Lib.hid (below_from B2'.out b3); clear b3)))
  obtain ⟨w3', e3, p3, b3, s3⟩ := box_new w3 #[.int .i64 U, .int .i64 W, .int .i64 B, .int .i64 L] 31
  rw [e3]
  have R3' := Lib.hid (R3.out.keep b3)
  have B3' := Lib.hid (below_from B3.out b3)
  have P3 := Lib.hid p3
  generalize hpb : w3.heap.size = pb at p3 P3 ⊢
  clear e3 b3 s3 hpb R2 r2c B2' B3 R3 p3
  go_upto_region 9 with (first
    | (go_at_call 15; first
        | ((with_reducible refine (C2.out _).mono ?_); rintro e w4 ⟨rfl, b4⟩; have R4 := Lib.hid (R3'.out.keep b4); have P4 := Lib.hid (P3.out.keep b4); have B4 := Lib.hid (below_from B3'.out b4); clear b4)
        | ((with_reducible refine (C3.out _).mono ?_); rintro e w5 ⟨rfl, b5⟩; have R5 := Lib.hid (R4.out.keep b5); have P5 := Lib.hid (P4.out.keep b5); have B5 := Lib.hid (below_from B4.out b5); clear b5)))
  obtain ⟨wy, ey, hcy, hdy, by_⟩ := two_blk w5 #[.int .i64 3, .int .i64 3, .int .i64 1, .int .i64 0] #[.int .i64 (3 + sh), .int .i64 (3 + sh), .int .i64 1, .int .i64 0] 36 36
  rw [ey]
  have HRU := Lib.hid (R5.out.keep by_)
  have HP := Lib.hid (P5.out.keep by_)
  have BY := Lib.hid (below_from B5.out by_)
  have hl1 := lt_of_block R5.out
  have hl2 := lt_of_block P5.out
  have hl3 := B5.out.size
  obtain ⟨bc, hbc⟩ : ∃ z, z = w5.heap.size := ⟨_, rfl⟩
  rw [← hbc] at hcy hdy hl1 hl2 hl3 ⊢
  obtain ⟨bd, hbd⟩ : ∃ z, z = bc + 1 := ⟨_, rfl⟩
  rw [← hbd] at hdy ⊢
  have NE := Lib.hid (show pb ≠ bc ∧ pb ≠ bd ∧ rb ≠ bc ∧ rb ≠ bd ∧ bc ≠ bd from by omega)
  have HL := Lib.hid (show w.heap.size ≤ bc ∧ w.heap.size ≤ bd from by omega)
  have HC := Lib.hid (show CellAt wy bc 3 3 1 0 from hcy)
  have HD := Lib.hid (show CellAt wy bd (3 + sh) (3 + sh) 1 0 from hdy)
  clear ey hcy hdy by_ hl1 hl2 hl3 hbc hbd R3' P3 R4 P4 B4 B3' R5 P5 B5
  go_wp2
  go_loopg [11, 32] n (fun k now si wr => ∃ (i : Nat) (t F D : Int), i ≤ n ∧ k = n - i ∧ si = .int .i64 (i : Int) ∧ now = .int .i64 t ∧ (3 ≤ t ∧ t ≤ 3 + 4095 * i) ∧ (0 ≤ F ∧ F ≤ t + B * U) ∧ (0 ≤ D ∧ D ≤ 32 * i) ∧ CellAt wr bc F 3 1 D ∧ CellAt wr bd (F + sh) (3 + sh) 1 D ∧ Fr (fun k => k = bc ∨ k = bd) wy wr)
  case atStart => exact ⟨0, 3, 3, 0, by omega, by omega, rfl, rfl, by omega, ⟨by omega, by have : 0 ≤ B * U := Int.mul_nonneg (by omega) (by omega); omega⟩, by omega, HC.out, HD.out, Fr.refl _ _⟩
  case round =>
    obtain ⟨i, t, F, D, hi, hkk, rfl, rfl, ht, hF, hD, hcr, hdr, hfr⟩ := hrel
    have HK := Lib.hid hkk
    have HFW := Lib.hid hfr
    have HCR := Lib.hid hcr
    have HDR := Lib.hid hdr
    have HQ := Lib.hid (show Blk wr rb _ _ ∧ Blk wr pb _ _ from ⟨HRU.out.fr hfr (fun h => by have := NE.out; omega), HP.out.fr hfr (fun h => by have := NE.out; omega)⟩)
    have HB := Lib.hid (BY.out.trans (hfr.below BY.out.size (fun k hk => by have := HL.out; omega)))
    have hbu : 0 ≤ B * U ∧ B * U ≤ 8192 := ⟨Int.mul_nonneg (by omega) (by omega), Int.mul_le_mul (by omega : B ≤ 32) u2 (by omega) (by omega)⟩
    clear hkk hcr hdr hfr
    by_cases hin : i < n
    · obtain ⟨bs, off, rfl, hlt, hcs⟩ := HR.out.at_ (by omega)
      obtain ⟨g0, g1⟩ := hcs i hin
      have q0 : wr.cell? ⟨bs, off + i * 2, none⟩ = some (.int .i64 (x i)) := (HB.out.cell (p := ⟨bs, off + i * 2, none⟩) hlt).trans g0
      have q1 : wr.cell? ⟨bs, off + i * 2 + 1, none⟩ = some (.int .i64 (y i)) := (HB.out.cell (p := ⟨bs, off + i * 2 + 1, none⟩) hlt).trans g1
      clear g0 g1 hcs
      go_upto_region 13 with (fail)
      obtain ⟨w6, e6, k6, b6, s6⟩ := box_new wr #[.int .i64 (x i), .int .i64 (y i)] 40
      rw [e6]
      generalize wr.heap.size = kb at k6 ⊢
      have Q6 := Lib.hid (And.intro k6 (keep2 HQ.out b6))
      have C6 := Lib.hid (HCR.out.below b6)
      have D6 := Lib.hid (HDR.out.below b6)
      have k6r := Q6.out.1.rd
      have r6r := Q6.out.2.1.rd
      have F6 := Lib.hid (HFW.out.trans (Fr.of_below b6))
      clear e6 b6 s6 q0 q1 k6
      have hg := gap_bd (x i)
      have cg := fun w => gap_any (x i) w
      obtain ⟨g, hge⟩ : ∃ g, g = gapZ (x i) := ⟨_, rfl⟩
      rw [← hge] at cg hg
      obtain ⟨t', ht'⟩ : ∃ z, z = t + g := ⟨_, rfl⟩
      have rng : Rng F 3 1 D U W B L t' := ⟨by omega, by omega, by omega, by omega, by omega, by omega, by omega, by omega, by omega⟩
      have rng' : Rng (F + sh) (3 + sh) 1 D U W B L (t' + sh) := ⟨by omega, by omega, by omega, by omega, by omega, by omega, by omega, by omega, by omega⟩
      obtain ⟨m, hm⟩ : ∃ z, z = y i % 32 := ⟨_, rfl⟩
      have e1 : bits .and .i64 (y i) 31 = m := by rw [hm]; exact i64_mask5 _
      have hmb : 0 ≤ m ∧ m ≤ 31 := by omega
      obtain ⟨r, hrm⟩ : ∃ z, z = m % B := ⟨_, rfl⟩
      have hrb : 0 ≤ r ∧ r < B := by rw [hrm]; exact ⟨Int.emod_nonneg _ (by omega), Int.emod_lt_of_pos _ (by omega)⟩
      obtain ⟨co, hco⟩ : ∃ z, z = r + 1 := ⟨_, rfl⟩
      have hcob : 1 ≤ co ∧ co ≤ B := by omega
      have hti : t' ≤ 1000000 := by omega
      have htj : 0 ≤ t' := by omega
      have et : t + g = t' := ht'.symm
      have er : m % B = r := hrm.symm
      have eco : r + 1 = co := hco.symm
      have CG := Lib.hid cg
      obtain ⟨sf1, sf2, sf3, sf4, _⟩ := shift_facts (F := F) (S := 3) (C := 1) (D := D) (U := U) (W := W) (B := B) (L := L) (t := t') sh
      have sf2 := sf2 co
      have cr1 := fun w => room_rng rng w
      have cr2 := fun w => room_rng rng' w
      rw [sf1] at cr2
      obtain ⟨R, hR⟩ : ∃ z, z = roomP F 3 1 D U W B L t' := ⟨_, rfl⟩
      rw [← hR] at cr1 cr2
      have cw1 := fun w => wait_rng rng hcob w
      have cw2 := fun w => wait_rng rng' hcob w
      rw [sf2] at cw2
      obtain ⟨V, hV⟩ : ∃ z, z = waitP F 3 1 D U W B L t' co := ⟨_, rfl⟩
      rw [← hV] at cw1 cw2
      obtain ⟨tb, F', D', hleaves, ct1, ct2⟩ := take_pair rng rng' hcob
      have hb2 : (3 ≤ t' ∧ t' ≤ 3 + 4095 * ((i : Int) + 1)) ∧ (0 ≤ F' ∧ F' ≤ t' + B * U) ∧ (0 ≤ D' ∧ D' ≤ 32 * ((i : Int) + 1)) := by
        rcases hleaves with ⟨rfl, rfl⟩ | ⟨g1, g2, rfl⟩ <;> omega
      have rng2 : Rng F' 3 1 D' U W B L t' := ⟨by omega, by omega, by omega, by omega, by omega, by omega, by omega, by omega, by omega⟩
      have rng2' : Rng (F' + sh) (3 + sh) 1 D' U W B L (t' + sh) := ⟨by omega, by omega, by omega, by omega, by omega, by omega, by omega, by omega, by omega⟩
      obtain ⟨_, _, sf5, sf6, _⟩ := shift_facts (F := F') (S := 3) (C := 1) (D := D') (U := U) (W := W) (B := B) (L := L) (t := t') sh
      have cb1 := fun w => bound_rng rng2 w
      have cb2 := fun w => bound_rng rng2' w
      rw [sf5] at cb2
      obtain ⟨bo, hbo⟩ : ∃ z, z = boundP F' 3 D' U W L t' := ⟨_, rfl⟩
      rw [← hbo] at cb1 cb2
      have ci1 := fun w => idle_rng rng2 w
      have ci2 := fun w => idle_rng rng2' w
      rw [sf6] at ci2
      obtain ⟨io, hio⟩ : ∃ z, z = idleP F' 3 W t' := ⟨_, rfl⟩
      rw [← hio] at ci1 ci2
      have CR1 := Lib.hid cr1
      have CR2 := Lib.hid cr2
      have CW1 := Lib.hid cw1
      have CW2 := Lib.hid cw2
      have CT1 := Lib.hid ct1
      have CT2 := Lib.hid ct2
      have CB1 := Lib.hid cb1
      have CB2 := Lib.hid cb2
      have CI1 := Lib.hid ci1
      have CI2 := Lib.hid ci2
      have NX := Lib.hid hb2
      have hts : t' + sh ≤ 1152921504608000000 := by omega
      have htz : 0 ≤ t' + sh := by omega
      clear sf1 sf2 sf3 sf4 sf5 sf6 cr1 cr2 cw1 cw2 ct1 ct2 cb1 cb2 ci1 ci2 hR hV hbo hio hb2 hleaves rng rng' rng2 rng2' hge ht' hm hrm hco cg
      go_upto_region 15 with (first
        | (go_at_call 16; ((with_reducible refine (CG.out _).mono ?_); rintro e w7 ⟨rfl, rfl⟩)))
      have ews : IntKind.i64.wrap (t' + sh) = t' + sh := by rw [IntKind.wrap_i64]; omega
      have hc6 := (show Blk w6 bc _ _ from C6.out).rd
      have hd6 := (show Blk w6 bd _ _ from D6.out).rd
      have hp6 := Q6.out.2.2.rd
      have ST := Lib.hid (show (∀ Wo, Below w6.heap.size w6 Wo → (fun w' : World => (∀ i, w'.cell? ⟨bc, i, none⟩ = (#[.int .i64 F, .int .i64 3, .int .i64 1, .int .i64 D] : Array Value)[i]?) ∧ (∀ i, w'.cell? ⟨bd, i, none⟩ = (#[.int .i64 (F + sh), .int .i64 (3 + sh), .int .i64 1, .int .i64 D] : Array Value)[i]?) ∧ (∀ i, w'.cell? ⟨pb, i, none⟩ = (#[.int .i64 U, .int .i64 W, .int .i64 B, .int .i64 L] : Array Value)[i]?)) Wo) from fun Wo hW => ⟨(Blk.keep (show Blk w6 bc _ _ from C6.out) hW).rd, (Blk.keep (show Blk w6 bd _ _ from D6.out) hW).rd, (Q6.out.2.2.keep hW).rd⟩)
      refine Ph.start [30, 36] (Ph.pick [(fun w' : World => (∀ i, w'.cell? ⟨bc, i, none⟩ = (#[.int .i64 F, .int .i64 3, .int .i64 1, .int .i64 D] : Array Value)[i]?) ∧ (∀ i, w'.cell? ⟨bd, i, none⟩ = (#[.int .i64 (F + sh), .int .i64 (3 + sh), .int .i64 1, .int .i64 D] : Array Value)[i]?) ∧ (∀ i, w'.cell? ⟨pb, i, none⟩ = (#[.int .i64 U, .int .i64 W, .int .i64 B, .int .i64 L] : Array Value)[i]?)), (fun w' : World => (∀ i, w'.cell? ⟨pb, i, none⟩ = (#[.int .i64 U, .int .i64 W, .int .i64 B, .int .i64 L] : Array Value)[i]?)), (fun w' : World => (∀ i, w'.cell? ⟨bc, i, none⟩ = (#[.int .i64 F', .int .i64 3, .int .i64 1, .int .i64 D'] : Array Value)[i]?) ∧ (∀ i, w'.cell? ⟨bd, i, none⟩ = (#[.int .i64 (F' + sh), .int .i64 (3 + sh), .int .i64 1, .int .i64 D'] : Array Value)[i]?) ∧ (∀ i, w'.cell? ⟨pb, i, none⟩ = (#[.int .i64 U, .int .i64 W, .int .i64 B, .int .i64 L] : Array Value)[i]?))]) (by kernel_rfl) (Ph.pick0 (ST.out _ (below_draws (Below.refl _ _) 1))) (fun hHeld hOrd => ?_)
      have BN := Lib.hid (show Below w6.heap.size w6 w6.drew from below_draws (Below.refl _ _) 1)
      refine Ph.take (i := 0) (oi := ?_) (v := ?_) (p := 0) ?_ ?_ ?_ ?_ hOrd ?_ ?_ ?_ ?_ ?_ ?_
      rotate_left 2
      · simp only [List.getElem?_toArray, List.getElem?_cons_succ, List.getElem?_cons_zero]; rfl
      · kernel_rfl
      · kernel_rfl
      · kernel_rfl
      · kernel_rfl
      · kernel_rfl
      · exact fun _ _ _ h => h
      · refine Or.inl ⟨by rfl, ?_⟩
        intro w' hSw
        (try simp only [Ph.pick, List.getD_cons_succ, List.getD_cons_zero] at hSw)
        go_simp
        all_goals (with_reducible rfl)
      · assumption
      clear hOrd
      intro hOrd
      try simp only [Act.put, List.setIfInBounds_toArray, List.set_cons_zero, List.set_cons_succ] at hOrd ⊢
      refine Ph.take (i := 1) (oi := ?_) (v := ?_) (p := 0) ?_ ?_ ?_ ?_ hOrd ?_ ?_ ?_ ?_ ?_ ?_
      rotate_left 2
      · simp only [List.getElem?_toArray, List.getElem?_cons_succ, List.getElem?_cons_zero]; rfl
      · kernel_rfl
      · kernel_rfl
      · kernel_rfl
      · kernel_rfl
      · kernel_rfl
      · exact fun _ _ _ h => h
      · refine Or.inl ⟨by rfl, ?_⟩
        intro w' hSw
        (try simp only [Ph.pick, List.getD_cons_succ, List.getD_cons_zero] at hSw)
        go_simp
        all_goals (with_reducible rfl)
      · assumption
      clear hOrd
      intro hOrd
      try simp only [Act.put, List.setIfInBounds_toArray, List.set_cons_zero, List.set_cons_succ] at hOrd ⊢
      refine Ph.take (i := 2) (oi := ?_) (v := ?_) (p := 0) ?_ ?_ ?_ ?_ hOrd ?_ ?_ ?_ ?_ ?_ ?_
      rotate_left 2
      · simp only [List.getElem?_toArray, List.getElem?_cons_succ, List.getElem?_cons_zero]; rfl
      · kernel_rfl
      · kernel_rfl
      · kernel_rfl
      · kernel_rfl
      · kernel_rfl
      · exact fun _ _ _ h => h
      · refine Or.inl ⟨by rfl, ?_⟩
        intro w' hSw
        (try simp only [Ph.pick, List.getD_cons_succ, List.getD_cons_zero] at hSw)
        go_simp
        all_goals (with_reducible rfl)
      · assumption
      clear hOrd
      intro hOrd
      try simp only [Act.put, List.setIfInBounds_toArray, List.set_cons_zero, List.set_cons_succ] at hOrd ⊢
      refine Ph.take (i := 4) (oi := ?_) (v := ?_) (p := 0) ?_ ?_ ?_ ?_ hOrd ?_ ?_ ?_ ?_ ?_ ?_
      rotate_left 2
      · simp only [List.getElem?_toArray, List.getElem?_cons_succ, List.getElem?_cons_zero]; rfl
      · kernel_rfl
      · kernel_rfl
      · kernel_rfl
      · kernel_rfl
      · kernel_rfl
      · exact fun _ _ _ h => h
      · refine Or.inl ⟨by rfl, ?_⟩
        intro w' hSw
        (try simp only [Ph.pick, List.getD_cons_succ, List.getD_cons_zero] at hSw)
        go_simp
        all_goals (with_reducible rfl)
      · assumption
      clear hOrd
      intro hOrd
      try simp only [Act.put, List.setIfInBounds_toArray, List.set_cons_zero, List.set_cons_succ] at hOrd ⊢
      refine Ph.take (i := 5) (oi := ?_) (v := ?_) (p := 0) ?_ ?_ ?_ ?_ hOrd ?_ ?_ ?_ ?_ ?_ ?_
      rotate_left 2
      · simp only [List.getElem?_toArray, List.getElem?_cons_succ, List.getElem?_cons_zero]; rfl
      · kernel_rfl
      · kernel_rfl
      · kernel_rfl
      · kernel_rfl
      · kernel_rfl
      · exact fun _ _ _ h => h
      · refine Or.inl ⟨by rfl, ?_⟩
        intro w' hSw
        (try simp only [Ph.pick, List.getD_cons_succ, List.getD_cons_zero] at hSw)
        go_simp
        all_goals (with_reducible rfl)
      · assumption
      clear hOrd
      intro hOrd
      try simp only [Act.put, List.setIfInBounds_toArray, List.set_cons_zero, List.set_cons_succ] at hOrd ⊢
      refine Ph.take (i := 6) (oi := ?_) (v := ?_) (p := 0) ?_ ?_ ?_ ?_ hOrd ?_ ?_ ?_ ?_ ?_ ?_
      rotate_left 2
      · simp only [List.getElem?_toArray, List.getElem?_cons_succ, List.getElem?_cons_zero]; rfl
      · kernel_rfl
      · kernel_rfl
      · kernel_rfl
      · kernel_rfl
      · kernel_rfl
      · exact fun _ _ _ h => h
      · refine Or.inl ⟨by rfl, ?_⟩
        intro w' hSw
        (try simp only [Ph.pick, List.getD_cons_succ, List.getD_cons_zero] at hSw)
        go_simp
        all_goals (with_reducible rfl)
      · assumption
      clear hOrd
      intro hOrd
      try simp only [Act.put, List.setIfInBounds_toArray, List.set_cons_zero, List.set_cons_succ] at hOrd ⊢
      refine Ph.take (i := 7) (oi := ?_) (v := ?_) (p := 0) ?_ ?_ ?_ ?_ hOrd ?_ ?_ ?_ ?_ ?_ ?_
      rotate_left 2
      · simp only [List.getElem?_toArray, List.getElem?_cons_succ, List.getElem?_cons_zero]; rfl
      · kernel_rfl
      · kernel_rfl
      · kernel_rfl
      · kernel_rfl
      · kernel_rfl
      · exact fun _ _ _ h => h
      · refine Or.inl ⟨by rfl, ?_⟩
        intro w' hSw
        (try simp only [Ph.pick, List.getD_cons_succ, List.getD_cons_zero] at hSw)
        go_simp
        all_goals (with_reducible rfl)
      · assumption
      clear hOrd
      intro hOrd
      try simp only [Act.put, List.setIfInBounds_toArray, List.set_cons_zero, List.set_cons_succ] at hOrd ⊢
      refine Ph.take (i := 8) (oi := ?_) (v := ?_) (p := 0) ?_ ?_ ?_ ?_ hOrd ?_ ?_ ?_ ?_ ?_ ?_
      rotate_left 2
      · simp only [List.getElem?_toArray, List.getElem?_cons_succ, List.getElem?_cons_zero]; rfl
      · kernel_rfl
      · kernel_rfl
      · kernel_rfl
      · kernel_rfl
      · kernel_rfl
      · exact fun _ _ _ h => h
      · refine Or.inl ⟨by rfl, ?_⟩
        intro w' hSw
        (try simp only [Ph.pick, List.getD_cons_succ, List.getD_cons_zero] at hSw)
        go_simp
        all_goals (with_reducible rfl)
      · assumption
      clear hOrd
      intro hOrd
      try simp only [Act.put, List.setIfInBounds_toArray, List.set_cons_zero, List.set_cons_succ] at hOrd ⊢
      refine Ph.alone (i := 3) (o := ?_) (p := 0) ?_ ?_ hOrd ?_ ?_
      rotate_left 2
      · simp only [List.getElem?_toArray, List.getElem?_cons_succ, List.getElem?_cons_zero]; rfl
      rotate_right 1
      · kernel_rfl
      · kernel_rfl
      clear hOrd
      intro K hK
      go_simp
      ((with_reducible refine (CR1.out _).mono ?_); rintro e w8 ⟨rfl, be⟩; have BN3 := Lib.hid (G.below_on BN.out be); clear be)
      refine hK.out _ _ (Ph.pick0 (ST.out _ BN3.out)) (fun hHeld hOrd => ?_)
      clear hK K
      try simp only [Act.put, List.setIfInBounds_toArray, List.set_cons_zero, List.set_cons_succ] at hOrd ⊢
      refine Ph.alone (i := 9) (o := ?_) (p := 0) ?_ ?_ hOrd ?_ ?_
      rotate_left 2
      · simp only [List.getElem?_toArray, List.getElem?_cons_succ, List.getElem?_cons_zero]; rfl
      rotate_right 1
      · kernel_rfl
      · kernel_rfl
      clear hOrd
      intro K hK
      go_simp
      ((with_reducible refine (CR2.out _).mono ?_); rintro e w9 ⟨rfl, be⟩; have BN9 := Lib.hid (G.below_on BN3.out be); clear be)
      refine hK.out _ _ (Ph.pick0 (ST.out _ BN9.out)) (fun hHeld hOrd => ?_)
      clear hK K
      try simp only [Act.put, List.setIfInBounds_toArray, List.set_cons_zero, List.set_cons_succ] at hOrd ⊢
      refine Ph.take (i := 10) (oi := ?_) (v := ?_) (p := 0) ?_ ?_ ?_ ?_ hOrd ?_ ?_ ?_ ?_ ?_ ?_
      rotate_left 2
      · simp only [List.getElem?_toArray, List.getElem?_cons_succ, List.getElem?_cons_zero]; rfl
      · kernel_rfl
      · kernel_rfl
      · kernel_rfl
      · kernel_rfl
      · kernel_rfl
      · exact fun _ _ _ h => h
      · refine Or.inl ⟨by rfl, ?_⟩
        intro w' hSw
        (try simp only [Ph.pick, List.getD_cons_succ, List.getD_cons_zero] at hSw)
        go_simp
        all_goals (with_reducible rfl)
      · assumption
      clear hOrd
      intro hOrd
      try simp only [Act.put, List.setIfInBounds_toArray, List.set_cons_zero, List.set_cons_succ] at hOrd ⊢
      refine Ph.take (i := 11) (oi := ?_) (v := ?_) (p := 0) ?_ ?_ ?_ ?_ hOrd ?_ ?_ ?_ ?_ ?_ ?_
      rotate_left 2
      · simp only [List.getElem?_toArray, List.getElem?_cons_succ, List.getElem?_cons_zero]; rfl
      · kernel_rfl
      · kernel_rfl
      · kernel_rfl
      · kernel_rfl
      · kernel_rfl
      · exact fun _ _ _ h => h
      · refine Or.inl ⟨by rfl, ?_⟩
        intro w' hSw
        (try simp only [Ph.pick, List.getD_cons_succ, List.getD_cons_zero] at hSw)
        go_simp
        all_goals (with_reducible rfl)
      · assumption
      clear hOrd
      intro hOrd
      try simp only [Act.put, List.setIfInBounds_toArray, List.set_cons_zero, List.set_cons_succ] at hOrd ⊢
      refine Ph.take (i := 12) (oi := ?_) (v := ?_) (p := 0) ?_ ?_ ?_ ?_ hOrd ?_ ?_ ?_ ?_ ?_ ?_
      rotate_left 2
      · simp only [List.getElem?_toArray, List.getElem?_cons_succ, List.getElem?_cons_zero]; rfl
      · kernel_rfl
      · kernel_rfl
      · kernel_rfl
      · kernel_rfl
      · kernel_rfl
      · exact fun _ _ _ h => h
      · refine Or.inl ⟨by rfl, ?_⟩
        intro w' hSw
        (try simp only [Ph.pick, List.getD_cons_succ, List.getD_cons_zero] at hSw)
        go_simp
        all_goals (with_reducible rfl)
      · assumption
      clear hOrd
      intro hOrd
      try simp only [Act.put, List.setIfInBounds_toArray, List.set_cons_zero, List.set_cons_succ] at hOrd ⊢
      refine Ph.take (i := 13) (oi := ?_) (v := ?_) (p := 0) ?_ ?_ ?_ ?_ hOrd ?_ ?_ ?_ ?_ ?_ ?_
      rotate_left 2
      · simp only [List.getElem?_toArray, List.getElem?_cons_succ, List.getElem?_cons_zero]; rfl
      · kernel_rfl
      · kernel_rfl
      · kernel_rfl
      · kernel_rfl
      · kernel_rfl
      · exact fun _ _ _ h => h
      · refine Or.inl ⟨by rfl, ?_⟩
        intro w' hSw
        (try simp only [Ph.pick, List.getD_cons_succ, List.getD_cons_zero] at hSw)
        go_simp
        all_goals (with_reducible rfl)
      · assumption
      clear hOrd
      intro hOrd
      try simp only [Act.put, List.setIfInBounds_toArray, List.set_cons_zero, List.set_cons_succ] at hOrd ⊢
      refine Ph.take (i := 14) (oi := ?_) (v := ?_) (p := 0) ?_ ?_ ?_ ?_ hOrd ?_ ?_ ?_ ?_ ?_ ?_
      rotate_left 2
      · simp only [List.getElem?_toArray, List.getElem?_cons_succ, List.getElem?_cons_zero]; rfl
      · kernel_rfl
      · kernel_rfl
      · kernel_rfl
      · kernel_rfl
      · kernel_rfl
      · exact fun _ _ _ h => h
      · refine Or.inl ⟨by rfl, ?_⟩
        intro w' hSw
        (try simp only [Ph.pick, List.getD_cons_succ, List.getD_cons_zero] at hSw)
        go_simp
        all_goals (with_reducible rfl)
      · assumption
      clear hOrd
      intro hOrd
      try simp only [Act.put, List.setIfInBounds_toArray, List.set_cons_zero, List.set_cons_succ] at hOrd ⊢
      refine Ph.take (i := 15) (oi := ?_) (v := ?_) (p := 0) ?_ ?_ ?_ ?_ hOrd ?_ ?_ ?_ ?_ ?_ ?_
      rotate_left 2
      · simp only [List.getElem?_toArray, List.getElem?_cons_succ, List.getElem?_cons_zero]; rfl
      · kernel_rfl
      · kernel_rfl
      · kernel_rfl
      · kernel_rfl
      · kernel_rfl
      · exact fun _ _ _ h => h
      · refine Or.inl ⟨by rfl, ?_⟩
        intro w' hSw
        (try simp only [Ph.pick, List.getD_cons_succ, List.getD_cons_zero] at hSw)
        go_simp
        all_goals (with_reducible rfl)
      · assumption
      clear hOrd
      intro hOrd
      try simp only [Act.put, List.setIfInBounds_toArray, List.set_cons_zero, List.set_cons_succ] at hOrd ⊢
      refine Ph.take (i := 17) (oi := ?_) (v := ?_) (p := 0) ?_ ?_ ?_ ?_ hOrd ?_ ?_ ?_ ?_ ?_ ?_
      rotate_left 2
      · simp only [List.getElem?_toArray, List.getElem?_cons_succ, List.getElem?_cons_zero]; rfl
      · kernel_rfl
      · kernel_rfl
      · kernel_rfl
      · kernel_rfl
      · kernel_rfl
      · exact fun _ _ _ h => h
      · refine Or.inl ⟨by rfl, ?_⟩
        intro w' hSw
        (try simp only [Ph.pick, List.getD_cons_succ, List.getD_cons_zero] at hSw)
        go_simp
        all_goals (with_reducible rfl)
      · assumption
      clear hOrd
      intro hOrd
      try simp only [Act.put, List.setIfInBounds_toArray, List.set_cons_zero, List.set_cons_succ] at hOrd ⊢
      refine Ph.take (i := 18) (oi := ?_) (v := ?_) (p := 0) ?_ ?_ ?_ ?_ hOrd ?_ ?_ ?_ ?_ ?_ ?_
      rotate_left 2
      · simp only [List.getElem?_toArray, List.getElem?_cons_succ, List.getElem?_cons_zero]; rfl
      · kernel_rfl
      · kernel_rfl
      · kernel_rfl
      · kernel_rfl
      · kernel_rfl
      · exact fun _ _ _ h => h
      · refine Or.inl ⟨by rfl, ?_⟩
        intro w' hSw
        (try simp only [Ph.pick, List.getD_cons_succ, List.getD_cons_zero] at hSw)
        go_simp
        all_goals (with_reducible rfl)
      · assumption
      clear hOrd
      intro hOrd
      try simp only [Act.put, List.setIfInBounds_toArray, List.set_cons_zero, List.set_cons_succ] at hOrd ⊢
      refine Ph.take (i := 19) (oi := ?_) (v := ?_) (p := 0) ?_ ?_ ?_ ?_ hOrd ?_ ?_ ?_ ?_ ?_ ?_
      rotate_left 2
      · simp only [List.getElem?_toArray, List.getElem?_cons_succ, List.getElem?_cons_zero]; rfl
      · kernel_rfl
      · kernel_rfl
      · kernel_rfl
      · kernel_rfl
      · kernel_rfl
      · exact fun _ _ _ h => h
      · refine Or.inl ⟨by rfl, ?_⟩
        intro w' hSw
        (try simp only [Ph.pick, List.getD_cons_succ, List.getD_cons_zero] at hSw)
        go_simp
        all_goals (with_reducible rfl)
      · assumption
      clear hOrd
      intro hOrd
      try simp only [Act.put, List.setIfInBounds_toArray, List.set_cons_zero, List.set_cons_succ] at hOrd ⊢
      refine Ph.take (i := 20) (oi := ?_) (v := ?_) (p := 0) ?_ ?_ ?_ ?_ hOrd ?_ ?_ ?_ ?_ ?_ ?_
      rotate_left 2
      · simp only [List.getElem?_toArray, List.getElem?_cons_succ, List.getElem?_cons_zero]; rfl
      · kernel_rfl
      · kernel_rfl
      · kernel_rfl
      · kernel_rfl
      · kernel_rfl
      · exact fun _ _ _ h => h
      · refine Or.inl ⟨by rfl, ?_⟩
        intro w' hSw
        (try simp only [Ph.pick, List.getD_cons_succ, List.getD_cons_zero] at hSw)
        go_simp
        all_goals (with_reducible rfl)
      · assumption
      clear hOrd
      intro hOrd
      try simp only [Act.put, List.setIfInBounds_toArray, List.set_cons_zero, List.set_cons_succ] at hOrd ⊢
      refine Ph.take (i := 21) (oi := ?_) (v := ?_) (p := 0) ?_ ?_ ?_ ?_ hOrd ?_ ?_ ?_ ?_ ?_ ?_
      rotate_left 2
      · simp only [List.getElem?_toArray, List.getElem?_cons_succ, List.getElem?_cons_zero]; rfl
      · kernel_rfl
      · kernel_rfl
      · kernel_rfl
      · kernel_rfl
      · kernel_rfl
      · exact fun _ _ _ h => h
      · refine Or.inl ⟨by rfl, ?_⟩
        intro w' hSw
        (try simp only [Ph.pick, List.getD_cons_succ, List.getD_cons_zero] at hSw)
        go_simp
        all_goals (with_reducible rfl)
      · assumption
      clear hOrd
      intro hOrd
      try simp only [Act.put, List.setIfInBounds_toArray, List.set_cons_zero, List.set_cons_succ] at hOrd ⊢
      refine Ph.take (i := 22) (oi := ?_) (v := ?_) (p := 0) ?_ ?_ ?_ ?_ hOrd ?_ ?_ ?_ ?_ ?_ ?_
      rotate_left 2
      · simp only [List.getElem?_toArray, List.getElem?_cons_succ, List.getElem?_cons_zero]; rfl
      · kernel_rfl
      · kernel_rfl
      · kernel_rfl
      · kernel_rfl
      · kernel_rfl
      · exact fun _ _ _ h => h
      · refine Or.inl ⟨by rfl, ?_⟩
        intro w' hSw
        (try simp only [Ph.pick, List.getD_cons_succ, List.getD_cons_zero] at hSw)
        go_simp
        all_goals (with_reducible rfl)
      · assumption
      clear hOrd
      intro hOrd
      try simp only [Act.put, List.setIfInBounds_toArray, List.set_cons_zero, List.set_cons_succ] at hOrd ⊢
      refine Ph.alone (i := 16) (o := ?_) (p := 0) ?_ ?_ hOrd ?_ ?_
      rotate_left 2
      · simp only [List.getElem?_toArray, List.getElem?_cons_succ, List.getElem?_cons_zero]; rfl
      rotate_right 1
      · kernel_rfl
      · kernel_rfl
      clear hOrd
      intro K hK
      go_simp
      ((with_reducible refine (CW1.out _).mono ?_); rintro e w16 ⟨rfl, be⟩; have BN16 := Lib.hid (G.below_on BN9.out be); clear be)
      refine hK.out _ _ (Ph.pick0 (ST.out _ BN16.out)) (fun hHeld hOrd => ?_)
      clear hK K
      try simp only [Act.put, List.setIfInBounds_toArray, List.set_cons_zero, List.set_cons_succ] at hOrd ⊢
      refine Ph.alone (i := 23) (o := ?_) (p := 0) ?_ ?_ hOrd ?_ ?_
      rotate_left 2
      · simp only [List.getElem?_toArray, List.getElem?_cons_succ, List.getElem?_cons_zero]; rfl
      rotate_right 1
      · kernel_rfl
      · kernel_rfl
      clear hOrd
      intro K hK
      go_simp
      ((with_reducible refine (CW2.out _).mono ?_); rintro e w23 ⟨rfl, be⟩; have BN23 := Lib.hid (G.below_on BN16.out be); clear be)
      refine hK.out _ _ (Ph.pick0 (ST.out _ BN23.out)) (fun hHeld hOrd => ?_)
      clear hK K
      try simp only [Act.put, List.setIfInBounds_toArray, List.set_cons_zero, List.set_cons_succ] at hOrd ⊢
      refine Ph.take (i := 24) (oi := ?_) (v := ?_) (p := 0) ?_ ?_ ?_ ?_ hOrd ?_ ?_ ?_ ?_ ?_ ?_
      rotate_left 2
      · simp only [List.getElem?_toArray, List.getElem?_cons_succ, List.getElem?_cons_zero]; rfl
      · kernel_rfl
      · kernel_rfl
      · kernel_rfl
      · kernel_rfl
      · kernel_rfl
      · exact fun _ _ _ h => h
      · refine Or.inl ⟨by rfl, ?_⟩
        intro w' hSw
        (try simp only [Ph.pick, List.getD_cons_succ, List.getD_cons_zero] at hSw)
        go_simp
        all_goals (with_reducible rfl)
      · assumption
      clear hOrd
      intro hOrd
      try simp only [Act.put, List.setIfInBounds_toArray, List.set_cons_zero, List.set_cons_succ] at hOrd ⊢
      refine Ph.take (i := 25) (oi := ?_) (v := ?_) (p := 0) ?_ ?_ ?_ ?_ hOrd ?_ ?_ ?_ ?_ ?_ ?_
      rotate_left 2
      · simp only [List.getElem?_toArray, List.getElem?_cons_succ, List.getElem?_cons_zero]; rfl
      · kernel_rfl
      · kernel_rfl
      · kernel_rfl
      · kernel_rfl
      · kernel_rfl
      · exact fun _ _ _ h => h
      · refine Or.inl ⟨by rfl, ?_⟩
        intro w' hSw
        (try simp only [Ph.pick, List.getD_cons_succ, List.getD_cons_zero] at hSw)
        go_simp
        all_goals (with_reducible rfl)
      · assumption
      clear hOrd
      intro hOrd
      try simp only [Act.put, List.setIfInBounds_toArray, List.set_cons_zero, List.set_cons_succ] at hOrd ⊢
      refine Ph.take (i := 26) (oi := ?_) (v := ?_) (p := 0) ?_ ?_ ?_ ?_ hOrd ?_ ?_ ?_ ?_ ?_ ?_
      rotate_left 2
      · simp only [List.getElem?_toArray, List.getElem?_cons_succ, List.getElem?_cons_zero]; rfl
      · kernel_rfl
      · kernel_rfl
      · kernel_rfl
      · kernel_rfl
      · kernel_rfl
      · exact fun _ _ _ h => h
      · refine Or.inl ⟨by rfl, ?_⟩
        intro w' hSw
        (try simp only [Ph.pick, List.getD_cons_succ, List.getD_cons_zero] at hSw)
        go_simp
        all_goals (with_reducible rfl)
      · assumption
      clear hOrd
      intro hOrd
      try simp only [Act.put, List.setIfInBounds_toArray, List.set_cons_zero, List.set_cons_succ] at hOrd ⊢
      refine Ph.take (i := 27) (oi := ?_) (v := ?_) (p := 0) ?_ ?_ ?_ ?_ hOrd ?_ ?_ ?_ ?_ ?_ ?_
      rotate_left 2
      · simp only [List.getElem?_toArray, List.getElem?_cons_succ, List.getElem?_cons_zero]; rfl
      · kernel_rfl
      · kernel_rfl
      · kernel_rfl
      · kernel_rfl
      · kernel_rfl
      · exact fun _ _ _ h => h
      · refine Or.inl ⟨by rfl, ?_⟩
        intro w' hSw
        (try simp only [Ph.pick, List.getD_cons_succ, List.getD_cons_zero] at hSw)
        go_simp
        all_goals (with_reducible rfl)
      · assumption
      clear hOrd
      intro hOrd
      try simp only [Act.put, List.setIfInBounds_toArray, List.set_cons_zero, List.set_cons_succ] at hOrd ⊢
      refine Ph.take (i := 28) (oi := ?_) (v := ?_) (p := 0) ?_ ?_ ?_ ?_ hOrd ?_ ?_ ?_ ?_ ?_ ?_
      rotate_left 2
      · simp only [List.getElem?_toArray, List.getElem?_cons_succ, List.getElem?_cons_zero]; rfl
      · kernel_rfl
      · kernel_rfl
      · kernel_rfl
      · kernel_rfl
      · kernel_rfl
      · exact fun _ _ _ h => h
      · refine Or.inl ⟨by rfl, ?_⟩
        intro w' hSw
        (try simp only [Ph.pick, List.getD_cons_succ, List.getD_cons_zero] at hSw)
        go_simp
        all_goals (with_reducible rfl)
      · assumption
      clear hOrd
      intro hOrd
      try simp only [Act.put, List.setIfInBounds_toArray, List.set_cons_zero, List.set_cons_succ] at hOrd ⊢
      refine Ph.take (i := 29) (oi := ?_) (v := ?_) (p := 0) ?_ ?_ ?_ ?_ hOrd ?_ ?_ ?_ ?_ ?_ ?_
      rotate_left 2
      · simp only [List.getElem?_toArray, List.getElem?_cons_succ, List.getElem?_cons_zero]; rfl
      · kernel_rfl
      · kernel_rfl
      · kernel_rfl
      · kernel_rfl
      · kernel_rfl
      · exact fun _ _ _ h => h
      · refine Or.inl ⟨by rfl, ?_⟩
        intro w' hSw
        (try simp only [Ph.pick, List.getD_cons_succ, List.getD_cons_zero] at hSw)
        go_simp
        all_goals (with_reducible rfl)
      · assumption
      clear hOrd
      intro hOrd
      try simp only [Act.put, List.setIfInBounds_toArray, List.set_cons_zero, List.set_cons_succ] at hOrd ⊢
      have HT := Lib.hid (show ∀ p, p ≤ 2 → ∀ w', Ph.pick [(fun w' : World => (∀ i, w'.cell? ⟨bc, i, none⟩ = (#[.int .i64 F, .int .i64 3, .int .i64 1, .int .i64 D] : Array Value)[i]?) ∧ (∀ i, w'.cell? ⟨bd, i, none⟩ = (#[.int .i64 (F + sh), .int .i64 (3 + sh), .int .i64 1, .int .i64 D] : Array Value)[i]?) ∧ (∀ i, w'.cell? ⟨pb, i, none⟩ = (#[.int .i64 U, .int .i64 W, .int .i64 B, .int .i64 L] : Array Value)[i]?)), (fun w' : World => (∀ i, w'.cell? ⟨pb, i, none⟩ = (#[.int .i64 U, .int .i64 W, .int .i64 B, .int .i64 L] : Array Value)[i]?)), (fun w' : World => (∀ i, w'.cell? ⟨bc, i, none⟩ = (#[.int .i64 F', .int .i64 3, .int .i64 1, .int .i64 D'] : Array Value)[i]?) ∧ (∀ i, w'.cell? ⟨bd, i, none⟩ = (#[.int .i64 (F' + sh), .int .i64 (3 + sh), .int .i64 1, .int .i64 D'] : Array Value)[i]?) ∧ (∀ i, w'.cell? ⟨pb, i, none⟩ = (#[.int .i64 U, .int .i64 W, .int .i64 B, .int .i64 L] : Array Value)[i]?))] p w' → (fun w' : World => (∀ i, w'.cell? ⟨pb, i, none⟩ = (#[.int .i64 U, .int .i64 W, .int .i64 B, .int .i64 L] : Array Value)[i]?)) w' from fun p hp w' h => by
        match p, hp, h with
        | 0, _, h => exact h.2.2
        | 1, _, h => exact h
        | 2, _, h => exact h.2.2)
      refine Ph.takeAll (i := 31) (oi := ?_) (v := ?_) (p := 0) ((fun w' : World => (∀ i, w'.cell? ⟨pb, i, none⟩ = (#[.int .i64 U, .int .i64 W, .int .i64 B, .int .i64 L] : Array Value)[i]?))) (HT.out) ?_ ?_ ?_ ?_ hOrd ?_ ?_ ?_ ?_ ?_ ?_
      rotate_left 2
      · simp only [List.getElem?_toArray, List.getElem?_cons_succ, List.getElem?_cons_zero]; rfl
      · kernel_rfl
      · kernel_rfl
      · kernel_rfl
      · kernel_rfl
      · kernel_rfl
      · exact fun _ _ _ h => h
      · refine Or.inl ⟨by rfl, ?_⟩
        intro w' hSw
        (try dsimp only at hSw)
        go_simp
        all_goals (with_reducible rfl)
      · assumption
      clear hOrd
      intro hOrd
      try simp only [Act.put, List.setIfInBounds_toArray, List.set_cons_zero, List.set_cons_succ] at hOrd ⊢
      refine Ph.takeAll (i := 32) (oi := ?_) (v := ?_) (p := 0) ((fun w' : World => (∀ i, w'.cell? ⟨pb, i, none⟩ = (#[.int .i64 U, .int .i64 W, .int .i64 B, .int .i64 L] : Array Value)[i]?))) (HT.out) ?_ ?_ ?_ ?_ hOrd ?_ ?_ ?_ ?_ ?_ ?_
      rotate_left 2
      · simp only [List.getElem?_toArray, List.getElem?_cons_succ, List.getElem?_cons_zero]; rfl
      · kernel_rfl
      · kernel_rfl
      · kernel_rfl
      · kernel_rfl
      · kernel_rfl
      · exact fun _ _ _ h => h
      · refine Or.inl ⟨by rfl, ?_⟩
        intro w' hSw
        (try dsimp only at hSw)
        go_simp
        all_goals (with_reducible rfl)
      · assumption
      clear hOrd
      intro hOrd
      try simp only [Act.put, List.setIfInBounds_toArray, List.set_cons_zero, List.set_cons_succ] at hOrd ⊢
      refine Ph.takeAll (i := 33) (oi := ?_) (v := ?_) (p := 0) ((fun w' : World => (∀ i, w'.cell? ⟨pb, i, none⟩ = (#[.int .i64 U, .int .i64 W, .int .i64 B, .int .i64 L] : Array Value)[i]?))) (HT.out) ?_ ?_ ?_ ?_ hOrd ?_ ?_ ?_ ?_ ?_ ?_
      rotate_left 2
      · simp only [List.getElem?_toArray, List.getElem?_cons_succ, List.getElem?_cons_zero]; rfl
      · kernel_rfl
      · kernel_rfl
      · kernel_rfl
      · kernel_rfl
      · kernel_rfl
      · exact fun _ _ _ h => h
      · refine Or.inl ⟨by rfl, ?_⟩
        intro w' hSw
        (try dsimp only at hSw)
        go_simp
        all_goals (with_reducible rfl)
      · assumption
      clear hOrd
      intro hOrd
      try simp only [Act.put, List.setIfInBounds_toArray, List.set_cons_zero, List.set_cons_succ] at hOrd ⊢
      refine Ph.takeAll (i := 34) (oi := ?_) (v := ?_) (p := 0) ((fun w' : World => (∀ i, w'.cell? ⟨pb, i, none⟩ = (#[.int .i64 U, .int .i64 W, .int .i64 B, .int .i64 L] : Array Value)[i]?))) (HT.out) ?_ ?_ ?_ ?_ hOrd ?_ ?_ ?_ ?_ ?_ ?_
      rotate_left 2
      · simp only [List.getElem?_toArray, List.getElem?_cons_succ, List.getElem?_cons_zero]; rfl
      · kernel_rfl
      · kernel_rfl
      · kernel_rfl
      · kernel_rfl
      · kernel_rfl
      · exact fun _ _ _ h => h
      · refine Or.inl ⟨by rfl, ?_⟩
        intro w' hSw
        (try dsimp only at hSw)
        go_simp
        all_goals (with_reducible rfl)
      · assumption
      clear hOrd
      intro hOrd
      try simp only [Act.put, List.setIfInBounds_toArray, List.set_cons_zero, List.set_cons_succ] at hOrd ⊢
      refine Ph.takeAll (i := 35) (oi := ?_) (v := ?_) (p := 0) ((fun w' : World => (∀ i, w'.cell? ⟨pb, i, none⟩ = (#[.int .i64 U, .int .i64 W, .int .i64 B, .int .i64 L] : Array Value)[i]?))) (HT.out) ?_ ?_ ?_ ?_ hOrd ?_ ?_ ?_ ?_ ?_ ?_
      rotate_left 2
      · simp only [List.getElem?_toArray, List.getElem?_cons_succ, List.getElem?_cons_zero]; rfl
      · kernel_rfl
      · kernel_rfl
      · kernel_rfl
      · kernel_rfl
      · kernel_rfl
      · exact fun _ _ _ h => h
      · refine Or.inl ⟨by rfl, ?_⟩
        intro w' hSw
        (try dsimp only at hSw)
        go_simp
        all_goals (with_reducible rfl)
      · assumption
      clear hOrd
      intro hOrd
      try simp only [Act.put, List.setIfInBounds_toArray, List.set_cons_zero, List.set_cons_succ] at hOrd ⊢
      refine Ph.alone (i := 30) (o := ?_) (p := 1) ?_ ?_ hOrd ?_ ?_
      rotate_left 2
      · simp only [List.getElem?_toArray, List.getElem?_cons_succ, List.getElem?_cons_zero]; rfl
      rotate_right 1
      · kernel_rfl
      · kernel_rfl
      clear hOrd
      intro K hK
      go_simp
      ((with_reducible refine (CT1.out _ bc (C6.out.below BN23.out)).mono ?_); rintro e w30 ⟨rfl, hc30, hf30⟩; have C30 := Lib.hid hc30; have F30 := Lib.hid hf30; have P30 := Lib.hid ((Q6.out.2.2.keep BN23.out).fr hf30 NE.out.1); have D30 := Lib.hid ((show Blk w23 bd _ _ from D6.out.below BN23.out).fr hf30 (Ne.symm NE.out.2.2.2.2)); clear hc30 hf30)
      refine hK.out _ _ (Ph.pick1 P30.out.rd) (fun hHeld hOrd => ?_)
      clear hK K
      try simp only [Act.put, List.setIfInBounds_toArray, List.set_cons_zero, List.set_cons_succ] at hOrd ⊢
      refine Ph.alone (i := 36) (o := ?_) (p := 2) ?_ ?_ hOrd ?_ ?_
      rotate_left 2
      · simp only [List.getElem?_toArray, List.getElem?_cons_succ, List.getElem?_cons_zero]; rfl
      rotate_right 1
      · kernel_rfl
      · kernel_rfl
      clear hOrd
      intro K hK
      go_simp
      ((with_reducible refine (CT2.out w30 bd (cellAt_of D30.out)).mono ?_); rintro e w36 ⟨rfl, hd36, hf36⟩; have D36 := Lib.hid (show Blk w36 bd _ _ from hd36); have C36 := Lib.hid ((show Blk w30 bc _ _ from C30.out).fr hf36 NE.out.2.2.2.2); have P36 := Lib.hid (P30.out.fr hf36 NE.out.2.1); have F36 := Lib.hid hf36; clear hd36 hf36)
      refine hK.out _ _ (Ph.pick2 ⟨C36.out.rd, D36.out.rd, P36.out.rd⟩) (fun hHeld hOrd => ?_)
      clear hK K
      try simp only [Act.put, List.setIfInBounds_toArray, List.set_cons_zero, List.set_cons_succ] at hOrd ⊢
      have SC := Lib.hid (show (∀ Wo, Below w36.heap.size w36 Wo → (fun w' : World => (∀ i, w'.cell? ⟨bc, i, none⟩ = (#[.int .i64 F', .int .i64 3, .int .i64 1, .int .i64 D'] : Array Value)[i]?) ∧ (∀ i, w'.cell? ⟨bd, i, none⟩ = (#[.int .i64 (F' + sh), .int .i64 (3 + sh), .int .i64 1, .int .i64 D'] : Array Value)[i]?) ∧ (∀ i, w'.cell? ⟨pb, i, none⟩ = (#[.int .i64 U, .int .i64 W, .int .i64 B, .int .i64 L] : Array Value)[i]?)) Wo) from fun Wo hW => ⟨(C36.out.keep hW).rd, (D36.out.keep hW).rd, (P36.out.keep hW).rd⟩)
      refine Ph.take (i := 37) (oi := ?_) (v := ?_) (p := 2) ?_ ?_ ?_ ?_ hOrd ?_ ?_ ?_ ?_ ?_ ?_
      rotate_left 2
      · simp only [List.getElem?_toArray, List.getElem?_cons_succ, List.getElem?_cons_zero]; rfl
      · kernel_rfl
      · kernel_rfl
      · kernel_rfl
      · kernel_rfl
      · kernel_rfl
      · exact fun _ _ _ h => h
      · refine Or.inl ⟨by rfl, ?_⟩
        intro w' hSw
        (try simp only [Ph.pick, List.getD_cons_succ, List.getD_cons_zero] at hSw)
        go_simp
        all_goals (with_reducible rfl)
      · assumption
      clear hOrd
      intro hOrd
      try simp only [Act.put, List.setIfInBounds_toArray, List.set_cons_zero, List.set_cons_succ] at hOrd ⊢
      refine Ph.take (i := 38) (oi := ?_) (v := ?_) (p := 2) ?_ ?_ ?_ ?_ hOrd ?_ ?_ ?_ ?_ ?_ ?_
      rotate_left 2
      · simp only [List.getElem?_toArray, List.getElem?_cons_succ, List.getElem?_cons_zero]; rfl
      · kernel_rfl
      · kernel_rfl
      · kernel_rfl
      · kernel_rfl
      · kernel_rfl
      · exact fun _ _ _ h => h
      · refine Or.inl ⟨by rfl, ?_⟩
        intro w' hSw
        (try simp only [Ph.pick, List.getD_cons_succ, List.getD_cons_zero] at hSw)
        go_simp
        all_goals (with_reducible rfl)
      · assumption
      clear hOrd
      intro hOrd
      try simp only [Act.put, List.setIfInBounds_toArray, List.set_cons_zero, List.set_cons_succ] at hOrd ⊢
      refine Ph.take (i := 39) (oi := ?_) (v := ?_) (p := 2) ?_ ?_ ?_ ?_ hOrd ?_ ?_ ?_ ?_ ?_ ?_
      rotate_left 2
      · simp only [List.getElem?_toArray, List.getElem?_cons_succ, List.getElem?_cons_zero]; rfl
      · kernel_rfl
      · kernel_rfl
      · kernel_rfl
      · kernel_rfl
      · kernel_rfl
      · exact fun _ _ _ h => h
      · refine Or.inl ⟨by rfl, ?_⟩
        intro w' hSw
        (try simp only [Ph.pick, List.getD_cons_succ, List.getD_cons_zero] at hSw)
        go_simp
        all_goals (with_reducible rfl)
      · assumption
      clear hOrd
      intro hOrd
      try simp only [Act.put, List.setIfInBounds_toArray, List.set_cons_zero, List.set_cons_succ] at hOrd ⊢
      refine Ph.take (i := 40) (oi := ?_) (v := ?_) (p := 2) ?_ ?_ ?_ ?_ hOrd ?_ ?_ ?_ ?_ ?_ ?_
      rotate_left 2
      · simp only [List.getElem?_toArray, List.getElem?_cons_succ, List.getElem?_cons_zero]; rfl
      · kernel_rfl
      · kernel_rfl
      · kernel_rfl
      · kernel_rfl
      · kernel_rfl
      · exact fun _ _ _ h => h
      · refine Or.inl ⟨by rfl, ?_⟩
        intro w' hSw
        (try simp only [Ph.pick, List.getD_cons_succ, List.getD_cons_zero] at hSw)
        go_simp
        all_goals (with_reducible rfl)
      · assumption
      clear hOrd
      intro hOrd
      try simp only [Act.put, List.setIfInBounds_toArray, List.set_cons_zero, List.set_cons_succ] at hOrd ⊢
      refine Ph.take (i := 41) (oi := ?_) (v := ?_) (p := 2) ?_ ?_ ?_ ?_ hOrd ?_ ?_ ?_ ?_ ?_ ?_
      rotate_left 2
      · simp only [List.getElem?_toArray, List.getElem?_cons_succ, List.getElem?_cons_zero]; rfl
      · kernel_rfl
      · kernel_rfl
      · kernel_rfl
      · kernel_rfl
      · kernel_rfl
      · exact fun _ _ _ h => h
      · refine Or.inl ⟨by rfl, ?_⟩
        intro w' hSw
        (try simp only [Ph.pick, List.getD_cons_succ, List.getD_cons_zero] at hSw)
        go_simp
        all_goals (with_reducible rfl)
      · assumption
      clear hOrd
      intro hOrd
      try simp only [Act.put, List.setIfInBounds_toArray, List.set_cons_zero, List.set_cons_succ] at hOrd ⊢
      refine Ph.take (i := 42) (oi := ?_) (v := ?_) (p := 2) ?_ ?_ ?_ ?_ hOrd ?_ ?_ ?_ ?_ ?_ ?_
      rotate_left 2
      · simp only [List.getElem?_toArray, List.getElem?_cons_succ, List.getElem?_cons_zero]; rfl
      · kernel_rfl
      · kernel_rfl
      · kernel_rfl
      · kernel_rfl
      · kernel_rfl
      · exact fun _ _ _ h => h
      · refine Or.inl ⟨by rfl, ?_⟩
        intro w' hSw
        (try simp only [Ph.pick, List.getD_cons_succ, List.getD_cons_zero] at hSw)
        go_simp
        all_goals (with_reducible rfl)
      · assumption
      clear hOrd
      intro hOrd
      try simp only [Act.put, List.setIfInBounds_toArray, List.set_cons_zero, List.set_cons_succ] at hOrd ⊢
      refine Ph.take (i := 44) (oi := ?_) (v := ?_) (p := 2) ?_ ?_ ?_ ?_ hOrd ?_ ?_ ?_ ?_ ?_ ?_
      rotate_left 2
      · simp only [List.getElem?_toArray, List.getElem?_cons_succ, List.getElem?_cons_zero]; rfl
      · kernel_rfl
      · kernel_rfl
      · kernel_rfl
      · kernel_rfl
      · kernel_rfl
      · exact fun _ _ _ h => h
      · refine Or.inl ⟨by rfl, ?_⟩
        intro w' hSw
        (try simp only [Ph.pick, List.getD_cons_succ, List.getD_cons_zero] at hSw)
        go_simp
        all_goals (with_reducible rfl)
      · assumption
      clear hOrd
      intro hOrd
      try simp only [Act.put, List.setIfInBounds_toArray, List.set_cons_zero, List.set_cons_succ] at hOrd ⊢
      refine Ph.take (i := 45) (oi := ?_) (v := ?_) (p := 2) ?_ ?_ ?_ ?_ hOrd ?_ ?_ ?_ ?_ ?_ ?_
      rotate_left 2
      · simp only [List.getElem?_toArray, List.getElem?_cons_succ, List.getElem?_cons_zero]; rfl
      · kernel_rfl
      · kernel_rfl
      · kernel_rfl
      · kernel_rfl
      · kernel_rfl
      · exact fun _ _ _ h => h
      · refine Or.inl ⟨by rfl, ?_⟩
        intro w' hSw
        (try simp only [Ph.pick, List.getD_cons_succ, List.getD_cons_zero] at hSw)
        go_simp
        all_goals (with_reducible rfl)
      · assumption
      clear hOrd
      intro hOrd
      try simp only [Act.put, List.setIfInBounds_toArray, List.set_cons_zero, List.set_cons_succ] at hOrd ⊢
      refine Ph.take (i := 46) (oi := ?_) (v := ?_) (p := 2) ?_ ?_ ?_ ?_ hOrd ?_ ?_ ?_ ?_ ?_ ?_
      rotate_left 2
      · simp only [List.getElem?_toArray, List.getElem?_cons_succ, List.getElem?_cons_zero]; rfl
      · kernel_rfl
      · kernel_rfl
      · kernel_rfl
      · kernel_rfl
      · kernel_rfl
      · exact fun _ _ _ h => h
      · refine Or.inl ⟨by rfl, ?_⟩
        intro w' hSw
        (try simp only [Ph.pick, List.getD_cons_succ, List.getD_cons_zero] at hSw)
        go_simp
        all_goals (with_reducible rfl)
      · assumption
      clear hOrd
      intro hOrd
      try simp only [Act.put, List.setIfInBounds_toArray, List.set_cons_zero, List.set_cons_succ] at hOrd ⊢
      refine Ph.take (i := 47) (oi := ?_) (v := ?_) (p := 2) ?_ ?_ ?_ ?_ hOrd ?_ ?_ ?_ ?_ ?_ ?_
      rotate_left 2
      · simp only [List.getElem?_toArray, List.getElem?_cons_succ, List.getElem?_cons_zero]; rfl
      · kernel_rfl
      · kernel_rfl
      · kernel_rfl
      · kernel_rfl
      · kernel_rfl
      · exact fun _ _ _ h => h
      · refine Or.inl ⟨by rfl, ?_⟩
        intro w' hSw
        (try simp only [Ph.pick, List.getD_cons_succ, List.getD_cons_zero] at hSw)
        go_simp
        all_goals (with_reducible rfl)
      · assumption
      clear hOrd
      intro hOrd
      try simp only [Act.put, List.setIfInBounds_toArray, List.set_cons_zero, List.set_cons_succ] at hOrd ⊢
      refine Ph.take (i := 48) (oi := ?_) (v := ?_) (p := 2) ?_ ?_ ?_ ?_ hOrd ?_ ?_ ?_ ?_ ?_ ?_
      rotate_left 2
      · simp only [List.getElem?_toArray, List.getElem?_cons_succ, List.getElem?_cons_zero]; rfl
      · kernel_rfl
      · kernel_rfl
      · kernel_rfl
      · kernel_rfl
      · kernel_rfl
      · exact fun _ _ _ h => h
      · refine Or.inl ⟨by rfl, ?_⟩
        intro w' hSw
        (try simp only [Ph.pick, List.getD_cons_succ, List.getD_cons_zero] at hSw)
        go_simp
        all_goals (with_reducible rfl)
      · assumption
      clear hOrd
      intro hOrd
      try simp only [Act.put, List.setIfInBounds_toArray, List.set_cons_zero, List.set_cons_succ] at hOrd ⊢
      refine Ph.alone (i := 43) (o := ?_) (p := 2) ?_ ?_ hOrd ?_ ?_
      rotate_left 2
      · simp only [List.getElem?_toArray, List.getElem?_cons_succ, List.getElem?_cons_zero]; rfl
      rotate_right 1
      · kernel_rfl
      · kernel_rfl
      clear hOrd
      intro K hK
      go_simp
      ((with_reducible refine (CB1.out _).mono ?_); rintro e w43 ⟨rfl, be⟩; have BN43 := Lib.hid be; clear be)
      refine hK.out _ _ (Ph.pick2 (SC.out _ BN43.out)) (fun hHeld hOrd => ?_)
      clear hK K
      try simp only [Act.put, List.setIfInBounds_toArray, List.set_cons_zero, List.set_cons_succ] at hOrd ⊢
      refine Ph.alone (i := 49) (o := ?_) (p := 2) ?_ ?_ hOrd ?_ ?_
      rotate_left 2
      · simp only [List.getElem?_toArray, List.getElem?_cons_succ, List.getElem?_cons_zero]; rfl
      rotate_right 1
      · kernel_rfl
      · kernel_rfl
      clear hOrd
      intro K hK
      go_simp
      ((with_reducible refine (CB2.out _).mono ?_); rintro e w49 ⟨rfl, be⟩; have BN49 := Lib.hid (G.below_on BN43.out be); clear be)
      refine hK.out _ _ (Ph.pick2 (SC.out _ BN49.out)) (fun hHeld hOrd => ?_)
      clear hK K
      try simp only [Act.put, List.setIfInBounds_toArray, List.set_cons_zero, List.set_cons_succ] at hOrd ⊢
      refine Ph.take (i := 50) (oi := ?_) (v := ?_) (p := 2) ?_ ?_ ?_ ?_ hOrd ?_ ?_ ?_ ?_ ?_ ?_
      rotate_left 2
      · simp only [List.getElem?_toArray, List.getElem?_cons_succ, List.getElem?_cons_zero]; rfl
      · kernel_rfl
      · kernel_rfl
      · kernel_rfl
      · kernel_rfl
      · kernel_rfl
      · exact fun _ _ _ h => h
      · refine Or.inl ⟨by rfl, ?_⟩
        intro w' hSw
        (try simp only [Ph.pick, List.getD_cons_succ, List.getD_cons_zero] at hSw)
        go_simp
        all_goals (with_reducible rfl)
      · assumption
      clear hOrd
      intro hOrd
      try simp only [Act.put, List.setIfInBounds_toArray, List.set_cons_zero, List.set_cons_succ] at hOrd ⊢
      refine Ph.take (i := 51) (oi := ?_) (v := ?_) (p := 2) ?_ ?_ ?_ ?_ hOrd ?_ ?_ ?_ ?_ ?_ ?_
      rotate_left 2
      · simp only [List.getElem?_toArray, List.getElem?_cons_succ, List.getElem?_cons_zero]; rfl
      · kernel_rfl
      · kernel_rfl
      · kernel_rfl
      · kernel_rfl
      · kernel_rfl
      · exact fun _ _ _ h => h
      · refine Or.inl ⟨by rfl, ?_⟩
        intro w' hSw
        (try simp only [Ph.pick, List.getD_cons_succ, List.getD_cons_zero] at hSw)
        go_simp
        all_goals (with_reducible rfl)
      · assumption
      clear hOrd
      intro hOrd
      try simp only [Act.put, List.setIfInBounds_toArray, List.set_cons_zero, List.set_cons_succ] at hOrd ⊢
      refine Ph.take (i := 52) (oi := ?_) (v := ?_) (p := 2) ?_ ?_ ?_ ?_ hOrd ?_ ?_ ?_ ?_ ?_ ?_
      rotate_left 2
      · simp only [List.getElem?_toArray, List.getElem?_cons_succ, List.getElem?_cons_zero]; rfl
      · kernel_rfl
      · kernel_rfl
      · kernel_rfl
      · kernel_rfl
      · kernel_rfl
      · exact fun _ _ _ h => h
      · refine Or.inl ⟨by rfl, ?_⟩
        intro w' hSw
        (try simp only [Ph.pick, List.getD_cons_succ, List.getD_cons_zero] at hSw)
        go_simp
        all_goals (with_reducible rfl)
      · assumption
      clear hOrd
      intro hOrd
      try simp only [Act.put, List.setIfInBounds_toArray, List.set_cons_zero, List.set_cons_succ] at hOrd ⊢
      refine Ph.take (i := 53) (oi := ?_) (v := ?_) (p := 2) ?_ ?_ ?_ ?_ hOrd ?_ ?_ ?_ ?_ ?_ ?_
      rotate_left 2
      · simp only [List.getElem?_toArray, List.getElem?_cons_succ, List.getElem?_cons_zero]; rfl
      · kernel_rfl
      · kernel_rfl
      · kernel_rfl
      · kernel_rfl
      · kernel_rfl
      · exact fun _ _ _ h => h
      · refine Or.inl ⟨by rfl, ?_⟩
        intro w' hSw
        (try simp only [Ph.pick, List.getD_cons_succ, List.getD_cons_zero] at hSw)
        go_simp
        all_goals (with_reducible rfl)
      · assumption
      clear hOrd
      intro hOrd
      try simp only [Act.put, List.setIfInBounds_toArray, List.set_cons_zero, List.set_cons_succ] at hOrd ⊢
      refine Ph.take (i := 54) (oi := ?_) (v := ?_) (p := 2) ?_ ?_ ?_ ?_ hOrd ?_ ?_ ?_ ?_ ?_ ?_
      rotate_left 2
      · simp only [List.getElem?_toArray, List.getElem?_cons_succ, List.getElem?_cons_zero]; rfl
      · kernel_rfl
      · kernel_rfl
      · kernel_rfl
      · kernel_rfl
      · kernel_rfl
      · exact fun _ _ _ h => h
      · refine Or.inl ⟨by rfl, ?_⟩
        intro w' hSw
        (try simp only [Ph.pick, List.getD_cons_succ, List.getD_cons_zero] at hSw)
        go_simp
        all_goals (with_reducible rfl)
      · assumption
      clear hOrd
      intro hOrd
      try simp only [Act.put, List.setIfInBounds_toArray, List.set_cons_zero, List.set_cons_succ] at hOrd ⊢
      refine Ph.take (i := 55) (oi := ?_) (v := ?_) (p := 2) ?_ ?_ ?_ ?_ hOrd ?_ ?_ ?_ ?_ ?_ ?_
      rotate_left 2
      · simp only [List.getElem?_toArray, List.getElem?_cons_succ, List.getElem?_cons_zero]; rfl
      · kernel_rfl
      · kernel_rfl
      · kernel_rfl
      · kernel_rfl
      · kernel_rfl
      · exact fun _ _ _ h => h
      · refine Or.inl ⟨by rfl, ?_⟩
        intro w' hSw
        (try simp only [Ph.pick, List.getD_cons_succ, List.getD_cons_zero] at hSw)
        go_simp
        all_goals (with_reducible rfl)
      · assumption
      clear hOrd
      intro hOrd
      try simp only [Act.put, List.setIfInBounds_toArray, List.set_cons_zero, List.set_cons_succ] at hOrd ⊢
      refine Ph.take (i := 57) (oi := ?_) (v := ?_) (p := 2) ?_ ?_ ?_ ?_ hOrd ?_ ?_ ?_ ?_ ?_ ?_
      rotate_left 2
      · simp only [List.getElem?_toArray, List.getElem?_cons_succ, List.getElem?_cons_zero]; rfl
      · kernel_rfl
      · kernel_rfl
      · kernel_rfl
      · kernel_rfl
      · kernel_rfl
      · exact fun _ _ _ h => h
      · refine Or.inl ⟨by rfl, ?_⟩
        intro w' hSw
        (try simp only [Ph.pick, List.getD_cons_succ, List.getD_cons_zero] at hSw)
        go_simp
        all_goals (with_reducible rfl)
      · assumption
      clear hOrd
      intro hOrd
      try simp only [Act.put, List.setIfInBounds_toArray, List.set_cons_zero, List.set_cons_succ] at hOrd ⊢
      refine Ph.take (i := 58) (oi := ?_) (v := ?_) (p := 2) ?_ ?_ ?_ ?_ hOrd ?_ ?_ ?_ ?_ ?_ ?_
      rotate_left 2
      · simp only [List.getElem?_toArray, List.getElem?_cons_succ, List.getElem?_cons_zero]; rfl
      · kernel_rfl
      · kernel_rfl
      · kernel_rfl
      · kernel_rfl
      · kernel_rfl
      · exact fun _ _ _ h => h
      · refine Or.inl ⟨by rfl, ?_⟩
        intro w' hSw
        (try simp only [Ph.pick, List.getD_cons_succ, List.getD_cons_zero] at hSw)
        go_simp
        all_goals (with_reducible rfl)
      · assumption
      clear hOrd
      intro hOrd
      try simp only [Act.put, List.setIfInBounds_toArray, List.set_cons_zero, List.set_cons_succ] at hOrd ⊢
      refine Ph.take (i := 59) (oi := ?_) (v := ?_) (p := 2) ?_ ?_ ?_ ?_ hOrd ?_ ?_ ?_ ?_ ?_ ?_
      rotate_left 2
      · simp only [List.getElem?_toArray, List.getElem?_cons_succ, List.getElem?_cons_zero]; rfl
      · kernel_rfl
      · kernel_rfl
      · kernel_rfl
      · kernel_rfl
      · kernel_rfl
      · exact fun _ _ _ h => h
      · refine Or.inl ⟨by rfl, ?_⟩
        intro w' hSw
        (try simp only [Ph.pick, List.getD_cons_succ, List.getD_cons_zero] at hSw)
        go_simp
        all_goals (with_reducible rfl)
      · assumption
      clear hOrd
      intro hOrd
      try simp only [Act.put, List.setIfInBounds_toArray, List.set_cons_zero, List.set_cons_succ] at hOrd ⊢
      refine Ph.take (i := 60) (oi := ?_) (v := ?_) (p := 2) ?_ ?_ ?_ ?_ hOrd ?_ ?_ ?_ ?_ ?_ ?_
      rotate_left 2
      · simp only [List.getElem?_toArray, List.getElem?_cons_succ, List.getElem?_cons_zero]; rfl
      · kernel_rfl
      · kernel_rfl
      · kernel_rfl
      · kernel_rfl
      · kernel_rfl
      · exact fun _ _ _ h => h
      · refine Or.inl ⟨by rfl, ?_⟩
        intro w' hSw
        (try simp only [Ph.pick, List.getD_cons_succ, List.getD_cons_zero] at hSw)
        go_simp
        all_goals (with_reducible rfl)
      · assumption
      clear hOrd
      intro hOrd
      try simp only [Act.put, List.setIfInBounds_toArray, List.set_cons_zero, List.set_cons_succ] at hOrd ⊢
      refine Ph.take (i := 61) (oi := ?_) (v := ?_) (p := 2) ?_ ?_ ?_ ?_ hOrd ?_ ?_ ?_ ?_ ?_ ?_
      rotate_left 2
      · simp only [List.getElem?_toArray, List.getElem?_cons_succ, List.getElem?_cons_zero]; rfl
      · kernel_rfl
      · kernel_rfl
      · kernel_rfl
      · kernel_rfl
      · kernel_rfl
      · exact fun _ _ _ h => h
      · refine Or.inl ⟨by rfl, ?_⟩
        intro w' hSw
        (try simp only [Ph.pick, List.getD_cons_succ, List.getD_cons_zero] at hSw)
        go_simp
        all_goals (with_reducible rfl)
      · assumption
      clear hOrd
      intro hOrd
      try simp only [Act.put, List.setIfInBounds_toArray, List.set_cons_zero, List.set_cons_succ] at hOrd ⊢
      refine Ph.alone (i := 56) (o := ?_) (p := 2) ?_ ?_ hOrd ?_ ?_
      rotate_left 2
      · simp only [List.getElem?_toArray, List.getElem?_cons_succ, List.getElem?_cons_zero]; rfl
      rotate_right 1
      · kernel_rfl
      · kernel_rfl
      clear hOrd
      intro K hK
      go_simp
      ((with_reducible refine (CI1.out _).mono ?_); rintro e w56 ⟨rfl, be⟩; have BN56 := Lib.hid (G.below_on BN49.out be); clear be)
      refine hK.out _ _ (Ph.pick2 (SC.out _ BN56.out)) (fun hHeld hOrd => ?_)
      clear hK K
      try simp only [Act.put, List.setIfInBounds_toArray, List.set_cons_zero, List.set_cons_succ] at hOrd ⊢
      refine Ph.alone (i := 62) (o := ?_) (p := 2) ?_ ?_ hOrd ?_ ?_
      rotate_left 2
      · simp only [List.getElem?_toArray, List.getElem?_cons_succ, List.getElem?_cons_zero]; rfl
      rotate_right 1
      · kernel_rfl
      · kernel_rfl
      clear hOrd
      intro K hK
      go_simp
      ((with_reducible refine (CI2.out _).mono ?_); rintro e w62 ⟨rfl, be⟩; have BN62 := Lib.hid (G.below_on BN56.out be); clear be)
      refine hK.out _ _ (Ph.pick2 (SC.out _ BN62.out)) (fun hHeld hOrd => ?_)
      clear hK K
      try simp only [Act.put, List.setIfInBounds_toArray, List.set_cons_zero, List.set_cons_succ] at hOrd ⊢
      refine Ph.take (i := 63) (oi := ?_) (v := ?_) (p := 2) ?_ ?_ ?_ ?_ hOrd ?_ ?_ ?_ ?_ ?_ ?_
      rotate_left 2
      · simp only [List.getElem?_toArray, List.getElem?_cons_succ, List.getElem?_cons_zero]; rfl
      · kernel_rfl
      · kernel_rfl
      · kernel_rfl
      · kernel_rfl
      · kernel_rfl
      · exact fun _ _ _ h => h
      · refine Or.inl ⟨by rfl, ?_⟩
        intro w' hSw
        (try simp only [Ph.pick, List.getD_cons_succ, List.getD_cons_zero] at hSw)
        go_simp
        all_goals (with_reducible rfl)
      · assumption
      clear hOrd
      intro hOrd
      try simp only [Act.put, List.setIfInBounds_toArray, List.set_cons_zero, List.set_cons_succ] at hOrd ⊢
      refine Ph.take (i := 64) (oi := ?_) (v := ?_) (p := 2) ?_ ?_ ?_ ?_ hOrd ?_ ?_ ?_ ?_ ?_ ?_
      rotate_left 2
      · simp only [List.getElem?_toArray, List.getElem?_cons_succ, List.getElem?_cons_zero]; rfl
      · kernel_rfl
      · kernel_rfl
      · kernel_rfl
      · kernel_rfl
      · kernel_rfl
      · exact fun _ _ _ h => h
      · refine Or.inl ⟨by rfl, ?_⟩
        intro w' hSw
        (try simp only [Ph.pick, List.getD_cons_succ, List.getD_cons_zero] at hSw)
        go_simp
        all_goals (with_reducible rfl)
      · assumption
      clear hOrd
      intro hOrd
      try simp only [Act.put, List.setIfInBounds_toArray, List.set_cons_zero, List.set_cons_succ] at hOrd ⊢
      refine Ph.done (by kernel_rfl) ?_ _
      clear hHeld hOrd hc6 hd6 hp6
      go_wp2
      go_roundg (n - (i + 1))
      case measure => have := HK.out; omega
      case rel =>
        have nx := NX.out
        refine ⟨i + 1, t', F', D', by omega, by omega, by go_num, rfl, by omega, by omega, by omega, (show CellAt w36 bc _ _ _ _ from C36.out).below BN62.out, (show CellAt w36 bd _ _ _ _ from D36.out).below BN62.out, ?_⟩
        exact F6.out.trans ((Fr.of_below BN23.out).trans ((F30.out.mono (fun k h => Or.inl h)).trans ((F36.out.mono (fun k h => Or.inr h)).trans (Fr.of_below BN62.out))))
    · have hie : i = n := by omega
      subst hie
      have k1 := (show Blk wr bc _ _ from HCR.out).rd
      have k2 := (show Blk wr bd _ _ from HDR.out).rd
      have hs1 : F + sh ≤ 1152921504608000000 := by omega
      have hs2 : 0 ≤ F + sh := by omega
      go_wp2
      go_ret
      exact ⟨rfl, HB.out⟩
end Go.Proofs.Ytfegoehiopkcnaa
