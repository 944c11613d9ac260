/- The laws of layer 9 (cell), walked: the limit. -/
import Derived.Test.YtfegoehiopkcnaaCellW
import Derived.Test.YtfegoehiopkcnaaCellQ
import Derived.Deep.AppendLies
import Derived.Laws.OwnMore
namespace Go.Proofs.Ytfegoehiopkcnaa
set_option linter.unusedSimpArgs false
set_option linter.unusedVariables false
open Go.ChangeShapes Go.WideShapes Go.ChangeAt Go.RowKit
open Ar (inR)
/-- pairs of numbers, as cells. -/
def cells2 : List (Int × Int) → List Value
  | [] => []
  | x :: r => .int .i64 x.1 :: .int .i64 x.2 :: cells2 r
theorem cells2_length : ∀ l, (cells2 l).length = l.length * 2
  | [] => rfl
  | x :: r => by rw [cells2, List.length_cons, List.length_cons, cells2_length r, List.length_cons]; omega
theorem cells2_app : ∀ l m, cells2 (l ++ m) = cells2 l ++ cells2 m
  | [], _ => rfl
  | x :: r, m => by rw [List.cons_append, cells2, cells2, cells2_app r m]; rfl
theorem cells2_at : ∀ (l : List (Int × Int)) (j : Nat) (h : j < l.length), (cells2 l)[j * 2]? = some (.int .i64 (l[j]).1) ∧ (cells2 l)[j * 2 + 1]? = some (.int .i64 (l[j]).2)
  | x :: r, 0, _ => ⟨rfl, rfl⟩
  | x :: r, j + 1, h => by
    have := cells2_at r j (by simpa using h)
    rw [show (j + 1) * 2 = j * 2 + 1 + 1 by omega]
    exact this
theorem own_below {w w' : World} {base : Nat} {e : TypeId} {size n : Nat} {v : Value} {xs : List Value} (h : w.ownsRow base e size v n xs) (hb : Below w.heap.size w w') : w'.ownsRow base e size v n xs := by
  refine ⟨h.1, ?_⟩
  rcases h.2 with h0 | ⟨g, cap, cur, hv, hbg, hg, h1⟩
  · exact Or.inl h0
  · exact Or.inr ⟨g, cap, cur, hv, hbg, by rw [hb.block g (lt_of_block hg)]; exact hg, h1⟩
theorem own_fr {w w' : World} {F : Nat → Prop} {base : Nat} {e : TypeId} {size n : Nat} {v : Value} {xs : List Value} (h : w.ownsRow base e size v n xs) (hf : Fr F w w') (hF : ∀ k, F k → k < base) : w'.ownsRow base e size v n xs := by
  refine ⟨h.1, ?_⟩
  rcases h.2 with h0 | ⟨g, cap, cur, hv, hbg, hg, h1⟩
  · exact Or.inl h0
  · exact Or.inr ⟨g, cap, cur, hv, hbg, by rw [hf.block g (lt_of_block hg) (fun hk => by have := hF g hk; omega)]; exact hg, h1⟩
theorem fr_grown {a w w' : World} {F : Nat → Prop} {v : Value} (h : Fr F a w) (hg : w.grownBy w' v.ownBlock) (hv : ∀ g, v.ownBlock = some g → a.heap.size ≤ g) : Fr F a w' :=
  ⟨hg.os.trans h.os, hg.tape.trans h.tape, hg.output.trans h.output, Nat.le_trans h.size hg.size, fun k hk hF => (hg.block k (Nat.lt_of_lt_of_le hk h.size) (fun e => by have := hv k e.symm; omega)).trans (h.block k hk hF)⟩
theorem own_base {w : World} {base : Nat} {e : TypeId} {size n : Nat} {v : Value} {xs : List Value} (h : w.ownsRow base e size v n xs) : ∀ g, v.ownBlock = some g → base ≤ g := by
  intro g hg
  rcases h.2 with ⟨rfl, _⟩ | ⟨g', cap, cur, rfl, hb, _⟩
  · cases hg
  · have : g' = g := by simpa [Value.ownBlock] using hg
    omega
theorem infoLet : (Try.prog.info? 50).map (fun i => (i.zero, i.size, i.bytes)) = some (some (.agg #[.int .i64 0, .int .i64 0]), 2, 16) := by kernel_rfl
set_option maxHeartbeats 4000000 in
set_option maxRecDepth 100000 in
theorem limit_law (w : World) (a b c k0 : Int) (A : Option Addr) (n cap : Nat) (x y : Nat → Int) (ha : inR a) (hb : inR b) (hc : inR c) (hk0 : -9223372036854775808 ≤ k0 ∧ k0 ≤ 9223372036854775807) (hr : RdP w A n cap x y) :
    Calls Try.prog 4 #[.agg #[.int .i64 a, .int .i64 b, .int .i64 c], .int .i64 k0, .slice A n cap] w fun e w' => e = .returned (.bool true) ∧ Below w.heap.size w w' := by
  by_cases hn : (100 : Int) < (n : Int)
  · have hmx := hr.max
    unfold maxLen at hmx
    clear hr
    go_enter Try.func4, Try.ntmps4
    go_wp2_with (go_at_call 11; refine (fit_any _).mono ?_; rintro e w1 ⟨rfl, b1⟩; have B1 := Lib.hid (Below.trans ((Below.refl w.heap.size w).alloc (Nat.le_refl _) _) (b1.mono (by simp))); clear b1)
    go_ret
    exact ⟨rfl, B1.out⟩
  have c0 := fun w => rule_any a b c ha hb hc w
  obtain ⟨f1, f2, f3, f4, f5, f6⟩ := plan_facts a b c
  obtain ⟨L, hL⟩ : ∃ z, z = planL a := ⟨_, rfl⟩
  obtain ⟨W, hW⟩ : ∃ z, z = planW b := ⟨_, rfl⟩
  obtain ⟨B, hB⟩ : ∃ z, z = planB a c := ⟨_, rfl⟩
  rw [← hL, ← hW, ← hB] at c0
  rw [← hL] at f1 f2 f6
  rw [← hW] at f3 f4
  rw [← hB] at f5 f6
  have c1 := fun w => of_any L W B 0 0 0 0 0 false (by unfold inR; omega) (by unfold inR; omega) (by unfold inR; omega) w
  obtain ⟨u1, u2, u3⟩ := plan_unit ⟨f1, f2⟩ ⟨f3, f4⟩ ⟨f5, f6⟩
  obtain ⟨U, hU⟩ : ∃ z, z = unitZ W (L + 1 - B) := ⟨_, rfl⟩
  rw [← hU] at c1 u1 u2 u3
  have hn2 : (n : Int) ≤ 100 := by omega
  obtain ⟨k6, hk6⟩ : ∃ k, k = k0 % 64 := ⟨_, rfl⟩
  have ek : bits .and .i64 k0 63 = k6 := by rw [i64_mask6, hk6]
  have hk6b : 0 ≤ k6 ∧ k6 ≤ 63 := by omega
  have c2 := fun w => new_any 7 k6 w
  have C0 := Lib.hid c0
  have C1 := Lib.hid c1
  have C2 := Lib.hid c2
  have HR := Lib.hid hr
  have HU := Lib.hid u3
  clear c0 c1 c2 hL hW hB hU ha hb hc hr hn hk6 hk0 u3
  go_enter Try.func4, Try.ntmps4
  have h0 : Blk (w.alloc (.cells #[.int .i64 a, .int .i64 b, .int .i64 c] 23)) w.heap.size 23 #[.int .i64 a, .int .i64 b, .int .i64 c] := heap_alloc_new w _
  have B0 := Lib.hid ((Below.refl w.heap.size w).alloc (Nat.le_refl _) (.cells #[.int .i64 a, .int .i64 b, .int .i64 c] 23))
  have H0 := Lib.hid h0
  clear h0
  go_upto_region 5 with (first
    | (go_at_call 11; refine (fit_any _).mono ?_; rintro e w1 ⟨rfl, b1⟩; have h1 := (H0.out.keep b1).rd; have B1 := Lib.hid (B0.out.trans (b1.mono (by simp))); clear b1))
  go_upto_region 6 with (first
    | (go_at_call 12; ((with_reducible refine (C0.out _).mono ?_); rintro e w2 ⟨rfl, b2⟩; have B2 := Lib.hid (below_from B1.out b2); clear b2)))
  obtain ⟨w2', e2, r2, b2, s2⟩ := box_new w2 #[.int .i64 L, .int .i64 W, .int .i64 B, .int .i64 0, .int .i64 0, .int .i64 0, .int .i64 0, .int .i64 0, .bool false] 28
  rw [e2]
  have B2' := Lib.hid (below_from B2.out b2)
  generalize hrb : w2.heap.size = rb at r2 ⊢
  have RB := Lib.hid (show w.heap.size ≤ rb by have := B2.out.size; omega)
  have R2 := Lib.hid r2
  have r2c := r2.rd
  clear e2 b2 s2 hrb h1 B1 B2 B0 H0 r2
  go_upto_region 7 with (first
    | (go_at_call 13; ((with_reducible refine (C1.out _).mono ?_); rintro e w3 ⟨rfl, b3⟩; have R3 := Lib.hid (R2.out.keep b3); have B3 := Lib.hid (below_from B2'.out b3); clear b3)))
  obtain ⟨w3', e3, p3, b3, s3⟩ := box_new w3 #[.int .i64 U, .int .i64 W, .int .i64 B, .int .i64 L] 31
  rw [e3]
  have R3' := Lib.hid (R3.out.keep b3)
  have B3' := Lib.hid (below_from B3.out b3)
  have P3 := Lib.hid p3
  generalize hpb : w3.heap.size = pb at p3 P3 ⊢
  clear e3 b3 s3 hpb R2 r2c B2' B3 R3 p3
  go_upto_region 9 with (first
    | (go_at_call 15; ((with_reducible refine (C2.out _).mono ?_); rintro e w4 ⟨rfl, b4⟩; have R4 := Lib.hid (R3'.out.keep b4); have P4 := Lib.hid (P3.out.keep b4); have B4 := Lib.hid (below_from B3'.out b4); clear b4)))
  obtain ⟨wy, e4, hc, b4, s4⟩ := box_new w4 #[.int .i64 7, .int .i64 7, .int .i64 k6, .int .i64 0] 36
  rw [e4]
  have HRU := Lib.hid (R4.out.keep b4)
  have HP := Lib.hid (P4.out.keep b4)
  have BY := Lib.hid (below_from B4.out b4)
  have NE := Lib.hid (show pb ≠ w4.heap.size from Nat.ne_of_lt (lt_of_block P4.out))
  have NR := Lib.hid (show rb ≠ w4.heap.size from Nat.ne_of_lt (lt_of_block R4.out))
  have HL := Lib.hid (show w.heap.size ≤ w4.heap.size from B4.out.size)
  have HC := Lib.hid hc
  generalize hbc : w4.heap.size = bc at hc HC NE NR HL ⊢
  clear e4 b4 s4 R3' P3 R4 P4 B4 B3' hc hbc
  go_wp2
  have HBC := Lib.hid (lt_of_block HC.out)
  have HWB := Lib.hid (show w.heap.size ≤ wy.heap.size from BY.out.size)
  generalize hbase : wy.heap.size = base at HBC HWB
  have HBS := Lib.hid hbase
  clear hbase
  go_loopg [9, 11, 34] n (fun k now lv si wr => ∃ (i : Nat) (t F D : Int) (ls : List (Int × Int)), i ≤ n ∧ k = n - i ∧ si = .int .i64 (i : Int) ∧ now = .int .i64 t ∧ (7 ≤ t ∧ t ≤ 7 + 4095 * i) ∧ (0 ≤ F ∧ F ≤ t + B * U) ∧ (0 ≤ D ∧ D ≤ 32 * i) ∧ CellAt wr bc F 7 k6 D ∧ Fr (fun k => k = bc) wy wr ∧
    wr.ownsRow base 50 2 lv ls.length (cells2 ls) ∧ ls.length ≤ i ∧ Taken F t U ls ∧ sumLt (7 + W) ls ≤ max (L - k6) 0 ∧ sumLt (7 + W) ls ≤ D ∧ (t < 7 + W → D ≤ max (L - k6) 0))
  case atStart => exact ⟨0, 7, 7, 0, [], by omega, by omega, rfl, rfl, by omega, ⟨by omega, by have : 0 ≤ B * U := Int.mul_nonneg (by omega) (by omega); omega⟩, by omega, HC.out, Fr.refl _ _, ⟨rfl, Or.inl ⟨rfl, rfl⟩⟩, by simp, taken_nil _ _ _, by show (0 : Int) ≤ _; omega, by show (0 : Int) ≤ _; omega, by omega⟩
  case round =>
    obtain ⟨i, t, F, D, ls, hi, hkk, rfl, rfl, ht, hF, hD, hcr, hfr, hown, hll, htk, hsl, hsd, hyg⟩ := hrel
    have HK := Lib.hid hkk
    have HFW := Lib.hid hfr
    have HCR := Lib.hid hcr
    have HOW := Lib.hid hown
    have HTK := Lib.hid htk
    have HSL := Lib.hid (And.intro hll (And.intro hsl (And.intro hsd hyg)))
    have HQ := Lib.hid (show Blk wr rb _ _ ∧ Blk wr pb _ _ from ⟨HRU.out.fr hfr NR.out, HP.out.fr hfr NE.out⟩)
    have HB := Lib.hid (BY.out.trans (hfr.below BY.out.size (fun k hk => by subst hk; exact HL.out)))
    have hbu : 0 ≤ B * U ∧ B * U ≤ 8192 := ⟨Int.mul_nonneg (by omega) (by omega), Int.mul_le_mul (by omega : B ≤ 32) u2 (by omega) (by omega)⟩
    clear hkk hcr hfr hown htk hll hsl hsd hyg
    by_cases hin : i < n
    · obtain ⟨bs, off, rfl, hlt, hcs⟩ := HR.out.at_ (by omega)
      obtain ⟨g0, g1⟩ := hcs i hin
      have q0 : wr.cell? ⟨bs, off + i * 2, none⟩ = some (.int .i64 (x i)) := (HB.out.cell (p := ⟨bs, off + i * 2, none⟩) hlt).trans g0
      have q1 : wr.cell? ⟨bs, off + i * 2 + 1, none⟩ = some (.int .i64 (y i)) := (HB.out.cell (p := ⟨bs, off + i * 2 + 1, none⟩) hlt).trans g1
      clear g0 g1 hcs
      go_upto_region 13 with (fail)
      obtain ⟨w5, e5, k5, b5, s5⟩ := box_new wr #[.int .i64 (x i), .int .i64 (y i)] 40
      rw [e5]
      generalize wr.heap.size = kb at k5 ⊢
      have Q5 := Lib.hid (And.intro k5 (keep2 HQ.out b5))
      have C5 := Lib.hid (HCR.out.below b5)
      have O5 := Lib.hid (own_below HOW.out b5)
      have k5r := Q5.out.1.rd
      have r5r := Q5.out.2.1.rd
      have p5r := Q5.out.2.2.rd
      have F5 := Lib.hid (HFW.out.trans (Fr.of_below b5))
      clear e5 b5 s5 q0 q1 k5
      have hg := gap_bd (x i)
      have cg := fun w => gap_any (x i) w
      obtain ⟨g, hge⟩ : ∃ g, g = gapZ (x i) := ⟨_, rfl⟩
      rw [← hge] at cg hg
      obtain ⟨t', ht'⟩ : ∃ z, z = t + g := ⟨_, rfl⟩
      have rng : Rng F 7 k6 D U W B L t' := ⟨by omega, by omega, by omega, by omega, by omega, by omega, by omega, by omega, by omega⟩
      obtain ⟨m, hm⟩ : ∃ z, z = y i % 32 := ⟨_, rfl⟩
      have e1 : bits .and .i64 (y i) 31 = m := by rw [hm]; exact i64_mask5 _
      have hmb : 0 ≤ m ∧ m ≤ 31 := by omega
      obtain ⟨r, hrm⟩ : ∃ z, z = m % B := ⟨_, rfl⟩
      have hrb : 0 ≤ r ∧ r < B := by rw [hrm]; exact ⟨Int.emod_nonneg _ (by omega), Int.emod_lt_of_pos _ (by omega)⟩
      obtain ⟨co, hco⟩ : ∃ z, z = r + 1 := ⟨_, rfl⟩
      have hcob : 1 ≤ co ∧ co ≤ B := by omega
      have hti : t' ≤ 1000000 := by omega
      have htj : 0 ≤ t' := by omega
      have et : t + g = t' := ht'.symm
      have er : m % B = r := hrm.symm
      have eco : r + 1 = co := hco.symm
      have CG := Lib.hid cg
      by_cases hle : co ≤ roomP F 7 k6 D U W B L t'
      · have l1 := (take_leaves rng ⟨hcob.1, hle⟩).1
        have hcu : 0 ≤ co * U := Int.mul_nonneg (by omega) (by omega)
        have ct := fun w bc h => take_rng_yes rng ⟨hcob.1, hle⟩ w bc h
        have tk' := HTK.out.take u1 (t' := t') ⟨hcob.1, by omega⟩ (by omega)
        have hyo : t' < 7 + W → D + co ≤ max (L - k6) 0 := by
          intro hy
          have h2 := hle
          unfold roomP at h2
          rw [if_pos hy] at h2
          unfold restP at h2
          omega
        obtain ⟨F', hF'⟩ : ∃ z, z = max F t' + co * U := ⟨_, rfl⟩
        rw [← hF'] at l1 ct tk'
        obtain ⟨D', hD'⟩ : ∃ z, z = D + co := ⟨_, rfl⟩
        rw [← hD'] at ct hyo
        have CT := Lib.hid ct
        have TK := Lib.hid tk'
        have hsl := HSL.out
        have hsn := sumLt_snoc (7 + W) (t', co) ls
        have NX := Lib.hid (show (7 ≤ t' ∧ t' ≤ 7 + 4095 * ((i : Int) + 1)) ∧ (0 ≤ F' ∧ F' ≤ t' + B * U) ∧ (0 ≤ D' ∧ D' ≤ 32 * ((i : Int) + 1)) ∧ sumLt (7 + W) (ls ++ [(t', co)]) ≤ max (L - k6) 0 ∧ sumLt (7 + W) (ls ++ [(t', co)]) ≤ D' ∧ (t' < 7 + W → D' ≤ max (L - k6) 0) from by
          refine ⟨by omega, ⟨by omega, by omega⟩, by omega, ?_, ?_, hyo⟩
          · rw [hsn]
            by_cases hy : t' < 7 + W
            · rw [if_pos hy]; have := hyo hy; have := hsl.2.2.1; show _ + co ≤ _; omega
            · rw [if_neg hy]; have := hsl.2.1; omega
          · rw [hsn]
            by_cases hy : t' < 7 + W
            · rw [if_pos hy]; have := hsl.2.2.1; show _ + co ≤ _; omega
            · rw [if_neg hy]; have := hsl.2.2.1; omega)
        have LIM := Lib.hid (tk'.limit u1 l1 HU.out (by omega))
        obtain ⟨i0, hi0, hz0, hz1, hz2⟩ := info_parts infoLet
        clear cg ct hge ht' hm hrm hco hD hF ht rng hbu hcu l1 tk' hyo hF' hD' hsl hsn
        go_upto_region 16 with (first
          | (go_at_call 16; ((with_reducible refine (CG.out _).mono ?_); rintro e w' ⟨rfl, rfl⟩))
          | (go_at_call 21; ((with_reducible refine (CT.out _ _ C5.out).mono ?_); rintro e w8 ⟨rfl, c8, f8⟩; have C8 := Lib.hid c8; have Q8 := Lib.hid (And.intro (Q5.out.2.1.fr f8 NR.out) (Q5.out.2.2.fr f8 NE.out)); have O8 := Lib.hid (own_fr O5.out f8 (fun k hk => by subst hk; exact HBC.out)); have F8 := Lib.hid (F5.out.trans f8); have r8 := Q8.out.1.rd; have p8 := Q8.out.2.rd; clear c8 f8)))
        have hnb : ls.length ≤ 100 := by have := HSL.out.1; omega
        have hwb : w8.heap[w8.heap.size]? = none := Array.getElem?_eq_none (Nat.le_refl _)
        have hbw8 : base ≤ w8.heap.size := by rw [← HBS.out]; exact F8.out.size
        have nw := heap_alloc_new w8 (.cells #[.int .i64 t', .int .i64 co] 50)
        have NW := Lib.hid nw
        have HB8 := Lib.hid hbw8
        have HNB := Lib.hid hnb
        clear hwb nw hnb hbw8
        go_wp2_with (at_builtin; refine wpList_append_lies _ (by rfl) _ _ 48 (by rfl) base 50 i0 (.agg #[.int .i64 0, .int .i64 0]) 2 16 Try.underlying48 hi0 hz0 hz1 hz2 (by rfl) (by omega) u11 ls.length (cells2 ls) (by rfl) (O8.out.alloc _) ⟨w8.heap.size, 0, none⟩ 1 1 [.int .i64 t', .int .i64 co] (by rfl) (by rfl) (by intro j u hj; match j, hj with | 0, hj => exact (blk_cell NW.out).trans hj | 1, hj => exact (show _ = _ from (blk_cell (i := 1) NW.out)).trans hj | j + 2, hj => simp at hj) (by simp [Value.oneCell']) (by omega) (by have := HNB.out; unfold maxLen; omega) (by have := HNB.out; omega) (by have := HB8.out; simp; omega) (w8.heap.size + 1) (by simp) ?_; intro gl cl w9 hown9 hgrow9 hat9 hlt9; have HO9 := Lib.hid hown9; have HG9 := Lib.hid hgrow9; clear hown9 hgrow9 hat9)
        have F9 := Lib.hid (fr_grown (Fr.alloc F8.out _) HG9.out (by rw [HBS.out]; exact own_base O8.out))
        have hne9 : some bc ≠ u11.ownBlock := fun e => by have := own_base O8.out bc e.symm; have := HBC.out; omega
        have C9 := Lib.hid (show CellAt w9 bc F' 7 k6 D' from (HG9.out.block bc (by have := C8.out.lt; simp; omega) hne9).trans (Blk.alloc C8.out _))
        have Q9 := Lib.hid (show Blk w9 rb _ _ ∧ Blk w9 pb _ _ from ⟨HRU.out.fr F9.out NR.out, HP.out.fr F9.out NE.out⟩)
        obtain ⟨ls', hls⟩ : ∃ l, l = ls ++ [(t', co)] := ⟨_, rfl⟩
        have hln : ls'.length = ls.length + 1 := by rw [hls]; simp
        have HO9' := Lib.hid (show w9.ownsRow base 50 2 (.slice (some ⟨gl, 0, none⟩) (ls.length + 1) cl) (ls.length + 1) (cells2 ls') from by rw [hls, cells2_app]; exact HO9.out)
        have HNX := Lib.hid (show sumLt (7 + W) ls' ≤ max (L - k6) 0 ∧ sumGt (t' - W) ls' ≤ L from by rw [hls]; exact ⟨NX.out.2.2.2.1, LIM.out⟩)
        have TK' := Lib.hid (show Taken F' t' U ls' from by rw [hls]; exact TK.out)
        have HLS := Lib.hid hls
        have HLN := Lib.hid hln
        obtain ⟨T, hT⟩ : ∃ z, z = t' - W := ⟨_, rfl⟩
        obtain ⟨Z, hZ⟩ : ∃ z, z = 7 + W := ⟨_, rfl⟩
        have eT : t' - W = T := hT.symm
        have eZ : 7 + W = Z := hZ.symm
        have hlb : (ls.length : Int) ≤ 100 := by have := HNB.out; omega
        obtain ⟨wo, rfl⟩ : ∃ wo : World, wo = wr := ⟨_, rfl⟩
        clear hne9 hls hln hT hZ HO9 k5r r5r p5r r8 p8
        go_loopg [15, 16, 63] (ls.length + 1) (fun k sm yg sj wq => ∃ j : Nat, j ≤ ls.length + 1 ∧ k = ls.length + 1 - j ∧ sj = .int .i64 (j : Int) ∧ sm = .int .i64 (sumGt T (ls'.take j)) ∧ yg = .int .i64 (sumLt Z (ls'.take j)) ∧ Below w9.heap.size w9 wq)
        case atStart => exact ⟨0, by omega, by omega, rfl, rfl, rfl, Below.refl _ _⟩
        case round =>
          obtain ⟨j, hj, hkk, rfl, rfl, rfl, hbq⟩ := hrel
          have HK2 := Lib.hid hkk
          have HBQ := Lib.hid hbq
          have hsb := sumGt_bd T (ls'.take j) (small_take TK'.out.sm j)
          have hyb := sumLt_bd Z (ls'.take j) (small_take TK'.out.sm j)
          have htl : (ls'.take j).length ≤ j := List.length_take_le _ _
          have r9 := (Q9.out.1.keep hbq).rd
          have hlr := lt_of_block (Q9.out.1.keep hbq)
          clear hkk
          by_cases hjn : j < ls.length + 1
          · have hjl : j < ls'.length := by rw [HLN.out]; exact hjn
            have hcc := cells2_at ls' j hjl
            have hsx := TK'.out.sm _ (List.getElem_mem hjl)
            have c0 : wr.cell? ⟨gl, j * 2, none⟩ = some (.int .i64 (ls'[j]).1) := by
              rw [hbq.cell (p := ⟨gl, j * 2, none⟩) hlt9]
              exact (HO9'.out.cellAt _ (by omega)).trans hcc.1
            have c1 : wr.cell? ⟨gl, j * 2 + 1, none⟩ = some (.int .i64 (ls'[j]).2) := by
              rw [hbq.cell (p := ⟨gl, j * 2 + 1, none⟩) hlt9]
              exact (HO9'.out.cellAt _ (by omega)).trans hcc.2
            have s1 : sumGt T (ls'.take (j + 1)) = sumGt T (ls'.take j) + (if T < (ls'[j]).1 then (ls'[j]).2 else 0) := by
              rw [List.take_add_one, List.getElem?_eq_getElem hjl]; exact sumGt_snoc T _ _
            have s2 : sumLt Z (ls'.take (j + 1)) = sumLt Z (ls'.take j) + (if (ls'[j]).1 < Z then (ls'[j]).2 else 0) := by
              rw [List.take_add_one, List.getElem?_eq_getElem hjl]; exact sumLt_snoc Z _ _
            obtain ⟨xa, hxa⟩ : ∃ z, z = (ls'[j]).1 := ⟨_, rfl⟩
            obtain ⟨xc, hxc⟩ : ∃ z, z = (ls'[j]).2 := ⟨_, rfl⟩
            rw [← hxa] at c0 s1 s2
            rw [← hxc] at c1 s1 s2 hsx
            obtain ⟨sg, hsg⟩ : ∃ z, z = sumGt T (ls'.take j) := ⟨_, rfl⟩
            obtain ⟨sy, hsy⟩ : ∃ z, z = sumLt Z (ls'.take j) := ⟨_, rfl⟩
            rw [← hsg] at s1 hsb ⊢
            rw [← hsy] at s2 hyb ⊢
            have hji : (j : Int) < (ls.length : Int) + 1 := by omega
            have hb1 : sg ≤ 100000 := by omega
            have hb2 : sy ≤ 100000 := by omega
            have S12 := Lib.hid (And.intro s1 s2)
            clear hcc hxa hxc hsg hsy s1 s2 hbq htl hjl
            have d1 : decide (T < xa) = true ∨ decide (T < xa) = false := by cases decide (T < xa) <;> simp
            have d2 : decide (xa < Z) = true ∨ decide (xa < Z) = false := by cases decide (xa < Z) <;> simp
            rcases d1 with d1 | d1 <;> rcases d2 with d2 | d2
            all_goals
              go_wp2
              go_roundg (ls.length + 1 - (j + 1))
              case measure => have := HK2.out; omega
              case rel =>
                have s12 := S12.out
                simp only [decide_eq_true_eq, decide_eq_false_iff_not] at d1 d2
                first | rw [if_pos d1] at s12 | rw [if_neg d1] at s12
                first | rw [if_pos d2] at s12 | rw [if_neg d2] at s12
                refine ⟨j + 1, by omega, by omega, by go_num, ?_, ?_, below_from HBQ.out ((Below.refl _ _).alloc (Nat.le_refl _) _)⟩
                · rw [s12.1]; try simp
                · rw [s12.2]; try simp
          · have hje : j = ls.length + 1 := by omega
            have hfull : ls'.take j = ls' := List.take_of_length_le (by rw [HLN.out]; omega)
            have hnx := HNX.out
            obtain ⟨sg, hsg⟩ : ∃ z, z = sumGt T (ls'.take j) := ⟨_, rfl⟩
            obtain ⟨sy, hsy⟩ : ∃ z, z = sumLt Z (ls'.take j) := ⟨_, rfl⟩
            have l1 : sg ≤ L := by rw [hsg, hfull, ← eT]; exact hnx.2
            have l2 : sy ≤ max (L - k6) 0 := by rw [hsy, hfull, ← eZ]; exact hnx.1
            rw [← hsg, ← hsy]
            have d1 : decide (L < sg) = false := by rw [decide_eq_false_iff_not]; omega
            obtain ⟨lk, hlk⟩ : ∃ z, z = L - k6 := ⟨_, rfl⟩
            have elk : L - k6 = lk := hlk.symm
            have hcase : ((lk < 0) = True ∧ decide (0 < sy) = false) ∨ ((lk < 0) = False ∧ decide (lk < sy) = false) := by
              by_cases h : lk < 0
              · exact Or.inl ⟨eq_true h, by rw [decide_eq_false_iff_not]; omega⟩
              · exact Or.inr ⟨eq_false h, by rw [decide_eq_false_iff_not]; omega⟩
            have C11 := Lib.hid (C9.out.below hbq)
            have F11 := Lib.hid (F9.out.trans (Fr.of_below hbq))
            have O11 := Lib.hid (own_below HO9'.out hbq)
            have HJ := Lib.hid hje
            have hjb : (j : Int) ≤ 200 := by omega
            have hjx : ¬ (j : Int) < (ls.length : Int) + 1 := by omega
            clear hsb hyb htl hfull hnx hsg hsy hlk hbq l1 l2 hje hj
            rcases hcase with ⟨dx, dy⟩ | ⟨dx, dy⟩
            all_goals
              go_wp2
              go_roundg (n - (i + 1))
              case measure => have := HK.out; omega
              case rel =>
                have hx := NX.out
                have hl := HLS.out
                refine ⟨i + 1, t', F', D', ls', by omega, by omega, by go_num, rfl, by have := hx.1; omega, hx.2.1, by have := hx.2.2.1; omega, C11.out, F11.out, by rw [HLN.out]; exact O11.out, by rw [HLN.out]; have := HSL.out.1; omega, TK'.out, HNX.out.1, by rw [hl]; exact hx.2.2.2.2.1, hx.2.2.2.2.2⟩
      · have ct := fun w bc h => take_rng_no rng (cost := co) (Or.inr (by omega)) w bc h
        have CT := Lib.hid ct
        have hsl := HSL.out
        have NX := Lib.hid (show (7 ≤ t' ∧ t' ≤ 7 + 4095 * ((i : Int) + 1)) ∧ (0 ≤ F ∧ F ≤ t' + B * U) ∧ (0 ≤ D ∧ D ≤ 32 * ((i : Int) + 1)) ∧ t ≤ t' ∧ (t' < 7 + W → D ≤ max (L - k6) 0) from by
          refine ⟨by omega, ⟨by omega, by omega⟩, by omega, by omega, fun h => hsl.2.2.2 (by omega)⟩)
        clear cg ct hge ht' hm hrm hco hD hF ht rng hbu hsl
        go_wp2_with (first
          | (go_at_call 16; ((with_reducible refine (CG.out _).mono ?_); rintro e w' ⟨rfl, rfl⟩))
          | (go_at_call 21; ((with_reducible refine (CT.out _ _ C5.out).mono ?_); rintro e w8 ⟨rfl, b8⟩; have C8 := Lib.hid (C5.out.below b8); have O8 := Lib.hid (own_below O5.out b8); have F8 := Lib.hid (F5.out.trans (Fr.of_below b8)); clear b8)))
        go_roundg (n - (i + 1))
        case measure => have := HK.out; omega
        case rel =>
          have hx := NX.out
          have hsl := HSL.out
          exact ⟨i + 1, t', F, D, ls, by omega, by omega, by go_num, rfl, by have := hx.1; omega, hx.2.1, by have := hx.2.2.1; omega, C8.out, F8.out, O8.out, by omega, HTK.out.later hx.2.2.2.1, hsl.2.1, hsl.2.2.1, hx.2.2.2.2⟩
    · go_wp2
      go_ret
      exact ⟨rfl, HB.out⟩
end Go.Proofs.Ytfegoehiopkcnaa
