/- The contracts of layer 6 (slot). -/
import Derived.Test.YtmdkokehomboaaaSkM
import Derived.Test.YtmdkokehomboaaaHashR
import Derived.Test.YtmdkokehomboaaaKy
import Derived.Test.YtmdkokehomboaaaArMul
import Derived.Test.YtmdkokehomboaaaBlk
import Derived.Deep.RegionHeld3
import Derived.BigQuiet
import Derived.BigRegion
import Derived.Lib.SliceRun
namespace Go.Proofs.Ytmdkokehomboaaa
set_option linter.unusedSimpArgs false
set_option linter.unusedVariables false
set_option maxRecDepth 100000
open Go.ChangeShapes Go.WideShapes Go.ChangeAt Go.RowKit
open Ar (inR)
/-- where a sketch lies, and its functions. -/
structure SlN where
  b : Nat
  g : Nat
  k : Nat
  W : Nat
  X : Nat → Nat
  A : Nat → Nat
  B : Nat → Nat
/-- a key's place in a row. -/
def SlN.P (N : SlN) (j : Nat) (s : ByteArray) : Nat := plc (Ha.hof (N.X j) (N.A j) (N.B j) s.data.toList) (N.W : Int)
/-- its block. -/
structure SlC (N : SlN) (C : Array Value) : Prop where
  sz : C.size = 28
  m : C[24]? = some (.slice none 0 0)
  d : C[25]? = some (.int .i64 (N.k : Int))
  w : C[26]? = some (.int .i64 (N.W : Int))
  c : C[27]? = some (.slice (some ⟨N.g, 0, none⟩) (N.k * N.W) (N.k * N.W))
  r : ∀ j, j < N.k → C[j * 3]? = some (.int .u64 (N.X j)) ∧ C[j * 3 + 1]? = some (.int .u64 (N.A j)) ∧ C[j * 3 + 2]? = some (.int .u64 (N.B j))
/-- a sketch in memory. -/
structure SlAt (w : World) (N : SlN) (f : Nat → Nat → Int) : Prop where
  hb : ∃ C, Blk w N.b 59 C ∧ SlC N C
  hg : Blk w N.g 2 (numC .i64 (Sk.tab f N.k N.W))
  ne : N.b ≠ N.g
  bd : (1 ≤ N.k ∧ N.k ≤ 8) ∧ 1 ≤ N.W ∧ 8 * (N.k * N.W) ≤ 2147483647
  lt : ∀ j, j < N.k → N.X j < 2305843009213693951 ∧ N.A j < 2305843009213693951 ∧ N.B j < 2305843009213693951
  ok : Sk.okC f
section
variable {w w' : World} {N : SlN} {f : Nat → Nat → Int}
theorem SlAt.keep {W : World} (h : SlAt W N f) (hb : Below W.heap.size W w) : SlAt w N f := by
  obtain ⟨C, h1, h2⟩ := h.hb
  exact ⟨⟨C, h1.keep hb, h2⟩, h.hg.keep hb, h.ne, h.bd, h.lt, h.ok⟩
theorem SlAt.fr {W : World} {F : Nat → Prop} (h : SlAt W N f) (hf : Fr F W w) (h1 : ¬ F N.b) (h2 : ¬ F N.g) : SlAt w N f := by
  obtain ⟨C, c1, c2⟩ := h.hb
  exact ⟨⟨C, c1.fr hf h1, c2⟩, h.hg.fr hf h2, h.ne, h.bd, h.lt, h.ok⟩
theorem SlAt.cells (h : SlAt w N f) : w.cell? ⟨N.b, 24, none⟩ = some (.slice none 0 0) ∧ w.cell? ⟨N.b, 25, none⟩ = some (.int .i64 (N.k : Int)) ∧ w.cell? ⟨N.b, 26, none⟩ = some (.int .i64 (N.W : Int)) ∧ w.cell? ⟨N.b, 27, none⟩ = some (.slice (some ⟨N.g, 0, none⟩) (N.k * N.W) (N.k * N.W)) := by
  obtain ⟨C, h1, h2⟩ := h.hb
  exact ⟨by rw [blk_cell h1]; exact h2.m, by rw [blk_cell h1]; exact h2.d, by rw [blk_cell h1]; exact h2.w, by rw [blk_cell h1]; exact h2.c⟩
theorem SlAt.row (h : SlAt w N f) {j : Nat} (hj : j < N.k) : w.cell? ⟨N.b, j * 3, none⟩ = some (.int .u64 (N.X j)) ∧ w.cell? ⟨N.b, j * 3 + 1, none⟩ = some (.int .u64 (N.A j)) ∧ w.cell? ⟨N.b, j * 3 + 2, none⟩ = some (.int .u64 (N.B j)) := by
  obtain ⟨C, h1, h2⟩ := h.hb
  have := h2.r j hj
  exact ⟨by rw [blk_cell h1]; exact this.1, by rw [blk_cell h1]; exact this.2.1, by rw [blk_cell h1]; exact this.2.2⟩
theorem SlN.P_lt (N : SlN) (hW : 1 ≤ N.W) (j : Nat) (s : ByteArray) : N.P j s < N.W := by
  have := plc_lt (Ha.hof (N.X j) (N.A j) (N.B j) s.data.toList) (n := (N.W : Int)) (by omega)
  rw [Int.toNat_natCast] at this
  exact this
theorem SlAt.count (h : SlAt w N f) {j p : Nat} (hj : j < N.k) (hp : p < N.W) : w.cell? ⟨N.g, j * N.W + p, none⟩ = some (.int .i64 (f j p)) := by
  rw [blk_cell h.hg, List.getElem?_toArray, List.getElem?_map, Sk.tab_get hj hp]; rfl
theorem three_set {w : World} {b : Nat} {t : TypeId} {a0 a1 a2 : Value} (hb : Blk w b t #[a0, a1, a2]) (x y z : Value) :
    ((w.setCell ⟨b, 0, none⟩ x).setCell ⟨b, 1, none⟩ y).setCell ⟨b, 2, none⟩ z = setObj w b (.cells #[x, y, z] t (0, 0)) := by
  have hl := lt_of_block hb
  rw [setCell_obj hb, setCell_in hl, setCell_in hl]
  simp only [List.setIfInBounds_toArray, List.set_cons_zero, List.set_cons_succ]
set_option maxHeartbeats 1000000 in
theorem srow_any (j : Nat) (w : World) (h : SlAt w N f) (hj : j < N.k) :
    Calls Try.prog 37 #[.pointer (some ⟨N.b, 0, none⟩), .int .i64 (j : Int)] w fun e w' => e = .returned (.agg #[.int .u64 (N.X j), .int .u64 (N.A j), .int .u64 (N.B j)]) ∧ Below w.heap.size w w' := by
  obtain ⟨w1, hw1, k1, l1, s1⟩ := box_new w #[.int .u64 0, .int .u64 0, .int .u64 0] 49
  obtain ⟨bx, hbx⟩ : ∃ bx, bx = w.heap.size := ⟨_, rfl⟩
  rw [← hbx] at k1
  obtain ⟨r0, r1, r2⟩ := (h.keep l1).row hj
  have KX := Lib.hid k1
  have L1 := Lib.hid l1
  have HB := Lib.hid hbx
  have kr := k1.rd
  have kw := k1.wr
  have hj8 : (j : Int) < 8 := by have := h.bd.1.2; omega
  have t1 : decide ((j : Int) < 8) = true := by rw [decide_eq_true_iff]; omega
  have n1 : N.b ≠ bx := fun e => by obtain ⟨C, c1, _⟩ := h.hb; have := lt_of_block c1; omega
  clear h hj k1 l1 s1
  go_enter Try.func37, Try.ntmps37
  go_upto_region 1 with (fail)
  rw [← HB.out]
  clear hw1 hbx
  go_wp2
  rw [three_set KX.out]
  refine bodyPost_ret (results_cell_row rfl _ _ bx _ _ (0, 0) _ rfl (setObj_at (lt_of_block KX.out) _) Try.underlying49 rfl (by kernel_rfl)) rfl ⟨rfl, L1.out.trans ((Fr.setObj (F := fun k => k = bx) (Fr.refl _ _) rfl _).below L1.out.size (fun k hk => by have := HB.out; omega))⟩
set_option maxHeartbeats 1000000 in
theorem sat_any (j : Nat) (s : ByteArray) (hs : s.size ≤ maxLen) (w : World) (h : SlAt w N f) (hj : j < N.k) :
    Calls Try.prog 29 #[.pointer (some ⟨N.b, 0, none⟩), .int .i64 (j : Int), .string s] w fun e w' => e = .returned (.int .i64 ((j * N.W + N.P j s : Nat) : Int)) ∧ Below w.heap.size w w' := by
  have CR := Lib.hid (fun wx (hb : Below w.heap.size w wx) => (srow_any j wx (h.keep hb) hj).mono (fun e w' hh => show e = _ ∧ w'.cell? ⟨N.b, 26, none⟩ = some (.int .i64 (N.W : Int)) ∧ Below w.heap.size w w' from ⟨hh.1, (h.keep (hb.trans (hh.2.mono hb.size))).cells.2.2.1, hb.trans (hh.2.mono hb.size)⟩))
  have hl := h.lt j hj
  have hbd := h.bd
  have CB := Lib.hid (fun wx (hb : Below w.heap.size w wx) => (bucket_any (N.X j) (N.A j) (N.B j) hl.1 hl.2.1 hl.2.2 s hs (N.W : Int) (by have : N.W ≤ N.k * N.W := Nat.le_mul_of_pos_left _ (by omega); omega) wx).mono (fun e w' hh => show e = .returned (.int .i64 (N.P j s : Nat)) ∧ w'.cell? ⟨N.b, 26, none⟩ = some (.int .i64 (N.W : Int)) ∧ Below w.heap.size w w' from ⟨hh.1, (h.keep (hb.trans (hh.2.mono hb.size))).cells.2.2.1, hb.trans (hh.2.mono hb.size)⟩))
  have hpl := N.P_lt hbd.2.1 j s
  have hat := Sk.at_lt hj hpl
  obtain ⟨m, hm⟩ : ∃ m, m = j * N.W := ⟨_, rfl⟩
  obtain ⟨p, hp⟩ : ∃ p, p = N.P j s := ⟨_, rfl⟩
  rw [← hm, ← hp] at hat ⊢
  rw [← hp] at CB
  have e1 : (j : Int) * (N.W : Int) = (m : Int) := by rw [hm, Int.natCast_mul]
  have e2 : IntKind.i64.wrap (m : Int) = (m : Int) := by rw [IntKind.wrap_i64]; omega
  have e3 : IntKind.i64.wrap ((m : Int) + (p : Int)) = ((m + p : Nat) : Int) := by rw [IntKind.wrap_i64]; omega
  have e4 : ((m + p : Nat) : Int) = (m : Int) + (p : Int) := by omega
  rw [e4] at e3 ⊢
  have k2 : w.drew.cell? ⟨N.b, 26, none⟩ = some (.int .i64 (N.W : Int)) := h.cells.2.2.1
  have y2 : Below w.heap.size w w.drew := below_draws (Below.refl _ _) 1
  clear h hj hl hbd hpl hat hm hp e4
  go_enter Try.func29, Try.ntmps29
  go_upto_region 1 with (fail)
  go_region_held3 (fun w' => w'.cell? ⟨N.b, 26, none⟩ = some (.int .i64 (N.W : Int))) (assumption)
    (first
      | (go_at_call 37; ((with_reducible refine (CR.out _ (by assumption)).mono ?_); rintro e wa ⟨rfl, z1, b1⟩))
      | (go_at_call 20; ((with_reducible refine (CB.out _ (by assumption)).mono ?_); rintro e wb ⟨rfl, z2, b2⟩)))
  go_wp2
  go_ret
  exact ⟨rfl, b2⟩
set_option maxHeartbeats 1000000 in
theorem scount_any (j : Nat) (s : ByteArray) (hs : s.size ≤ maxLen) (w : World) (h : SlAt w N f) (hj : j < N.k) :
    Calls Try.prog 18 #[.pointer (some ⟨N.b, 0, none⟩), .int .i64 (j : Int), .string s] w fun e w' => e = .returned (.int .i64 (f j (N.P j s))) ∧ Below w.heap.size w w' := by
  have hbd := h.bd
  have hpl := N.P_lt hbd.2.1 j s
  have hat := Sk.at_lt hj hpl
  have hc := fun (wx : World) (hb : Below w.heap.size w wx) => (h.keep hb).count hj hpl
  have CA := Lib.hid (fun wx (hb : Below w.heap.size w wx) => sat_any j s hs wx (h.keep hb) hj)
  obtain ⟨q, hq⟩ : ∃ q, q = j * N.W + N.P j s := ⟨_, rfl⟩
  obtain ⟨m, hm⟩ : ∃ m, m = N.k * N.W := ⟨_, rfl⟩
  obtain ⟨v, hv⟩ : ∃ v, v = f j (N.P j s) := ⟨_, rfl⟩
  rw [← hq] at CA hat
  rw [← hm] at hat
  simp only [← hq, ← hv] at hc
  rw [← hv]
  have SB := Lib.hid (fun wx (hb : Below w.heap.size w wx) => show wx.cell? ⟨N.b, 27, none⟩ = some (.slice (some ⟨N.g, 0, none⟩) m m) ∧ wx.cell? ⟨N.g, q, none⟩ = some (.int .i64 v) from ⟨by rw [hm]; exact (h.keep hb).cells.2.2.2, hc wx hb⟩)
  have kd := h.cells.2.1
  have t1 : (j : Int) < (N.k : Int) := by omega
  have t2 : (q : Int) < (m : Int) := by omega
  have t3 : decide ((j : Int) < 0) = false := by rw [decide_eq_false_iff_not]; omega
  have t4 : decide ((N.k : Int) ≤ (j : Int)) = false := by rw [decide_eq_false_iff_not]; omega
  have y2 : Below w.heap.size w w.drew := below_draws (Below.refl _ _) 1
  have k2 := SB.out _ y2
  clear h hj hbd hpl hat hc hq hm hv
  go_enter Try.func18, Try.ntmps18
  go_upto_region 3 with (fail)
  go_region_held3 (fun w' => w'.cell? ⟨N.b, 27, none⟩ = some (.slice (some ⟨N.g, 0, none⟩) m m) ∧ w'.cell? ⟨N.g, q, none⟩ = some (.int .i64 v)) (first | assumption | exact SB.out _ b1)
    (first
      | (go_at_call 29; ((with_reducible refine (CA.out _ y2).mono ?_); rintro e wa ⟨rfl, b0⟩; have b1 := y2.trans (b0.mono y2.size))))
  go_wp2
  go_ret
  exact ⟨rfl, b1⟩
theorem scount_z (z : Int) (j : Nat) (hz : z = (j : Int)) (s : ByteArray) (hs : s.size ≤ maxLen) (w : World) (h : SlAt w N f) (hj : j < N.k) :
    Calls Try.prog 18 #[.pointer (some ⟨N.b, 0, none⟩), .int .i64 z, .string s] w fun e w' => e = .returned (.int .i64 (f j (N.P j s))) ∧ Below w.heap.size w w' := by
  rw [hz]; exact scount_any j s hs w h hj
set_option maxHeartbeats 1000000 in
theorem scount_no (z : Int) (hz : -9223372036854775808 ≤ z ∧ z ≤ 9223372036854775807) (s : ByteArray) (w : World) (h : SlAt w N f) (ho : z < 0 ∨ (N.k : Int) ≤ z) :
    Calls Try.prog 18 #[.pointer (some ⟨N.b, 0, none⟩), .int .i64 z, .string s] w fun e w' => e = .returned (.int .i64 0) ∧ w = w' := by
  have kd := h.cells.2.1
  have hund : undef = Value.tuple #[] := rfl
  have hk := h.bd.1
  by_cases h0 : z < 0
  · have t3 : decide (z < 0) = true := by rw [decide_eq_true_iff]; omega
    clear h
    go_enter Try.func18, Try.ntmps18
    go_wp2
    go_ret
    exact ⟨rfl, rfl⟩
  · have t3 : decide (z < 0) = false := by rw [decide_eq_false_iff_not]; omega
    have t4 : decide ((N.k : Int) ≤ z) = true := by rw [decide_eq_true_iff]; omega
    clear h hund
    go_enter Try.func18, Try.ntmps18
    go_wp2
    go_ret
    exact ⟨rfl, rfl⟩
theorem scount_nil (z : Int) (s : ByteArray) (w : World) :
    Calls Try.prog 18 #[.pointer none, .int .i64 z, .string s] w fun e w' => e = .returned (.int .i64 0) ∧ w = w' := by
  have hund : undef = Value.tuple #[] := rfl
  go_enter Try.func18, Try.ntmps18
  go_wp2
  go_ret
  exact ⟨rfl, rfl⟩
theorem sleast_nil (s : ByteArray) (w : World) :
    Calls Try.prog 19 #[.pointer none, .string s] w fun e w' => e = .returned (.int .i64 0) ∧ w = w' := by
  go_enter Try.func19, Try.ntmps19
  go_wp2
  go_ret
  exact ⟨rfl, rfl⟩
set_option maxHeartbeats 1000000 in
theorem sleast_any (s : ByteArray) (hs : s.size ≤ maxLen) (w : World) (h : SlAt w N f) :
    Calls Try.prog 19 #[.pointer (some ⟨N.b, 0, none⟩), .string s] w fun e w' => e = .returned (.int .i64 (Sk.leastR f N.P s (N.k - 1))) ∧ Below w.heap.size w w' := by
  have hbd := h.bd
  have C0 := Lib.hid (fun wx (hb : Below w.heap.size w wx) => scount_z 0 0 rfl s hs wx (h.keep hb) (by omega))
  have CC := Lib.hid (fun (j : Nat) (hj : j < N.k) wx (hb : Below w.heap.size w wx) => scount_any j s hs wx (h.keep hb) hj)
  have HH := Lib.hid h
  have HK := Lib.hid hbd.1
  have hk8 : (N.k : Int) ≤ 8 := by omega
  clear h hbd
  go_enter Try.func19, Try.ntmps19
  go_wp2_with (go_at_call 18; ((with_reducible refine (C0.out _ (Below.refl _ _)).mono ?_); rintro e w1 ⟨rfl, b1⟩; have B1 := Lib.hid b1; clear b1))
  go_loopg [5, 6] (N.k - 1) (fun kk sl sr wr => ∃ r : Nat, r < N.k ∧ Hid (kk = N.k - 1 - r) ∧ sl = .int .i64 (Sk.leastR f N.P s r) ∧ sr = .int .i64 ((r : Int) + 1) ∧ Hid (Below w.heap.size w wr))
  case atStart => exact ⟨0, by have := HK.out; omega, Lib.hid rfl, rfl, rfl, B1⟩
  case round =>
    obtain ⟨r, hr, HKK, rfl, rfl, HB⟩ := hrel
    have kd := (HH.out.keep HB.out).cells.2.1
    by_cases hlt : r + 1 < N.k
    · have c1 := CC.out (r + 1) hlt wr HB.out
      rw [show ((r + 1 : Nat) : Int) = (r : Int) + 1 by omega] at c1
      have CR := Lib.hid c1
      have hmin : min (Sk.leastR f N.P s r) (f (r + 1) (N.P (r + 1) s)) = Sk.leastR f N.P s (r + 1) := rfl
      obtain ⟨lv, hlv⟩ : ∃ lv, lv = Sk.leastR f N.P s r := ⟨_, rfl⟩
      obtain ⟨cv, hcv⟩ : ∃ cv, cv = f (r + 1) (N.P (r + 1) s) := ⟨_, rfl⟩
      obtain ⟨nv, hnv⟩ : ∃ nv, nv = Sk.leastR f N.P s (r + 1) := ⟨_, rfl⟩
      rw [← hlv, ← hcv, ← hnv] at hmin
      rw [← hcv] at CR
      rw [← hlv]
      have t1 : (r : Int) + 1 < (N.k : Int) := by omega
      have e1 : IntKind.i64.wrap ((r : Int) + 1 + 1) = ((r : Int) + 1) + 1 := by rw [IntKind.wrap_i64]; omega
      have HN := Lib.hid (And.intro hnv hlt)
      clear c1 hlv hcv hnv hlt
      go_wp2_with (go_at_call 18; ((with_reducible refine CR.out.mono ?_); rintro e w2 ⟨rfl, b2⟩; have B2 := Lib.hid (HB.out.trans (b2.mono HB.out.size)); clear b2))
      go_roundg (N.k - 1 - (r + 1))
      case measure => have := HKK.out; have := HN.out.2; omega
      case rel => exact ⟨r + 1, HN.out.2, Lib.hid rfl, by rw [HN.out.1], by go_num, B2⟩
    · have hrk : r = N.k - 1 := by omega
      have t1 : decide ((r : Int) + 1 < (N.k : Int)) = false := by rw [decide_eq_false_iff_not]; omega
      have t2 : ¬ ((r : Int) + 1 < (N.k : Int)) := by omega
      have HR := Lib.hid hrk
      clear hrk hlt
      go_wp2
      go_ret
      exact ⟨by show Ending.returned (.int .i64 (Sk.leastR f N.P s r)) = _; rw [HR.out], HB.out⟩
theorem SlAt.put {g : Nat → Nat → Int} (h : SlAt w N f) (hg : Sk.okC g) : SlAt (setObj w N.g (.cells (numC .i64 (Sk.tab g N.k N.W)) 2 (0, 0))) N g := by
  have hf : Fr (fun k => k = N.g) w (setObj w N.g (.cells (numC .i64 (Sk.tab g N.k N.W)) 2 (0, 0))) := Fr.setObj (F := fun k => k = N.g) (Fr.refl _ w) rfl _
  obtain ⟨C, c1, c2⟩ := h.hb
  exact ⟨⟨C, c1.fr hf h.ne, c2⟩, setObj_at (lt_of_block h.hg) _, h.ne, h.bd, h.lt, hg⟩
theorem sadd_nil (s : ByteArray) (c : Int) (w : World) :
    Calls Try.prog 17 #[.pointer none, .string s, .int .i64 c] w fun e w' => e = .returned (.tuple #[]) ∧ w = w' := by
  have hund : undef = Value.tuple #[] := rfl
  go_enter Try.func17, Try.ntmps17
  go_wp2
  exact bodyPost_ret (results_none rfl _ _ _) rfl ⟨rfl, rfl⟩
set_option maxHeartbeats 2000000 in
theorem sadd_any (s : ByteArray) (hs : s.size ≤ maxLen) (c : Int) (hc : -9223372036854775808 ≤ c ∧ c ≤ 9223372036854775807) (w : World) (h : SlAt w N f) :
    Calls Try.prog 17 #[.pointer (some ⟨N.b, 0, none⟩), .string s, .int .i64 c] w fun e w' => e = .returned (.tuple #[]) ∧ SlAt w' N (Sk.add f N.P N.k s c) ∧ Fr (fun k => k = N.g) w w' := by
  by_cases hc1 : c < 1
  · have e : Sk.add f N.P N.k s c = f := by unfold Sk.add; rw [if_pos hc1]
    rw [e]
    have t1 : decide (c < 1) = true := by rw [decide_eq_true_iff]; exact hc1
    have HH := Lib.hid h
    clear h e
    go_enter Try.func17, Try.ntmps17
    go_wp2
    exact bodyPost_ret (results_none rfl _ _ _) rfl ⟨rfl, HH.out, Fr.refl _ _⟩
  have t1 : decide (c < 1) = false := by rw [decide_eq_false_iff_not]; exact hc1
  have hl := h.ok.least N.P s (N.k - 1)
  have CL := Lib.hid (sleast_any s hs w h)
  have hcp := Sk.clamp_pos hl (c := c) (by omega)
  obtain ⟨lv, hlv⟩ : ∃ lv, lv = Sk.leastR f N.P s (N.k - 1) := ⟨_, rfl⟩
  rw [← hlv] at CL hl hcp
  have CS := Lib.hid (fun w => sum_any lv c (by unfold inR; omega) (by unfold inR; omega) w)
  obtain ⟨fl, hfl⟩ : ∃ fl, fl = clamp (lv + c) := ⟨_, rfl⟩
  rw [← hfl] at CS hcp
  have e : Sk.add f N.P N.k s c = Sk.raise f N.P s fl N.k := by unfold Sk.add; rw [if_neg hc1, hfl, hlv]
  rw [e]
  have hbd := h.bd
  have HH := Lib.hid h
  have HK := Lib.hid (And.intro hbd (show 0 ≤ fl ∧ fl ≤ 9223372036854775807 by omega))
  have hk8 : (N.k : Int) ≤ 8 := by omega
  clear h hbd hl hlv hfl hcp e hc1
  go_enter Try.func17, Try.ntmps17
  go_upto_region 2 with (first
    | (go_at_call 19; ((with_reducible refine CL.out.mono ?_); rintro e w1 ⟨rfl, b1⟩; have B1 := Lib.hid b1; have H1 := Lib.hid (HH.out.keep b1); clear b1))
    | (go_at_call 28; ((with_reducible refine (CS.out _).mono ?_); rintro e w2 hh; (try obtain ⟨rfl, rfl⟩ := hh))))
  have kd := H1.out.cells.2.1
  clear CL CS HH
  go_wp2
  go_loopg [24] N.k (fun kk si wr => ∃ r : Nat, r ≤ N.k ∧ Hid (kk = N.k - r) ∧ si = .int .i64 (r : Int) ∧ Hid (SlAt wr N (Sk.raise f N.P s fl r)) ∧ Hid (Fr (fun k => k = N.g) w wr))
  case atStart => exact ⟨0, by omega, Lib.hid rfl, rfl, Lib.hid (by rw [Sk.raise_zero]; exact H1.out), Lib.hid (Fr.of_below B1.out)⟩
  case round =>
    obtain ⟨r, hr, HKK, rfl, HS, HF⟩ := hrel
    clear kd
    by_cases hlt : r < N.k
    · have hpl := N.P_lt HK.out.1.2.1 r s
      have hat := Sk.at_lt hlt hpl
      have CA := Lib.hid (sat_any r s hs wr HS.out hlt)
      have hcc := fun (wx : World) (hb : Below wr.heap.size wr wx) => (HS.out.keep hb).count hlt hpl
      have h27 := fun (wx : World) (hb : Below wr.heap.size wr wx) => (HS.out.keep hb).cells.2.2.2
      rw [Sk.raise_at] at hcc
      have hok := HS.out.ok r (N.P r s)
      rw [Sk.raise_at] at hok
      obtain ⟨q, hq⟩ : ∃ q, q = r * N.W + N.P r s := ⟨_, rfl⟩
      obtain ⟨m, hm⟩ : ∃ m, m = N.k * N.W := ⟨_, rfl⟩
      obtain ⟨v, hv⟩ : ∃ v, v = f r (N.P r s) := ⟨_, rfl⟩
      obtain ⟨mx, hmx⟩ : ∃ mx, mx = max v fl := ⟨_, rfl⟩
      have hset : (Sk.tab (Sk.raise f N.P s fl r) N.k N.W).set q mx = Sk.tab (Sk.raise f N.P s fl (r + 1)) N.k N.W := by
        rw [hq, Sk.tab_set hlt hpl, hmx, hv, Sk.raise_up]
      rw [← hq] at CA hat
      rw [← hm] at hat
      simp only [← hq, ← hv] at hcc
      rw [← hm] at h27
      rw [← hv] at hok
      have SB := Lib.hid (fun wx (hb : Below wr.heap.size wr wx) => show wx.cell? ⟨N.b, 27, none⟩ = some (.slice (some ⟨N.g, 0, none⟩) m m) ∧ wx.cell? ⟨N.g, q, none⟩ = some (.int .i64 v) from ⟨h27 wx hb, hcc wx hb⟩)
      have HC := Lib.hid (And.intro hset (And.intro hlt (show Sk.okC (Sk.raise f N.P s fl (r + 1)) from by
        have := HS.out.ok
        intro j p
        have h1 := congrFun (congrFun (Sk.raise_up f N.P s fl r) j) p
        rw [← h1]
        split
        · rw [← hv]; have := HK.out.2; omega
        · exact this j p)))
      have hmax : max v fl = mx := hmx.symm
      have hmax2 : (if v < fl then fl else v) = mx := by rw [hmx]; split <;> omega
      have t2 : (r : Int) < (N.k : Int) := by omega
      have t3 : (q : Int) < (m : Int) := by omega
      clear hpl hat hcc h27 hok hq hm hv hmx hset
      go_upto_region 6 with (go_at_call 29; ((with_reducible refine CA.out.mono ?_); rintro e w3 ⟨rfl, b3⟩; have B3 := Lib.hid b3; clear b3))
      obtain ⟨k27, kq⟩ := SB.out _ B3.out
      have kgw := (HS.out.keep B3.out).hg.wr
      go_region
      rw [setCell_obj (HS.out.keep B3.out).hg, numC_set, HC.out.1]
      have S4 := Lib.hid ((HS.out.keep B3.out).put HC.out.2.2)
      have F4 := Lib.hid (Fr.setObj (HF.out.trans (Fr.of_below B3.out : Fr (fun k => k = N.g) wr w3)) rfl (.cells (numC .i64 (Sk.tab (Sk.raise f N.P s fl (r + 1)) N.k N.W)) 2 (0, 0)))
      generalize (setObj w3 N.g (.cells (numC .i64 (Sk.tab (Sk.raise f N.P s fl (r + 1)) N.k N.W)) 2 (0, 0))) = w5 at S4 F4 ⊢
      have D5 := Lib.hid (show Below w5.heap.size w5 w5.drew from below_draws (Below.refl _ _) 1)
      generalize w5.drew = w6 at D5 ⊢
      go_wp2
      go_roundg (N.k - (r + 1))
      case measure => have := HKK.out; have := HC.out.2.1; omega
      case rel => exact ⟨r + 1, HC.out.2.1, Lib.hid rfl, by go_num, Lib.hid (S4.out.keep D5.out), Lib.hid (F4.out.trans (Fr.of_below D5.out))⟩
    · have hrk : r = N.k := by omega
      have t2 : ¬ ((r : Int) < (N.k : Int)) := by omega
      have HR := Lib.hid hrk
      clear hrk hlt
      go_wp2
      go_end0
      have hs := HS.out
      rw [HR.out] at hs
      exact ⟨rfl, hs, HF.out⟩
theorem sclear_nil (w : World) :
    Calls Try.prog 16 #[.pointer none] w fun e w' => e = .returned (.tuple #[]) ∧ w = w' := by
  go_enter Try.func16, Try.ntmps16
  go_wp2
  go_end0
  exact ⟨rfl, rfl⟩
theorem splice_all : ∀ (l m : List Int) (o : Nat) (pre : List Int), pre.length = o → l.length = m.length → splice (pre ++ l) o m = pre ++ m
  | [], [], o, pre, _, _ => by unfold splice; rfl
  | a :: l, b :: m, o, pre, hp, hl => by
    have ih := splice_all l m (o + 1) (pre ++ [b]) (by simp [hp]) (by simpa using hl)
    unfold splice
    rw [show (pre ++ a :: l).set o b = (pre ++ [b]) ++ l by
      rw [List.set_append_right _ _ (by omega), hp, Nat.sub_self]; simp]
    rw [ih]; simp
  | [], _ :: _, _, _, _, h => by simp at h
  | _ :: _, [], _, _, _, h => by simp at h
theorem sclear_any (w : World) (h : SlAt w N f) :
    Calls Try.prog 16 #[.pointer (some ⟨N.b, 0, none⟩)] w fun e w' => e = .returned (.tuple #[]) ∧ SlAt w' N (fun _ _ => 0) ∧ Fr (fun k => k = N.g) w w' := by
  obtain ⟨m, hm⟩ : ∃ m, m = N.k * N.W := ⟨_, rfl⟩
  have hm1 : 0 < m := by rw [hm]; exact Nat.mul_pos (by have := h.bd.1.1; omega) (by have := h.bd.2.1; omega)
  have hcl : (Builtin.clear_ #[54] 0 #[.slice (some ⟨N.g, 0, none⟩) m m]).run Try.prog w = .ok (.tuple #[]) (setObj w N.g (.cells (numC .i64 (Sk.tab (fun _ _ => 0) N.k N.W)) 2 (0, 0))) := by
    have := Lib.run_clear_slice (P := Try.prog) w 54 2 0 (.int .i64 0) Try.underlying54 (fun w => by kernel_rfl) rfl rfl N.g 0 m m hm1
      (fun j hj => by rw [Nat.zero_add, blk_cell h.hg, List.getElem?_toArray, List.getElem?_map, List.getElem?_eq_getElem (by rw [Sk.tab_len]; omega)]; rfl) (fun j _ => blk_free h.hg)
    rw [this]
    congr 1
    have e := setCells_num (w := w) (b := N.g) (t := 2) .i64 (List.replicate m 0) (Sk.tab f N.k N.W) 0 h.hg
    rw [List.map_replicate] at e
    rw [e]
    have e2 := splice_all (Sk.tab f N.k N.W) (List.replicate m 0) 0 [] rfl (by rw [Sk.tab_len, List.length_replicate, hm])
    rw [List.nil_append, List.nil_append] at e2
    rw [e2, Sk.tab_zero, hm]
  have k27 := h.cells.2.2.2
  rw [← hm] at k27
  have HP := Lib.hid (h.put (g := fun _ _ => 0) (fun _ _ => by show (0:Int) ≤ 0 ∧ (0:Int) ≤ 9223372036854775807; omega))
  clear h hm
  go_enter Try.func16, Try.ntmps16
  go_wp2
  go_end0
  exact ⟨rfl, HP.out, Fr.setObj (F := fun k => k = N.g) (Fr.refl _ _) rfl _⟩
end
end Go.Proofs.Ytmdkokehomboaaa
