/- What the laws of layer 7 (ring) share: plans, gaps, light calls. -/
import Derived.Test.YthfaeapodfgldaaRgF
import Derived.Test.YthfaeapodfgldaaGen
namespace Go.Proofs.Ythfaeapodfgldaa
set_option linter.unusedSimpArgs false
set_option linter.unusedVariables false
open Go.ChangeShapes Go.WideShapes Go.ChangeAt Go.RowKit
open Ar (inR)
def plN (a : Int) : Nat := (a % 8).toNat + 1
def plS (b : Int) : Nat := (b % 32).toNat + 1
def plW (c : Int) : Nat := (c % 16).toNat + 1
def plL (d : Int) : Int := d % 64 + 1
theorem nine_setR {w : World} {b : Nat} {t : TypeId} {a0 a1 a2 a3 a4 a5 a6 a7 a8 : Value} (hb : Blk w b t #[a0, a1, a2, a3, a4, a5, a6, a7, a8]) (c0 c1 c2 c3 c4 c5 c6 c7 c8 : Value) :
    ((((((((w.setCell ⟨b, 0, none⟩ c0).setCell ⟨b, 1, none⟩ c1).setCell ⟨b, 2, none⟩ c2).setCell ⟨b, 3, none⟩ c3).setCell ⟨b, 4, none⟩ c4).setCell ⟨b, 5, none⟩ c5).setCell ⟨b, 6, none⟩ c6).setCell ⟨b, 7, none⟩ c7).setCell ⟨b, 8, none⟩ c8 = setObj w b (.cells #[c0, c1, c2, c3, c4, c5, c6, c7, c8] t (0, 0)) := by
  have hl := lt_of_block hb
  rw [setCell_obj hb]
  simp only [setCell_in hl, List.setIfInBounds_toArray, List.set_cons_zero, List.set_cons_succ]
set_option maxHeartbeats 1000000 in
theorem rgrule_any (a b c d : Int) (sm : Bool) (w : World) :
    Calls Try.prog 12 #[.agg #[.int .i64 a, .int .i64 b, .int .i64 c, .int .i64 d, .bool sm]] w fun e w' => e = .returned (rlV (plL d) ((plS b * plN a : Nat) : Int) 0 (plN a : Nat) 0 0 (plW c : Nat) 0 sm) ∧ Below w.heap.size w w' := by
  obtain ⟨n, hn⟩ : ∃ n, n = plN a := ⟨_, rfl⟩
  obtain ⟨s, hs⟩ : ∃ s, s = plS b := ⟨_, rfl⟩
  obtain ⟨W, hW⟩ : ∃ W, W = plW c := ⟨_, rfl⟩
  obtain ⟨l, hl⟩ : ∃ l, l = plL d := ⟨_, rfl⟩
  rw [← hn, ← hs, ← hW, ← hl]
  obtain ⟨n0, hn0⟩ : ∃ z, z = a % 8 := ⟨_, rfl⟩
  obtain ⟨s0, hs0⟩ : ∃ z, z = b % 32 := ⟨_, rfl⟩
  obtain ⟨c0, hc0⟩ : ∃ z, z = c % 16 := ⟨_, rfl⟩
  obtain ⟨d0, hd0⟩ : ∃ z, z = d % 64 := ⟨_, rfl⟩
  have e1 : bits .and .i64 a 7 = n0 := by rw [hn0]; exact i64_mask3 a
  have e2 : bits .and .i64 b 31 = s0 := by rw [hs0]; exact i64_mask5 b
  have e3 : bits .and .i64 c 15 = c0 := by rw [hc0]; exact i64_mask4 c
  have e4 : bits .and .i64 d 63 = d0 := by rw [hd0]; exact i64_mask6 d
  unfold plN at hn
  unfold plS at hs
  unfold plW at hW
  unfold plL at hl
  have f1 : IntKind.i64.wrap (n0 + 1) = (n : Int) := by rw [IntKind.wrap_i64]; omega
  have f2 : IntKind.i64.wrap (s0 + 1) = (s : Int) := by rw [IntKind.wrap_i64]; omega
  have f3 : IntKind.i64.wrap (c0 + 1) = (W : Int) := by rw [IntKind.wrap_i64]; omega
  have f4 : IntKind.i64.wrap (d0 + 1) = l := by rw [IntKind.wrap_i64]; omega
  have g1 : n ≤ 8 := by omega
  have g2 : s ≤ 32 := by omega
  obtain ⟨m, hm⟩ : ∃ m, m = s * n := ⟨_, rfl⟩
  have hmb : m ≤ 256 := by rw [hm]; exact Nat.le_trans (Nat.mul_le_mul g2 g1) (by decide)
  have f5 : (s : Int) * (n : Int) = (m : Int) := by rw [hm, Int.natCast_mul]
  have f6 : IntKind.i64.wrap (m : Int) = (m : Int) := by rw [IntKind.wrap_i64]; omega
  rw [← hm]
  obtain ⟨w1, hw1, k1, l1, s1⟩ := box_new w #[.int .i64 a, .int .i64 b, .int .i64 c, .int .i64 d, .bool sm] 23
  obtain ⟨w2, hw2, k2, l2, s2⟩ := box_new w1 (rlC 0 0 0 0 0 0 0 0 false) 29
  obtain ⟨b1, hb1⟩ : ∃ x, x = w.heap.size := ⟨_, rfl⟩
  obtain ⟨b2, hb2⟩ : ∃ x, x = w1.heap.size := ⟨_, rfl⟩
  have k1' := k1.keep l2
  rw [← hb1] at k1'
  rw [← hb2] at k2
  have kr1 := k1'.rd
  have kr2 := k2.rd
  have kw2 := k2.wr
  have K2 := Lib.hid k2
  have BL := Lib.hid (l1.trans (l2.mono l1.size))
  have HB := Lib.hid (And.intro hb1 (And.intro hb2 s1))
  clear hn hs hW hl hn0 hs0 hc0 hd0 g1 g2 hm hmb k1 k2 k1' l1 l2 s1 s2
  go_enter Try.func12, Try.ntmps12
  go_upto_region 1 with (fail)
  rw [← HB.out.1, ← HB.out.2.1]
  clear hw1 hw2 hb1 hb2
  go_wp2
  rw [nine_setR K2.out]
  refine bodyPost_ret (results_cell_row rfl _ _ b2 _ _ (0, 0) _ rfl (setObj_at (lt_of_block K2.out) _) Try.underlying29 rfl (by kernel_rfl)) rfl ⟨rfl, BL.out.trans ((Fr.setObj (F := fun k => k = b2) (Fr.refl _ _) rfl _).below BL.out.size (fun k hk => by have := HB.out; omega))⟩
theorem box9R (X : World) (c0 c1 c2 c3 c4 c5 c6 c7 c8 : Value) : ∃ w1 w2, X.alloc (.cells #[.int .i64 0, .int .i64 0, .int .i64 0, .int .i64 0, .int .i64 0, .int .i64 0, .int .i64 0, .int .i64 0, .bool false] 29) = w1 ∧
    (∀ j, w1.cell? ⟨X.heap.size, j, none⟩ = (#[.int .i64 0, .int .i64 0, .int .i64 0, .int .i64 0, .int .i64 0, .int .i64 0, .int .i64 0, .int .i64 0, .bool false] : Array Value)[j]?) ∧ (∀ j, w1.frozen? ⟨X.heap.size, j, none⟩ = false) ∧
    ((((((((w1.setCell ⟨X.heap.size, 0, none⟩ c0).setCell ⟨X.heap.size, 1, none⟩ c1).setCell ⟨X.heap.size, 2, none⟩ c2).setCell ⟨X.heap.size, 3, none⟩ c3).setCell ⟨X.heap.size, 4, none⟩ c4).setCell ⟨X.heap.size, 5, none⟩ c5).setCell ⟨X.heap.size, 6, none⟩ c6).setCell ⟨X.heap.size, 7, none⟩ c7).setCell ⟨X.heap.size, 8, none⟩ c8 = w2 ∧
    Below X.heap.size X w2 ∧ Blk w2 X.heap.size 29 #[c0, c1, c2, c3, c4, c5, c6, c7, c8] := by
  obtain ⟨w1, hw1, kc1, l1, s1⟩ := box_new X #[.int .i64 0, .int .i64 0, .int .i64 0, .int .i64 0, .int .i64 0, .int .i64 0, .int .i64 0, .int .i64 0, .bool false] 29
  exact ⟨w1, _, hw1, kc1.rd, kc1.wr, nine_setR kc1 c0 c1 c2 c3 c4 c5 c6 c7 c8, l1.trans ((Fr.setObj (F := fun k => k = X.heap.size) (Fr.refl _ _) rfl _).below l1.size (fun k hk => by omega)), setObj_at (lt_of_block kc1) _⟩
/-- how much later a call is. -/
def gapR (n : Int) : Int := if n % 2 = 1 then n / 2 % 4096 else n / 2 % 16
theorem gapR_bd (n : Int) : 0 ≤ gapR n ∧ gapR n ≤ 4095 := by unfold gapR; split <;> omega
set_option maxHeartbeats 400000 in
theorem rggap_any (n : Int) (w : World) : Calls Try.prog 15 #[.int .i64 n] w fun e w' => e = .returned (.int .i64 (gapR n)) ∧ w = w' := by
  obtain ⟨m, hm⟩ : ∃ m, m = n / 2 := ⟨_, rfl⟩
  obtain ⟨q, hq⟩ : ∃ q, q = n % 2 := ⟨_, rfl⟩
  have e1 : bits .and .i64 n 1 = q := by rw [G.i64_mask1, hq]
  obtain ⟨x, hx⟩ : ∃ x, x = m % 4096 := ⟨_, rfl⟩
  obtain ⟨y, hy⟩ : ∃ y, y = m % 16 := ⟨_, rfl⟩
  have e2 : bits .and .i64 m 4095 = x := by rw [i64_mask12, hx]
  have e3 : bits .and .i64 m 15 = y := by rw [i64_mask4, hy]
  have e0 : n / 2 = m := hm.symm
  have g : gapR n = if q = 1 then x else y := by unfold gapR; rw [← hq, ← hm, hx, hy]
  rw [g]
  by_cases h : q = 1
  · have t : (q == 1) = true := by simpa using h
    have gg : (if q = 1 then x else y) = x := if_pos h
    rw [gg]
    clear hm hq hx hy g h gg
    go_enter Try.func15, Try.ntmps15
    go_wp2
    go_ret
    exact ⟨rfl, rfl⟩
  · have t : (q == 1) = false := by simpa using h
    have gg : (if q = 1 then x else y) = y := if_neg h
    rw [gg]
    clear hm hq hx hy g h gg
    go_enter Try.func15, Try.ntmps15
    go_wp2
    go_ret
    exact ⟨rfl, rfl⟩
theorem box3R (X : World) (t : TypeId) (z0 z1 z2 a b c : Value) : ∃ w1 w2, X.alloc (.cells #[z0, z1, z2] t) = w1 ∧
    (∀ j, w1.cell? ⟨X.heap.size, j, none⟩ = (#[z0, z1, z2] : Array Value)[j]?) ∧ (∀ j, w1.frozen? ⟨X.heap.size, j, none⟩ = false) ∧
    ((w1.setCell ⟨X.heap.size, 0, none⟩ a).setCell ⟨X.heap.size, 1, none⟩ b).setCell ⟨X.heap.size, 2, none⟩ c = w2 ∧
    Below X.heap.size X w2 ∧ Blk w2 X.heap.size t #[a, b, c] := by
  obtain ⟨w1, hw1, kc1, l1, s1⟩ := box_new X #[z0, z1, z2] t
  exact ⟨w1, _, hw1, kc1.rd, kc1.wr, three_set kc1 a b c, l1.trans ((Fr.setObj (F := fun k => k = X.heap.size) (Fr.refl _ _) rfl _).below l1.size (fun k hk => by omega)), setObj_at (lt_of_block kc1) _⟩
/-- are calls light? -/
def lightR (L : List (Int × Int × ByteArray)) : Bool := decide (L.length ≤ 100) && L.all fun a => decide (a.2.2.size ≤ 100)
theorem lightR_pre {L : List (Int × Int × ByteArray)} (h : ¬ 100 < L.length) : lightR L = L.all fun a => decide (a.2.2.size ≤ 100) := by
  unfold lightR; rw [decide_eq_true (by omega)]; rfl
theorem allR_up {L : List (Int × Int × ByteArray)} {i : Nat} {a : Int × Int × ByteArray} (h : L[i]? = some a) (hs : a.2.2.size ≤ 100) (hp : ∀ j b, j < i → L[j]? = some b → b.2.2.size ≤ 100) : ∀ j b, j < i + 1 → L[j]? = some b → b.2.2.size ≤ 100 := by
  intro j b hj hb
  by_cases e : j = i
  · subst e; rw [h] at hb; cases hb; exact hs
  · exact hp j b (by omega) hb
set_option maxHeartbeats 1000000 in
theorem rglight_any (A : Option Addr) (n c : Nat) (L : List (Int × Int × ByteArray)) (w : World) (hr : RdL w A n c 3 encIIS L) (hok : ∀ a ∈ L, okIIS a) :
    Calls Try.prog 11 #[.slice A n c] w fun e w' => e = .returned (.bool (lightR L)) ∧ Below w.heap.size w w' := by
  have hmx := hr.max
  unfold maxLen at hmx
  have hcp := hr.cap
  have hlen := hr.len
  by_cases hn : 100 < n
  · have e : lightR L = false := by unfold lightR; rw [hlen, decide_eq_false (by omega)]; rfl
    rw [e]
    have t1 : decide ((100 : Int) < (n : Int)) = true := by rw [decide_eq_true_iff]; omega
    clear hr hok hlen e
    go_enter Try.func11, Try.ntmps11
    go_wp2
    go_ret
    exact ⟨rfl, Below.refl _ _⟩
  have HR := Lib.hid hr
  have HO := Lib.hid hok
  have HE := Lib.hid (lightR_pre (L := L) (by omega))
  have t1 : decide ((100 : Int) < (n : Int)) = false := by rw [decide_eq_false_iff_not]; omega
  have HLn := Lib.hid hlen
  clear hr hok hlen
  go_enter Try.func11, Try.ntmps11
  go_wp2
  go_loopg [10] n (fun kk si wr => ∃ i : Nat, i ≤ n ∧ Hid (kk = n - i) ∧ si = .int .i64 (i : Int) ∧ Hid (Below w.heap.size w wr) ∧ Hid (∀ j b, j < i → L[j]? = some b → b.2.2.size ≤ 100))
  case atStart => exact ⟨0, by omega, Lib.hid rfl, rfl, Lib.hid (Below.refl _ _), Lib.hid (fun j b h => absurd h (by omega))⟩
  case round =>
    obtain ⟨i, hi, HKK, rfl, HB, HA⟩ := hrel
    by_cases hin : i < n
    · obtain ⟨b, off, rfl, hbl, hc⟩ := (HR.out.below HB.out).at_ (by omega)
      obtain ⟨⟨gp, cs, ky⟩, ha⟩ : ∃ a, L[i]? = some a := ⟨_, List.getElem?_eq_getElem (by rw [HLn.out]; exact hin)⟩
      have hoka := HO.out _ (List.mem_of_getElem? ha)
      have kr0 : wr.cell? ⟨b, off + i * 3, none⟩ = some (.int .i64 gp) := hc i _ ha 0 (by omega)
      have kr1 : wr.cell? ⟨b, off + i * 3 + 1, none⟩ = some (.int .i64 cs) := hc i _ ha 1 (by omega)
      have kr2 : wr.cell? ⟨b, off + i * 3 + 2, none⟩ = some (.string ky) := hc i _ ha 2 (by omega)
      unfold okIIS maxLen at hoka
      simp only at hoka
      obtain ⟨_, _, hky⟩ := hoka
      obtain ⟨x1, x2, ex1, kr, kw, ex2, bl2, kc2⟩ := box3R wr 37 (.int .i64 0) (.int .i64 0) (.string ⟨#[]⟩) (.int .i64 gp) (.int .i64 cs) (.string ky)
      have BL := Lib.hid (HB.out.trans (bl2.mono HB.out.size))
      have kc3 := kc2.rd
      have t2 : (i : Int) < (n : Int) := by omega
      have t3 : (n : Int) ≤ 100 := by omega
      have HIA := Lib.hid (And.intro ha hin)
      clear hc hbl ha bl2 kc2
      go_upto_region 6 with (fail)
      clear kr kw ex1 kr0 kr1 kr2 ex2
      by_cases h1 : (100 : Int) < (ky.size : Int)
      · have H1 := Lib.hid h1
        go_wp2
        go_ret
        have e : lightR L = false := by
          rw [HE.out, List.all_eq_false]
          exact ⟨(gp, cs, ky), List.mem_of_getElem? HIA.out.1, by have := H1.out; simp; omega⟩
        exact ⟨by rw [e]; rfl, BL.out⟩
      · have H1 := Lib.hid h1
        go_wp2
        go_roundg (n - (i + 1))
        case measure => have := HKK.out; have := HIA.out.2; omega
        case rel => exact ⟨i + 1, HIA.out.2, Lib.hid rfl, by go_num, BL, Lib.hid (allR_up HIA.out.1 (by show ky.size ≤ 100; have := H1.out; omega) HA.out)⟩
    · have hie : i = n := by omega
      subst hie
      have e : lightR L = true := by
        rw [HE.out, List.all_eq_true]
        intro a ha
        obtain ⟨j, hj, he⟩ := List.getElem_of_mem ha
        have := HA.out j a (by have := HLn.out; omega) (by rw [List.getElem?_eq_getElem hj, he])
        simpa using this
      have HE2 := Lib.hid e
      clear e
      go_wp2
      go_ret
      exact ⟨by rw [HE2.out]; rfl, HB.out⟩
end Go.Proofs.Ythfaeapodfgldaa
