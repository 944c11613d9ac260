/- Layer 20 (audit): the laws' example. -/
import Derived.Test.YteeinckmmbdfoaaAuE
namespace Go.Proofs.Yteeinckmmbdfoaa
set_option linter.unusedSimpArgs false
set_option linter.unusedVariables false
set_option maxRecDepth 100000
open Go.ChangeShapes Go.WideShapes Go.ChangeAt Go.RowKit Go.Maps
theorem most_of {len : Int} {l : List (Int × Int)} {v u : Int} (h : IsMost len l v) (hs : l.Pairwise (fun x y => x.1 ≤ y.1)) (hc : costs l) (hu : mostS len l = u) : v = u := by
  rw [← hu]
  exact h.eq (mostS_most (List.Perm.refl l) hs hc) (fun _ _ => rfl)
def kA : Who := ⟨0, ⟨#[97]⟩, by decide, by unfold maxLen; decide⟩
theorem add_a (a c : Int) (w : World) {b m n : Nat} {V : VM} {G : GM} (h : LedAt w b m n V G) (hc : n < 1000) (hn : (G kA).length < 1000) :
    Calls Try.prog 10 #[.pointer (some ⟨b, 0, none⟩), .agg #[.int .i64 0, .string ⟨#[97]⟩], .int .i64 a, .int .i64 c] w fun e w' => e = .returned (.tuple #[]) ∧ ∃ v',
      LedAt w' b m (cntV V kA n) (putV V kA v') (updG G kA (G kA ++ [(a, c)])) ∧ Fr (LedAll b m V) w w' ∧ ∀ g, LedAll b m (putV V kA v') g → LedAll b m V g ∨ w.heap.size ≤ g := ledadd_any kA a c w h hc hn
theorem most_a (len : Int) (hl : 1 ≤ len ∧ len ≤ 1000) (w : World) {b m n : Nat} {V : VM} {G : GM} (h : LedAt w b m n V G) {v0 : Value} (hv : V kA = some v0) (hc : costs (G kA)) (hn : (G kA).length ≤ 1000) :
    Calls Try.prog 13 #[.pointer (some ⟨b, 0, none⟩), .agg #[.int .i64 0, .string ⟨#[97]⟩], .int .i64 len] w fun e w' => MostPost len (G kA) w e w' := ledmost_some kA len hl w h hv hc hn
set_option maxHeartbeats 4000000 in
theorem lfit_any (w : World) : Calls Try.prog 7 #[] w fun e w' => e = .returned (.bool true) ∧ Below w.heap.size w w' := by
  go_enter Try.func7, Try.ntmps7
  go_upto_region 2 with (go_at_call 9; ((with_reducible refine (lednew_any _).mono ?_); rintro e w1 ⟨rfl, h1, b1⟩; have H1 := Lib.hid h1; have B1 := Lib.hid b1; clear h1 b1))
  obtain ⟨w2, hw2, k2, b2, s2⟩ := box_new w1 #[.int .i64 0, .string ⟨#[97]⟩] 31
  have H2 := Lib.hid (H1.out.keep b2)
  have B2 := Lib.hid (auB B1.out b2)
  obtain ⟨bx, hbx⟩ : ∃ z, z = w1.heap.size := ⟨_, rfl⟩
  have HBX := Lib.hid hbx
  rw [← hbx] at k2
  have K2 := Lib.hid k2
  obtain ⟨b, hb⟩ : ∃ z, z = w.heap.size + 1 := ⟨_, rfl⟩
  obtain ⟨m, hm⟩ : ∃ z, z = w.heap.size := ⟨_, rfl⟩
  have HBM := Lib.hid (And.intro hb hm)
  have HNX := Lib.hid (show ∀ g, LedAll b m (fun _ => none) g → g ≠ bx ∧ w.heap.size ≤ g ∧ g < bx from fun g hg => by
    have h1 := H1.out.lt g (by rw [← hb, ← hm]; exact hg)
    rcases hg with e | e | ⟨k, v, hv, _⟩
    · exact ⟨by omega, by omega, by omega⟩
    · exact ⟨by omega, by omega, by omega⟩
    · cases hv)
  have e1 := hb
  have e2 := hm
  rw [← hm] at e1
  rw [← hb, ← hm] at H2
  clear k2 b2 s2 hbx hb hm e1 e2
  go_upto_region 3 with (fail)
  rw [← HBX.out, ← HBM.out.1]
  clear hw2
  have k2r := K2.out.rd
  go_wp2_with (fail)
  refine (add_a 1 2 _ H2.out (by omega) (by simp)).mono ?_
  rintro e w3 ⟨rfl, v3, h3, f3, g3⟩
  have H3 := Lib.hid h3
  have K3 := Lib.hid (K2.out.fr f3 (fun e => (HNX.out bx e).1 rfl))
  have B3 := Lib.hid (B2.out.trans (f3.below B2.out.size (fun g hg => (HNX.out g hg).2.1)))
  have HN3 := Lib.hid (show ∀ g, LedAll b m (putV (fun _ => none) kA v3) g → g ≠ bx ∧ w.heap.size ≤ g from fun g hg => by
    rcases g3 g hg with q | q
    · exact ⟨(HNX.out g q).1, (HNX.out g q).2.1⟩
    · have h1 := lt_of_block K2.out
      have h2 := B2.out.size
      exact ⟨by omega, by omega⟩)
  clear h3 f3 g3 k2r
  have k3r := K3.out.rd
  go_wp2_with (fail)
  refine (add_a 3 2 _ H3.out (by unfold cntV; simp) (by rw [updG_self]; simp)).mono ?_
  rintro e w4 ⟨rfl, v4, h4, f4, g4⟩
  rw [updG_self] at h4
  have HGG : updG (updG (fun _ => []) kA ([] ++ [(1, 2)])) kA ([] ++ [(1, 2)] ++ [(3, 2)]) kA = [(1, 2), (3, 2)] := by rw [updG_self]; rfl
  have H4 := Lib.hid h4
  have K4 := Lib.hid (K3.out.fr f4 (fun e => (HN3.out bx e).1 rfl))
  have B4 := Lib.hid (B3.out.trans (f4.below B3.out.size (fun g hg => (HN3.out g hg).2)))
  have HG4 := Lib.hid HGG
  have hcs : costs [((1 : Int), (2 : Int)), (3, 2)] := by intro x hx; simp at hx; rcases hx with rfl | rfl <;> simp
  have HCS := Lib.hid hcs
  clear h4 f4 g4 k3r HGG hcs
  have k4r := K4.out.rd
  go_wp2_with (fail)
  refine (most_a 2 (by omega) _ H4.out (v0 := v4) (if_pos rfl) (by rw [HG4.out]; exact HCS.out) (by rw [HG4.out]; simp)).mono ?_
  rintro e w5 ⟨v, hv, rfl, b5⟩
  rw [HG4.out] at hv
  obtain rfl : v = 2 := most_of hv (by simp) HCS.out (by decide)
  have H5 := Lib.hid (H4.out.keep b5)
  have K5 := Lib.hid (K4.out.keep b5)
  have B5 := Lib.hid (auB B4.out b5)
  clear hv b5 k4r
  have k5r := K5.out.rd
  go_wp2_with (fail)
  refine (most_a 3 (by omega) _ H5.out (v0 := v4) (if_pos rfl) (by rw [HG4.out]; exact HCS.out) (by rw [HG4.out]; simp)).mono ?_
  rintro e w6 ⟨v, hv, rfl, b6⟩
  rw [HG4.out] at hv
  obtain rfl : v = 4 := most_of hv (by simp) HCS.out (by decide)
  have B6 := Lib.hid (auB B5.out b6)
  clear hv b6 k5r
  go_wp2
  go_ret
  exact ⟨rfl, B6.out⟩
end Go.Proofs.Yteeinckmmbdfoaa
