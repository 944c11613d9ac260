/- The example of layer 15 (outbuf). -/
import Derived.Test.YtblannbakejclaaObT
namespace Go.Proofs.Ytblannbakejclaa
open Go.ChangeShapes Go.WideShapes Go.ChangeAt Go.RowKit
theorem below_trans' {W0 w w' : World} (h : Below W0.heap.size W0 w) (b : Below w.heap.size w w') : Below W0.heap.size W0 w' := h.trans (b.mono h.size)
set_option maxHeartbeats 1000000 in
theorem fit_any (w : World) : Calls Try.prog 8 #[] w fun e w' => e = .returned (.bool true) ∧ Below w.heap.size w w' := by
  have c1 := fun w => new_yes 2 (by omega) (by omega) w
  have C1 := Lib.hid (show ∀ w, Calls Try.prog 9 #[.int .i64 2] w _ from c1)
  clear c1
  go_enter Try.func8, Try.ntmps8
  go_wp2_with (go_at_call 9; ((with_reducible refine (C1.out _).mono ?_); rintro e w1 ⟨rfl, hb, b1⟩; have HB := Lib.hid hb; have B1 := Lib.hid b1; clear hb b1))
  obtain ⟨x1, ex, nx, bx, sx⟩ := box_new w1 #[.int .u8 1, .int .u8 2, .int .u8 3] 5
  rw [ex]
  have r1 : RdI x1 .u8 (some ⟨w1.heap.size, 0, none⟩) 3 3 [1, 2, 3] := rd_blk (zs := [1, 2, 3]) nx rfl (by decide) (by decide)
  have h1 := HB.out.keep bx
  refine (put_no _ _ 2 [] _ 3 3 [1, 2, 3] x1 h1 r1 (by simp)).mono ?_
  rintro e w2 ⟨rfl, b2⟩
  have H2 := Lib.hid (h1.keep b2)
  have B2 := Lib.hid (below_trans' (below_trans' B1.out bx) b2)
  clear r1 h1 nx bx sx ex b2 HB B1
  go_wp2_with (fail)
  obtain ⟨x2, ex, nx, bx, sx⟩ := box_new w2 #[.int .u8 1] 5
  rw [ex]
  have r1 : RdI x2 .u8 (some ⟨w2.heap.size, 0, none⟩) 1 1 [1] := rd_blk (zs := [1]) nx rfl (by decide) (by decide)
  have h1 := H2.out.keep bx
  have hl := H2.out.lt
  refine (put_yes _ _ 2 [] _ 1 1 [1] x2 h1 r1 (by simp) (fun bs off _ he => by injection he with he; injection he with he; omega)).mono ?_
  rintro e w3 ⟨rfl, hb3, f3⟩
  have H3 := Lib.hid hb3
  have B3 := Lib.hid ((below_trans' B2.out bx).trans (f3.below (below_trans' B2.out bx).size (fun k hk => by omega)))
  clear r1 h1 nx bx sx ex f3 H2 B2 hl hb3
  go_wp2_with (first
    | (go_at_call 12; ((refine (len_any _ _ 2 [1] _ H3.out).mono ?_); rintro e w4 ⟨rfl, rfl⟩))
    | (go_at_call 13; ((refine (room_any _ _ 2 [1] _ H3.out).mono ?_); rintro e w5 ⟨rfl, b5⟩; have B5 := Lib.hid b5; clear b5)))
  go_ret
  exact ⟨rfl, B3.out.trans (B5.out.mono B3.out.size)⟩
end Go.Proofs.Ytblannbakejclaa
