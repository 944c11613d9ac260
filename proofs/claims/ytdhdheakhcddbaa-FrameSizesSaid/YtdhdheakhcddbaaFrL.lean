/- The laws of layer 13 (frame), walked: the example, rules. -/
import Derived.Test.YtdhdheakhcddbaaFrF
import Derived.Test.YtdhdheakhcddbaaFrH
import Derived.Test.YtdhdheakhcddbaaFrK
import Derived.Test.YtdhdheakhcddbaaReq
namespace Go.Proofs.Ytdhdheakhcddbaa
set_option linter.unusedSimpArgs false
set_option linter.unusedVariables false
open Go.ChangeShapes Go.WideShapes Go.ChangeAt Go.RowKit
theorem rdI_take {w : World} {k : IntKind} {A : Option Addr} {n c : Nat} {z : List Int} (h : RdI w k A n c z) {m : Nat} (hm : m ≤ n) : RdI w k A m c (z.take m) := by
  have hl := h.len
  refine ⟨by rw [List.length_take]; omega, Nat.le_trans hm h.cap, h.max, fun h0 => ?_, fun x hx => h.wf x (List.mem_of_mem_take hx)⟩
  obtain ⟨b, off, e, hlt, hc⟩ := h.at_ (by omega)
  refine ⟨b, off, e, hlt, fun i hi => ?_⟩
  rw [hc i (by omega), getD_take hi]
theorem parse_x (A : Option Addr) (n c : Nat) (z : List Int) (rules : Int) (q : Req) (m e : Int) (w : World) (hr : RdI w .u8 A n c z) (h : parseZ z rules = (q, m, e)) :
    Calls Try.prog 18 #[.slice A n c, .int .i64 rules] w fun e' w' => e' = .returned (.tuple #[reqV q.op q.rule q.cost (strOfNums q.key) q.k, .int .i64 m, .int .i64 e]) ∧ Below w.heap.size w w' := by
  have := parse_any A n c z rules w hr
  rw [parsed_mk h] at this
  exact this
/-- a request's bytes, as what was made of them can be read. -/
theorem own_read {w : World} {base : Nat} {v : Value} {zs : List Int} (h : Own w base v zs) (hb : byt zs) (n : Nat) (hn : zs.length = n) (h1 : 0 < n) : ∃ g c, v = .slice (some ⟨g, 0, none⟩) n c ∧ RdI w .u8 (some ⟨g, 0, none⟩) n c zs ∧ base ≤ g ∧ g < w.heap.size := by
  subst hn
  obtain ⟨A, c, rfl, hr, hA⟩ := h.rd hb
  obtain ⟨g, rfl, ho⟩ := hA h1
  exact ⟨g, c, rfl, hr, (h.lt g ho).1, (h.lt g ho).2⟩
theorem ret_bool {a b : Bool} (h : a = b) : Ending.returned (.bool a) = .returned (.bool b) := by rw [h]
theorem str_neq (s t : ByteArray) (h : s = t) : (s.toList == t.toList) = true := by rw [h]; exact beq_self_eq_true _
set_option maxHeartbeats 1000000 in
theorem fit_any (w : World) : Calls Try.prog 12 #[] w fun e w' => e = .returned (.bool true) ∧ Below w.heap.size w w' := by
  have hp : rightP (mkR 3 0 0 ⟨#[]⟩ 0) 256 := ⟨⟨by decide, by decide, by decide⟩, .inr (.inl ⟨rfl, rfl, rfl, rfl⟩)⟩
  have hp1 : rightP (mkR 3 0 0 ⟨#[]⟩ 0) 1 := ⟨⟨by decide, by decide, by decide⟩, .inr (.inl ⟨rfl, rfl, rfl, rfl⟩)⟩
  have CE := Lib.hid (fun w => encode_any 3 0 0 0 ⟨#[]⟩ w hp ⟨by decide, by decide⟩)
  have CR := Lib.hid (fun w => (right_any 3 0 0 0 1 ⟨#[]⟩ w (by decide)).1 hp1)
  have HE := Lib.hid (show encZ (mkR 3 0 0 ⟨#[]⟩ 0) = [167, 1, 0, 2, 3, 0] from rfl)
  have HS := Lib.hid (show strOfNums [167, 1, 0, 2, 3, 0] = ⟨#[167, 1, 0, 2, 3, 0]⟩ from rfl)
  clear hp hp1
  have HB := Lib.hid (show byt [167, 1, 0, 2, 3, 0] from by intro z hz; simp at hz; omega)
  go_enter Try.func12, Try.ntmps12
  go_wp2_with (first
    | (go_at_call 16; ((with_reducible refine (CE.out _).mono ?_); rintro e w1 ⟨v, rfl, o1, b1⟩; rw [HE.out] at o1; obtain ⟨g, c, rfl, r1, _, _⟩ := own_read o1 HB.out 6 rfl (by decide); have hcv := conv_str (P := Try.prog) (src := 25) (dst := 9) (e := 5) (by rfl) (by rfl) (by rfl) r1; rw [HS.out] at hcv; have B1 := Lib.hid b1; clear o1 b1 r1))
    | (go_at_call 14; ((with_reducible refine (CR.out _).mono ?_); rintro e w2 ⟨rfl, b2⟩; have B2 := Lib.hid (B1.out.trans (b2.mono B1.out.size)); clear b2)))
  go_ret
  exact ⟨rfl, B2.out⟩
end Go.Proofs.Ytdhdheakhcddbaa
