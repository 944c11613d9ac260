/- The contracts of layer 14 (decode): All. -/
import Derived.Test.YtaghookljjpllaaDcC
namespace Go.Proofs.Ytaghookljjpllaa
set_option linter.unusedSimpArgs false
set_option linter.unusedVariables false
open Go.ChangeShapes Go.WideShapes Go.ChangeAt Go.RowKit
/-- requests as they lie. -/
def rqC (q : Req) : List Value := [.int .i64 q.op, .int .i64 q.rule, .int .u32 q.cost, .string (strOfNums q.key), .int .i64 q.k]
def rqs : List Req → List Value
  | [] => []
  | q :: r => rqC q ++ rqs r
theorem rqs_length : ∀ l, (rqs l).length = l.length * 5
  | [] => rfl
  | q :: r => by rw [rqs, List.length_append, rqs_length r, List.length_cons]; simp [rqC]; omega
theorem rqs_app : ∀ l m, rqs (l ++ m) = rqs l ++ rqs m
  | [], _ => rfl
  | q :: r, m => by rw [List.cons_append, rqs, rqs, rqs_app r m, List.append_assoc]
theorem rqs_at : ∀ (l : List Req) (j : Nat) (h : j < l.length) (i : Nat), i < 5 → (rqs l)[j * 5 + i]? = (rqC l[j])[i]?
  | q :: r, 0, _, i, hi => by
    rw [rqs, Nat.zero_mul, Nat.zero_add, List.getElem?_append_left (by simp [rqC]; omega)]; rfl
  | q :: r, j + 1, h, i, hi => by
    have := rqs_at r j (by simpa using h) i hi
    rw [rqs, List.getElem?_append_right (by simp [rqC]; omega)]
    rw [show (j + 1) * 5 + i - (rqC q).length = j * 5 + i by simp [rqC]; omega]
    exact this
theorem infoReq : (Try.prog.info? 41).map (fun i => (i.zero, i.size, i.bytes)) = some (some (.agg #[.int .i64 0, .int .i64 0, .int .u32 0, .string ⟨#[]⟩, .int .i64 0]), 5, 48) := by kernel_rfl
end Go.Proofs.Ytaghookljjpllaa
