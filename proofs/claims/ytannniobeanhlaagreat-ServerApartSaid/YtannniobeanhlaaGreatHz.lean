import Derived.Below
namespace Go.Proofs.YtannniobeanhlaaGreat
open Go.RowKit
theorem zhz {p : Prop} (h : p) : Hid p := h
theorem zeq {α : Sort _} (x : α) : ∃ z, z = x := ⟨x, rfl⟩
end Go.Proofs.YtannniobeanhlaaGreat
