/- The order of rules and keys; sums of stretches. -/
import Derived.Test.YteeinckmmbdfoaaAuL
import Derived.Laws.Strings
import Derived.Sort.LotA
import Derived.Lib.Small
import Derived.Shelf.SlSortCmp.NoneTotal
namespace Go.Proofs.Yteeinckmmbdfoaa
set_option linter.unusedSimpArgs false
set_option linter.unusedVariables false
set_option maxRecDepth 100000
open Go Go.RowKit
open Go.Sort (SWO)
theorem less_eq : ∀ (x y : List UInt8), Op.bytesLess x y = decide (x < y)
  | [], [] => by simp [Op.bytesLess]
  | _ :: _, [] => by simp [Op.bytesLess]
  | [], _ :: _ => by simp [Op.bytesLess]
  | a :: x, b :: y => by
    rw [Op.bytesLess, less_eq x y]
    simp only [List.cons_lt_cons_iff]
    by_cases h1 : a < b <;> by_cases h2 : a = b <;> by_cases h3 : x < y <;> simp [h1, h2, h3]
theorem less_swo : SWO (fun x y : List UInt8 => Op.bytesLess x y) := by
  have h : (fun x y : List UInt8 => Op.bytesLess x y) = Go.Sort.ltStr := by
    funext x y
    exact less_eq x y
  rw [h]
  exact Go.Sort.swo_ltStr
theorem less_anti {x y : List UInt8} (h1 : Op.bytesLess x y = false) (h2 : Op.bytesLess y x = false) : x = y := by
  rw [less_eq, decide_eq_false_iff_not] at h1 h2
  exact List.le_antisymm (List.not_lt.1 h2) (List.not_lt.1 h1)
/-- rules first, then keys. -/
def whoLt (x y : Who) : Bool := decide (x.r < y.r) || (decide (x.r = y.r) && Op.bytesLess x.s.toList y.s.toList)
theorem whoLt_iff (x y : Who) : whoLt x y = true ↔ x.r < y.r ∨ (x.r = y.r ∧ Op.bytesLess x.s.toList y.s.toList = true) := by
  unfold whoLt; simp
theorem whoLt_no (x y : Who) : whoLt x y = false ↔ y.r < x.r ∨ (x.r = y.r ∧ Op.bytesLess x.s.toList y.s.toList = false) := by
  rw [← Bool.not_eq_true, whoLt_iff]
  constructor
  · intro h
    by_cases e : x.r = y.r
    · exact .inr ⟨e, by rw [← Bool.not_eq_true]; exact fun g => h (.inr ⟨e, g⟩)⟩
    · left
      have : ¬ x.r < y.r := fun g => h (.inl g)
      omega
  · rintro (h | ⟨h, g⟩) (q | ⟨q, r⟩)
    · omega
    · omega
    · omega
    · rw [g] at r; cases r
theorem whoLt_swo : SWO whoLt where
  irrefl x := (whoLt_no x x).2 (.inr ⟨rfl, less_swo.irrefl _⟩)
  trans x y z h1 h2 := by
    rw [whoLt_iff] at *
    rcases h1 with h1 | ⟨h1, g1⟩ <;> rcases h2 with h2 | ⟨h2, g2⟩
    · left; omega
    · left; omega
    · left; omega
    · exact .inr ⟨by omega, less_swo.trans _ _ _ g1 g2⟩
  ntrans x y z h1 h2 := by
    rw [whoLt_no] at *
    rcases h1 with h1 | ⟨h1, g1⟩ <;> rcases h2 with h2 | ⟨h2, g2⟩
    · left; omega
    · left; omega
    · left; omega
    · exact .inr ⟨by omega, less_swo.ntrans _ _ _ g1 g2⟩
theorem toList_inj {a b : ByteArray} (h : a.toList = b.toList) : a = b := by
  rw [ByteArray.toList_eq, ByteArray.toList_eq] at h
  exact ByteArray.ext (Array.toList_inj.1 h)
theorem whoLt_tot {x y : Who} (h1 : whoLt x y = false) (h2 : whoLt y x = false) : x = y := by
  rw [whoLt_no] at h1 h2
  rcases h1 with h1 | ⟨h1, g1⟩ <;> rcases h2 with h2 | ⟨h2, g2⟩
  · omega
  · omega
  · omega
  · exact Who.ext h1 (toList_inj (less_anti g1 g2))
def cfS (a b : ByteArray) : Int := if Op.bytesLess a.toList b.toList = true then -1 else if Op.bytesLess b.toList a.toList = true then 1 else 0
def cfW (x y : Who) : Int := if x.r = y.r then cfS x.s y.s else Lib.compareInt x.r y.r
theorem ltW : Go.Proofs.ltOf cfW = whoLt := by
  funext x y
  unfold Go.Proofs.ltOf
  rw [Bool.eq_iff_iff, whoLt_iff, decide_eq_true_iff]
  unfold cfW cfS Lib.compareInt
  by_cases e : x.r = y.r
  · rw [if_pos e]
    by_cases g : Op.bytesLess x.s.toList y.s.toList = true
    · rw [if_pos g]; exact ⟨fun _ => .inr ⟨e, g⟩, fun _ => by omega⟩
    · rw [if_neg g]
      constructor
      · intro h; split at h <;> omega
      · rintro (h | ⟨_, h⟩)
        · omega
        · exact absurd h g
  · rw [if_neg e]
    by_cases g : x.r < y.r
    · rw [if_pos g]; exact ⟨fun _ => .inl g, fun _ => by omega⟩
    · rw [if_neg g]
      constructor
      · intro h; split at h <;> omega
      · rintro (h | ⟨h, _⟩) <;> omega
def cfG (x y : Int × Int) : Int := Lib.compareInt x.1 y.1
theorem ltG : Go.Proofs.ltOf cfG = fun x y => decide (x.1 < y.1) := by
  funext x y
  unfold Go.Proofs.ltOf cfG Lib.compareInt
  by_cases h1 : x.1 < y.1
  · simp [h1]
  · by_cases h2 : y.1 < x.1 <;> simp [h1, h2]
theorem swoG : SWO (Go.Proofs.ltOf cfG) := by
  rw [ltG]
  exact ⟨fun x => by simp, fun x y z h1 h2 => by simp at *; omega, fun x y z h1 h2 => by simp at *; omega⟩
instance : Inhabited Who := ⟨⟨0, ⟨#[]⟩, by decide, by unfold maxLen; decide⟩⟩
/-- a list of keys that rises strictly is told by what is in it. -/
theorem rising_eq {L M : List Who} (hL : L.Pairwise (fun x y => whoLt x y = true)) (hM : M.Pairwise (fun x y => whoLt x y = true)) (h : ∀ k, k ∈ L ↔ k ∈ M) : L = M := by
  have nd : ∀ {L : List Who}, L.Pairwise (fun x y => whoLt x y = true) → L.Nodup := fun h => h.imp (fun {a b} g e => by rw [e, whoLt_swo.irrefl] at g; cases g)
  refine List.Perm.eq_of_pairwise (le := fun x y => whoLt x y = true) ?_ hL hM ?_
  · intro a b _ _ h1 h2
    have := whoLt_swo.trans _ _ _ h1 h2
    rw [whoLt_swo.irrefl] at this
    cases this
  · exact (List.perm_ext_iff_of_nodup (nd hL) (nd hM)).2 h
end Go.Proofs.Yteeinckmmbdfoaa
