/- The contracts of layer 4 (keys): what reads. -/
import Derived.Test.YtnpiimaapholiaaKy
namespace Go.Proofs.Ytnpiimaapholiaa
set_option linter.unusedSimpArgs false
set_option linter.unusedVariables false
open Go.ChangeShapes Go.WideShapes Go.ChangeAt Go.RowKit
theorem nums_str (s : ByteArray) : strOfNums (nums s) = s := by
  apply ByteArray.ext
  apply Array.ext'
  show (strOfNums (nums s)).data.toList = _
  rw [strOfNums_data]
  unfold nums
  rw [List.map_map]
  conv => rhs; rw [← List.map_id s.data.toList]
  exact List.map_congr_left (fun c _ => by simp)
section
variable {b gb gs gf n : Nat} {fl : List Nat} {K : Nat → Option ByteArray}
set_option maxHeartbeats 1000000 in
theorem at_any (i : Nat) (s : ByteArray) (w : World) (h : KeysIn w b gb gs gf n fl K) (hi : i < n) (hk : K i = some s) :
    Calls Try.prog 43 #[.pointer (some ⟨b, 0, none⟩), .int .i64 (i : Int)] w fun e w' => e = .returned (.slice (some ⟨gb, 64 * i, none⟩) s.size (64 * n - 64 * i)) ∧ Below w.heap.size w w' := by
  obtain ⟨bs, ss, fs, h⟩ := h
  have k := h.hb.rd
  have hn := h.n1
  have hs := (h.vb i s hk).1
  obtain ⟨q, hq⟩ : ∃ q, q = s.size + 1 := ⟨_, rfl⟩
  have k2 : w.cell? ⟨gs, i, none⟩ = some (.int .u8 (q : Int)) := by
    have e : sizeZ (K i) = (q : Int) := by rw [hk, hq]; rfl
    rw [blk_cell h.hgs, ← e, ← h.vs i hi]; exact numC_get _ _ _ (by rw [h.ls]; exact hi)
  obtain ⟨bg, hbg⟩ : ∃ bg, bg = 64 * i := ⟨_, rfl⟩
  obtain ⟨ex, hex⟩ : ∃ ex, ex = bg + q := ⟨_, rfl⟩
  obtain ⟨en, hen⟩ : ∃ en, en = bg + s.size := ⟨_, rfl⟩
  obtain ⟨cn, hcn⟩ : ∃ cn, cn = 64 * n := ⟨_, rfl⟩
  unfold storeC at k
  rw [← hcn] at k ⊢
  have e0 : (i : Int) * 64 = (bg : Int) := by omega
  have e1 : IntKind.i64.wrap (q : Int) = (q : Int) := by rw [IntKind.wrap_i64]; omega
  have e2 : IntKind.i64.wrap ((bg : Int) + (q : Int)) = (ex : Int) := by rw [IntKind.wrap_i64]; omega
  have e3 : IntKind.i64.wrap ((ex : Int) - 1) = (en : Int) := by rw [IntKind.wrap_i64]; omega
  have e4 : en - bg = s.size := by omega
  have t1 : (0 : Int) ≤ (i : Int) := by omega
  have t2 : (i : Int) < (n : Int) := by omega
  have t3 : (0 : Int) ≤ (bg : Int) := by omega
  have t4 : (bg : Int) ≤ (en : Int) := by omega
  have t5 : (en : Int) ≤ (cn : Int) := by omega
  have t6 : ¬ cn = bg := by omega
  have t7 : (cn : Int) ≤ 4194304 := by omega
  have t8 : bg ≤ en := by omega
  have t9 : en ≤ cn := by omega
  rw [← hbg]
  clear h hk hq hex hen hcn hbg hs
  go_enter Try.func43, Try.ntmps43
  go_wp2
  go_quiet (fail)
  go_wp2
  go_ret
  exact ⟨rfl, below_draws (Below.refl _ _) _⟩
/-- a key's bytes where they lie. -/
theorem at_rd {i : Nat} {s : ByteArray} {w : World} (h : KeysIn w b gb gs gf n fl K) (hi : i < n) (hk : K i = some s) : RdI w .u8 (some ⟨gb, 64 * i, none⟩) s.size (64 * n - 64 * i) (nums s) := by
  obtain ⟨bs, ss, fs, h⟩ := h
  have hv := h.vb i s hk
  have hn := h.n1
  have hl := h.lb
  refine ⟨nums_length s, by omega, by unfold maxLen; omega, fun h0 => ⟨gb, 64 * i, rfl, lt_of_block h.hgb, fun j hj => ?_⟩, fun z hz => u8_wf (nums_bd s z hz)⟩
  rw [blk_cell h.hgb, ← hv.2 j hj]
  exact numC_get _ _ _ (by omega)
theorem at_str {i : Nat} {s : ByteArray} {w : World} (h : KeysIn w b gb gs gf n fl K) (hi : i < n) (hk : K i = some s) : (convert 56 9 (.slice (some ⟨gb, 64 * i, none⟩) s.size (64 * n - 64 * i))).run Try.prog w = .ok (.string s) w := by
  have := conv_str (P := Try.prog) (dst := 9) Try.underlying56 Try.underlying5 Try.underlying9 (at_rd h hi hk)
  rw [nums_str] at this
  exact this
set_option maxHeartbeats 1000000 in
theorem key_yes (i : Nat) (s : ByteArray) (w : World) (h : KeysIn w b gb gs gf n fl K) (hi : i < n) (hk : K i = some s) :
    Calls Try.prog 31 #[.pointer (some ⟨b, 0, none⟩), .int .i64 (i : Int)] w fun e w' => e = .returned (.tuple #[.string s, .bool true]) ∧ Below w.heap.size w w' := by
  have c1 := has_any (i : Int) w h
  have e : hasB K n (i : Int) = true := by unfold hasB; simp [hk, hi]
  rw [e] at c1
  have c2 := at_any i s w h hi hk
  have cs := fun W (hb : Below w.heap.size w W) => at_str (h.keep hb) hi hk
  have C1 := Lib.hid c1
  have C2 := Lib.hid c2
  have CS := Lib.hid cs
  clear c1 c2 cs h hi hk e
  go_enter Try.func31, Try.ntmps31
  go_wp2_with (first
    | (go_at_call 42; ((with_reducible refine C1.out.mono ?_); rintro e w' ⟨rfl, rfl⟩))
    | (go_at_call 43; ((with_reducible refine C2.out.mono ?_); rintro e w2 ⟨rfl, b2⟩; have cs := CS.out _ b2; have B2 := Lib.hid b2; clear b2)))
  go_ret2
  exact ⟨rfl, B2.out⟩
theorem key_no (i : Int) (w : World) (h : KeysIn w b gb gs gf n fl K) (hk : hasB K n i = false) :
    Calls Try.prog 31 #[.pointer (some ⟨b, 0, none⟩), .int .i64 i] w fun e w' => e = .returned (.tuple #[.string ⟨#[]⟩, .bool false]) ∧ w = w' := by
  have c1 := has_any i w h
  rw [hk] at c1
  have C1 := Lib.hid c1
  clear c1 h hk
  go_enter Try.func31, Try.ntmps31
  go_wp2_with (go_at_call 42; ((with_reducible refine C1.out.mono ?_); rintro e w' ⟨rfl, rfl⟩))
  go_ret2
  exact ⟨rfl, rfl⟩
/-- is that a place's key? -/
def isB (K : Nat → Option ByteArray) (n : Nat) (i : Int) (s : ByteArray) : Bool := decide (0 ≤ i) && (decide (i < (n : Int)) && (match K i.toNat with | none => false | some t => t.toList == s.toList))
set_option maxHeartbeats 1000000 in
theorem is_any (i : Int) (s : ByteArray) (w : World) (h : KeysIn w b gb gs gf n fl K) :
    Calls Try.prog 50 #[.pointer (some ⟨b, 0, none⟩), .int .i64 i, .string s] w fun e w' => e = .returned (.bool (isB K n i s)) ∧ Below w.heap.size w w' := by
  have c1 := has_any i w h
  cases hh : hasB K n i with
  | false =>
    rw [hh] at c1
    have e : isB K n i s = false := by
      unfold hasB at hh; unfold isB
      cases h1 : decide (0 ≤ i) <;> cases h2 : decide (i < (n : Int)) <;> simp_all
    rw [e]
    have C1 := Lib.hid c1
    clear c1 h hh e
    go_enter Try.func50, Try.ntmps50
    go_wp2_with (go_at_call 42; ((with_reducible refine C1.out.mono ?_); rintro e w' ⟨rfl, rfl⟩))
    go_ret
    exact ⟨rfl, Below.refl _ _⟩
  | true =>
    rw [hh] at c1
    have h3 : 0 ≤ i ∧ i < (n : Int) ∧ (K i.toNat).isSome = true := by
      unfold hasB at hh; simpa using hh
    obtain ⟨h4, h5, h6⟩ := h3
    obtain ⟨j, rfl⟩ : ∃ j : Nat, i = (j : Int) := ⟨i.toNat, by omega⟩
    rw [Int.toNat_natCast] at h6
    obtain ⟨t, ht⟩ := Option.isSome_iff_exists.1 h6
    have hj : j < n := by omega
    have c2 := at_any j t w h hj ht
    have cs := fun W (hb : Below w.heap.size w W) => at_str (h.keep hb) hj ht
    have e : isB K n (j : Int) s = (t.toList == s.toList) := by unfold isB; simp [ht, hj]
    rw [e]
    have C1 := Lib.hid c1
    have C2 := Lib.hid c2
    have CS := Lib.hid cs
    clear c1 c2 cs h hh h4 h5 h6 ht e
    go_enter Try.func50, Try.ntmps50
    go_wp2_with (first
      | (go_at_call 42; ((with_reducible refine C1.out.mono ?_); rintro e w' ⟨rfl, rfl⟩))
      | (go_at_call 43; ((with_reducible refine C2.out.mono ?_); rintro e w2 ⟨rfl, b2⟩; have cs := CS.out _ b2; have B2 := Lib.hid b2; clear b2)))
    go_ret
    exact ⟨rfl, B2.out⟩
end
end Go.Proofs.Ytnpiimaapholiaa
