/- The laws of layer 8 (summary): light calls. -/
import Derived.Test.YtnpiimaapholiaaSmU
import Derived.Test.YtnpiimaapholiaaRdL
import Derived.Test.YtnpiimaapholiaaLiftS
namespace Go.Proofs.Ytnpiimaapholiaa
set_option linter.unusedSimpArgs false
set_option linter.unusedVariables false
open Go.ChangeShapes Go.WideShapes Go.ChangeAt Go.RowKit
theorem box2 (X : World) (t : TypeId) (z0 z1 a b : Value) : ∃ w1 w2, X.alloc (.cells #[z0, z1] t) = w1 ∧
    (∀ j, w1.cell? ⟨X.heap.size, j, none⟩ = (#[z0, z1] : Array Value)[j]?) ∧ (∀ j, w1.frozen? ⟨X.heap.size, j, none⟩ = false) ∧
    (w1.setCell ⟨X.heap.size, 0, none⟩ a).setCell ⟨X.heap.size, 1, none⟩ b = w2 ∧
    Below X.heap.size X w2 ∧ Blk w2 X.heap.size t #[a, b] := by
  obtain ⟨w1, hw1, kc1, l1, s1⟩ := box_new X #[z0, z1] t
  have hl := lt_of_block kc1
  have hset : (w1.setCell ⟨X.heap.size, 0, none⟩ a).setCell ⟨X.heap.size, 1, none⟩ b = setObj w1 X.heap.size (.cells #[a, b] t (0, 0)) := by
    rw [setCell_obj kc1]
    simp only [setCell_in hl, List.setIfInBounds_toArray, List.set_cons_zero, List.set_cons_succ]
  exact ⟨w1, _, hw1, kc1.rd, kc1.wr, hset, l1.trans ((Fr.setObj (F := fun k => k = X.heap.size) (Fr.refl _ _) rfl _).below l1.size (fun k hk => by omega)), setObj_at hl _⟩
/-- are calls light? -/
def lightS (L : List (ByteArray × Int)) : Bool := decide (L.length ≤ 150) && L.all fun a => decide (a.1.size ≤ 100)
theorem lightS_pre {L : List (ByteArray × Int)} (h : ¬ 150 < L.length) : lightS L = L.all fun a => decide (a.1.size ≤ 100) := by
  unfold lightS; rw [decide_eq_true (by omega)]; rfl
theorem smS_up {L : List (ByteArray × Int)} {i : Nat} {a : ByteArray × Int} (h : L[i]? = some a) (hs : a.1.size ≤ 100) (hp : ∀ j b, j < i → L[j]? = some b → b.1.size ≤ 100) : ∀ j b, j < i + 1 → L[j]? = some b → b.1.size ≤ 100 := by
  intro j b hj hb
  by_cases e : j = i
  · subst e; rw [h] at hb; cases hb; exact hs
  · exact hp j b (by omega) hb
set_option maxHeartbeats 1000000 in
theorem smlight_any (A : Option Addr) (n c : Nat) (L : List (ByteArray × Int)) (w : World) (hr : RdL w A n c 2 encSI L) (hok : ∀ a ∈ L, okSI a) :
    Calls Try.prog 12 #[.slice A n c] w fun e w' => e = .returned (.bool (lightS L)) ∧ Below w.heap.size w w' := by
  have hmx := hr.max
  unfold maxLen at hmx
  have hcp := hr.cap
  have hlen := hr.len
  by_cases hn : 150 < n
  · have e : lightS L = false := by unfold lightS; rw [hlen, decide_eq_false (by omega)]; rfl
    rw [e]
    have t1 : decide ((150 : Int) < (n : Int)) = true := by rw [decide_eq_true_iff]; omega
    clear hr hok hlen e
    go_enter Try.func12, Try.ntmps12
    go_wp2
    go_ret
    exact ⟨rfl, Below.refl _ _⟩
  have HR := Lib.hid hr
  have HO := Lib.hid hok
  have HE := Lib.hid (lightS_pre (L := L) (by omega))
  have t1 : decide ((150 : Int) < (n : Int)) = false := by rw [decide_eq_false_iff_not]; omega
  have HLn := Lib.hid hlen
  clear hr hok hlen
  go_enter Try.func12, Try.ntmps12
  go_wp2
  go_loopg [10] n (fun kk si wr => ∃ i : Nat, i ≤ n ∧ Hid (kk = n - i) ∧ si = .int .i64 (i : Int) ∧ Hid (Below w.heap.size w wr) ∧ Hid (∀ j b, j < i → L[j]? = some b → b.1.size ≤ 100))
  case atStart => exact ⟨0, by omega, Lib.hid rfl, rfl, Lib.hid (Below.refl _ _), Lib.hid (fun j b h => absurd h (by omega))⟩
  case round =>
    obtain ⟨i, hi, HKK, rfl, HB, HA⟩ := hrel
    by_cases hin : i < n
    · obtain ⟨b, off, rfl, hbl, hc⟩ := (HR.out.below HB.out).at_ (by omega)
      obtain ⟨⟨ky, cs⟩, ha⟩ : ∃ a, L[i]? = some a := ⟨_, List.getElem?_eq_getElem (by rw [HLn.out]; exact hin)⟩
      have hoka := HO.out _ (List.mem_of_getElem? ha)
      have kr0 : wr.cell? ⟨b, off + i * 2, none⟩ = some (.string ky) := hc i _ ha 0 (by omega)
      have kr1 : wr.cell? ⟨b, off + i * 2 + 1, none⟩ = some (.int .i64 cs) := hc i _ ha 1 (by omega)
      unfold okSI maxLen at hoka
      simp only at hoka
      obtain ⟨hky, hcs⟩ := hoka
      obtain ⟨x1, x2, ex1, kr, kw, ex2, bl2, kc2⟩ := box2 wr 37 (.string ⟨#[]⟩) (.int .i64 0) (.string ky) (.int .i64 cs)
      have BL := Lib.hid (HB.out.trans (bl2.mono HB.out.size))
      have kc3 := kc2.rd
      have t2 : (i : Int) < (n : Int) := by omega
      have t3 : (n : Int) ≤ 150 := by omega
      have HIA := Lib.hid (And.intro ha hin)
      clear hc hbl ha bl2 kc2 hcs
      go_upto_region 6 with (fail)
      clear kr kw ex1 kr0 kr1 ex2
      by_cases h1 : (100 : Int) < (ky.size : Int)
      · have H1 := Lib.hid h1
        go_wp2
        go_ret
        have e : lightS L = false := by
          rw [HE.out, List.all_eq_false]
          exact ⟨(ky, cs), List.mem_of_getElem? HIA.out.1, by have := H1.out; simp; omega⟩
        exact ⟨by rw [e]; rfl, BL.out⟩
      · have H1 := Lib.hid h1
        go_wp2
        go_roundg (n - (i + 1))
        case measure => have := HKK.out; have := HIA.out.2; omega
        case rel => exact ⟨i + 1, HIA.out.2, Lib.hid rfl, by go_num, BL, Lib.hid (smS_up HIA.out.1 (by show ky.size ≤ 100; have := H1.out; omega) HA.out)⟩
    · have hie : i = n := by omega
      subst hie
      have e : lightS L = true := by
        rw [HE.out, List.all_eq_true]
        intro a ha
        obtain ⟨j, hj, he⟩ := List.getElem_of_mem ha
        have := HA.out j a (by have := HLn.out; omega) (by rw [List.getElem?_eq_getElem hj, he])
        simpa using this
      have HE2 := Lib.hid e
      clear e
      go_wp2
      go_ret
      exact ⟨by rw [HE2.out]; rfl, HB.out⟩
end Go.Proofs.Ytnpiimaapholiaa
