/- The contracts of layer 20 (audit): sorting rows of the call's own; copies. -/
import Derived.Test.YteeinckmmbdfoaaAuS
namespace Go.Proofs.Yteeinckmmbdfoaa
set_option linter.unusedSimpArgs false
set_option linter.unusedVariables false
set_option maxRecDepth 100000
open Go.ChangeShapes Go.WideShapes Go.ChangeAt Go.RowKit Go.Maps
open Go.Shelf
open Go.Sort (SWO grow PermIn SortedIn alloc_eq_grow grow_grow mapBlock onCells putCells flatK get_flatK size_flatK HoldsK)
theorem get!_of {l : List Value} {i : Nat} {v : Value} (h : l[i]? = some v) : l[i]! = v := by
  rw [List.getElem!_eq_getElem?_getD, h]; rfl
section
variable {α : Type} [Inhabited α] {enc : α → List Value} {m : Nat} {w : World} {base g n cap : Nat} {e : TypeId} {L : List α}
theorem flat_get (he : ∀ a, (enc a).length = m) (hm : 0 < m) (d : Array α) (t : Nat) (h : t < d.size * m) : (flatK enc m d)[t]? = (rws enc d.toList)[t]? := by
  have hq : t / m < d.size := Nat.div_lt_of_lt_mul (by rw [Nat.mul_comm]; exact h)
  have hr := Nat.mod_lt t hm
  have ht : t / m * m + t % m = t := by rw [Nat.mul_comm]; exact Nat.div_add_mod t m
  have h1 := rws_get he d.toList (t / m) (t % m) d[t / m] (by simp [hq]) hr
  rw [ht] at h1
  have h2 := get_flatK enc m d t h
  have h3 : t < (flatK enc m d).size := by rw [size_flatK]; exact h
  rw [getElem!_pos _ t h3] at h2
  rw [Array.getElem?_eq_getElem h3, h2, h1, getElem!_pos d _ hq]
  have h4 : t % m < (enc d[t / m]).length := by rw [he]; exact hr
  rw [getElem!_pos (enc d[t / m]) (t % m) h4, List.getElem?_eq_getElem h4]
theorem own_holds (he : ∀ a, (enc a).length = m) (hm : 0 < m) (h : OwR w base e m enc (.slice (some ⟨g, 0, none⟩) n cap) L) (h0 : 0 < L.length) : HoldsK enc m w g 0 L.toArray := by
  intro j hj
  rw [size_flatK] at hj
  have h1 := flat_get he hm L.toArray j hj
  have hq : j / m < L.length := Nat.div_lt_of_lt_mul (by rw [Nat.mul_comm]; exact hj)
  have h2 := h.cell he (i := j / m) (List.getElem?_eq_getElem hq) (j := j % m) (Nat.mod_lt j hm)
  have h3 := rws_get he L (j / m) (j % m) _ (List.getElem?_eq_getElem hq) (Nat.mod_lt j hm)
  have ht : j / m * m + j % m = j := by rw [Nat.mul_comm]; exact Nat.div_add_mod j m
  rw [ht] at h2 h3
  have h4 : j < (flatK enc m L.toArray).size := by rw [size_flatK]; exact hj
  refine ⟨?_, by rw [Nat.zero_add]; exact h.wr h0 j⟩
  rw [Array.getElem?_eq_getElem h4] at h1
  rw [Nat.zero_add, h2, ← h3, getElem!_pos _ j h4]
  exact h1.symm
theorem sort_own (he : ∀ a, (enc a).length = m) (hm : 0 < m) (h : OwR w base e m enc (.slice (some ⟨g, 0, none⟩) n cap) L) (hn : n = L.length) (d : Array α) (hd : d.size = L.length) (q : Nat) (os : Array Obj) :
    OwR (sortWorldK enc m w g 0 q d os) base e m enc (.slice (some ⟨g, 0, none⟩) n cap) d.toList ∧ Fr (fun k => k = g) w (sortWorldK enc m w g 0 q d os) := by
  subst hn
  have hsz : ∀ (F : Array Value → Array Value), (mapBlock (Go.Sort.ahead w q) g F).heap.size = w.heap.size := fun F => by simp [mapBlock, Go.Sort.ahead]
  have hother : ∀ k, k < w.heap.size → k ≠ g → (sortWorldK enc m w g 0 q d os).heap[k]? = w.heap[k]? := by
    intro k hk hne
    show ((w.heap.modify g _) ++ os)[k]? = _
    rw [Array.getElem?_append_left (by simpa using hk), Array.getElem?_modify, if_neg (fun e => hne e.symm)]
  have hfr : Fr (fun k => k = g) w (sortWorldK enc m w g 0 q d os) := ⟨rfl, rfl, rfl, by
    show _ ≤ ((w.heap.modify g _) ++ os).size
    simp, fun k hk hne => hother k hk hne⟩
  refine ⟨?_, hfr⟩
  rcases h.2 with ⟨hv, _⟩ | ⟨g', c', cur, hv, hb, hg, hnc, hcm, hcs, htake⟩
  · cases hv
  · injection hv with h1 h2 h3
    injection h1 with h1
    injection h1 with h1
    subst h1 h3
    have hgl := lt_of_block hg
    have hlen : L.length * m ≤ cur.size := by rw [hcs]; exact Nat.mul_le_mul_right _ hnc
    have hnew : (sortWorldK enc m w g 0 q d os).heap[g]? = some (.cells (putCells id 0 (flatK enc m d) cur) e (0, 0)) := by
      show ((w.heap.modify g (onCells (putCells id 0 (flatK enc m d)))) ++ os)[g]? = _
      rw [Array.getElem?_append_left (by simpa using hgl), Array.getElem?_modify, if_pos rfl, hg]
      rfl
    have hdl : d.toList.length = L.length := by simpa using hd
    refine ⟨by rw [rws_length he], .inr ⟨g, cap, putCells id 0 (flatK enc m d) cur, by rw [hdl], hb, hnew, by rw [hdl]; exact hnc, hcm, by rw [putCells, Array.size_mapIdx]; exact hcs, ?_⟩⟩
    apply List.ext_getElem?
    intro t
    rw [hdl]
    by_cases ht : t < L.length * m
    · rw [List.getElem?_take_of_lt ht, Array.getElem?_toList, putCells, Array.getElem?_mapIdx, Array.getElem?_eq_getElem (by omega)]
      have h3 : t < (flatK enc m d).size := by rw [size_flatK, hd]; exact ht
      rw [Option.map_some, if_pos ⟨Nat.zero_le _, by omega⟩, Nat.sub_zero, getElem!_pos _ t h3, ← flat_get he hm d t (by rw [hd]; exact ht), Array.getElem?_eq_getElem h3]
      rfl
    · rw [List.getElem?_eq_none (by rw [List.length_take]; omega), List.getElem?_eq_none (by rw [rws_length he, hdl]; omega)]
/-- a sorted permutation, as lists. -/
theorem sorted_list {lt : α → α → Bool} {d : Array α} (hp : PermIn 0 L.length L.toArray d) (hs : SortedIn lt 0 L.length d) : d.size = L.length ∧ d.toList.Perm L ∧ d.toList.Pairwise (fun x y => lt y x = false) := by
  obtain ⟨h1, _, h3⟩ := hp
  have hsz : d.size = L.length := by rw [h1]; simp
  refine ⟨hsz, ?_, ?_⟩
  · have e1 : d.extract 0 L.length = d := by rw [← hsz]; exact Array.extract_size
    have e2 : L.toArray.extract 0 L.length = L.toArray := by
      have : L.length = L.toArray.size := by simp
      rw [this]; exact Array.extract_size
    rw [e1, e2] at h3
    simpa using h3
  · rw [List.pairwise_iff_getElem]
    intro i j hi hj hij
    have h := hs i j (Nat.zero_le _) hij (by rw [← hsz]; simpa using hj)
    rw [getElem!_pos d j (by simpa using hj), getElem!_pos d i (by simpa using hi)] at h
    simpa using h
end
theorem aggW : ∀ w, (isAgg 31).run Try.prog w = .ok true w := Try.isAgg31
theorem aggGr : ∀ w, (isAgg 45).run Try.prog w = .ok true w := Try.isAgg45
theorem szW : ∀ w, (Go.sizeOf 31).run Try.prog w = .ok 2 w := Try.sizeOf31
theorem szGr : ∀ w, (Go.sizeOf 45).run Try.prog w = .ok 2 w := Try.sizeOf45
/-- a row of keys is sorted. -/
theorem sortW_any (w : World) {base g n cap : Nat} {L : List Who} (h : OwR w base 31 2 encW (.slice (some ⟨g, 0, none⟩) n cap) L) (hn : n = L.length) (h0 : 0 < L.length) (hl : L.length ≤ 1000000) :
    Calls Try.prog 14 #[.slice (some ⟨g, 0, none⟩) n cap, .func (.func 15) #[] #[]] w fun e w' => e = .returned (.tuple #[]) ∧ ∃ L' : List Who, L'.Perm L ∧ L'.Pairwise (fun x y => whoLt y x = false) ∧ OwR w' base 31 2 encW (.slice (some ⟨g, 0, none⟩) n cap) L' ∧ Fr (fun k => k = g) w w' := by
  subst hn
  have eg : ∀ args w, (callFunc 15 args).run Try.prog w = .ok (.enter 15 args) w := enters_of Try.func15 (by kernel_rfl) rfl
  have hS := AnyQ.slices_SortFunc Try.sortWho 2 aggW szW encW encW_len (fun x v hv => by simp [encW] at hv; rcases hv with rfl | rfl <;> rfl) cfW (by rw [ltW]; exact whoLt_swo) 15 #[] g 0 cap L.toArray w eg (fun _ _ _ _ x y => closW x y _) (own_holds encW_len (by omega) h h0) (h.lt g rfl) (by simp; omega)
  rw [ltW] at hS
  have hsz : L.toArray.size = L.length := by simp
  rw [hsz] at hS
  refine Calls.mono hS ?_
  rintro e w' ⟨he, d', q, os, hp, hs, rfl⟩
  obtain ⟨h1, h2, h3⟩ := sorted_list hp hs
  obtain ⟨h4, h5⟩ := sort_own encW_len (by omega) h rfl d' h1 q os
  exact ⟨he, d'.toList, h2, h3, h4, h5⟩
/-- a row of grants is sorted by their times. -/
theorem sortG_any (w : World) {base g n cap : Nat} {L : List (Int × Int)} (h : OwR w base 45 2 encG (.slice (some ⟨g, 0, none⟩) n cap) L) (hn : n = L.length) (h0 : 0 < L.length) (hl : L.length ≤ 1000000) :
    Calls Try.prog 20 #[.slice (some ⟨g, 0, none⟩) n cap, .func (.func 21) #[] #[]] w fun e w' => e = .returned (.tuple #[]) ∧ ∃ L' : List (Int × Int), L'.Perm L ∧ L'.Pairwise (fun x y => x.1 ≤ y.1) ∧ OwR w' base 45 2 encG (.slice (some ⟨g, 0, none⟩) n cap) L' ∧ Fr (fun k => k = g) w w' := by
  subst hn
  have eg : ∀ args w, (callFunc 21 args).run Try.prog w = .ok (.enter 21 args) w := enters_of Try.func21 (by kernel_rfl) rfl
  have hS := AnyQ.slices_SortFunc Try.sortGr 2 aggGr szGr encG encG_len (fun x v hv => by simp [encG] at hv; rcases hv with rfl | rfl <;> rfl) cfG swoG 21 #[] g 0 cap L.toArray w eg (fun _ _ _ _ x y => closG x y _) (own_holds encG_len (by omega) h h0) (h.lt g rfl) (by simp; omega)
  rw [ltG] at hS
  have hsz : L.toArray.size = L.length := by simp
  rw [hsz] at hS
  refine Calls.mono hS ?_
  rintro e w' ⟨he, d', q, os, hp, hs, rfl⟩
  obtain ⟨h1, h2, h3⟩ := sorted_list hp hs
  obtain ⟨h4, h5⟩ := sort_own encG_len (by omega) h rfl d' h1 q os
  exact ⟨he, d'.toList, h2, h3.imp (fun {a b} g => by simp at g; omega), h4, h5⟩
/-- no key, no grant: nothing is sorted. -/
theorem sortW_none (w : World) (p : Option Addr) (cap : Nat) : Calls Try.prog 14 #[.slice p 0 cap, .func (.func 15) #[] #[]] w fun e w' => e = .returned (.tuple #[]) ∧ w' = w :=
  AnyF.slices_SortFunc_none (P := Try.prog) (ρ := Try.sortWho_ren) { Try.sortWho with } p cap _ w
theorem sortG_none (w : World) (p : Option Addr) (cap : Nat) : Calls Try.prog 20 #[.slice p 0 cap, .func (.func 21) #[] #[]] w fun e w' => e = .returned (.tuple #[]) ∧ w' = w :=
  AnyF.slices_SortFunc_none (P := Try.prog) (ρ := Try.sortGr_ren) { Try.sortGr with } p cap _ w
end Go.Proofs.Yteeinckmmbdfoaa
