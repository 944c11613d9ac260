/- The contracts of layer 8 (summary): enter. -/
import Derived.Test.YtnpiimaapholiaaSmC
import Derived.Test.YtnpiimaapholiaaSmR
namespace Go.Proofs.Ytnpiimaapholiaa
set_option linter.unusedSimpArgs false
set_option linter.unusedVariables false
open Go.ChangeShapes Go.WideShapes Go.ChangeAt Go.RowKit
/-- a full one without its last. -/
def cutE (n : Nat) (L : List Ent) : List Ent := if L.length = n then L.dropLast else L
section
variable {w W : World} {Q : SmN} {L M : List Ent} {tot : Int} {σ : KSt}
def KSt.on (σ : KSt) (fl : List Nat) (i : Nat) (s : ByteArray) : KSt := ⟨fl, fun j => if j = i then some s else σ.K j⟩
theorem SmOK.put {n i : Nat} {fl : List Nat} {s : ByteArray} {a b : Int} (h : SmOK n L tot σ) (hf : σ.fl = fl ++ [i]) (hk : σ.K i = none) (ha : 0 ≤ a ∧ a ≤ tot) (hb : 0 ≤ b ∧ b ≤ tot) : SmOK n (L ++ [⟨s, a, b, i⟩]) tot (σ.on fl i s) := by
  have hne : ∀ x ∈ L, x.p ≠ i := fun x hx e => by
    have := h.key x hx
    rw [e, hk] at this
    cases this
  refine ⟨fun x hx => ?_, fun j t hj => ?_, ?_, ?_, fun x hx => ?_, h.tb⟩
  · show (if x.p = i then some s else σ.K x.p) = some x.k
    rcases List.mem_append.1 hx with h1 | h1
    · rw [if_neg (hne x h1)]; exact h.key x h1
    · rw [List.mem_singleton.1 h1]; exact if_pos rfl
  · have hj : (if j = i then some s else σ.K j) = some t := hj
    by_cases e : j = i
    · exact ⟨⟨s, a, b, i⟩, by simp, e.symm⟩
    · rw [if_neg e] at hj
      obtain ⟨x, hx, hp⟩ := h.has j t hj
      exact ⟨x, List.mem_append_left _ hx, hp⟩
  · rw [List.map_append, List.nodup_append]
    refine ⟨h.nd, by simp, fun p hp q hq => ?_⟩
    obtain ⟨x, hx, e⟩ := List.mem_map.1 hp
    have hq : q = i := by simpa using hq
    rw [← e, hq]
    exact hne x hx
  · have := h.cnt
    rw [hf, List.length_append] at this
    rw [List.length_append]
    show L.length + 1 + fl.length = n
    simp only [List.length_singleton] at this
    omega
  · rcases List.mem_append.1 hx with h1 | h1
    · exact h.bd x h1
    · rw [List.mem_singleton.1 h1]; exact ⟨ha.1, ha.2, hb.1, hb.2⟩
set_option maxRecDepth 100000 in
set_option maxHeartbeats 4000000 in
theorem smenter_no (s : ByteArray) (hs : s.size ≤ 64) (w : World) (h : SmAt w Q L tot σ) (hk : ∀ x ∈ L, x.k ≠ s) (hm : L.length < Q.N.n) : Calls Try.prog 29 #[.pointer (some ⟨Q.s, 0, none⟩), .string s] w fun e w' => e = .returned (.int .i64 (L.length : Int)) ∧ (∃ i σ', SmAt w' Q (L ++ [⟨s, 0, 0, i⟩]) tot σ') ∧ Fr Q.F w w' := by
  obtain ⟨m, hmm⟩ : ∃ m, m = L.length := ⟨_, rfl⟩
  have CL := Lib.hid (smleast_any w h)
  rw [show leastE Q.N.n L = 0 from by unfold leastE; rw [if_pos hm]] at CL
  obtain ⟨fl, i, hfl⟩ : ∃ fl i, σ.fl = fl ++ [i] := by
    have := h.ok.cnt
    rcases List.eq_nil_or_concat σ.fl with e | ⟨fl, i, e⟩
    · rw [e] at this; simp at this; omega
    · exact ⟨fl, i, by rw [e, List.concat_eq_append]⟩
  have hput : σ.put Q.N.n s = (σ.on fl i s, some i) := by
    unfold KSt.put
    rw [h.ok.no hk]
    simp only [if_neg (show ¬ 64 < s.size by omega)]
    rw [hfl]
    simp [KSt.on]
  have hfree := h.ix.uni.2.2.2.free (i := i) (by rw [hfl]; simp)
  have CP := Lib.hid (fun wx (hb : Below w.heap.size w wx) => ixput_any s (by unfold maxLen; omega) wx (h.ix.keep hb))
  rw [hput] at CP
  have HF := Lib.hid (show SmOK Q.N.n (L ++ [⟨s, 0, 0, i⟩]) tot (σ.on fl i s) from h.ok.put hfl hfree.2 (by have := h.ok.tb; omega) (by have := h.ok.tb; omega))
  have HH := Lib.hid h
  have CN := Lib.hid (fun wx (hb : Below w.heap.size w wx) => len_any wx ((h.ix.keep hb).ks))
  have hn := h.n1
  rw [← hmm] at hm ⊢
  have HM := Lib.hid (And.intro hmm hm)
  have b1 : ((m : Int) == (Q.N.n : Int)) = false := by rw [beq_eq_false_iff_ne]; omega
  clear h hk hfl hput hfree hmm
  go_enter Try.func29, Try.ntmps29
  go_upto_region 2 with (go_at_call 20; ((with_reducible refine CL.out.mono ?_); rintro e w1 ⟨rfl, b⟩; have B1 := Lib.hid b; clear b))
  have HS := Lib.hid (show ∀ wx, Below w.heap.size w wx → (fun w' : World => (∀ i, w'.cell? ⟨Q.s, i, none⟩ = (smC Q m tot)[i]?)) wx from fun wx hb => by rw [HM.out.1]; exact (HH.out.keep hb).hs.rd)
  have B2 := Lib.hid (show Below w.heap.size w w1.drew from below_draws B1.out 1)
  refine wp_region_held_drew (S := (fun w' : World => (∀ i, w'.cell? ⟨Q.s, i, none⟩ = (smC Q m tot)[i]?))) (by kernel_rfl) (HS.out _ B2.out) (fun hHeld => ?_)
  refine wpAnyH_take (i := 0) (oi := ?_) (v := ?_) ?_ ?_ ?_ ?_ ?_ ?_ ?_ ?_
  rotate_left 2
  · simp only [List.getElem?_toArray, List.getElem?_cons_succ, List.getElem?_cons_zero]; rfl
  · kernel_rfl
  · kernel_rfl
  · kernel_rfl
  · exact fun _ _ _ h => h
  · refine Or.inl ⟨by rfl, ?_⟩
    intro w' hSw
    (try dsimp only at hSw)
    go_simp
    all_goals (with_reducible rfl)
  · assumption
  try simp only [Act.put, List.setIfInBounds_toArray, List.set_cons_zero, List.set_cons_succ]
  refine wpAnyH_take (i := 1) (oi := ?_) (v := ?_) ?_ ?_ ?_ ?_ ?_ ?_ ?_ ?_
  rotate_left 2
  · simp only [List.getElem?_toArray, List.getElem?_cons_succ, List.getElem?_cons_zero]; rfl
  · kernel_rfl
  · kernel_rfl
  · kernel_rfl
  · exact fun _ _ _ h => h
  · refine Or.inl ⟨by rfl, ?_⟩
    intro w' hSw
    (try dsimp only at hSw)
    go_simp
    all_goals (with_reducible rfl)
  · assumption
  try simp only [Act.put, List.setIfInBounds_toArray, List.set_cons_zero, List.set_cons_succ]
  refine wpAnyH_take (i := 2) (oi := ?_) (v := ?_) ?_ ?_ ?_ ?_ ?_ ?_ ?_ ?_
  rotate_left 2
  · simp only [List.getElem?_toArray, List.getElem?_cons_succ, List.getElem?_cons_zero]; rfl
  · kernel_rfl
  · kernel_rfl
  · kernel_rfl
  · exact fun _ _ _ h => h
  · refine Or.inl ⟨by rfl, ?_⟩
    intro w' hSw
    (try dsimp only at hSw)
    go_simp
    all_goals (with_reducible rfl)
  · assumption
  try simp only [Act.put, List.setIfInBounds_toArray, List.set_cons_zero, List.set_cons_succ]
  refine wpAnyH_take (i := 3) (oi := ?_) (v := ?_) ?_ ?_ ?_ ?_ ?_ ?_ ?_ ?_
  rotate_left 2
  · simp only [List.getElem?_toArray, List.getElem?_cons_succ, List.getElem?_cons_zero]; rfl
  · kernel_rfl
  · kernel_rfl
  · kernel_rfl
  · exact fun _ _ _ h => h
  · refine Or.inl ⟨by rfl, ?_⟩
    intro w' hSw
    (try dsimp only at hSw)
    go_simp
    all_goals (with_reducible rfl)
  · assumption
  try simp only [Act.put, List.setIfInBounds_toArray, List.set_cons_zero, List.set_cons_succ]
  refine wpAnyH_take (i := 4) (oi := ?_) (v := ?_) ?_ ?_ ?_ ?_ ?_ ?_ ?_ ?_
  rotate_left 2
  · simp only [List.getElem?_toArray, List.getElem?_cons_succ, List.getElem?_cons_zero]; rfl
  · kernel_rfl
  · kernel_rfl
  · kernel_rfl
  · exact fun _ _ _ h => h
  · refine Or.inl ⟨by rfl, ?_⟩
    intro w' hSw
    (try dsimp only at hSw)
    go_simp
    all_goals (with_reducible rfl)
  · assumption
  try simp only [Act.put, List.setIfInBounds_toArray, List.set_cons_zero, List.set_cons_succ]
  refine wpAnyH_take (i := 5) (oi := ?_) (v := ?_) ?_ ?_ ?_ ?_ ?_ ?_ ?_ ?_
  rotate_left 2
  · simp only [List.getElem?_toArray, List.getElem?_cons_succ, List.getElem?_cons_zero]; rfl
  · kernel_rfl
  · kernel_rfl
  · kernel_rfl
  · exact fun _ _ _ h => h
  · refine Or.inl ⟨by rfl, ?_⟩
    intro w' hSw
    (try dsimp only at hSw)
    go_simp
    all_goals (with_reducible rfl)
  · assumption
  try simp only [Act.put, List.setIfInBounds_toArray, List.set_cons_zero, List.set_cons_succ]
  refine wpAnyH_take (i := 6) (oi := ?_) (v := ?_) ?_ ?_ ?_ ?_ ?_ ?_ ?_ ?_
  rotate_left 2
  · simp only [List.getElem?_toArray, List.getElem?_cons_succ, List.getElem?_cons_zero]; rfl
  · kernel_rfl
  · kernel_rfl
  · kernel_rfl
  · exact fun _ _ _ h => h
  · refine Or.inl ⟨by rfl, ?_⟩
    intro w' hSw
    (try dsimp only at hSw)
    go_simp
    all_goals (with_reducible rfl)
  · assumption
  try simp only [Act.put, List.setIfInBounds_toArray, List.set_cons_zero, List.set_cons_succ]
  refine wpAnyH_take (i := 7) (oi := ?_) (v := ?_) ?_ ?_ ?_ ?_ ?_ ?_ ?_ ?_
  rotate_left 2
  · simp only [List.getElem?_toArray, List.getElem?_cons_succ, List.getElem?_cons_zero]; rfl
  · kernel_rfl
  · kernel_rfl
  · kernel_rfl
  · exact fun _ _ _ h => h
  · refine Or.inl ⟨by rfl, ?_⟩
    intro w' hSw
    (try dsimp only at hSw)
    go_simp
    all_goals (with_reducible rfl)
  · assumption
  try simp only [Act.put, List.setIfInBounds_toArray, List.set_cons_zero, List.set_cons_succ]
  refine wpAnyH_take (i := 8) (oi := ?_) (v := ?_) ?_ ?_ ?_ ?_ ?_ ?_ ?_ ?_
  rotate_left 2
  · simp only [List.getElem?_toArray, List.getElem?_cons_succ, List.getElem?_cons_zero]; rfl
  · kernel_rfl
  · kernel_rfl
  · kernel_rfl
  · exact fun _ _ _ h => h
  · refine Or.inl ⟨by rfl, ?_⟩
    intro w' hSw
    (try dsimp only at hSw)
    go_simp
    all_goals (with_reducible rfl)
  · assumption
  try simp only [Act.put, List.setIfInBounds_toArray, List.set_cons_zero, List.set_cons_succ]
  refine wpAnyH_ready (rs := [9]) (by kernel_rfl) (by simp) ?_
  refine AllReadyH.cons (o := ?_) ?_ ?_ ?_
  rotate_left 1
  · simp only [List.getElem?_toArray, List.getElem?_cons_succ, List.getElem?_cons_zero]; rfl
  rotate_left 1
  · exact AllReadyH.nil
  intro K hK
  go_simp
  ((with_reducible refine (CN.out w1.drew B2.out).mono ?_); rintro e wx ⟨rfl, rfl⟩)
  refine hK.out _ _ hHeld (fun hHeld => ?_)
  clear hK K
  try simp only [Act.put, List.setIfInBounds_toArray, List.set_cons_zero, List.set_cons_succ]
  refine wpAnyH_take (i := 10) (oi := ?_) (v := ?_) ?_ ?_ ?_ ?_ ?_ ?_ ?_ ?_
  rotate_left 2
  · simp only [List.getElem?_toArray, List.getElem?_cons_succ, List.getElem?_cons_zero]; rfl
  · kernel_rfl
  · kernel_rfl
  · kernel_rfl
  · exact fun _ _ _ h => h
  · refine Or.inl ⟨by rfl, ?_⟩
    intro w' hSw
    (try dsimp only at hSw)
    go_simp
    all_goals (with_reducible rfl)
  · assumption
  try simp only [Act.put, List.setIfInBounds_toArray, List.set_cons_zero, List.set_cons_succ]
  refine wpAnyH_done (by kernel_rfl) ?_ _
  clear hHeld
  have hne : ¬ m = Q.N.n := by omega
  go_upto_region 4 with (fail)
  have B3 := Lib.hid (show Below w.heap.size w w1.drew.drew from below_draws B1.out 2)
  obtain ⟨w3, hw3⟩ : ∃ z, z = w1.drew.drew := ⟨_, rfl⟩
  refine Ph.start [18] (Ph.pick [(fun w' : World => (∀ i, w'.cell? ⟨Q.s, i, none⟩ = (smC Q m tot)[i]?)), (fun _ : World => True)]) (by kernel_rfl) (Ph.pick0 (HS.out _ B3.out)) (fun hHeld hOrd => ?_)
  rw [← hw3] at hHeld ⊢
  have B3 : Hid (Below w.heap.size w w3) := Lib.hid (by rw [hw3]; exact B3.out)
  clear hw3
  have CPQ := Lib.hid (show Calls Try.prog 41 #[.pointer (some ⟨Q.N.x, 0, none⟩), .string s] w3 (fun e w' => e = .returned (.int .i64 (i : Int)) ∧ IdxAt w' Q.N (σ.on fl i s) ∧ Fr Q.N.F w3 w') from CP.out _ B3.out)
  have H3 := Lib.hid (HH.out.keep B3.out)
  refine Ph.take (i := 0) (oi := ?_) (v := ?_) (p := 0) ?_ ?_ ?_ ?_ hOrd ?_ ?_ ?_ ?_ ?_ ?_
  rotate_left 2
  · simp only [List.getElem?_toArray, List.getElem?_cons_succ, List.getElem?_cons_zero]; rfl
  · kernel_rfl
  · kernel_rfl
  · kernel_rfl
  · kernel_rfl
  · kernel_rfl
  · exact fun _ _ _ h => h
  · refine Or.inl ⟨by rfl, ?_⟩
    intro w' hSw
    (try simp only [Ph.pick, List.getD_cons_succ, List.getD_cons_zero] at hSw)
    go_simp
    all_goals (with_reducible rfl)
  · assumption
  clear hOrd
  intro hOrd
  try simp only [Act.put, List.setIfInBounds_toArray, List.set_cons_zero, List.set_cons_succ] at hOrd ⊢
  refine Ph.take (i := 1) (oi := ?_) (v := ?_) (p := 0) ?_ ?_ ?_ ?_ hOrd ?_ ?_ ?_ ?_ ?_ ?_
  rotate_left 2
  · simp only [List.getElem?_toArray, List.getElem?_cons_succ, List.getElem?_cons_zero]; rfl
  · kernel_rfl
  · kernel_rfl
  · kernel_rfl
  · kernel_rfl
  · kernel_rfl
  · exact fun _ _ _ h => h
  · refine Or.inl ⟨by rfl, ?_⟩
    intro w' hSw
    (try simp only [Ph.pick, List.getD_cons_succ, List.getD_cons_zero] at hSw)
    go_simp
    all_goals (with_reducible rfl)
  · assumption
  clear hOrd
  intro hOrd
  try simp only [Act.put, List.setIfInBounds_toArray, List.set_cons_zero, List.set_cons_succ] at hOrd ⊢
  refine Ph.take (i := 2) (oi := ?_) (v := ?_) (p := 0) ?_ ?_ ?_ ?_ hOrd ?_ ?_ ?_ ?_ ?_ ?_
  rotate_left 2
  · simp only [List.getElem?_toArray, List.getElem?_cons_succ, List.getElem?_cons_zero]; rfl
  · kernel_rfl
  · kernel_rfl
  · kernel_rfl
  · kernel_rfl
  · kernel_rfl
  · exact fun _ _ _ h => h
  · refine Or.inl ⟨by rfl, ?_⟩
    intro w' hSw
    (try simp only [Ph.pick, List.getD_cons_succ, List.getD_cons_zero] at hSw)
    go_simp
    all_goals (with_reducible rfl)
  · assumption
  clear hOrd
  intro hOrd
  try simp only [Act.put, List.setIfInBounds_toArray, List.set_cons_zero, List.set_cons_succ] at hOrd ⊢
  refine Ph.take (i := 3) (oi := ?_) (v := ?_) (p := 0) ?_ ?_ ?_ ?_ hOrd ?_ ?_ ?_ ?_ ?_ ?_
  rotate_left 2
  · simp only [List.getElem?_toArray, List.getElem?_cons_succ, List.getElem?_cons_zero]; rfl
  · kernel_rfl
  · kernel_rfl
  · kernel_rfl
  · kernel_rfl
  · kernel_rfl
  · exact fun _ _ _ h => h
  · refine Or.inl ⟨by rfl, ?_⟩
    intro w' hSw
    (try simp only [Ph.pick, List.getD_cons_succ, List.getD_cons_zero] at hSw)
    go_simp
    all_goals (with_reducible rfl)
  · assumption
  clear hOrd
  intro hOrd
  try simp only [Act.put, List.setIfInBounds_toArray, List.set_cons_zero, List.set_cons_succ] at hOrd ⊢
  refine Ph.take (i := 4) (oi := ?_) (v := ?_) (p := 0) ?_ ?_ ?_ ?_ hOrd ?_ ?_ ?_ ?_ ?_ ?_
  rotate_left 2
  · simp only [List.getElem?_toArray, List.getElem?_cons_succ, List.getElem?_cons_zero]; rfl
  · kernel_rfl
  · kernel_rfl
  · kernel_rfl
  · kernel_rfl
  · kernel_rfl
  · exact fun _ _ _ h => h
  · refine Or.inl ⟨by rfl, ?_⟩
    intro w' hSw
    (try simp only [Ph.pick, List.getD_cons_succ, List.getD_cons_zero] at hSw)
    go_simp
    all_goals (with_reducible rfl)
  · assumption
  clear hOrd
  intro hOrd
  try simp only [Act.put, List.setIfInBounds_toArray, List.set_cons_zero, List.set_cons_succ] at hOrd ⊢
  refine Ph.take (i := 5) (oi := ?_) (v := ?_) (p := 0) ?_ ?_ ?_ ?_ hOrd ?_ ?_ ?_ ?_ ?_ ?_
  rotate_left 2
  · simp only [List.getElem?_toArray, List.getElem?_cons_succ, List.getElem?_cons_zero]; rfl
  · kernel_rfl
  · kernel_rfl
  · kernel_rfl
  · kernel_rfl
  · kernel_rfl
  · exact fun _ _ _ h => h
  · refine Or.inl ⟨by rfl, ?_⟩
    intro w' hSw
    (try simp only [Ph.pick, List.getD_cons_succ, List.getD_cons_zero] at hSw)
    go_simp
    all_goals (with_reducible rfl)
  · assumption
  clear hOrd
  intro hOrd
  try simp only [Act.put, List.setIfInBounds_toArray, List.set_cons_zero, List.set_cons_succ] at hOrd ⊢
  refine Ph.take (i := 6) (oi := ?_) (v := ?_) (p := 0) ?_ ?_ ?_ ?_ hOrd ?_ ?_ ?_ ?_ ?_ ?_
  rotate_left 2
  · simp only [List.getElem?_toArray, List.getElem?_cons_succ, List.getElem?_cons_zero]; rfl
  · kernel_rfl
  · kernel_rfl
  · kernel_rfl
  · kernel_rfl
  · kernel_rfl
  · exact fun _ _ _ h => h
  · refine Or.inl ⟨by rfl, ?_⟩
    intro w' hSw
    (try simp only [Ph.pick, List.getD_cons_succ, List.getD_cons_zero] at hSw)
    go_simp
    all_goals (with_reducible rfl)
  · assumption
  clear hOrd
  intro hOrd
  try simp only [Act.put, List.setIfInBounds_toArray, List.set_cons_zero, List.set_cons_succ] at hOrd ⊢
  refine Ph.take (i := 7) (oi := ?_) (v := ?_) (p := 0) ?_ ?_ ?_ ?_ hOrd ?_ ?_ ?_ ?_ ?_ ?_
  rotate_left 2
  · simp only [List.getElem?_toArray, List.getElem?_cons_succ, List.getElem?_cons_zero]; rfl
  · kernel_rfl
  · kernel_rfl
  · kernel_rfl
  · kernel_rfl
  · kernel_rfl
  · exact fun _ _ _ h => h
  · refine Or.inl ⟨by rfl, ?_⟩
    intro w' hSw
    (try simp only [Ph.pick, List.getD_cons_succ, List.getD_cons_zero] at hSw)
    go_simp
    all_goals (with_reducible rfl)
  · assumption
  clear hOrd
  intro hOrd
  try simp only [Act.put, List.setIfInBounds_toArray, List.set_cons_zero, List.set_cons_succ] at hOrd ⊢
  refine Ph.take (i := 8) (oi := ?_) (v := ?_) (p := 0) ?_ ?_ ?_ ?_ hOrd ?_ ?_ ?_ ?_ ?_ ?_
  rotate_left 2
  · simp only [List.getElem?_toArray, List.getElem?_cons_succ, List.getElem?_cons_zero]; rfl
  · kernel_rfl
  · kernel_rfl
  · kernel_rfl
  · kernel_rfl
  · kernel_rfl
  · exact fun _ _ _ h => h
  · refine Or.inl ⟨by rfl, ?_⟩
    intro w' hSw
    (try simp only [Ph.pick, List.getD_cons_succ, List.getD_cons_zero] at hSw)
    go_simp
    all_goals (with_reducible rfl)
  · assumption
  clear hOrd
  intro hOrd
  try simp only [Act.put, List.setIfInBounds_toArray, List.set_cons_zero, List.set_cons_succ] at hOrd ⊢
  refine Ph.take (i := 9) (oi := ?_) (v := ?_) (p := 0) ?_ ?_ ?_ ?_ hOrd ?_ ?_ ?_ ?_ ?_ ?_
  rotate_left 2
  · simp only [List.getElem?_toArray, List.getElem?_cons_succ, List.getElem?_cons_zero]; rfl
  · kernel_rfl
  · kernel_rfl
  · kernel_rfl
  · kernel_rfl
  · kernel_rfl
  · exact fun _ _ _ h => h
  · refine Or.inl ⟨by rfl, ?_⟩
    intro w' hSw
    (try simp only [Ph.pick, List.getD_cons_succ, List.getD_cons_zero] at hSw)
    go_simp
    all_goals (with_reducible rfl)
  · assumption
  clear hOrd
  intro hOrd
  try simp only [Act.put, List.setIfInBounds_toArray, List.set_cons_zero, List.set_cons_succ] at hOrd ⊢
  refine Ph.take (i := 10) (oi := ?_) (v := ?_) (p := 0) ?_ ?_ ?_ ?_ hOrd ?_ ?_ ?_ ?_ ?_ ?_
  rotate_left 2
  · simp only [List.getElem?_toArray, List.getElem?_cons_succ, List.getElem?_cons_zero]; rfl
  · kernel_rfl
  · kernel_rfl
  · kernel_rfl
  · kernel_rfl
  · kernel_rfl
  · exact fun _ _ _ h => h
  · refine Or.inl ⟨by rfl, ?_⟩
    intro w' hSw
    (try simp only [Ph.pick, List.getD_cons_succ, List.getD_cons_zero] at hSw)
    go_simp
    all_goals (with_reducible rfl)
  · assumption
  clear hOrd
  intro hOrd
  try simp only [Act.put, List.setIfInBounds_toArray, List.set_cons_zero, List.set_cons_succ] at hOrd ⊢
  refine Ph.take (i := 11) (oi := ?_) (v := ?_) (p := 0) ?_ ?_ ?_ ?_ hOrd ?_ ?_ ?_ ?_ ?_ ?_
  rotate_left 2
  · simp only [List.getElem?_toArray, List.getElem?_cons_succ, List.getElem?_cons_zero]; rfl
  · kernel_rfl
  · kernel_rfl
  · kernel_rfl
  · kernel_rfl
  · kernel_rfl
  · exact fun _ _ _ h => h
  · refine Or.inl ⟨by rfl, ?_⟩
    intro w' hSw
    (try simp only [Ph.pick, List.getD_cons_succ, List.getD_cons_zero] at hSw)
    go_simp
    all_goals (with_reducible rfl)
  · assumption
  clear hOrd
  intro hOrd
  try simp only [Act.put, List.setIfInBounds_toArray, List.set_cons_zero, List.set_cons_succ] at hOrd ⊢
  refine Ph.alone (i := 12) (o := ?_) (p := 0) ?_ ?_ hOrd ?_ ?_
  rotate_left 2
  · simp only [List.getElem?_toArray, List.getElem?_cons_succ, List.getElem?_cons_zero]; rfl
  rotate_right 1
  · kernel_rfl
  · kernel_rfl
  clear hOrd
  intro K hK
  go_simp
  ((with_reducible refine CPQ.out.mono ?_); rintro e w4 ⟨rfl, i4, f4⟩; have I4 := Lib.hid i4; have F4 := Lib.hid f4; have K4 := Lib.hid (H3.out.hs.fr f4 (fun hF => (H3.out.ne.2 _ (Or.inl hF)).2 rfl)); have S4 := Lib.hid (show (fun w' : World => (∀ i, w'.cell? ⟨Q.s, i, none⟩ = (smC Q m tot)[i]?)) w4 from by rw [HM.out.1]; exact K4.out.rd); clear i4 f4)
  refine hK.out _ _ (Ph.pick0 S4.out) (fun hHeld hOrd => ?_)
  clear hK K
  try simp only [Act.put, List.setIfInBounds_toArray, List.set_cons_zero, List.set_cons_succ] at hOrd ⊢
  refine Ph.take (i := 13) (oi := ?_) (v := ?_) (p := 0) ?_ ?_ ?_ ?_ hOrd ?_ ?_ ?_ ?_ ?_ ?_
  rotate_left 2
  · simp only [List.getElem?_toArray, List.getElem?_cons_succ, List.getElem?_cons_zero]; rfl
  · kernel_rfl
  · kernel_rfl
  · kernel_rfl
  · kernel_rfl
  · kernel_rfl
  · exact fun _ _ _ h => h
  · refine Or.inl ⟨by rfl, ?_⟩
    intro w' hSw
    (try simp only [Ph.pick, List.getD_cons_succ, List.getD_cons_zero] at hSw)
    go_simp
    all_goals (with_reducible rfl)
  · assumption
  clear hOrd
  intro hOrd
  try simp only [Act.put, List.setIfInBounds_toArray, List.set_cons_zero, List.set_cons_succ] at hOrd ⊢
  refine Ph.alone (i := 14) (o := ?_) (p := 0) ?_ ?_ hOrd ?_ ?_
  rotate_left 2
  · simp only [List.getElem?_toArray, List.getElem?_cons_succ, List.getElem?_cons_zero]; rfl
  rotate_right 1
  · kernel_rfl
  · kernel_rfl
  clear hOrd
  intro K hK
  go_simp
  (have S5 := Lib.hid (show (fun w' : World => (∀ i, w'.cell? ⟨Q.s, i, none⟩ = (smC Q m tot)[i]?)) (w4.alloc (.cells #[.int .i64 0, .int .i64 0, .int .i64 (i : Int)] 74)) from by rw [HM.out.1]; exact (K4.out.alloc _).rd))
  refine hK.out _ _ (Ph.pick0 S5.out) (fun hHeld hOrd => ?_)
  clear hK K
  try simp only [Act.put, List.setIfInBounds_toArray, List.set_cons_zero, List.set_cons_succ] at hOrd ⊢
  obtain ⟨R, hg, hl⟩ := H3.out.hg
  have hg4 := hg.fr F4.out (fun hF => (H3.out.ne.2 _ (Or.inl hF)).1 rfl)
  have hg5 := hg4.alloc (.cells #[.int .i64 0, .int .i64 0, .int .i64 (i : Int)] 74)
  have hn5 := heap_alloc_new w4 (.cells #[.int .i64 0, .int .i64 0, .int .i64 (i : Int)] 74)
  have k5 := K4.out.alloc (.cells #[.int .i64 0, .int .i64 0, .int .i64 (i : Int)] 74)
  have f5 : Fr (fun _ => False) w4 (w4.alloc (.cells #[.int .i64 0, .int .i64 0, .int .i64 (i : Int)] 74)) := Fr.of_below ((Below.refl _ _).alloc (Nat.le_refl _) _)
  obtain ⟨nb, hnb⟩ : ∃ z, z = w4.heap.size := ⟨_, rfl⟩
  have hgl : Q.g < nb := by rw [hnb]; exact lt_of_block hg4
  rw [← hnb] at hn5 ⊢
  generalize w4.alloc (.cells #[.int .i64 0, .int .i64 0, .int .i64 (i : Int)] 74) = w5 at hg5 hn5 k5 f5 S5 hHeld ⊢
  have hg5 : Blk w5 Q.g _ _ := hg5
  have hn5 : Blk w5 nb _ #[.int .i64 0, .int .i64 0, .int .i64 (i : Int)] := hn5
  have hmR : m < (L ++ R).length := by rw [hl]; exact HM.out.2
  obtain ⟨z, hz⟩ : ∃ z, (L ++ R)[m]? = some z := ⟨_, List.getElem?_eq_getElem hmR⟩
  have q0 : w5.cell? ⟨Q.g, m * 3, none⟩ = some (.int .i64 z.n) := rws_cell encE_len hg5 hz (j := 0) (by omega)
  have q1 : w5.cell? ⟨Q.g, m * 3 + 1, none⟩ = some (.int .i64 z.e) := rws_cell encE_len hg5 hz (j := 1) (by omega)
  have q2 : w5.cell? ⟨Q.g, m * 3 + 2, none⟩ = some (.int .i64 (z.p : Int)) := rws_cell encE_len hg5 hz (j := 2) (by omega)
  have gw := hg5.wr
  have rn := hn5.rd
  have t1 : m + 1 ≤ Q.N.n := by have := HM.out.2; omega
  have t2 : ((m : Int) + 1 ≤ (Q.N.n : Int)) := by omega
  have nne : Q.g ≠ nb := by omega
  have HNB := Lib.hid (And.intro hnb hgl)
  clear hnb hgl
  have st := rws_store3 encE_len hg5 hmR ⟨s, 0, 0, i⟩ (v0 := .int .i64 0) (v1 := .int .i64 0) (v2 := .int .i64 (i : Int)) rfl
  have g6 : Blk (setObj w5 Q.g (.cells (rws encE ((L ++ R).set m ⟨s, 0, 0, i⟩)).toArray 74 (0, 0))) Q.g 74 (rws encE ((L ++ R).set m ⟨s, 0, 0, i⟩)).toArray := setObj_at (lt_of_block hg5) _
  have f6 : Fr (fun k => k = Q.g) w5 (setObj w5 Q.g (.cells (rws encE ((L ++ R).set m ⟨s, 0, 0, i⟩)).toArray 74 (0, 0))) := Fr.setObj (F := fun k => k = Q.g) (Fr.refl _ _) rfl _
  generalize setObj w5 Q.g (.cells (rws encE ((L ++ R).set m ⟨s, 0, 0, i⟩)).toArray 74 (0, 0)) = w6 at st g6 f6
  have k6 := k5.fr f6 HH.out.ne.1
  rw [← HM.out.1] at k6
  have G6 := Lib.hid g6
  have K6 := Lib.hid k6
  have F46 := Lib.hid f6
  have F5 := Lib.hid f5
  have S6 := Lib.hid (show (fun w' : World => (∀ i, w'.cell? ⟨Q.s, i, none⟩ = (smC Q m tot)[i]?)) w6 from k6.rd)
  have HRR := Lib.hid (And.intro hl hmR)
  clear g6 f6 k6 hl hg hg4 hg5 k5 f5 hn5 hz hmR
  refine Ph.alone (i := 15) (o := ?_) (p := 0) ?_ ?_ hOrd ?_ ?_
  rotate_left 2
  · simp only [List.getElem?_toArray, List.getElem?_cons_succ, List.getElem?_cons_zero]; rfl
  rotate_right 1
  · kernel_rfl
  · kernel_rfl
  clear hOrd
  intro K hK
  go_simp
  skip
  refine hK.out _ _ (Ph.pick0 S6.out) (fun hHeld hOrd => ?_)
  clear hK K
  try simp only [Act.put, List.setIfInBounds_toArray, List.set_cons_zero, List.set_cons_succ] at hOrd ⊢
  try rw [st]
  have kr6 := K6.out.rd
  have kw6 := K6.out.wr
  refine Ph.take (i := 16) (oi := ?_) (v := ?_) (p := 0) ?_ ?_ ?_ ?_ hOrd ?_ ?_ ?_ ?_ ?_ ?_
  rotate_left 2
  · simp only [List.getElem?_toArray, List.getElem?_cons_succ, List.getElem?_cons_zero]; rfl
  · kernel_rfl
  · kernel_rfl
  · kernel_rfl
  · kernel_rfl
  · kernel_rfl
  · exact fun _ _ _ h => h
  · refine Or.inl ⟨by rfl, ?_⟩
    intro w' hSw
    (try simp only [Ph.pick, List.getD_cons_succ, List.getD_cons_zero] at hSw)
    go_simp
    all_goals (with_reducible rfl)
  · assumption
  clear hOrd
  intro hOrd
  try simp only [Act.put, List.setIfInBounds_toArray, List.set_cons_zero, List.set_cons_succ] at hOrd ⊢
  refine Ph.take (i := 17) (oi := ?_) (v := ?_) (p := 0) ?_ ?_ ?_ ?_ hOrd ?_ ?_ ?_ ?_ ?_ ?_
  rotate_left 2
  · simp only [List.getElem?_toArray, List.getElem?_cons_succ, List.getElem?_cons_zero]; rfl
  · kernel_rfl
  · kernel_rfl
  · kernel_rfl
  · kernel_rfl
  · kernel_rfl
  · exact fun _ _ _ h => h
  · refine Or.inl ⟨by rfl, ?_⟩
    intro w' hSw
    (try simp only [Ph.pick, List.getD_cons_succ, List.getD_cons_zero] at hSw)
    go_simp
    all_goals (with_reducible rfl)
  · assumption
  clear hOrd
  intro hOrd
  try simp only [Act.put, List.setIfInBounds_toArray, List.set_cons_zero, List.set_cons_succ] at hOrd ⊢
  refine Ph.alone (i := 18) (o := ?_) (p := 1) ?_ ?_ hOrd ?_ ?_
  rotate_left 2
  · simp only [List.getElem?_toArray, List.getElem?_cons_succ, List.getElem?_cons_zero]; rfl
  rotate_right 1
  · kernel_rfl
  · kernel_rfl
  clear hOrd
  intro K hK
  go_simp
  skip
  refine hK.out _ _ (Ph.pick1 trivial) (fun hHeld hOrd => ?_)
  clear hK K
  try simp only [Act.put, List.setIfInBounds_toArray, List.set_cons_zero, List.set_cons_succ] at hOrd ⊢
  refine Ph.done (by kernel_rfl) ?_ _
  clear hHeld hOrd st q0 q1 q2 gw rn
  obtain ⟨w7, e7, r7, f7, s7⟩ := G.box_set K6.out 2 (.slice (some ⟨Q.g, 0, none⟩) (m + 1) Q.N.n) (smC Q (m + 1) tot) rfl
  have e7' := e7
  try rw [e7]
  have R7 := Lib.hid r7
  have F7 := Lib.hid f7
  have k7 := r7.rd
  have e8 : IntKind.i64.wrap (((m + 1 : Nat) : Int) - 1) = (m : Int) := by rw [IntKind.wrap_i64]; omega
  clear e7 e7' r7 f7 s7 kr6 kw6
  go_wp2
  go_ret
  have hh := H3.out
  have f47 : Fr Q.F w3 w7 := (((F4.out.mono (fun k hk => Or.inl hk)).trans (F5.out.mono (fun k hk => hk.elim))).trans (F46.out.mono (fun k hk => Or.inr (Or.inr hk)))).trans (F7.out.mono (fun k hk => Or.inr (Or.inl hk)))
  have hset : (L ++ R).set m ⟨s, 0, 0, i⟩ = (L ++ [⟨s, 0, 0, i⟩]) ++ R.drop 1 := by
    rw [HM.out.1, List.set_append_right _ _ (Nat.le_refl _), Nat.sub_self]
    cases R with
    | nil => have := HRR.out.2; rw [HM.out.1, List.append_nil] at this; omega
    | cons r R => simp
  refine ⟨rfl, ⟨i, σ.on fl i s, ⟨by rw [List.length_append, ← HM.out.1]; exact R7.out, ⟨R.drop 1, by rw [← hset]; exact G6.out.fr F7.out (fun e => hh.ne.1 e.symm), by rw [← hset, List.length_set]; exact HRR.out.1⟩, ((I4.out.fr F5.out (fun _ _ => id)).fr F46.out (fun k hk e => (hh.ne.2 k hk).1 e)).fr F7.out (fun k hk e => (hh.ne.2 k hk).2 e), hh.n1, hh.ne, HF.out⟩⟩, (Fr.of_below B3.out).trans f47⟩
end
end Go.Proofs.Ytnpiimaapholiaa
