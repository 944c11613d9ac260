/- The host of layer 16's laws that is told of requests. -/
import Derived.Test.YtaghookljjpllaaCnL
namespace Go.Proofs.Ytaghookljjpllaa
set_option linter.unusedSimpArgs false
set_option linter.unusedVariables false
open Go.ChangeShapes Go.WideShapes Go.ChangeAt Go.RowKit
set_option maxRecDepth 100000 in
set_option maxHeartbeats 2000000 in
theorem hoseen_any (hb B : Nat) (v u : Value) (l : List Req) (q : Req) (hl : l.length ≤ 1000000) (w : World) (h : Blk w hb 61 #[v, u]) (ho : w.ownsRow B 41 5 u l.length (rqs l)) (hne : u.ownBlock ≠ some hb) (hB : B ≤ w.heap.size) :
    Calls Try.prog 64 #[.pointer (some ⟨hb, 0, none⟩), rqV q] w fun e w' => e = .returned (.tuple #[]) ∧ ∃ u', Blk w' hb 61 #[v, u'] ∧ w'.ownsRow B 41 5 u' (l.length + 1) (rqs (l ++ [q])) ∧ u'.ownBlock ≠ some hb ∧ Fr (fun k => k = hb ∨ u.ownBlock = some k) w w' ∧ (∀ k, u'.ownBlock = some k → u.ownBlock = some k ∨ w.heap.size ≤ k) := by
  have HB := Lib.hid h
  have HO := Lib.hid ho
  obtain ⟨w1, hw1, hbk, hbl, hsz⟩ := box_new w (rqA q) 41
  obtain ⟨b3, hb3⟩ : ∃ k, k = w.heap.size := ⟨_, rfl⟩
  rw [← hb3] at hbk
  have BK := Lib.hid hbk
  have B1 := Lib.hid hbl
  have H1 := Lib.hid (HB.out.keep hbl)
  have O1 := Lib.hid (G.own_below HO.out hbl)
  have HB3 := Lib.hid hb3
  have HLT := Lib.hid (show hb < b3 from by have := lt_of_block h; omega)
  clear h ho hbk hbl hsz
  go_enter Try.func64, Try.ntmps64
  go_upto_region 1 with (fail)
  rw [← HB3.out]
  clear hw1 hb3
  obtain ⟨i0, hi0, hz0, hz1, hz2⟩ := info_parts infoReq
  have HS := Lib.hid (show ∀ wx, Below w1.heap.size w1 wx → (fun w' : World => w'.cell? ⟨hb, 1, none⟩ = some u ∧ ∀ j, w'.cell? ⟨b3, j, none⟩ = (rqA q)[j]?) wx from fun wx hb => ⟨by rw [blk_cell (H1.out.keep hb)]; rfl, (BK.out.keep hb).rd⟩)
  have D1 := Lib.hid (show Below w1.heap.size w1 w1.drew from below_draws (Below.refl _ _) 1)
  have D2 := Lib.hid (show Below w1.heap.size w1 (w1.alloc (.cells (rqA q) 41)).drew from below_draws ((Below.refl _ _).alloc (Nat.le_refl _) _) 1)
  have O2 := Lib.hid (show (w1.alloc (.cells (rqA q) 41)).drew.ownsRow B 41 5 u l.length (rqs l) from G.own_below O1.out D2.out)
  have NW := Lib.hid (show (w1.alloc (.cells (rqA q) 41)).drew.heap[w1.heap.size]? = some (.cells (rqA q) 41 (0, 0)) from heap_alloc_new w1 _)
  have SZ2 := Lib.hid (show (w1.alloc (.cells (rqA q) 41)).drew.heap.size = w1.heap.size + 1 from by show (w1.alloc _).heap.size = _; simp)
  have SZ1 := Lib.hid (show w.heap.size ≤ w1.heap.size from B1.out.size)
  refine Ph.start [10] (Ph.pick [(fun w' : World => w'.cell? ⟨hb, 1, none⟩ = some u ∧ ∀ j, w'.cell? ⟨b3, j, none⟩ = (rqA q)[j]?), (fun _ : World => True)]) (by kernel_rfl) (Ph.pick0 (HS.out _ D1.out)) (fun hHeld hOrd => ?_)
  refine Ph.take (i := 0) (oi := ?_) (v := ?_) (p := 0) ?_ ?_ ?_ ?_ hOrd ?_ ?_ ?_ ?_ ?_ ?_
  rotate_left 2
  · simp only [List.getElem?_toArray, List.getElem?_cons_succ, List.getElem?_cons_zero]; rfl
  · kernel_rfl
  · kernel_rfl
  · kernel_rfl
  · kernel_rfl
  · kernel_rfl
  · exact fun _ _ _ h => h
  · refine Or.inl ⟨by rfl, ?_⟩
    intro w' hSw
    (try simp only [Ph.pick, List.getD_cons_succ, List.getD_cons_zero] at hSw)
    go_simp
    all_goals (with_reducible rfl)
  · assumption
  clear hOrd
  intro hOrd
  try simp only [Act.put, List.setIfInBounds_toArray, List.set_cons_zero, List.set_cons_succ] at hOrd ⊢
  refine Ph.take (i := 1) (oi := ?_) (v := ?_) (p := 0) ?_ ?_ ?_ ?_ hOrd ?_ ?_ ?_ ?_ ?_ ?_
  rotate_left 2
  · simp only [List.getElem?_toArray, List.getElem?_cons_succ, List.getElem?_cons_zero]; rfl
  · kernel_rfl
  · kernel_rfl
  · kernel_rfl
  · kernel_rfl
  · kernel_rfl
  · exact fun _ _ _ h => h
  · refine Or.inl ⟨by rfl, ?_⟩
    intro w' hSw
    (try simp only [Ph.pick, List.getD_cons_succ, List.getD_cons_zero] at hSw)
    go_simp
    all_goals (with_reducible rfl)
  · assumption
  clear hOrd
  intro hOrd
  try simp only [Act.put, List.setIfInBounds_toArray, List.set_cons_zero, List.set_cons_succ] at hOrd ⊢
  refine Ph.take (i := 2) (oi := ?_) (v := ?_) (p := 0) ?_ ?_ ?_ ?_ hOrd ?_ ?_ ?_ ?_ ?_ ?_
  rotate_left 2
  · simp only [List.getElem?_toArray, List.getElem?_cons_succ, List.getElem?_cons_zero]; rfl
  · kernel_rfl
  · kernel_rfl
  · kernel_rfl
  · kernel_rfl
  · kernel_rfl
  · exact fun _ _ _ h => h
  · refine Or.inl ⟨by rfl, ?_⟩
    intro w' hSw
    (try simp only [Ph.pick, List.getD_cons_succ, List.getD_cons_zero] at hSw)
    go_simp
    all_goals (with_reducible rfl)
  · assumption
  clear hOrd
  intro hOrd
  try simp only [Act.put, List.setIfInBounds_toArray, List.set_cons_zero, List.set_cons_succ] at hOrd ⊢
  refine Ph.take (i := 3) (oi := ?_) (v := ?_) (p := 0) ?_ ?_ ?_ ?_ hOrd ?_ ?_ ?_ ?_ ?_ ?_
  rotate_left 2
  · simp only [List.getElem?_toArray, List.getElem?_cons_succ, List.getElem?_cons_zero]; rfl
  · kernel_rfl
  · kernel_rfl
  · kernel_rfl
  · kernel_rfl
  · kernel_rfl
  · exact fun _ _ _ h => h
  · refine Or.inl ⟨by rfl, ?_⟩
    intro w' hSw
    (try simp only [Ph.pick, List.getD_cons_succ, List.getD_cons_zero] at hSw)
    go_simp
    all_goals (with_reducible rfl)
  · assumption
  clear hOrd
  intro hOrd
  try simp only [Act.put, List.setIfInBounds_toArray, List.set_cons_zero, List.set_cons_succ] at hOrd ⊢
  refine Ph.take (i := 4) (oi := ?_) (v := ?_) (p := 0) ?_ ?_ ?_ ?_ hOrd ?_ ?_ ?_ ?_ ?_ ?_
  rotate_left 2
  · simp only [List.getElem?_toArray, List.getElem?_cons_succ, List.getElem?_cons_zero]; rfl
  · kernel_rfl
  · kernel_rfl
  · kernel_rfl
  · kernel_rfl
  · kernel_rfl
  · exact fun _ _ _ h => h
  · refine Or.inl ⟨by rfl, ?_⟩
    intro w' hSw
    (try simp only [Ph.pick, List.getD_cons_succ, List.getD_cons_zero] at hSw)
    go_simp
    all_goals (with_reducible rfl)
  · assumption
  clear hOrd
  intro hOrd
  try simp only [Act.put, List.setIfInBounds_toArray, List.set_cons_zero, List.set_cons_succ] at hOrd ⊢
  refine Ph.take (i := 5) (oi := ?_) (v := ?_) (p := 0) ?_ ?_ ?_ ?_ hOrd ?_ ?_ ?_ ?_ ?_ ?_
  rotate_left 2
  · simp only [List.getElem?_toArray, List.getElem?_cons_succ, List.getElem?_cons_zero]; rfl
  · kernel_rfl
  · kernel_rfl
  · kernel_rfl
  · kernel_rfl
  · kernel_rfl
  · exact fun _ _ _ h => h
  · refine Or.inl ⟨by rfl, ?_⟩
    intro w' hSw
    (try simp only [Ph.pick, List.getD_cons_succ, List.getD_cons_zero] at hSw)
    go_simp
    all_goals (with_reducible rfl)
  · assumption
  clear hOrd
  intro hOrd
  try simp only [Act.put, List.setIfInBounds_toArray, List.set_cons_zero, List.set_cons_succ] at hOrd ⊢
  refine Ph.alone (i := 6) (o := ?_) (p := 0) ?_ ?_ hOrd ?_ ?_
  rotate_left 2
  · simp only [List.getElem?_toArray, List.getElem?_cons_succ, List.getElem?_cons_zero]; rfl
  rotate_right 1
  · kernel_rfl
  · kernel_rfl
  clear hOrd
  intro K hK
  go_simp
  skip
  refine hK.out _ _ (Ph.pick0 (HS.out _ D2.out)) (fun hHeld hOrd => ?_)
  clear hK K
  try simp only [Act.put, List.setIfInBounds_toArray, List.set_cons_zero, List.set_cons_succ] at hOrd ⊢
  refine Ph.alone (i := 7) (o := ?_) (p := 0) ?_ ?_ hOrd ?_ ?_
  rotate_left 2
  · simp only [List.getElem?_toArray, List.getElem?_cons_succ, List.getElem?_cons_zero]; rfl
  rotate_right 1
  · kernel_rfl
  · kernel_rfl
  clear hOrd
  intro K hK
  refine step_append_lies _ (by rfl) _ _ 31 (by rfl) B 41 i0 (.agg #[.int .i64 0, .int .i64 0, .int .u32 0, .string ⟨#[]⟩, .int .i64 0]) 5 48 Try.underlying31 hi0 hz0 hz1 hz2 (by rfl) (by omega) u l.length (rqs l) (by rfl) O2.out ⟨w1.heap.size, 0, none⟩ 1 1 (rqC q) (by rfl) (by rfl) (World.news_of_block NW.out) (by intro u hu; simp [rqC] at hu; rcases hu with rfl | rfl | rfl | rfl | rfl <;> rfl) (by omega) (by unfold maxLen; omega) (by omega) (by rw [SZ2.out]; have := SZ1.out; omega) (w1.heap.size + 1) SZ2.out ?_; intro gl cl w9 hown9 hgrow9 hat9 hlt9; have HO9 := Lib.hid hown9; have FR9 := Lib.hid (G.fr_row hgrow9); have HAT := Lib.hid hat9; have OL := Lib.hid (fun k hk => G.own_lt HO.out k hk); have H9 := Lib.hid ((H1.out.keep D2.out).fr FR9.out (fun e => hne e)); have K9 := Lib.hid ((BK.out.keep D2.out).fr FR9.out (fun e => by have := OL.out b3 e; have := HB3.out; omega)); have S9 := Lib.hid (show (fun w' : World => w'.cell? ⟨hb, 1, none⟩ = some u ∧ ∀ j, w'.cell? ⟨b3, j, none⟩ = (rqA q)[j]?) w9 from ⟨by rw [blk_cell H9.out]; rfl, K9.out.rd⟩); have d9 := H9.out.rd; have d9w := H9.out.wr; clear hown9 hgrow9 hat9 hlt9
  refine hK.out _ _ (Ph.pick0 S9.out) (fun hHeld hOrd => ?_)
  clear hK K
  try simp only [Act.put, List.setIfInBounds_toArray, List.set_cons_zero, List.set_cons_succ] at hOrd ⊢
  refine Ph.take (i := 8) (oi := ?_) (v := ?_) (p := 0) ?_ ?_ ?_ ?_ hOrd ?_ ?_ ?_ ?_ ?_ ?_
  rotate_left 2
  · simp only [List.getElem?_toArray, List.getElem?_cons_succ, List.getElem?_cons_zero]; rfl
  · kernel_rfl
  · kernel_rfl
  · kernel_rfl
  · kernel_rfl
  · kernel_rfl
  · exact fun _ _ _ h => h
  · refine Or.inl ⟨by rfl, ?_⟩
    intro w' hSw
    (try simp only [Ph.pick, List.getD_cons_succ, List.getD_cons_zero] at hSw)
    go_simp
    all_goals (with_reducible rfl)
  · assumption
  clear hOrd
  intro hOrd
  try simp only [Act.put, List.setIfInBounds_toArray, List.set_cons_zero, List.set_cons_succ] at hOrd ⊢
  refine Ph.take (i := 9) (oi := ?_) (v := ?_) (p := 0) ?_ ?_ ?_ ?_ hOrd ?_ ?_ ?_ ?_ ?_ ?_
  rotate_left 2
  · simp only [List.getElem?_toArray, List.getElem?_cons_succ, List.getElem?_cons_zero]; rfl
  · kernel_rfl
  · kernel_rfl
  · kernel_rfl
  · kernel_rfl
  · kernel_rfl
  · exact fun _ _ _ h => h
  · refine Or.inl ⟨by rfl, ?_⟩
    intro w' hSw
    (try simp only [Ph.pick, List.getD_cons_succ, List.getD_cons_zero] at hSw)
    go_simp
    all_goals (with_reducible rfl)
  · assumption
  clear hOrd
  intro hOrd
  try simp only [Act.put, List.setIfInBounds_toArray, List.set_cons_zero, List.set_cons_succ] at hOrd ⊢
  refine Ph.alone (i := 10) (o := ?_) (p := 1) ?_ ?_ hOrd ?_ ?_
  rotate_left 2
  · simp only [List.getElem?_toArray, List.getElem?_cons_succ, List.getElem?_cons_zero]; rfl
  rotate_right 1
  · kernel_rfl
  · kernel_rfl
  clear hOrd
  intro K hK
  go_simp
  skip
  refine hK.out _ _ (Ph.pick1 trivial) (fun hHeld hOrd => ?_)
  clear hK K
  try simp only [Act.put, List.setIfInBounds_toArray, List.set_cons_zero, List.set_cons_succ] at hOrd ⊢
  refine Ph.done (by kernel_rfl) ?_ _
  clear hHeld hOrd d9 d9w hi0 hz0 hz1 hz2
  obtain ⟨w10, e10, r10, f10, s10⟩ := G.box_set H9.out 1 (.slice (some ⟨gl, 0, none⟩) (l.length + 1) cl) #[v, .slice (some ⟨gl, 0, none⟩) (l.length + 1) cl] rfl
  rw [e10]
  have R10 := Lib.hid r10
  have HGL := Lib.hid (show gl ≠ hb from fun e => by
    rcases HAT.out with h1 | h1
    · exact hne (by rw [h1, e])
    · have := HLT.out; have := HB3.out; have := SZ1.out; omega)
  have own_gl : ∀ g, (Value.slice (some ⟨gl, 0, none⟩) (l.length + 1) cl).ownBlock = some g → g = gl := fun g hg => by
    have : gl = g := Option.some.inj hg
    exact this.symm
  have O10 := Lib.hid (G.own_fr (F := fun k => k = hb) HO9.out f10 (fun g hg hh => HGL.out ((own_gl g hg).symm.trans hh)))
  have F10 := Lib.hid (show Fr (fun k => k = hb ∨ u.ownBlock = some k) w w10 from (((Fr.of_below B1.out).trans (Fr.of_below D2.out)).trans (FR9.out.mono (fun k hk => Or.inr hk))).trans (f10.mono (fun k hk => Or.inl hk)))
  have SZW := Lib.hid (show w.heap.size ≤ w1.heap.size from SZ1.out)
  clear e10 r10 f10 s10
  go_wp2
  refine bodyPost_end (results_none rfl _ _ _) rfl ?_
  refine ⟨rfl, .slice (some ⟨gl, 0, none⟩) (l.length + 1) cl, R10.out, ?_, ?_, F10.out, ?_⟩
  · rw [rqs_app]; exact O10.out
  · show some gl ≠ some hb
    exact fun e => HGL.out (Option.some.inj e)
  · intro k hk
    have : gl = k := Option.some.inj hk
    subst this
    rcases HAT.out with h1 | h1
    · exact Or.inl h1
    · exact Or.inr (by have := SZW.out; omega)
theorem w_mM (hb f : Nat) (w : World) : (method (f + 1) 59 (.pointer (some ⟨hb, 0, none⟩)) "Most").run Try.prog w = .ok (62, .pointer (some ⟨hb, 0, none⟩)) w := by kernel_rfl
theorem w_mA (hb f : Nat) (w : World) : (method (f + 1) 59 (.pointer (some ⟨hb, 0, none⟩)) "Answer").run Try.prog w = .ok (61, .pointer (some ⟨hb, 0, none⟩)) w := by kernel_rfl
theorem w_mS (hb f : Nat) (w : World) : (method (f + 1) 59 (.pointer (some ⟨hb, 0, none⟩)) "Seen").run Try.prog w = .ok (64, .pointer (some ⟨hb, 0, none⟩)) w := by kernel_rfl
theorem w_tA (hb : Nat) (w : World) : (Instr.typeAssert (.iface 59 (.pointer (some ⟨hb, 0, none⟩))) 70 82 true).run Try.prog w = .ok (.tuple #[.iface 59 (.pointer (some ⟨hb, 0, none⟩)), .bool true]) w :=
  run_typeAssert_hasB Try.underlying82 (by kernel_rfl) _ _ w
/-- what the watcher holds. -/
structure WatchAt (hb B : Nat) (w : World) (s : List Req × List Req) (v : Value × Value) : Prop where
  bk : Blk w hb 61 #[v.1, v.2]
  o1 : w.ownsRow B 41 5 v.1 s.1.length (rqs s.1)
  o2 : w.ownsRow B 41 5 v.2 s.2.length (rqs s.2)
  n1 : v.1.ownBlock ≠ some hb
  n2 : v.2.ownBlock ≠ some hb
  ap : ∀ k, v.1.ownBlock = some k → v.2.ownBlock ≠ some k
  lo : B ≤ w.heap.size
/-- the host of the laws that is told of requests. -/
noncomputable def hostW (hb B : Nat) (rules : Int) : HostC where
  S := List Req × List Req
  L := Value × Value
  T := 59
  pv := .pointer (some ⟨hb, 0, none⟩)
  fM := 62
  fA := 61
  fS := 64
  wit := true
  rules := rules
  At := WatchAt hb B
  F := fun v k => k = hb ∨ v.1.ownBlock = some k ∨ v.2.ownBlock = some k
  most := fun q => q.cost % 30 + 1
  ans := fun _ q => hoA q
  nx1 := fun s q => (s.1 ++ [q], s.2)
  nxt := fun s q => (s.1 ++ [q], s.2 ++ [q])
  mM := w_mM hb
  mA := w_mA hb
  mS := fun _ => w_mS hb
  eM := fun args w => by kernel_rfl
  eA := fun args w => by kernel_rfl
  eS := fun _ args w => by kernel_rfl
  tA := fun w => w_tA hb w
  fr := fun h hf hF => ⟨h.bk.fr hf (hF _ (Or.inl rfl)), G.own_fr h.o1 hf (fun g hg => hF g (Or.inr (Or.inl hg))), G.own_fr h.o2 hf (fun g hg => hF g (Or.inr (Or.inr hg))), h.n1, h.n2, h.ap, Nat.le_trans h.lo hf.size⟩
  lt := fun h hk => by
    rcases hk with rfl | hk | hk
    · exact lt_of_block h.bk
    · exact G.own_lt h.o1 _ hk
    · exact G.own_lt h.o2 _ hk
  bud := fun s n => s.1.length + n ≤ 1000000 ∧ s.2.length + n ≤ 1000000
  bud_le := fun h => by omega
  bud_nxt := fun q h => by simp only [List.length_append, List.length_singleton]; omega
  same := fun h => by cases h
  cM := fun w s l q h hq => homost_any hb q hq.2.1 w
  cA := fun w s l q h hbu hq => (hoanswer_any hb B 61 [l.2] l.1 s.1 q hq.2.1 (okQ_key hq) (by omega) w h.bk h.o1 h.n1 h.lo).mono (fun e w' ⟨sb, v', h1, h2, h3, h4, h5, h6, h7, h8⟩ =>
    ⟨_, _, _, (v', l.2), h1, h2, (fun b off _ e => by injection e with e; injection e with e; omega), ⟨h4, by rw [List.length_append]; exact h5, G.own_fr h.o2 h7 (fun g hg hh => by
        rcases hh with hh | hh
        · exact h.n2 (by rw [hg, hh])
        · exact h.ap g hh hg), h6, h.n2, (fun k hk hk2 => by
        rcases h8 k hk with h9 | h9
        · exact h.ap k h9 hk2
        · have := G.own_lt h.o2 k hk2; omega), Nat.le_trans h.lo h7.size⟩, h7.mono (fun k hk => by
        rcases hk with hk | hk
        · exact Or.inl hk
        · exact Or.inr (Or.inl hk)), (fun k hk => by
        rcases hk with rfl | hk | hk
        · exact Or.inl (Or.inl rfl)
        · rcases h8 k hk with h | h
          · exact Or.inl (Or.inr (Or.inl h))
          · exact Or.inr h
        · exact Or.inl (Or.inr (Or.inr hk)))⟩)
  cS := fun _ w s l q h hbu hq => (hoseen_any hb B l.1 l.2 s.2 q (by omega) w h.bk h.o2 h.n2 h.lo).mono (fun e w' ⟨h1, u', h4, h5, h6, h7, h8⟩ =>
    ⟨(l.1, u'), h1, ⟨h4, G.own_fr h.o1 h7 (fun g hg hh => by
        rcases hh with hh | hh
        · exact h.n1 (by rw [hg, hh])
        · exact h.ap g hg hh), by simp only [List.length_append, List.length_singleton]; exact h5, h.n1, h6, (fun k hk hk2 => by
        rcases h8 k hk2 with h9 | h9
        · exact h.ap k hk h9
        · have := G.own_lt h.o1 k hk; omega), Nat.le_trans h.lo h7.size⟩, h7.mono (fun k hk => by
        rcases hk with hk | hk
        · exact Or.inl hk
        · exact Or.inr (Or.inr hk)), (fun k hk => by
        rcases hk with rfl | hk | hk
        · exact Or.inl (Or.inl rfl)
        · exact Or.inl (Or.inr (Or.inl hk))
        · rcases h8 k hk with h | h
          · exact Or.inl (Or.inr (Or.inr h))
          · exact Or.inr h)⟩)
  len := fun s q hq => by
    have := Int.emod_nonneg q.cost (show (30 : Int) ≠ 0 by omega)
    show ((hoA q).length : Int) ≤ q.cost % 30 + 1
    unfold hoA
    rw [List.length_replicate]
    omega
theorem fits_watch (hb B : Nat) (Kn : CnN) (σ : CnS) (x : Int) : fitsB (hostW hb B Kn.rules) Kn σ x = fitsH Kn.rules Kn.size σ x := rfl
theorem come_watch (hb B : Nat) (Kn : CnN) (σ : CnS) (s t : List Req) (x : Int) : comeC (hostW hb B Kn.rules) Kn σ (s, t) x = ((comeH Kn.rules σ x).1, (s ++ (comeH Kn.rules σ x).2, t ++ (comeH Kn.rules σ x).2), (comeH Kn.rules σ x).2) := by
  unfold comeC comeH
  split
  · show ((_ : CnS), (s, t), ([] : List Req)) = (_, (s ++ [], t ++ []), []); rw [List.append_nil, List.append_nil]
  · split
    · rfl
    · show ((_ : CnS), (s, t), ([] : List Req)) = (_, (s ++ [], t ++ []), []); rw [List.append_nil, List.append_nil]
theorem accept_watch (hb B : Nat) (Kn : CnN) : ∀ (zs : List Int) (σ : CnS) (s t : List Req), acceptC (hostW hb B Kn.rules) Kn σ (s, t) zs = ((accH Kn.rules Kn.size σ zs).1, (accH Kn.rules Kn.size σ zs).2.1, (s ++ (accH Kn.rules Kn.size σ zs).2.2, t ++ (accH Kn.rules Kn.size σ zs).2.2), (accH Kn.rules Kn.size σ zs).2.2)
  | [], σ, s, t => by show (0, σ, (s, t), ([] : List Req)) = (0, σ, (s ++ [], t ++ []), []); rw [List.append_nil, List.append_nil]
  | x :: r, σ, s, t => by
    cases hf : fitsH Kn.rules Kn.size σ x with
    | false =>
      refine (accept_stop (H := hostW hb B Kn.rules) (Kn := Kn) (σ := σ) (s := (s, t)) (x := x) (r := r) (by rw [fits_watch]; exact hf)).trans ?_
      rw [acc_stop hf]
      show (0, σ, (s, t), ([] : List Req)) = (0, σ, (s ++ [], t ++ []), [])
      rw [List.append_nil, List.append_nil]
    | true =>
      refine (accept_step (H := hostW hb B Kn.rules) (Kn := Kn) (σ := σ) (s := (s, t)) (x := x) (r := r) (by rw [fits_watch]; exact hf)).trans ?_
      rw [acc_step hf, come_watch]
      have ih := accept_watch hb B Kn r (comeH Kn.rules σ x).1 (s ++ (comeH Kn.rules σ x).2) (t ++ (comeH Kn.rules σ x).2)
      show ((acceptC (hostW hb B Kn.rules) Kn (comeH Kn.rules σ x).1 (s ++ (comeH Kn.rules σ x).2, t ++ (comeH Kn.rules σ x).2) r).1 + 1, (acceptC (hostW hb B Kn.rules) Kn (comeH Kn.rules σ x).1 (s ++ (comeH Kn.rules σ x).2, t ++ (comeH Kn.rules σ x).2) r).2.1, (acceptC (hostW hb B Kn.rules) Kn (comeH Kn.rules σ x).1 (s ++ (comeH Kn.rules σ x).2, t ++ (comeH Kn.rules σ x).2) r).2.2.1, (comeH Kn.rules σ x).2 ++ (acceptC (hostW hb B Kn.rules) Kn (comeH Kn.rules σ x).1 (s ++ (comeH Kn.rules σ x).2, t ++ (comeH Kn.rules σ x).2) r).2.2.2) = _
      rw [ih]
      show (_, _, ((s ++ (comeH Kn.rules σ x).2) ++ (accH Kn.rules Kn.size (comeH Kn.rules σ x).1 r).2.2, (t ++ (comeH Kn.rules σ x).2) ++ (accH Kn.rules Kn.size (comeH Kn.rules σ x).1 r).2.2), _) = (_, _, (s ++ ((comeH Kn.rules σ x).2 ++ (accH Kn.rules Kn.size (comeH Kn.rules σ x).1 r).2.2), t ++ ((comeH Kn.rules σ x).2 ++ (accH Kn.rules Kn.size (comeH Kn.rules σ x).1 r).2.2)), _)
      rw [List.append_assoc, List.append_assoc]
end Go.Proofs.Ytaghookljjpllaa
