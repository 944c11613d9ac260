import Derived.Test.YtnpiimaapholiaaSmA
import Derived.Test.YtnpiimaapholiaaZLiftS
import Derived.Test.YtnpiimaapholiaaZObj
import Derived.Laws.StructEq
import Derived.Test.YtnpiimaapholiaaZSmL
import Derived.BigQuiet
/- The contracts of layer 8 (summary): Top. -/
namespace Go.Proofs.Ytnpiimaapholiaa
set_option linter.unusedSimpArgs false
set_option linter.unusedVariables false
open Go.ChangeShapes Go.WideShapes Go.ChangeAt Go.RowKit Go.Shelf
attribute [local go_sem] Oper.semAt_some
/-- how many Top tells at most. -/
def topN (k : Int) (n : Nat) : Nat := (min (max k 1) (n : Int)).toNat
theorem topN_le (k : Int) {n : Nat} (hn : 1 ≤ n) : 1 ≤ topN k n ∧ topN k n ≤ n := by unfold topN; omega
abbrev encT (a : Tri) : Nat → Value
  | 0 => .string a.1
  | 1 => .int .i64 a.2.1
  | _ => .int .i64 a.2.2
def triV (a : Tri) : List Value := [.string a.1, .int .i64 a.2.1, .int .i64 a.2.2]
theorem info_cnt : (Try.prog.info? 42).map (fun i => (i.zero, i.size, i.bytes)) = some (some (.agg #[.string ⟨#[]⟩, .int .i64 0, .int .i64 0]), 3, 32) := by kernel_rfl
/-- what comes next of a list. -/
theorem nextS_at {β : Type} {l pre : List β} {x : β} (h : pre ++ [x] <+: l) : pre.length < l.length ∧ l[pre.length]? = some x := by
  have h1 := h.length_le
  simp at h1
  obtain ⟨t, ht⟩ := h
  exact ⟨by omega, by rw [← ht]; simp⟩
theorem triV_len (M : List Tri) : (M.flatMap triV).length = M.length * 3 := by
  induction M with
  | nil => rfl
  | cons x M ih => rw [List.flatMap_cons, List.length_append, ih]; simp [triV]; omega
/-- the state between two rounds. -/
structure TopS (w wx : World) (Q : SmN) (L : List Ent) (tot : Int) (σ : KSt) (kb lb N : Nat) (pre : List Tri) : Prop where
  at_ : SmAt wx Q L tot σ
  kb : Blk wx kb 3 #[.int .i64 (N : Int)]
  lb : ∃ v, Blk wx lb 33 #[v] ∧ wx.ownsRow (lb + 1) 42 3 v pre.length (pre.flatMap triV)
  bl : Below w.heap.size w wx
theorem TopS.turn {w X Y : World} {Q : SmN} {L : List Ent} {tot : Int} {σ : KSt} {kb lb N B : Nat} {pre : List Tri} (h : TopS w X Q L tot σ kb lb N pre) (ht : Turn B X Y) (hB : w.heap.size ≤ B) : TopS w Y Q L tot σ kb lb N pre := by
  obtain ⟨v, h1, h2⟩ := h.lb
  exact ⟨KeepB.sm (KeepB.turn ht) h.at_, h.kb.turn ht, ⟨v, h1.turn ht, own_turn h2 ht⟩, ht.below h.bl hB⟩
theorem TopS.keep {w X Y : World} {Q : SmN} {L : List Ent} {tot : Int} {σ : KSt} {kb lb N : Nat} {pre : List Tri} (h : TopS w X Q L tot σ kb lb N pre) (hb : Below X.heap.size X Y) : TopS w Y Q L tot σ kb lb N pre := by
  obtain ⟨v, h1, h2⟩ := h.lb
  exact ⟨h.at_.keep hb, h.kb.keep hb, ⟨v, h1.keep hb, G.own_below h2 hb⟩, below_in h.bl hb⟩
set_option maxRecDepth 100000 in
set_option maxHeartbeats 4000000 in
theorem smtop_any (Q : SmN) (M : List Tri) (tot : Int) (kq : Int) (hk : -9223372036854775808 ≤ kq ∧ kq ≤ 9223372036854775807) (w : World) (h : SmM w Q M tot) :
    Calls Try.prog 23 #[.pointer (some ⟨Q.s, 0, none⟩), .int .i64 kq] w fun e w' => ∃ v, e = .returned v ∧ w'.ownsRow w.heap.size 42 3 v (min (topN kq Q.N.n) M.length) ((M.take (topN kq Q.N.n)).flatMap triV) ∧ Below w.heap.size w w' := by
  obtain ⟨N, hN⟩ : ∃ N, N = topN kq Q.N.n := ⟨_, rfl⟩
  rw [← hN]
  obtain ⟨L0, σ0, h0, hL0⟩ := h
  have hn1 := h0.n1
  have hNb := topN_le kq hn1.1
  rw [← hN] at hNb
  obtain ⟨kx, hkx⟩ : ∃ kx, kx = max kq 1 := ⟨_, rfl⟩
  have hmin : min kx (Q.N.n : Int) = (N : Int) := by rw [hkx, hN]; unfold topN; omega
  have hmax : max kq 1 = kx := hkx.symm
  obtain ⟨w1, hw1, k1, l1, s1⟩ := box_new w #[.int .i64 kq] 3
  obtain ⟨kb, hkb⟩ : ∃ x, x = w.heap.size := ⟨_, rfl⟩
  rw [← hkb] at k1
  have H1 := Lib.hid (h0.keep l1)
  have CL := Lib.hid (fun wx (hb : Below w1.heap.size w1 wx) => len_any wx (((h0.keep l1).keep hb).ix.ks))
  have K1 := Lib.hid k1
  have HB := Lib.hid (And.intro hkb (And.intro l1 s1))
  have HQ := Lib.hid (show ∀ k, Q.all k → k < kb from fun k hk => by rw [hkb]; exact h0.lt k hk)
  have HL := Lib.hid hL0
  have HN := Lib.hid (And.intro hNb hn1)
  have k1r := k1.rd
  have k1w := k1.wr
  have kr := (h0.keep l1).hs.rd
  clear hL0 h0 hN hn1 hNb hkx k1 l1 s1
  refine callsM Try.func23 rfl ?_
  simp only [Try.ntmps23, List.size_toArray, List.length_cons, List.length_nil, Nat.reduceAdd, Nat.reduceSub, Array.replicate_succ, Array.replicate_zero, List.push_toArray, List.append_toArray, List.nil_append, List.cons_append]
  go_upto_region 3 with (fail)
  rw [← hkb]
  clear hkb hw1
  have B1 := Lib.hid (show Below w1.heap.size w1 w1.drew from below_draws (Below.refl _ _) 1)
  have k1d : w1.drew.cell? ⟨kb, 0, none⟩ = some (.int .i64 kq) := k1r 0
  have k2 := (K1.out.keep B1.out).wr
  have HS := Lib.hid (show ∀ v, ∃ w3, w1.drew.setCell ⟨kb, 0, none⟩ v = w3 ∧ Blk w3 kb 3 #[v] ∧ Fr (fun k => k = kb) w1.drew w3 ∧ w3.heap.size = w1.drew.heap.size from fun v => G.box_set (K1.out.keep B1.out) 0 v #[v] rfl)
  obtain ⟨w3, hw3, k3, f3, s3⟩ := HS.out (.int .i64 (N : Int))
  have H3 := Lib.hid ((H1.out.keep B1.out).fr f3 (fun k hk e => by have := HQ.out k hk; omega))
  have K3 := Lib.hid k3
  have HB3 := Lib.hid (show Below w.heap.size w w3 ∧ w3.heap.size = kb + 1 from ⟨(below_in HB.out.2.1 B1.out).trans (f3.below (by have := HB.out; have : w1.drew.heap.size = w1.heap.size := rfl; omega) (fun k hk => by have := HB.out.1; omega)), by have := HB.out; have : w1.drew.heap.size = w1.heap.size := rfl; omega⟩)
  clear k3 f3 s3 HS
  refine wp_region_held_drew (S := (fun w' : World => ∀ i, w'.cell? ⟨Q.s, i, none⟩ = (smC Q L0.length tot)[i]?)) (by kernel_rfl) (show ∀ i, w1.drew.cell? ⟨Q.s, i, none⟩ = _ from kr) (fun hHeld => ?_)
  refine wpAnyH_take (i := 2) (oi := ?_) (v := ?_) ?_ ?_ ?_ ?_ ?_ ?_ ?_ ?_
  rotate_left 2
  · simp only [List.getElem?_toArray, List.getElem?_cons_succ, List.getElem?_cons_zero]; rfl
  · kernel_rfl
  · kernel_rfl
  · kernel_rfl
  · exact fun _ _ _ h => h
  · refine Or.inl ⟨by rfl, ?_⟩
    intro w' hSw
    (try dsimp only at hSw)
    go_simp
    all_goals (with_reducible rfl)
  · assumption
  try simp only [Act.put, List.setIfInBounds_toArray, List.set_cons_zero, List.set_cons_succ]
  refine wpAnyH_take (i := 3) (oi := ?_) (v := ?_) ?_ ?_ ?_ ?_ ?_ ?_ ?_ ?_
  rotate_left 2
  · simp only [List.getElem?_toArray, List.getElem?_cons_succ, List.getElem?_cons_zero]; rfl
  · kernel_rfl
  · kernel_rfl
  · kernel_rfl
  · exact fun _ _ _ h => h
  · refine Or.inl ⟨by rfl, ?_⟩
    intro w' hSw
    (try dsimp only at hSw)
    go_simp
    all_goals (with_reducible rfl)
  · assumption
  try simp only [Act.put, List.setIfInBounds_toArray, List.set_cons_zero, List.set_cons_succ]
  refine wpAnyH_take (i := 4) (oi := ?_) (v := ?_) ?_ ?_ ?_ ?_ ?_ ?_ ?_ ?_
  rotate_left 2
  · simp only [List.getElem?_toArray, List.getElem?_cons_succ, List.getElem?_cons_zero]; rfl
  · kernel_rfl
  · kernel_rfl
  · kernel_rfl
  · exact fun _ _ _ h => h
  · refine Or.inl ⟨by rfl, ?_⟩
    intro w' hSw
    (try dsimp only at hSw)
    go_simp
    all_goals (with_reducible rfl)
  · assumption
  try simp only [Act.put, List.setIfInBounds_toArray, List.set_cons_zero, List.set_cons_succ]
  refine wpAnyH_take (i := 5) (oi := ?_) (v := ?_) ?_ ?_ ?_ ?_ ?_ ?_ ?_ ?_
  rotate_left 2
  · simp only [List.getElem?_toArray, List.getElem?_cons_succ, List.getElem?_cons_zero]; rfl
  · kernel_rfl
  · kernel_rfl
  · kernel_rfl
  · exact fun _ _ _ h => h
  · refine Or.inl ⟨by rfl, ?_⟩
    intro w' hSw
    (try dsimp only at hSw)
    go_simp
    all_goals (with_reducible rfl)
  · assumption
  try simp only [Act.put, List.setIfInBounds_toArray, List.set_cons_zero, List.set_cons_succ]
  refine wpAnyH_ready (rs := [0, 6]) (by kernel_rfl) (by simp) ?_
  refine AllReadyH.cons (o := ?_) ?_ ?_ ?_
  rotate_left 1
  · simp only [List.getElem?_toArray, List.getElem?_cons_succ, List.getElem?_cons_zero]; rfl
  focus
    intro K hK
    go_simp
    skip
    refine hK.out _ _ hHeld (fun hHeld => ?_)
    clear hK K
    try simp only [Act.put, List.setIfInBounds_toArray, List.set_cons_zero, List.set_cons_succ]
    refine wpAnyH_take (i := 1) (oi := ?_) (v := ?_) ?_ ?_ ?_ ?_ ?_ ?_ ?_ ?_
    rotate_left 2
    · simp only [List.getElem?_toArray, List.getElem?_cons_succ, List.getElem?_cons_zero]; rfl
    · kernel_rfl
    · kernel_rfl
    · kernel_rfl
    · exact fun _ _ _ h => h
    · refine Or.inl ⟨by rfl, ?_⟩
      intro w' hSw
      (try dsimp only at hSw)
      go_simp
      all_goals (with_reducible rfl)
    · assumption
    try simp only [Act.put, List.setIfInBounds_toArray, List.set_cons_zero, List.set_cons_succ]
    refine wpAnyH_ready (rs := [6]) (by kernel_rfl) (by simp) ?_
    refine AllReadyH.cons (o := ?_) ?_ ?_ ?_
    rotate_left 1
    · simp only [List.getElem?_toArray, List.getElem?_cons_succ, List.getElem?_cons_zero]; rfl
    rotate_left 1
    · exact AllReadyH.nil
    intro K hK
    go_simp
    ((with_reducible refine (CL.out w1.drew B1.out).mono ?_); rintro e wx ⟨rfl, rfl⟩)
    refine hK.out _ _ hHeld (fun hHeld => ?_)
    clear hK K
    try simp only [Act.put, List.setIfInBounds_toArray, List.set_cons_zero, List.set_cons_succ]
    refine wpAnyH_take (i := 7) (oi := ?_) (v := ?_) ?_ ?_ ?_ ?_ ?_ ?_ ?_ ?_
    rotate_left 2
    · simp only [List.getElem?_toArray, List.getElem?_cons_succ, List.getElem?_cons_zero]; rfl
    · kernel_rfl
    · kernel_rfl
    · kernel_rfl
    · exact fun _ _ _ h => h
    · refine Or.inl ⟨by rfl, ?_⟩
      intro w' hSw
      (try dsimp only at hSw)
      go_simp
      all_goals (with_reducible rfl)
    · assumption
    try simp only [Act.put, List.setIfInBounds_toArray, List.set_cons_zero, List.set_cons_succ]
    refine wpAnyH_ready (rs := [8]) (by kernel_rfl) (by simp) ?_
    refine AllReadyH.cons (o := ?_) ?_ ?_ ?_
    rotate_left 1
    · simp only [List.getElem?_toArray, List.getElem?_cons_succ, List.getElem?_cons_zero]; rfl
    rotate_left 1
    · exact AllReadyH.nil
    intro K hK
    go_simp
    skip
    refine hK.out _ _ H3.out.hs.rd (fun hHeld => ?_)
    clear hK K
    try simp only [Act.put, List.setIfInBounds_toArray, List.set_cons_zero, List.set_cons_succ]
    refine wpAnyH_done (by kernel_rfl) ?_ _
    clear hHeld
  rotate_left 1
  focus
    refine AllReadyH.cons (o := ?_) ?_ ?_ ?_
    rotate_left 1
    · simp only [List.getElem?_toArray, List.getElem?_cons_succ, List.getElem?_cons_zero]; rfl
    rotate_left 1
    · exact AllReadyH.nil
    intro K hK
    go_simp
    ((with_reducible refine (CL.out w1.drew B1.out).mono ?_); rintro e wx ⟨rfl, rfl⟩)
    refine hK.out _ _ hHeld (fun hHeld => ?_)
    clear hK K
    try simp only [Act.put, List.setIfInBounds_toArray, List.set_cons_zero, List.set_cons_succ]
    refine wpAnyH_ready (rs := [0]) (by kernel_rfl) (by simp) ?_
    refine AllReadyH.cons (o := ?_) ?_ ?_ ?_
    rotate_left 1
    · simp only [List.getElem?_toArray, List.getElem?_cons_succ, List.getElem?_cons_zero]; rfl
    rotate_left 1
    · exact AllReadyH.nil
    intro K hK
    go_simp
    skip
    refine hK.out _ _ hHeld (fun hHeld => ?_)
    clear hK K
    try simp only [Act.put, List.setIfInBounds_toArray, List.set_cons_zero, List.set_cons_succ]
    refine wpAnyH_take (i := 1) (oi := ?_) (v := ?_) ?_ ?_ ?_ ?_ ?_ ?_ ?_ ?_
    rotate_left 2
    · simp only [List.getElem?_toArray, List.getElem?_cons_succ, List.getElem?_cons_zero]; rfl
    · kernel_rfl
    · kernel_rfl
    · kernel_rfl
    · exact fun _ _ _ h => h
    · refine Or.inl ⟨by rfl, ?_⟩
      intro w' hSw
      (try dsimp only at hSw)
      go_simp
      all_goals (with_reducible rfl)
    · assumption
    try simp only [Act.put, List.setIfInBounds_toArray, List.set_cons_zero, List.set_cons_succ]
    refine wpAnyH_take (i := 7) (oi := ?_) (v := ?_) ?_ ?_ ?_ ?_ ?_ ?_ ?_ ?_
    rotate_left 2
    · simp only [List.getElem?_toArray, List.getElem?_cons_succ, List.getElem?_cons_zero]; rfl
    · kernel_rfl
    · kernel_rfl
    · kernel_rfl
    · exact fun _ _ _ h => h
    · refine Or.inl ⟨by rfl, ?_⟩
      intro w' hSw
      (try dsimp only at hSw)
      go_simp
      all_goals (with_reducible rfl)
    · assumption
    try simp only [Act.put, List.setIfInBounds_toArray, List.set_cons_zero, List.set_cons_succ]
    refine wpAnyH_ready (rs := [8]) (by kernel_rfl) (by simp) ?_
    refine AllReadyH.cons (o := ?_) ?_ ?_ ?_
    rotate_left 1
    · simp only [List.getElem?_toArray, List.getElem?_cons_succ, List.getElem?_cons_zero]; rfl
    rotate_left 1
    · exact AllReadyH.nil
    intro K hK
    go_simp
    skip
    refine hK.out _ _ H3.out.hs.rd (fun hHeld => ?_)
    clear hK K
    try simp only [Act.put, List.setIfInBounds_toArray, List.set_cons_zero, List.set_cons_succ]
    refine wpAnyH_done (by kernel_rfl) ?_ _
    clear hHeld
  all_goals
    clear k1d k2 hmax hmin k1r k1w kr CL hw3
    obtain ⟨w4, hw4, k4, l4, s4⟩ := box_new w3 #[.slice none 0 0] 33
    have hs3 : w3.heap.size = kb + 1 := HB3.out.2
    obtain ⟨lb, hlb⟩ : ∃ x, x = w3.heap.size := ⟨_, rfl⟩
    rw [← hlb] at k4
    have H4 := Lib.hid (H3.out.keep l4)
    have K4 := Lib.hid k4
    have K43 := Lib.hid (K3.out.keep l4)
    have HLB := Lib.hid (show lb = kb + 1 ∧ w4.heap.size = kb + 2 ∧ Below w.heap.size w w4 ∧ w.heap.size = kb from ⟨by omega, by omega, below_in HB3.out.1 l4, HB.out.1.symm⟩)
    clear k4 l4 s4 hs3
    go_upto_region 6 with (fail)
    rw [← hlb]
    clear hlb hw4
    go_wp2
    have hit := small_any Q L0 tot σ0 w4 H4.out
    rw [HL.out] at hit
    obtain ⟨is0, hi0, hz0, hz1, hz2⟩ := info_parts info_cnt
    have HI0 := Lib.hid (And.intro hi0 (And.intro hz0 (And.intro hz1 hz2)))
    clear hi0 hz0 hz1 hz2
    refine (wpIn_wide (n := 0)).1 (rf_law (gf := 17) (fb := #[.pointer (some ⟨Q.s, 0, none⟩)]) rfl (enters_of Try.func17 (by kernel_rfl) rfl) hit (Below.refl _ _) (fun _ => rfl) KeepB.trans (fun _ _ h => KeepB.turn h)
      (fun pre W' => TopS w W' Q L0 tot σ0 kb lb N pre ∧ pre.length ≤ N ∧ w4.heap.size ≤ W'.heap.size)
      (fun c pre W' => c = .exit 0 ∧ ∃ pre', TopS w W' Q L0 tot σ0 kb lb N pre' ∧ pre' <+: pre ∧ pre'.length = N ∧ w4.heap.size ≤ W'.heap.size)
      ?hI ?hIx ?h0 ?round ?done ?stop)
    case hI => exact fun s X Y hs hT => ⟨hs.1.turn hT HLB.out.2.2.1.size, hs.2.1, Nat.le_trans hs.2.2 hT.size⟩
    case hIx =>
      rintro c s X Y ⟨rfl, pre', h1, h2, h3, h4⟩ hT
      exact ⟨rfl, pre', h1.turn hT HLB.out.2.2.1.size, h2, h3, Nat.le_trans h4 hT.size⟩
    case h0 => exact ⟨⟨H4.out, K43.out, ⟨_, K4.out, World.ownsRow_nil _ _ _ _⟩, HLB.out.2.2.1⟩, Nat.zero_le _, Nat.le_refl _⟩
    case round =>
      rintro l pre ⟨s, nn, ee⟩ X K hl hpx ⟨hT0, hpn, hsz⟩ hK
      obtain ⟨hpl, hpa⟩ := nextS_at hpx
      obtain ⟨x1, x2, e1, kr, kw, e2, bl2, kc2⟩ := box3 X 42 (.string ⟨#[]⟩) (.int .i64 0) (.int .i64 0) (.string s) (.int .i64 nn) (.int .i64 ee)
      have HW := Lib.hid (And.intro e2 (And.intro bl2 kc2))
      have HS := Lib.hid (And.intro (hT0.keep bl2) (show w4.heap.size ≤ x2.heap.size by have := bl2.size; omega))
      have HK2 := Lib.hid hK
      have HP := Lib.hid (And.intro hpn hpl)
      clear e2 bl2 kc2 hT0 hsz hK hpn hpx hl hit hpl hpa
      gi_wp2
      rw [HW.out.1]
      refine HK2.out _ _ (keepsFrom_below HW.out.2.1) (KeepB.below HW.out.2.1) ?_
      clear kr kw e1
      intro W2 hT
      have T2 := Lib.hid (And.intro (HS.out.1.turn hT HLB.out.2.2.1.size) (And.intro (HW.out.2.2.turn hT) (show w4.heap.size ≤ W2.heap.size by have := hT.size; have := HS.out.2; omega)))
      clear hT HK2
      obtain ⟨v, hv1, hv2⟩ := T2.out.1.lb
      obtain ⟨Av, cv, rfl, hcv, hcm, hget⟩ := G.own_at hv2
      have HV := Lib.hid (And.intro hv1 hv2)
      have z0 := T2.out.1.kb.rd
      have z1 := hv1.rd
      have z2 := T2.out.2.1.rd
      clear hv1 hv2 hget hcm hcv
      by_cases hst : pre.length = N
      · have t3 : ((pre.length : Int) == (N : Int)) = true := by rw [beq_iff_eq]; omega
        have HST := Lib.hid hst
        clear hst
        gi_wp2
        exact ⟨KeepsFrom.refl _ _, rfl, pre, T2.out.1, List.prefix_append _ _, HST.out, T2.out.2.2⟩
      · have t3 : ((pre.length : Int) == (N : Int)) = false := by rw [beq_eq_false_iff_ne]; omega
        have HST := Lib.hid (show pre.length < N by have := HP.out.1; omega)
        clear hst
        have hN64 : pre.length < 64 := by have := HST.out; have := HN.out; omega
        have hob := G.own_base HV.out.2
        gi_wp2_with (gi_at_builtin; refine round_push (w0 := W2) (v := .slice Av pre.length cv) rfl _ _ rfl rfl rfl Try.underlying33 HI0.out.1 HI0.out.2.1 HI0.out.2.2.1 HI0.out.2.2.2 (by rfl) (by omega) HV.out.2 (by have := T2.out.2.2; have := HLB.out; omega) [.string s, .int .i64 nn, .int .i64 ee] rfl (by intro u hu; simp at hu; rcases hu with rfl | rfl | rfl <;> rfl) (by omega) (by unfold maxLen; omega) ?_; intro gl cl w9 hown9 hf9 hgl9; replace hf9 : Fr (fun k => (Value.slice Av pre.length cv).ownBlock = some k) W2 w9 := hf9; have O9 := Lib.hid hown9; have F9 := Lib.hid hf9; have B9 := Lib.hid (HV.out.1.fr hf9 (fun e => by have := hob _ e; omega)); have z9 := B9.out.rd; have z9w := B9.out.wr; clear hown9 hf9 hgl9)
        rw [setCell_obj B9.out]
        have f10 := fr_one w9 lb (.cells ((#[.slice Av pre.length cv] : Array Value).setIfInBounds 0 (.slice (some ⟨gl, 0, none⟩) (pre.length + 1) cl)) 33 (0, 0))
        have hb := HLB.out
        have hq := HQ.out
        have hsz := T2.out.2.2
        refine ⟨(keepsFrom_fr F9.out (fun k o hk _ ho => by obtain ⟨o', h1, h2⟩ := own_cells HV.out.2 k hk; rw [ho] at h1; cases h1; exact h2)).trans (keepsFrom_fr f10 (fun k o hk hB => by omega)), (KeepB.fr F9.out (fun k hk e => by have := hob k e; have := hq k hk; omega)).trans (KeepB.fr f10 (fun k hk e => by have := hq k hk; omega)), ⟨?_, ?_, ⟨_, setObj_at (lt_of_block B9.out) _, ?_⟩, ?_⟩, ?_, Nat.le_trans hsz (Nat.le_trans F9.out.size f10.size)⟩
        · exact (T2.out.1.at_.fr F9.out (fun k hk e => by have := hob k e; have := hq k hk; omega)).fr f10 (fun k hk e => by have := hq k hk; omega)
        · exact (T2.out.1.kb.fr F9.out (fun e => by have := hob _ e; omega)).fr f10 (by omega)
        · rw [List.length_append, List.flatMap_append]
          exact G.own_fr O9.out f10 (fun g hg e => by have := G.own_base O9.out g hg; omega)
        · have hbl := T2.out.1.bl
          exact (hbl.trans (F9.out.below hbl.size (fun k hk => by have := hob k hk; omega))).trans (f10.below (by have := F9.out.size; have := hbl.size; omega) (fun k hk => by omega))
        · rw [List.length_append]; have := HST.out; simp; omega
    case done =>
      rintro D X hD ⟨hT0, hpn, hsz⟩ hd
      obtain ⟨v, hv1, hv2⟩ := hT0.lb
      have HX := Lib.hid (And.intro hT0.bl (And.intro hv2 hpn))
      have HD := Lib.hid (And.intro hD hd)
      have z1 := hv1.rd
      clear hT0 hpn hsz hd hD hit hv1 hv2
      go_wp2
      have hx := HX.out
      have hb := HLB.out
      have hd := HD.out
      have hT := Turn.putObj X w4.heap.size D (.deferred none) hd.1 hd.2 rfl
      refine bodyM_mark rfl hd.2 (v := v) (by simp [results, Try.func23]) ⟨v, rfl, ?_, hT.below hx.1 (by omega)⟩
      rw [show min N M.length = M.length by omega, List.take_of_length_le hx.2.2]
      exact G.own_more (own_turn hx.2.1 hT) (by omega)
    case stop =>
      rintro D c pre X hD hpre ⟨rfl, pre', hT0, h2, h3, h4⟩ hd
      obtain ⟨v, hv1, hv2⟩ := hT0.lb
      have HX := Lib.hid (And.intro hT0.bl (And.intro hv2 (And.intro h2 h3)))
      have HD := Lib.hid (And.intro hD hd)
      have z1 := hv1.rd
      clear hT0 h2 h3 h4 hd hD hit hv1 hv2
      gi_wp2
      go_wp2
      have hx := HX.out
      have hb := HLB.out
      have hd := HD.out
      have hT := Turn.putObj X w4.heap.size D (.deferred none) hd.1 hd.2 rfl
      refine bodyM_mark rfl hd.2 (v := v) (by simp [results, Try.func23]) ⟨v, rfl, ?_, hT.below hx.1 (by omega)⟩
      have hp : pre' <+: M := hx.2.2.1.trans hpre
      have hl := hp.length_le
      rw [show min N M.length = pre'.length by omega, ← hx.2.2.2, ← List.prefix_iff_eq_take.1 hp]
      exact G.own_more (own_turn hx.2.1 hT) (by omega)
end Go.Proofs.Ytnpiimaapholiaa
/- The laws of layer 8 (summary): what Top tells, as a list; counts held against each other. -/
namespace Go.Proofs.Ytnpiimaapholiaa
set_option linter.unusedSimpArgs false
set_option linter.unusedVariables false
open Go.ChangeShapes Go.WideShapes Go.ChangeAt Go.RowKit
/-- a slice of counts, in a block from B on. -/
structure RdT (B : Nat) (w : World) (A : Option Addr) (n c : Nat) (L : List Tri) : Prop where
  len : L.length = n
  cap : n ≤ c
  max : c ≤ maxLen
  at_ : 0 < n → ∃ g C, A = some ⟨g, 0, none⟩ ∧ B ≤ g ∧ Blk w g 42 C ∧ ∀ (i : Nat) (a : Tri), L[i]? = some a → C[i * 3]? = some (.string a.1) ∧ C[i * 3 + 1]? = some (.int .i64 a.2.1) ∧ C[i * 3 + 2]? = some (.int .i64 a.2.2)
section
variable {B : Nat} {w w' : World} {A : Option Addr} {n c : Nat} {L : List Tri}
theorem RdT.keep (h : RdT B w A n c L) (hb : Below w.heap.size w w') : RdT B w' A n c L :=
  ⟨h.len, h.cap, h.max, fun hn => by obtain ⟨g, C, h1, h2, h3, h4⟩ := h.at_ hn; exact ⟨g, C, h1, h2, h3.keep hb, h4⟩⟩
theorem RdT.turn {D : Nat} (h : RdT B w A n c L) (hb : Turn D w w') : RdT B w' A n c L :=
  ⟨h.len, h.cap, h.max, fun hn => by obtain ⟨g, C, h1, h2, h3, h4⟩ := h.at_ hn; exact ⟨g, C, h1, h2, h3.turn hb, h4⟩⟩
theorem RdT.fr {F : Nat → Prop} (h : RdT B w A n c L) (hf : Fr F w w') (hF : ∀ k, B ≤ k → k < w.heap.size → ¬ F k) : RdT B w' A n c L :=
  ⟨h.len, h.cap, h.max, fun hn => by obtain ⟨g, C, h1, h2, h3, h4⟩ := h.at_ hn; exact ⟨g, C, h1, h2, h3.fr hf (hF g h2 (lt_of_block h3)), h4⟩⟩
theorem RdT.cell (h : RdT B w A n c L) {i : Nat} {a : Tri} (hi : L[i]? = some a) : ∃ g, A = some ⟨g, 0, none⟩ ∧ w.cell? ⟨g, i * 3, none⟩ = some (.string a.1) ∧ w.cell? ⟨g, i * 3 + 1, none⟩ = some (.int .i64 a.2.1) ∧ w.cell? ⟨g, i * 3 + 2, none⟩ = some (.int .i64 a.2.2) := by
  have := (List.getElem?_eq_some_iff.1 hi).1
  have hl := h.len
  obtain ⟨g, C, h1, h2, h3, h4⟩ := h.at_ (by omega)
  obtain ⟨c0, c1, c2⟩ := h4 i a hi
  exact ⟨g, h1, by rw [h3.rd]; exact c0, by rw [h3.rd]; exact c1, by rw [h3.rd]; exact c2⟩
theorem triV_get : ∀ (L : List Tri) (i : Nat) (a : Tri), L[i]? = some a → (L.flatMap triV)[i * 3]? = some (.string a.1) ∧ (L.flatMap triV)[i * 3 + 1]? = some (.int .i64 a.2.1) ∧ (L.flatMap triV)[i * 3 + 2]? = some (.int .i64 a.2.2)
  | [], i, a, h => by simp at h
  | x :: L, 0, a, h => by
    simp at h; subst h
    simp [triV]
  | x :: L, i + 1, a, h => by
    have := triV_get L i a (by simpa using h)
    rw [List.flatMap_cons]
    have e : ∀ j, (triV x ++ L.flatMap triV)[(i + 1) * 3 + j]? = (L.flatMap triV)[i * 3 + j]? := fun j => by
      rw [List.getElem?_append_right (by show 3 ≤ _; omega)]
      congr 1
      show (i + 1) * 3 + j - 3 = _
      omega
    exact ⟨by have := e 0; rw [Nat.add_zero, Nat.add_zero] at this; rw [this]; exact (triV_get L i a (by simpa using h)).1, by rw [e]; exact this.2.1, by rw [e]; exact this.2.2⟩
theorem rdT_own {v : Value} (h : w.ownsRow B 42 3 v n (L.flatMap triV)) : ∃ A c, v = .slice A n c ∧ RdT B w A n c L := by
  have hl := h.1
  rw [triV_len] at hl
  rcases h.2 with ⟨rfl, h0⟩ | ⟨g, cap, cur, rfl, hb, hg, hnc, hcm, hcs, htake⟩
  · exact ⟨none, 0, by rw [h0], by omega, by omega, by unfold maxLen; omega, fun h => absurd h (by omega)⟩
  · refine ⟨_, _, rfl, by omega, hnc, hcm, fun _ => ⟨g, cur, rfl, hb, hg, fun i a hi => ?_⟩⟩
    have hil := (List.getElem?_eq_some_iff.1 hi).1
    have hc : ∀ j, j < n * 3 → cur[j]? = (L.flatMap triV)[j]? := fun j hj => by
      rw [← htake]
      simp [hj]
    obtain ⟨c0, c1, c2⟩ := triV_get L i a hi
    exact ⟨by rw [hc _ (by omega)]; exact c0, by rw [hc _ (by omega)]; exact c1, by rw [hc _ (by omega)]; exact c2⟩
end
theorem smtopM {w : World} {Q : SmN} {M : List Tri} {tot : Int} (kq : Int) (hk : -9223372036854775808 ≤ kq ∧ kq ≤ 9223372036854775807) (h : SmM w Q M tot) :
    Calls Try.prog 23 #[.pointer (some ⟨Q.s, 0, none⟩), .int .i64 kq] w fun e w' => ∃ A c, e = .returned (.slice A (min (topN kq Q.N.n) M.length) c) ∧ RdT w.heap.size w' A (min (topN kq Q.N.n) M.length) c (M.take (topN kq Q.N.n)) ∧ Below w.heap.size w w' :=
  (smtop_any Q M tot kq hk w h).mono (fun e w' ⟨v, h1, h2, h3⟩ => by
    obtain ⟨A, c, rfl, h4⟩ := rdT_own h2
    exact ⟨A, c, h1, h4, h3⟩)
theorem cnt_equal (x y : Tri) (w : World) : (Op.equalIn 10000 42 (.agg #[.string x.1, .int .i64 x.2.1, .int .i64 x.2.2]) (.agg #[.string y.1, .int .i64 y.2.1, .int .i64 y.2.2])).run Try.prog w = .ok (decide (x = y)) w := by
  have hS : Try.prog.underlying 42 = some (.struct (Try.prog.fieldsOf 42)) := by kernel_rfl
  have hp : Try.prog.stoodInHeld 42 = false := by kernel_rfl
  obtain ⟨s, a, b⟩ := x
  obtain ⟨s', a', b'⟩ := y
  have hb : (s.toList == s'.toList) = decide (s = s') := by
    by_cases h : s = s'
    · subst h; simp
    · rw [decide_eq_false h]
      refine beq_eq_false_iff_ne.2 (fun e => h ?_)
      rw [ByteArray.toList_eq, ByteArray.toList_eq] at e
      exact ByteArray.ext (Array.ext' e)
  rw [show (10000 : Nat) = 9999 + 1 from rfl, run_equalIn_agg w 9999 42 _ _ hS hp]
  simp only [Program.fieldsOf, Try.underlying42]
  go_simp
  by_cases h1 : s = s' <;> by_cases h2 : a = a' <;> by_cases h3 : b = b' <;> simp [h1, h2, h3, hb]
end Go.Proofs.Ytnpiimaapholiaa
/- The law SummaryHeads of layer 8, walked. -/
namespace Go.Proofs.Ytnpiimaapholiaa
set_option linter.unusedSimpArgs false
set_option linter.unusedVariables false
open Go.ChangeShapes Go.WideShapes Go.ChangeAt Go.RowKit Go.Shelf
attribute [local go_sem] Oper.semAt_some
/-- what calls leave. -/
def runM (n : Nat) (l : List (ByteArray × Int)) : List Tri × Int := l.foldl (fun s c => offerM n s.1 s.2 c.1 c.2) ([], 0)
theorem runM_snoc (n : Nat) (l : List (ByteArray × Int)) (a : ByteArray × Int) : runM n (l ++ [a]) = offerM n (runM n l).1 (runM n l).2 a.1 a.2 := by unfold runM; rw [List.foldl_append]; rfl
theorem runM_take (n : Nat) {L : List (ByteArray × Int)} {i : Nat} {a : ByteArray × Int} (h : L[i]? = some a) : runM n (L.take (i + 1)) = offerM n (runM n (L.take i)).1 (runM n (L.take i)).2 a.1 a.2 := by
  rw [take_more h, runM_snoc]
/-- the law's summary, its boxes. -/
structure HdS (w wx : World) (sb rb : Nat) (stop : Int) (Q : SmN) (M : List Tri) (tot : Int) : Prop where
  at_ : SmB w wx Q M tot
  ks : Blk wx sb 3 #[.int .i64 stop]
  kr : Blk wx rb 4 #[.bool false]
theorem HdS.keep {w X Y : World} {sb rb : Nat} {stop : Int} {Q : SmN} {M : List Tri} {tot : Int} (h : HdS w X sb rb stop Q M tot) (hb : Below X.heap.size X Y) : HdS w Y sb rb stop Q M tot :=
  ⟨h.at_.keep hb, h.ks.keep hb, h.kr.keep hb⟩
theorem HdS.step {w X Y : World} {sb rb : Nat} {stop : Int} {Q : SmN} {M M' : List Tri} {tot tot' : Int} (h : HdS w X sb rb stop Q M tot) (h' : SmM Y Q M' tot') (hf : Fr Q.F X Y) (hQ : ∀ k, Q.all k → sb < k ∧ rb < k) : HdS w Y sb rb stop Q M' tot' :=
  ⟨h.at_.step h' hf, h.ks.fr hf (fun e => by have := (hQ _ (Or.inl e)).1; omega), h.kr.fr hf (fun e => by have := (hQ _ (Or.inl e)).2; omega)⟩
theorem HdS.turn {w X Y : World} {sb rb B : Nat} {stop : Int} {Q : SmN} {M : List Tri} {tot : Int} (h : HdS w X sb rb stop Q M tot) (ht : Turn B X Y) (hB : w.heap.size ≤ B) : HdS w Y sb rb stop Q M tot :=
  ⟨⟨KeepB.smM (KeepB.turn ht) h.at_.at_, ht.below h.at_.bl hB, h.at_.new⟩, h.ks.turn ht, h.kr.turn ht⟩
/-- and the list of all. -/
structure HdT (w wx : World) (sb rb tb : Nat) (stop : Int) (Q : SmN) (M : List Tri) (tot : Int) (A : Option Addr) (m c : Nat) : Prop where
  at_ : HdS w wx sb rb stop Q M tot
  kt : Blk wx tb 33 #[.slice A m c]
  rt : RdT 0 wx A m c M
theorem HdT.keep {w X Y : World} {sb rb tb : Nat} {stop : Int} {Q : SmN} {M : List Tri} {tot : Int} {A : Option Addr} {m c : Nat} (h : HdT w X sb rb tb stop Q M tot A m c) (hb : Below X.heap.size X Y) : HdT w Y sb rb tb stop Q M tot A m c :=
  ⟨h.at_.keep hb, h.kt.keep hb, h.rt.keep hb⟩
theorem HdT.turn {w X Y : World} {sb rb tb B : Nat} {stop : Int} {Q : SmN} {M : List Tri} {tot : Int} {A : Option Addr} {m c : Nat} (h : HdT w X sb rb tb stop Q M tot A m c) (ht : Turn B X Y) (hB : w.heap.size ≤ B) : HdT w Y sb rb tb stop Q M tot A m c :=
  ⟨h.at_.turn ht hB, h.kt.turn ht, h.rt.turn ht⟩
theorem RdT.more {B B' : Nat} {w : World} {A : Option Addr} {n c : Nat} {L : List Tri} (h : RdT B w A n c L) (hb : B' ≤ B) : RdT B' w A n c L :=
  ⟨h.len, h.cap, h.max, fun hn => by obtain ⟨g, C, h1, h2, h3, h4⟩ := h.at_ hn; exact ⟨g, C, h1, Nat.le_trans hb h2, h3, h4⟩⟩
set_option maxRecDepth 100000 in
set_option maxHeartbeats 8000000 in
theorem smheads_law (w : World) (z : Int) (A : Option Addr) (n c : Nat) (L : List (ByteArray × Int)) (stop : Int) (hz : -9223372036854775808 ≤ z ∧ z ≤ 9223372036854775807) (hr : RdL w A n c 2 encSI L) (hok : ∀ a ∈ L, okSI a) (hst : -9223372036854775808 ≤ stop ∧ stop ≤ 9223372036854775807) :
    Calls Try.prog 9 #[.int .i64 z, .slice A n c, .int .i64 stop] w fun e w' => e = .returned (.bool true) ∧ Below w.heap.size w w' := by
  have hmx := hr.max
  unfold maxLen at hmx
  have hcp := hr.cap
  have HR := Lib.hid hr
  have HO := Lib.hid hok
  have HST := Lib.hid hst
  obtain ⟨w1, hw1, k1, l1, s1⟩ := box_new w #[.int .i64 stop] 3
  obtain ⟨w2, hw2, k2, l2, s2⟩ := box_new w1 #[.bool false] 4
  obtain ⟨rb, hrb⟩ : ∃ x, x = w1.heap.size := ⟨_, rfl⟩
  obtain ⟨sb, hsb⟩ : ∃ x, x = w.heap.size := ⟨_, rfl⟩
  rw [← hrb] at k2
  rw [← hsb] at k1
  have BB := Lib.hid (show sb = w.heap.size ∧ rb = sb + 1 ∧ w2.heap.size = rb + 1 from ⟨hsb, by omega, by omega⟩)
  have K2 := Lib.hid (And.intro (k1.keep l2) k2)
  have L2 := Lib.hid (below_in l1 l2)
  obtain ⟨y, hy⟩ : ∃ y : Int, y = z % 16 := ⟨_, rfl⟩
  obtain ⟨N, hN⟩ : ∃ N : Nat, (N : Int) = y + 1 ∧ 1 ≤ N ∧ N ≤ 16 := ⟨(z % 16 + 1).toNat, by omega, by omega, by omega⟩
  have eb : bits BinOp.and IntKind.i64 z 15 = y := by rw [i64_mask4, hy]
  have ey : IntKind.i64.wrap (y + 1) = (N : Int) := by rw [IntKind.wrap_i64]; omega
  have CR := Lib.hid (fun wx => smrow_any 3 4 5 (by omega) (by omega) (by omega) wx)
  have hl := d_lt 3 4 5
  obtain ⟨X, hX⟩ : ∃ x, x = dX 3 4 5 := ⟨_, rfl⟩
  obtain ⟨Y, hY⟩ : ∃ x, x = dA 3 4 5 := ⟨_, rfl⟩
  obtain ⟨Z, hZ⟩ : ∃ x, x = dB 3 4 5 := ⟨_, rfl⟩
  rw [← hX, ← hY, ← hZ] at CR hl
  have CN := Lib.hid (fun wx => show Calls Try.prog 13 #[.int .i64 (N : Int), .agg #[.int .u64 X, .int .u64 Y, .int .u64 Z]] wx _ from smnew_any X Y Z hl.1 hl.2.1 hl.2.2 N hN.2.1 (by omega) wx)
  have HN := Lib.hid hN.2
  have t0 : (N : Int) ≤ 16 := by omega
  clear hr hok hst hz hX hY hZ hl k1 k2 l1 l2 s1 s2 hy hN
  refine callsM Try.func9 rfl ?_
  simp only [Try.ntmps9, List.size_toArray, List.length_cons, List.length_nil, Nat.reduceAdd, Nat.reduceSub, Array.replicate_succ, Array.replicate_zero, List.push_toArray, List.append_toArray, List.nil_append, List.cons_append]
  go_wp2_with (fail)
  rw [← hrb, ← hsb]
  clear hw1 hw2 hrb hsb
  refine (smfit_any w2).mono ?_
  rintro e w3 ⟨rfl, b3⟩
  have K3 := Lib.hid (And.intro (K2.out.1.keep b3) (K2.out.2.keep b3))
  have L3 := Lib.hid (below_in L2.out b3)
  have B3 := Lib.hid (show rb < w3.heap.size from by have := b3.size; have := BB.out; omega)
  clear b3 K2 L2
  have CLi := Lib.hid (smlight_any A n c L w3 (HR.out.below L3.out) HO.out)
  cases hlb : lightS L with
  | false =>
    rw [hlb] at CLi
    go_upto_region 4 with (fail)
    go_wp2_with (fail)
    refine CLi.out.mono ?_
    rintro e w4 ⟨rfl, b4⟩
    have K4 := Lib.hid (And.intro (K3.out.1.keep b4) (K3.out.2.keep b4))
    have L4 := Lib.hid (below_in L3.out b4)
    clear b4 CR CN CLi
    have kr := K4.out.2.rd
    have kw := K4.out.2.wr
    go_wp2
    exact bodyM_early rfl Try.underlying4 rfl rfl rfl K4.out.2 L4.out (by have := BB.out; omega)
  | true =>
  rw [hlb] at CLi
  have hlen : L.length ≤ 150 := by unfold lightS at hlb; simp at hlb; exact hlb.1
  have hln := HR.out.len
  have hb2 : (n : Int) ≤ 150 := by omega
  clear hlb hlen hln
  go_upto_region 4 with (fail)
  go_wp2_with (fail)
  refine CLi.out.mono ?_
  rintro e w4 ⟨rfl, b4⟩
  have K4 := Lib.hid (And.intro (K3.out.1.keep b4) (K3.out.2.keep b4))
  have L4 := Lib.hid (below_in L3.out b4)
  have B4 := Lib.hid (show rb < w4.heap.size from by have := b4.size; have := B3.out; omega)
  clear b4 CLi K3 L3 B3
  go_upto_region 6 with (fail)
  go_wp2_with (fail)
  refine (CR.out w4).mono ?_
  rintro e w5 ⟨rfl, b5⟩
  have B5 := Lib.hid b5
  clear b5 CR
  go_wp2_with (fail)
  refine (CN.out w5).mono ?_
  rintro e w6 ⟨Q, rfl, h6, hN6, hnew, b6⟩
  have HQN := Lib.hid hN6
  have H6 := Lib.hid (show HdS w w6 sb rb stop Q [] 0 from ⟨⟨⟨[], _, h6, rfl⟩, below_in (below_in L4.out B5.out) b6, fun k hk => Nat.le_trans (below_in L4.out B5.out).size (hnew k hk)⟩, (K4.out.1.keep B5.out).keep b6, (K4.out.2.keep B5.out).keep b6⟩)
  have HQ := Lib.hid (show ∀ k, Q.all k → sb < k ∧ rb < k from fun k hk => by have h1 := hnew k hk; have h2 := B5.out.size; have h3 := B4.out; have h4 := BB.out; omega)
  clear h6 hN6 hnew b6 CN L4 K4 B4 B5
  go_wp2
  go_loopg [30] n (fun kk si wr => ∃ (i : Nat), i ≤ n ∧ Hid (kk = n - i) ∧ si = .int .i64 (i : Int) ∧ Hid (HdS w wr sb rb stop Q (runM N (L.take i)).1 (runM N (L.take i)).2))
  case atStart => exact ⟨0, by omega, Lib.hid rfl, rfl, H6⟩
  case round =>
    obtain ⟨i, hi, HKK, rfl, HS⟩ := hrel
    by_cases hin : i < n
    · have hl2 := HR.out.len
      obtain ⟨b, off, rfl, hbl, hc⟩ := (HR.out.below HS.out.at_.bl).at_ (by omega)
      obtain ⟨⟨ky, v⟩, ha⟩ : ∃ a, L[i]? = some a := ⟨_, List.getElem?_eq_getElem (by omega)⟩
      have hoka := HO.out _ (List.mem_of_getElem? ha)
      have kr0 : wr.cell? ⟨b, off + i * 2, none⟩ = some (.string ky) := hc i _ ha 0 (by omega)
      have kr1 : wr.cell? ⟨b, off + i * 2 + 1, none⟩ = some (.int .i64 v) := hc i _ ha 1 (by omega)
      unfold okSI at hoka
      simp only at hoka
      obtain ⟨hky, hv⟩ := hoka
      obtain ⟨x1, x2, ex1, kr, kw, ex2, bl2, kc2⟩ := box2 wr 37 (.string ⟨#[]⟩) (.int .i64 0) (.string ky) (.int .i64 v)
      have S7 := Lib.hid (HS.out.keep bl2)
      obtain ⟨bx, hbx⟩ : ∃ bx, bx = wr.heap.size := ⟨_, rfl⟩
      rw [← hbx] at kc2
      have kc3 := kc2.rd
      have t2 : (i : Int) < (n : Int) := by omega
      have HIN := Lib.hid hin
      have co := smoffer_any ky hky v x2 S7.out.at_.at_
      rw [HQN.out] at co
      have CO := Lib.hid co
      have HT := Lib.hid (runM_take N ha)
      have fi : IntKind.i64.wrap ((i : Int) + 1) = ((i + 1 : Nat) : Int) := by rw [IntKind.wrap_i64]; omega
      clear hl2 hc hbl ha bl2 kc2 hky co
      go_upto_region 10 with (fail)
      rw [← hbx]
      clear kr kw ex1 kr0 kr1 ex2 hbx
      go_wp2_with (go_at_call 15; ((with_reducible refine CO.out.mono ?_); rintro e y2 ⟨rfl, s1, f1⟩; have Y2 := Lib.hid (S7.out.step s1 f1 HQ.out); clear s1 f1))
      go_roundg (n - (i + 1))
      case measure => have := HKK.out; have := HIN.out; omega
      case rel => exact ⟨i + 1, HIN.out, Lib.hid rfl, rfl, by rw [HT.out]; exact Y2⟩
    · have hie : i = n := by omega
      subst hie
      clear hin hi HKK
      obtain ⟨wz, hwz⟩ : ∃ wz, wz = wr := ⟨_, rfl⟩
      rw [← hwz] at HS ⊢
      clear hwz
      obtain ⟨M, hM⟩ : ∃ M, M = (runM N (L.take i)).1 := ⟨_, rfl⟩
      obtain ⟨tot, htot⟩ : ∃ tot, tot = (runM N (L.take i)).2 := ⟨_, rfl⟩
      rw [← hM, ← htot] at HS
      clear hM htot
      obtain ⟨m, hm⟩ : ∃ m, m = M.length := ⟨_, rfl⟩
      have hmN : m ≤ N := by have := (uni_of HS.out.at_.at_).2.1; rw [HQN.out] at this; omega
      have TOP := Lib.hid (fun (wx : World) (k : Int) (hk : 1 ≤ k ∧ k ≤ 16) (h : SmM wx Q M tot) => show Calls Try.prog 23 #[.pointer (some ⟨Q.s, 0, none⟩), .int .i64 k] wx (fun e w' => ∃ A c, e = .returned (.slice A (min (topN k N) m) c) ∧ RdT wx.heap.size w' A (min (topN k N) m) c (M.take (topN k N)) ∧ Below wx.heap.size wx w') from by
        have := smtopM k (by omega) h
        rw [HQN.out, ← hm] at this
        exact this)
      have hm16 : (m : Int) ≤ 16 := by omega
      have tn : topN (N : Int) N = N := by have := HN.out; unfold topN; omega
      have CT := TOP.out wz (N : Int) (by have := HN.out; omega) HS.out.at_.at_
      rw [tn, show min N m = m by omega, List.take_of_length_le (by omega)] at CT
      have CTT := Lib.hid CT
      have HM := Lib.hid (And.intro hm hmN)
      have HB2 := Lib.hid hb2
      clear CT tn hm hmN hb2 hmx hcp
      go_upto_region 12 with (fail)
      go_wp2_with (fail)
      refine CTT.out.mono ?_
      rintro e w7 ⟨At, ct, rfl, hrd, b7⟩
      obtain ⟨w8, w9, e8, k8, k8w, e9, b9, k9, s9⟩ := box1 w7 33 (.slice none 0 0) (.slice At m ct)
      obtain ⟨tb, htb⟩ : ∃ x, x = w7.heap.size := ⟨_, rfl⟩
      rw [← htb] at k9
      have HT9 := Lib.hid (show HdT w w9 sb rb tb stop Q M tot At m ct from ⟨(HS.out.keep b7).keep b9, k9, (hrd.more (Nat.zero_le _)).keep b9⟩)
      have HTB := Lib.hid (show rb < tb ∧ (∀ k, Q.all k → k < tb) ∧ w9.heap.size = tb + 1 from ⟨by have := lt_of_block (HS.out.keep b7).kr; omega, fun k hk => by have := (HS.out.keep b7).at_.lt k hk; omega, by omega⟩)
      clear hrd b7 k9 b9 CTT HS s9
      go_upto_region 13 with (fail)
      rw [← htb]
      clear k8 k8w e8 e9 htb
      go_wp2
      obtain ⟨N1, hN1⟩ : ∃ N1, N1 = N + 1 := ⟨_, rfl⟩
      have HN1 := Lib.hid hN1
      clear hN1
      go_loopg [11] N (fun kk si wr => ∃ (k : Nat), 1 ≤ k ∧ k ≤ N1 ∧ Hid (kk = N1 - k) ∧ si = .int .i64 (k : Int) ∧ Hid (HdT w wr sb rb tb stop Q M tot At m ct ∧ tb < wr.heap.size))
      case atStart => exact ⟨1, by omega, by have := HN1.out; omega, Lib.hid (by have := HN1.out; omega), rfl, Lib.hid ⟨HT9.out, by have := HTB.out; omega⟩⟩
      case round =>
        obtain ⟨k, hk1, hk2, HKK, rfl, HT⟩ := hrel
        by_cases hkn : k ≤ N
        · have t3 : (k : Int) ≤ (N : Int) := by omega
          have tn : topN (k : Int) N = k := by unfold topN; omega
          obtain ⟨q, hq⟩ : ∃ q, q = min k m := ⟨_, rfl⟩
          have CT := TOP.out wr (k : Int) (by have := HN.out; omega) HT.out.1.at_.at_.at_
          rw [tn, ← hq] at CT
          have CTT := Lib.hid CT
          have eq : min (k : Int) (m : Int) = (q : Int) := by omega
          have b1 : ((q : Int) != (q : Int)) = false := by simp
          have HKN := Lib.hid (And.intro hkn hq)
          have tq : (q : Int) ≤ 16 := by omega
          clear CT tn hkn hq
          go_upto_region 16 with (fail)
          go_wp2_with (fail)
          refine CTT.out.mono ?_
          rintro e wa ⟨Al, cl, rfl, hrd, ba⟩
          have HT2 := Lib.hid (And.intro (HT.out.1.keep ba) (And.intro (hrd.more (Nat.zero_le _)) (show tb < wa.heap.size by have := ba.size; have := HT.out.2; omega)))
          have zt := HT2.out.1.kt.rd
          clear hrd ba CTT
          go_upto_region 19 with (fail)
          clear eq b1
          go_wp2
          clear zt
          go_loopg [61] q (fun kq si wq => ∃ (j : Nat), j ≤ q ∧ Hid (kq = q - j) ∧ si = .int .i64 (j : Int) ∧ Hid (HdT w wq sb rb tb stop Q M tot At m ct ∧ RdT 0 wq Al q cl (M.take k) ∧ tb < wq.heap.size))
          case atStart => exact ⟨0, by omega, Lib.hid rfl, rfl, HT2⟩
          case round =>
            obtain ⟨j, hj, HJJ, rfl, HJ⟩ := hrel
            by_cases hjq : j < q
            · have hjm : j < M.length := by have := HKN.out.2; have := HM.out.1; omega
              obtain ⟨⟨s, nn, ee⟩, hx⟩ : ∃ a, M[j]? = some a := ⟨_, List.getElem?_eq_getElem hjm⟩
              have hx2 : (M.take k)[j]? = some (s, nn, ee) := by
                rw [List.getElem?_take, if_pos (by have := HKN.out.2; omega)]; exact hx
              obtain ⟨g1, rfl, p0, p1, p2⟩ := HJ.out.2.1.cell hx2
              obtain ⟨g2, hAt, q0, q1, q2⟩ := HJ.out.1.rt.cell hx
              have zt := HJ.out.1.kt.rd
              rw [hAt] at zt
              have CE := fun wx => cnt_equal (s, nn, ee) (s, nn, ee) wx
              rw [show decide (((s, nn, ee) : Tri) = (s, nn, ee)) = true from by simp] at CE
              have t4 : (0 : Int) ≤ (j : Int) := by omega
              have t5 : (j : Int) < (q : Int) := by omega
              have t6 : (j : Int) < (m : Int) := by have := HKN.out.2; omega
              have fi : IntKind.i64.wrap ((j : Int) + 1) = ((j + 1 : Nat) : Int) := by rw [IntKind.wrap_i64]; omega
              have HJQ := Lib.hid hjq
              clear hjm hx hx2 hAt hjq
              go_upto_region 22 with (fail)
              go_quiet (fail)
              clear zt p0 p1 p2 q0 q1 q2 CE
              have HJ2 := Lib.hid (show HdT w (wr.drewN nq) sb rb tb stop Q M tot At m ct ∧ RdT 0 (wr.drewN nq) (some ⟨g1, 0, none⟩) q cl (M.take k) ∧ tb < (wr.drewN nq).heap.size from
                ⟨HJ.out.1.keep (below_draws (Below.refl _ _) nq), HJ.out.2.1.keep (below_draws (Below.refl _ _) nq), HJ.out.2.2⟩)
              go_wp2
              go_roundg (q - (j + 1))
              case measure => have := HJJ.out; have := HJQ.out; omega
              case rel => exact ⟨j + 1, HJQ.out, Lib.hid rfl, rfl, HJ2⟩
            · have hjq2 : j = q := by omega
              have fk : IntKind.i64.wrap ((k : Int) + 1) = ((k + 1 : Nat) : Int) := by rw [IntKind.wrap_i64]; omega
              subst hjq2
              clear hj hjq
              go_wp2
              go_roundg (N1 - (k + 1))
              case measure => have := HKK.out; have := HKN.out; have := HN1.out; omega
              case rel => exact ⟨k + 1, by omega, by have := HN1.out; have := HKN.out; omega, Lib.hid rfl, rfl, Lib.hid ⟨HJ.out.1, HJ.out.2.2⟩⟩
        · have hk : k = N1 := by have := HN1.out; omega
          have t3 : N < k := by omega
          subst hk
          clear hk1 hk2 HKK hkn
          obtain ⟨wy, hwy⟩ : ∃ wy, wy = wr := ⟨_, rfl⟩
          rw [← hwy] at HT ⊢
          clear hwy
          go_upto_region 25 with (fail)
          obtain ⟨v8, v9, e8, k8, k8w, e9, b9, k9, s9⟩ := box1 wy 3 (.int .i64 0) (.int .i64 0)
          obtain ⟨ib, hib⟩ : ∃ x, x = wy.heap.size := ⟨_, rfl⟩
          rw [← hib] at k9
          have HT9 := Lib.hid (show HdT w v9 sb rb tb stop Q M tot At m ct ∧ Blk v9 ib 3 #[.int .i64 0] from ⟨HT.out.1.keep b9, k9⟩)
          have HIB := Lib.hid (show tb < ib ∧ v9.heap.size = ib + 1 from ⟨by have := HT.out.2; omega, by omega⟩)
          clear b9 k9 s9 HT
          go_upto_region 26 with (fail)
          rw [← hib]
          clear k8 k8w e8 e9 hib
          go_wp2
          have hit := smallM Q M tot v9 HT9.out.1.at_.at_.at_
          refine (wpIn_wide (n := 0)).1 (rf_law (gf := 17) (fb := #[.pointer (some ⟨Q.s, 0, none⟩)]) rfl (enters_of Try.func17 (by kernel_rfl) rfl) hit (Below.refl _ _) (fun _ => rfl) KeepB.trans (fun _ _ h => KeepB.turn h)
            (fun pre W' => HdT w W' sb rb tb stop Q M tot At m ct ∧ Blk W' ib 3 #[.int .i64 (pre.length : Int)] ∧ v9.heap.size ≤ W'.heap.size)
            (fun c pre W' => c = .exit 6 ∧ HdT w W' sb rb tb stop Q M tot At m ct ∧ Blk W' ib 3 #[.int .i64 stop])
            ?hI ?hIx ?h0 ?round ?done ?stop)
          case hI => exact fun s X Y hs hT => ⟨hs.1.turn hT HT9.out.1.at_.at_.bl.size, hs.2.1.turn hT, Nat.le_trans hs.2.2 hT.size⟩
          case hIx =>
            rintro c s X Y ⟨rfl, h1, h2⟩ hT
            exact ⟨rfl, h1.turn hT HT9.out.1.at_.at_.bl.size, h2.turn hT⟩
          case h0 => exact ⟨HT9.out.1, HT9.out.2, Nat.le_refl _⟩
          case round =>
            rintro l pre ⟨s, nn, ee⟩ V K hl hpx ⟨hT0, hi0, hsz⟩ hK
            obtain ⟨hpl, hpa⟩ := nextS_at hpx
            obtain ⟨j, hj⟩ : ∃ j, j = pre.length := ⟨_, rfl⟩
            rw [← hj] at hi0 hpl hpa
            obtain ⟨x1, x2, e1, kr, kw, e2, bl2, kc2⟩ := box3 V 42 (.string ⟨#[]⟩) (.int .i64 0) (.int .i64 0) (.string s) (.int .i64 nn) (.int .i64 ee)
            have HW := Lib.hid (And.intro e2 (And.intro bl2 kc2))
            have HS := Lib.hid (And.intro (hT0.keep bl2) (And.intro (hi0.keep bl2) (show v9.heap.size ≤ x2.heap.size by have := bl2.size; omega)))
            have HK2 := Lib.hid hK
            have HP := Lib.hid (And.intro hj (And.intro hpl hpa))
            have HXL := Lib.hid (show v9.heap.size ≤ V.heap.size from hsz)
            have t6 : (j : Int) < (m : Int) := by have := HM.out.1; omega
            clear e2 bl2 kc2 hT0 hi0 hsz hK hpx hl hit hpl hpa hj
            gi_wp2
            rw [HW.out.1]
            refine HK2.out _ _ (keepsFrom_below HW.out.2.1) (KeepB.below HW.out.2.1) ?_
            clear kr kw e1
            intro W2 hT
            have T2 := Lib.hid (And.intro (HS.out.1.turn hT HT9.out.1.at_.at_.bl.size) (And.intro (HS.out.2.1.turn hT) (And.intro (HW.out.2.2.turn hT) (show v9.heap.size ≤ W2.heap.size by have := hT.size; have := HS.out.2.2; omega))))
            clear hT HK2
            have z0 := T2.out.2.1.rd
            have z1 := T2.out.1.at_.ks.rd
            by_cases hst : (j : Int) = stop
            · have t3 : ((j : Int) == stop) = true := by rw [beq_iff_eq]; exact hst
              have HSJ := Lib.hid hst
              clear hst
              gi_wp2
              exact ⟨KeepsFrom.refl _ _, rfl, T2.out.1, by rw [← HSJ.out]; exact T2.out.2.1⟩
            · have t3 : ((j : Int) == stop) = false := by rw [beq_eq_false_iff_ne]; exact hst
              clear hst
              obtain ⟨g2, hAt, q0, q1, q2⟩ := T2.out.1.rt.cell HP.out.2.2
              have CE := fun wx => cnt_equal (s, nn, ee) (s, nn, ee) wx
              rw [show decide (((s, nn, ee) : Tri) = (s, nn, ee)) = true from by simp] at CE
              have t4 : (0 : Int) ≤ (j : Int) := by omega
              have fi : IntKind.i64.wrap ((j : Int) + 1) = ((j + 1 : Nat) : Int) := by rw [IntKind.wrap_i64]; omega
              clear q0 q1 q2
              gi_wp2
              clear z0 z1
              have B2 := Lib.hid (show Below W2.heap.size W2 W2.drew from below_draws (Below.refl _ _) 1)
              have T3 := Lib.hid (And.intro (T2.out.1.keep B2.out) (And.intro (T2.out.2.1.keep B2.out) (T2.out.2.2.1.keep B2.out)))
              have hS : (fun wx : World => (∀ x, wx.cell? ⟨V.heap.size, x, none⟩ = (#[.string s, .int .i64 nn, .int .i64 ee] : Array Value)[x]?) ∧ (∀ x, wx.cell? ⟨tb, x, none⟩ = (#[.slice (some ⟨g2, 0, none⟩) m ct] : Array Value)[x]?) ∧ (∀ x, wx.cell? ⟨ib, x, none⟩ = (#[.int .i64 (j : Int)] : Array Value)[x]?) ∧ wx.cell? ⟨g2, j * 3, none⟩ = some (.string s) ∧ wx.cell? ⟨g2, j * 3 + 1, none⟩ = some (.int .i64 nn) ∧ wx.cell? ⟨g2, j * 3 + 2, none⟩ = some (.int .i64 ee)) W2.drew := by
                obtain ⟨g3, hA3, q0, q1, q2⟩ := T3.out.1.rt.cell HP.out.2.2
                rw [hAt] at hA3
                cases hA3
                have := T3.out.1.kt.rd
                rw [hAt] at this
                exact ⟨T3.out.2.2.rd, this, T3.out.2.1.rd, q0, q1, q2⟩
              refine round_region_held (S := (fun wx : World => (∀ x, wx.cell? ⟨V.heap.size, x, none⟩ = (#[.string s, .int .i64 nn, .int .i64 ee] : Array Value)[x]?) ∧ (∀ x, wx.cell? ⟨tb, x, none⟩ = (#[.slice (some ⟨g2, 0, none⟩) m ct] : Array Value)[x]?) ∧ (∀ x, wx.cell? ⟨ib, x, none⟩ = (#[.int .i64 (j : Int)] : Array Value)[x]?) ∧ wx.cell? ⟨g2, j * 3, none⟩ = some (.string s) ∧ wx.cell? ⟨g2, j * 3 + 1, none⟩ = some (.int .i64 nn) ∧ wx.cell? ⟨g2, j * 3 + 2, none⟩ = some (.int .i64 ee))) (by kernel_rfl) (by kernel_rfl) (by rintro ⟨_, _, h⟩; exact h) hS (fun hHeld => ?_)
              refine wpAnyH_take (i := 0) (oi := ?_) (v := ?_) ?_ ?_ ?_ ?_ ?_ ?_ ?_ ?_
              rotate_left 2
              · simp only [List.getElem?_toArray, List.getElem?_cons_succ, List.getElem?_cons_zero]; rfl
              · kernel_rfl
              · kernel_rfl
              · kernel_rfl
              · exact fun _ _ _ h => h
              · refine Or.inl ⟨by rfl, ?_⟩
                intro w' hSw
                (try dsimp only at hSw)
                go_simp
                all_goals (with_reducible rfl)
              · assumption
              try simp only [Act.put, List.setIfInBounds_toArray, List.set_cons_zero, List.set_cons_succ]
              refine wpAnyH_take (i := 1) (oi := ?_) (v := ?_) ?_ ?_ ?_ ?_ ?_ ?_ ?_ ?_
              rotate_left 2
              · simp only [List.getElem?_toArray, List.getElem?_cons_succ, List.getElem?_cons_zero]; rfl
              · kernel_rfl
              · kernel_rfl
              · kernel_rfl
              · exact fun _ _ _ h => h
              · refine Or.inl ⟨by rfl, ?_⟩
                intro w' hSw
                (try dsimp only at hSw)
                go_simp
                all_goals (with_reducible rfl)
              · assumption
              try simp only [Act.put, List.setIfInBounds_toArray, List.set_cons_zero, List.set_cons_succ]
              refine wpAnyH_take (i := 2) (oi := ?_) (v := ?_) ?_ ?_ ?_ ?_ ?_ ?_ ?_ ?_
              rotate_left 2
              · simp only [List.getElem?_toArray, List.getElem?_cons_succ, List.getElem?_cons_zero]; rfl
              · kernel_rfl
              · kernel_rfl
              · kernel_rfl
              · exact fun _ _ _ h => h
              · refine Or.inl ⟨by rfl, ?_⟩
                intro w' hSw
                (try dsimp only at hSw)
                go_simp
                all_goals (with_reducible rfl)
              · assumption
              try simp only [Act.put, List.setIfInBounds_toArray, List.set_cons_zero, List.set_cons_succ]
              refine wpAnyH_take (i := 3) (oi := ?_) (v := ?_) ?_ ?_ ?_ ?_ ?_ ?_ ?_ ?_
              rotate_left 2
              · simp only [List.getElem?_toArray, List.getElem?_cons_succ, List.getElem?_cons_zero]; rfl
              · kernel_rfl
              · kernel_rfl
              · kernel_rfl
              · exact fun _ _ _ h => h
              · refine Or.inl ⟨by rfl, ?_⟩
                intro w' hSw
                (try dsimp only at hSw)
                go_simp
                all_goals (with_reducible rfl)
              · assumption
              try simp only [Act.put, List.setIfInBounds_toArray, List.set_cons_zero, List.set_cons_succ]
              refine wpAnyH_take (i := 4) (oi := ?_) (v := ?_) ?_ ?_ ?_ ?_ ?_ ?_ ?_ ?_
              rotate_left 2
              · simp only [List.getElem?_toArray, List.getElem?_cons_succ, List.getElem?_cons_zero]; rfl
              · kernel_rfl
              · kernel_rfl
              · kernel_rfl
              · exact fun _ _ _ h => h
              · refine Or.inl ⟨by rfl, ?_⟩
                intro w' hSw
                (try dsimp only at hSw)
                go_simp
                all_goals (with_reducible rfl)
              · assumption
              try simp only [Act.put, List.setIfInBounds_toArray, List.set_cons_zero, List.set_cons_succ]
              refine wpAnyH_take (i := 5) (oi := ?_) (v := ?_) ?_ ?_ ?_ ?_ ?_ ?_ ?_ ?_
              rotate_left 2
              · simp only [List.getElem?_toArray, List.getElem?_cons_succ, List.getElem?_cons_zero]; rfl
              · kernel_rfl
              · kernel_rfl
              · kernel_rfl
              · exact fun _ _ _ h => h
              · refine Or.inl ⟨by rfl, ?_⟩
                intro w' hSw
                (try dsimp only at hSw)
                go_simp
                all_goals (with_reducible rfl)
              · assumption
              try simp only [Act.put, List.setIfInBounds_toArray, List.set_cons_zero, List.set_cons_succ]
              refine wpAnyH_done (by kernel_rfl) ?_ _
              clear hHeld hS CE
              have Z7 := Lib.hid T3.out.2.1
              have z7 := Z7.out.rd
              have z7w := Z7.out.wr
              gi_wp2
              rw [setCell_obj T2.out.2.1]
              have f5 := fr_one W2 ib (.cells ((#[.int .i64 (j : Int)] : Array Value).setIfInBounds 0 (.int .i64 ((j : Int) + 1))) 3 (0, 0))
              have g5 : Blk (setObj W2 ib (.cells ((#[.int .i64 (j : Int)] : Array Value).setIfInBounds 0 (.int .i64 ((j : Int) + 1))) 3 (0, 0))) ib 3 #[.int .i64 ((j : Int) + 1)] := setObj_at (lt_of_block T2.out.2.1) _
              generalize setObj W2 ib (.cells ((#[.int .i64 (j : Int)] : Array Value).setIfInBounds 0 (.int .i64 ((j : Int) + 1))) 3 (0, 0)) = w5 at f5 g5 ⊢
              have b5 : Below w5.heap.size w5 w5.drew := below_draws (Below.refl _ _) 1
              have h9 := HIB.out
              have ht := HTB.out
              have hlb := T2.out.1.at_.at_.bl
              have hq := HQ.out
              have hbb := BB.out
              have hw0 : w.heap.size ≤ ib := by omega
              refine ⟨(keepsFrom_fr f5 (fun k o hk hB => by omega)).trans (keepsFrom_below b5), (KeepB.fr f5 (fun k hk e => by have := ht.2.1 k hk; omega)).trans (KeepB.below b5), HdT.keep (X := w5) ?_ b5, ?_, by have := T2.out.2.2.2; have := f5.size; have := b5.size; omega⟩
              · refine ⟨⟨⟨T2.out.1.at_.at_.at_.fr f5 (fun k hk e => by have := ht.2.1 k hk; omega), hlb.trans (f5.below hlb.size (fun k hk => by omega)), T2.out.1.at_.at_.new⟩, T2.out.1.at_.ks.fr f5 (by omega), T2.out.1.at_.kr.fr f5 (by omega)⟩, T2.out.1.kt.fr f5 (by omega), ⟨T2.out.1.rt.len, T2.out.1.rt.cap, T2.out.1.rt.max, fun hn => ?_⟩⟩
                obtain ⟨g, C, h1, h2, h3, h4⟩ := T2.out.1.rt.at_ hn
                refine ⟨g, C, h1, h2, h3.fr f5 (fun e => ?_), h4⟩
                have hbk := T2.out.2.1
                rw [e] at h3
                have h5 : some (Obj.cells C 42 (0, 0)) = some (Obj.cells #[.int .i64 (j : Int)] 3 (0, 0)) := h3.symm.trans hbk
                injection h5 with h5
                injection h5 with h6 h7
                exact absurd h7 (by decide)
              · have : ((pre ++ [((s, nn, ee) : Tri)]).length : Int) = (j : Int) + 1 := by rw [List.length_append, ← HP.out.1]; simp
                rw [this]
                exact g5.keep b5
          case done =>
            rintro D Xd hD ⟨hT0, hi0, hsz⟩ hd
            have HX := Lib.hid (And.intro hT0 (And.intro hi0 (And.intro hD hd)))
            have z1 := hT0.at_.kr.rd
            have z1w := hT0.at_.kr.wr
            have z7 := hi0.rd
            have z0 := hT0.at_.ks.rd
            have zt := hT0.kt.rd
            rw [← HM.out.1] at z7
            have n17 : rb ≠ ib := by have := HTB.out; have := HIB.out; omega
            clear hT0 hi0 hsz hd hD hit
            go_wp2
            have h0 := HX.out.1.at_.at_.bl.size
            have hbb := BB.out
            exact bodyM_law rfl Try.underlying4 rfl rfl rfl HX.out.1.at_.kr HX.out.2.2.2 HX.out.1.at_.at_.bl (by omega) (by have := HX.out.2.2.1; have := HIB.out; have := HTB.out; omega)
          case stop =>
            rintro D c pre Xd hD hpre ⟨rfl, hT0, hi0⟩ hd
            have HX := Lib.hid (And.intro hT0 (And.intro hi0 (And.intro hD hd)))
            have z1 := hT0.at_.kr.rd
            have z1w := hT0.at_.kr.wr
            have z7 := hi0.rd
            have z0 := hT0.at_.ks.rd
            have zt := hT0.kt.rd
            have n17 : rb ≠ ib := by have := HTB.out; have := HIB.out; omega
            clear hT0 hi0 hd hD hit
            refine wpIn_exit ?_
            by_cases hsi : stop = (m : Int)
            · subst hsi
              go_wp2
              have hbb := BB.out
              exact bodyM_law rfl Try.underlying4 rfl rfl rfl HX.out.1.at_.kr HX.out.2.2.2 HX.out.1.at_.at_.bl (by omega) (by have := HX.out.2.2.1; have := HIB.out; have := HTB.out; omega)
            · have t5 : (stop == (m : Int)) = false := by simpa using hsi
              go_wp2
              have hbb := BB.out
              exact bodyM_law rfl Try.underlying4 rfl rfl rfl HX.out.1.at_.kr HX.out.2.2.2 HX.out.1.at_.at_.bl (by omega) (by have := HX.out.2.2.1; have := HIB.out; have := HTB.out; omega)
end Go.Proofs.Ytnpiimaapholiaa
