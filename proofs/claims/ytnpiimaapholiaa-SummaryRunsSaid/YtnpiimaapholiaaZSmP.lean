import Derived.Test.YtnpiimaapholiaaSmA
import Derived.Test.YtnpiimaapholiaaZLiftS
import Derived.Test.YtnpiimaapholiaaZObj
import Derived.Laws.StructEq
import Derived.Test.YtnpiimaapholiaaZSmL
import Derived.BigQuiet
import Derived.Test.YtnpiimaapholiaaSmI
import Derived.Test.YtnpiimaapholiaaRfD
/- The contracts of layer 8 (summary): Top. -/
namespace Go.Proofs.Ytnpiimaapholiaa
set_option linter.unusedSimpArgs false
set_option linter.unusedVariables false
open Go.ChangeShapes Go.WideShapes Go.ChangeAt Go.RowKit Go.Shelf
attribute [local go_sem] Oper.semAt_some
/-- how many Top tells at most. -/
def topN (k : Int) (n : Nat) : Nat := (min (max k 1) (n : Int)).toNat
theorem topN_le (k : Int) {n : Nat} (hn : 1 ≤ n) : 1 ≤ topN k n ∧ topN k n ≤ n := by unfold topN; omega
abbrev encT (a : Tri) : Nat → Value
  | 0 => .string a.1
  | 1 => .int .i64 a.2.1
  | _ => .int .i64 a.2.2
def triV (a : Tri) : List Value := [.string a.1, .int .i64 a.2.1, .int .i64 a.2.2]
theorem info_cnt : (Try.prog.info? 42).map (fun i => (i.zero, i.size, i.bytes)) = some (some (.agg #[.string ⟨#[]⟩, .int .i64 0, .int .i64 0]), 3, 32) := by kernel_rfl
/-- what comes next of a list. -/
theorem nextS_at {β : Type} {l pre : List β} {x : β} (h : pre ++ [x] <+: l) : pre.length < l.length ∧ l[pre.length]? = some x := by
  have h1 := h.length_le
  simp at h1
  obtain ⟨t, ht⟩ := h
  exact ⟨by omega, by rw [← ht]; simp⟩
theorem triV_len (M : List Tri) : (M.flatMap triV).length = M.length * 3 := by
  induction M with
  | nil => rfl
  | cons x M ih => rw [List.flatMap_cons, List.length_append, ih]; simp [triV]; omega
/-- the state between two rounds. -/
structure TopS (w wx : World) (Q : SmN) (L : List Ent) (tot : Int) (σ : KSt) (kb lb N : Nat) (pre : List Tri) : Prop where
  at_ : SmAt wx Q L tot σ
  kb : Blk wx kb 3 #[.int .i64 (N : Int)]
  lb : ∃ v, Blk wx lb 33 #[v] ∧ wx.ownsRow (lb + 1) 42 3 v pre.length (pre.flatMap triV)
  bl : Below w.heap.size w wx
theorem TopS.turn {w X Y : World} {Q : SmN} {L : List Ent} {tot : Int} {σ : KSt} {kb lb N B : Nat} {pre : List Tri} (h : TopS w X Q L tot σ kb lb N pre) (ht : Turn B X Y) (hB : w.heap.size ≤ B) : TopS w Y Q L tot σ kb lb N pre := by
  obtain ⟨v, h1, h2⟩ := h.lb
  exact ⟨KeepB.sm (KeepB.turn ht) h.at_, h.kb.turn ht, ⟨v, h1.turn ht, own_turn h2 ht⟩, ht.below h.bl hB⟩
theorem TopS.keep {w X Y : World} {Q : SmN} {L : List Ent} {tot : Int} {σ : KSt} {kb lb N : Nat} {pre : List Tri} (h : TopS w X Q L tot σ kb lb N pre) (hb : Below X.heap.size X Y) : TopS w Y Q L tot σ kb lb N pre := by
  obtain ⟨v, h1, h2⟩ := h.lb
  exact ⟨h.at_.keep hb, h.kb.keep hb, ⟨v, h1.keep hb, G.own_below h2 hb⟩, below_in h.bl hb⟩
set_option maxRecDepth 100000 in
set_option maxHeartbeats 4000000 in
theorem smtop_any (Q : SmN) (M : List Tri) (tot : Int) (kq : Int) (hk : -9223372036854775808 ≤ kq ∧ kq ≤ 9223372036854775807) (w : World) (h : SmM w Q M tot) :
    Calls Try.prog 23 #[.pointer (some ⟨Q.s, 0, none⟩), .int .i64 kq] w fun e w' => ∃ v, e = .returned v ∧ w'.ownsRow w.heap.size 42 3 v (min (topN kq Q.N.n) M.length) ((M.take (topN kq Q.N.n)).flatMap triV) ∧ Below w.heap.size w w' := by
  obtain ⟨N, hN⟩ : ∃ N, N = topN kq Q.N.n := ⟨_, rfl⟩
  rw [← hN]
  obtain ⟨L0, σ0, h0, hL0⟩ := h
  have hn1 := h0.n1
  have hNb := topN_le kq hn1.1
  rw [← hN] at hNb
  obtain ⟨kx, hkx⟩ : ∃ kx, kx = max kq 1 := ⟨_, rfl⟩
  have hmin : min kx (Q.N.n : Int) = (N : Int) := by rw [hkx, hN]; unfold topN; omega
  have hmax : max kq 1 = kx := hkx.symm
  obtain ⟨w1, hw1, k1, l1, s1⟩ := box_new w #[.int .i64 kq] 3
  obtain ⟨kb, hkb⟩ : ∃ x, x = w.heap.size := ⟨_, rfl⟩
  rw [← hkb] at k1
  have H1 := Lib.hid (h0.keep l1)
  have CL := Lib.hid (fun wx (hb : Below w1.heap.size w1 wx) => len_any wx (((h0.keep l1).keep hb).ix.ks))
  have K1 := Lib.hid k1
  have HB := Lib.hid (And.intro hkb (And.intro l1 s1))
  have HQ := Lib.hid (show ∀ k, Q.all k → k < kb from fun k hk => by rw [hkb]; exact h0.lt k hk)
  have HL := Lib.hid hL0
  have HN := Lib.hid (And.intro hNb hn1)
  have k1r := k1.rd
  have k1w := k1.wr
  have kr := (h0.keep l1).hs.rd
  clear hL0 h0 hN hn1 hNb hkx k1 l1 s1
  refine callsM Try.func23 rfl ?_
  simp only [Try.ntmps23, List.size_toArray, List.length_cons, List.length_nil, Nat.reduceAdd, Nat.reduceSub, Array.replicate_succ, Array.replicate_zero, List.push_toArray, List.append_toArray, List.nil_append, List.cons_append]
  go_upto_region 3 with (fail)
  rw [← hkb]
  clear hkb hw1
  have B1 := Lib.hid (show Below w1.heap.size w1 w1.drew from below_draws (Below.refl _ _) 1)
  have k1d : w1.drew.cell? ⟨kb, 0, none⟩ = some (.int .i64 kq) := k1r 0
  have k2 := (K1.out.keep B1.out).wr
  have HS := Lib.hid (show ∀ v, ∃ w3, w1.drew.setCell ⟨kb, 0, none⟩ v = w3 ∧ Blk w3 kb 3 #[v] ∧ Fr (fun k => k = kb) w1.drew w3 ∧ w3.heap.size = w1.drew.heap.size from fun v => G.box_set (K1.out.keep B1.out) 0 v #[v] rfl)
  obtain ⟨w3, hw3, k3, f3, s3⟩ := HS.out (.int .i64 (N : Int))
  have H3 := Lib.hid ((H1.out.keep B1.out).fr f3 (fun k hk e => by have := HQ.out k hk; omega))
  have K3 := Lib.hid k3
  have HB3 := Lib.hid (show Below w.heap.size w w3 ∧ w3.heap.size = kb + 1 from ⟨(below_in HB.out.2.1 B1.out).trans (f3.below (by have := HB.out; have : w1.drew.heap.size = w1.heap.size := rfl; omega) (fun k hk => by have := HB.out.1; omega)), by have := HB.out; have : w1.drew.heap.size = w1.heap.size := rfl; omega⟩)
  clear k3 f3 s3 HS
  refine wp_region_held_drew (S := (fun w' : World => ∀ i, w'.cell? ⟨Q.s, i, none⟩ = (smC Q L0.length tot)[i]?)) (by kernel_rfl) (show ∀ i, w1.drew.cell? ⟨Q.s, i, none⟩ = _ from kr) (fun hHeld => ?_)
  refine wpAnyH_take (i := 2) (oi := ?_) (v := ?_) ?_ ?_ ?_ ?_ ?_ ?_ ?_ ?_
  rotate_left 2
  · simp only [List.getElem?_toArray, List.getElem?_cons_succ, List.getElem?_cons_zero]; rfl
  · kernel_rfl
  · kernel_rfl
  · kernel_rfl
  · exact fun _ _ _ h => h
  · refine Or.inl ⟨by rfl, ?_⟩
    intro w' hSw
    (try dsimp only at hSw)
    go_simp
    all_goals (with_reducible rfl)
  · assumption
  try simp only [Act.put, List.setIfInBounds_toArray, List.set_cons_zero, List.set_cons_succ]
  refine wpAnyH_take (i := 3) (oi := ?_) (v := ?_) ?_ ?_ ?_ ?_ ?_ ?_ ?_ ?_
  rotate_left 2
  · simp only [List.getElem?_toArray, List.getElem?_cons_succ, List.getElem?_cons_zero]; rfl
  · kernel_rfl
  · kernel_rfl
  · kernel_rfl
  · exact fun _ _ _ h => h
  · refine Or.inl ⟨by rfl, ?_⟩
    intro w' hSw
    (try dsimp only at hSw)
    go_simp
    all_goals (with_reducible rfl)
  · assumption
  try simp only [Act.put, List.setIfInBounds_toArray, List.set_cons_zero, List.set_cons_succ]
  refine wpAnyH_take (i := 4) (oi := ?_) (v := ?_) ?_ ?_ ?_ ?_ ?_ ?_ ?_ ?_
  rotate_left 2
  · simp only [List.getElem?_toArray, List.getElem?_cons_succ, List.getElem?_cons_zero]; rfl
  · kernel_rfl
  · kernel_rfl
  · kernel_rfl
  · exact fun _ _ _ h => h
  · refine Or.inl ⟨by rfl, ?_⟩
    intro w' hSw
    (try dsimp only at hSw)
    go_simp
    all_goals (with_reducible rfl)
  · assumption
  try simp only [Act.put, List.setIfInBounds_toArray, List.set_cons_zero, List.set_cons_succ]
  refine wpAnyH_take (i := 5) (oi := ?_) (v := ?_) ?_ ?_ ?_ ?_ ?_ ?_ ?_ ?_
  rotate_left 2
  · simp only [List.getElem?_toArray, List.getElem?_cons_succ, List.getElem?_cons_zero]; rfl
  · kernel_rfl
  · kernel_rfl
  · kernel_rfl
  · exact fun _ _ _ h => h
  · refine Or.inl ⟨by rfl, ?_⟩
    intro w' hSw
    (try dsimp only at hSw)
    go_simp
    all_goals (with_reducible rfl)
  · assumption
  try simp only [Act.put, List.setIfInBounds_toArray, List.set_cons_zero, List.set_cons_succ]
  refine wpAnyH_ready (rs := [0, 6]) (by kernel_rfl) (by simp) ?_
  refine AllReadyH.cons (o := ?_) ?_ ?_ ?_
  rotate_left 1
  · simp only [List.getElem?_toArray, List.getElem?_cons_succ, List.getElem?_cons_zero]; rfl
  focus
    intro K hK
    go_simp
    skip
    refine hK.out _ _ hHeld (fun hHeld => ?_)
    clear hK K
    try simp only [Act.put, List.setIfInBounds_toArray, List.set_cons_zero, List.set_cons_succ]
    refine wpAnyH_take (i := 1) (oi := ?_) (v := ?_) ?_ ?_ ?_ ?_ ?_ ?_ ?_ ?_
    rotate_left 2
    · simp only [List.getElem?_toArray, List.getElem?_cons_succ, List.getElem?_cons_zero]; rfl
    · kernel_rfl
    · kernel_rfl
    · kernel_rfl
    · exact fun _ _ _ h => h
    · refine Or.inl ⟨by rfl, ?_⟩
      intro w' hSw
      (try dsimp only at hSw)
      go_simp
      all_goals (with_reducible rfl)
    · assumption
    try simp only [Act.put, List.setIfInBounds_toArray, List.set_cons_zero, List.set_cons_succ]
    refine wpAnyH_ready (rs := [6]) (by kernel_rfl) (by simp) ?_
    refine AllReadyH.cons (o := ?_) ?_ ?_ ?_
    rotate_left 1
    · simp only [List.getElem?_toArray, List.getElem?_cons_succ, List.getElem?_cons_zero]; rfl
    rotate_left 1
    · exact AllReadyH.nil
    intro K hK
    go_simp
    ((with_reducible refine (CL.out w1.drew B1.out).mono ?_); rintro e wx ⟨rfl, rfl⟩)
    refine hK.out _ _ hHeld (fun hHeld => ?_)
    clear hK K
    try simp only [Act.put, List.setIfInBounds_toArray, List.set_cons_zero, List.set_cons_succ]
    refine wpAnyH_take (i := 7) (oi := ?_) (v := ?_) ?_ ?_ ?_ ?_ ?_ ?_ ?_ ?_
    rotate_left 2
    · simp only [List.getElem?_toArray, List.getElem?_cons_succ, List.getElem?_cons_zero]; rfl
    · kernel_rfl
    · kernel_rfl
    · kernel_rfl
    · exact fun _ _ _ h => h
    · refine Or.inl ⟨by rfl, ?_⟩
      intro w' hSw
      (try dsimp only at hSw)
      go_simp
      all_goals (with_reducible rfl)
    · assumption
    try simp only [Act.put, List.setIfInBounds_toArray, List.set_cons_zero, List.set_cons_succ]
    refine wpAnyH_ready (rs := [8]) (by kernel_rfl) (by simp) ?_
    refine AllReadyH.cons (o := ?_) ?_ ?_ ?_
    rotate_left 1
    · simp only [List.getElem?_toArray, List.getElem?_cons_succ, List.getElem?_cons_zero]; rfl
    rotate_left 1
    · exact AllReadyH.nil
    intro K hK
    go_simp
    skip
    refine hK.out _ _ H3.out.hs.rd (fun hHeld => ?_)
    clear hK K
    try simp only [Act.put, List.setIfInBounds_toArray, List.set_cons_zero, List.set_cons_succ]
    refine wpAnyH_done (by kernel_rfl) ?_ _
    clear hHeld
  rotate_left 1
  focus
    refine AllReadyH.cons (o := ?_) ?_ ?_ ?_
    rotate_left 1
    · simp only [List.getElem?_toArray, List.getElem?_cons_succ, List.getElem?_cons_zero]; rfl
    rotate_left 1
    · exact AllReadyH.nil
    intro K hK
    go_simp
    ((with_reducible refine (CL.out w1.drew B1.out).mono ?_); rintro e wx ⟨rfl, rfl⟩)
    refine hK.out _ _ hHeld (fun hHeld => ?_)
    clear hK K
    try simp only [Act.put, List.setIfInBounds_toArray, List.set_cons_zero, List.set_cons_succ]
    refine wpAnyH_ready (rs := [0]) (by kernel_rfl) (by simp) ?_
    refine AllReadyH.cons (o := ?_) ?_ ?_ ?_
    rotate_left 1
    · simp only [List.getElem?_toArray, List.getElem?_cons_succ, List.getElem?_cons_zero]; rfl
    rotate_left 1
    · exact AllReadyH.nil
    intro K hK
    go_simp
    skip
    refine hK.out _ _ hHeld (fun hHeld => ?_)
    clear hK K
    try simp only [Act.put, List.setIfInBounds_toArray, List.set_cons_zero, List.set_cons_succ]
    refine wpAnyH_take (i := 1) (oi := ?_) (v := ?_) ?_ ?_ ?_ ?_ ?_ ?_ ?_ ?_
    rotate_left 2
    · simp only [List.getElem?_toArray, List.getElem?_cons_succ, List.getElem?_cons_zero]; rfl
    · kernel_rfl
    · kernel_rfl
    · kernel_rfl
    · exact fun _ _ _ h => h
    · refine Or.inl ⟨by rfl, ?_⟩
      intro w' hSw
      (try dsimp only at hSw)
      go_simp
      all_goals (with_reducible rfl)
    · assumption
    try simp only [Act.put, List.setIfInBounds_toArray, List.set_cons_zero, List.set_cons_succ]
    refine wpAnyH_take (i := 7) (oi := ?_) (v := ?_) ?_ ?_ ?_ ?_ ?_ ?_ ?_ ?_
    rotate_left 2
    · simp only [List.getElem?_toArray, List.getElem?_cons_succ, List.getElem?_cons_zero]; rfl
    · kernel_rfl
    · kernel_rfl
    · kernel_rfl
    · exact fun _ _ _ h => h
    · refine Or.inl ⟨by rfl, ?_⟩
      intro w' hSw
      (try dsimp only at hSw)
      go_simp
      all_goals (with_reducible rfl)
    · assumption
    try simp only [Act.put, List.setIfInBounds_toArray, List.set_cons_zero, List.set_cons_succ]
    refine wpAnyH_ready (rs := [8]) (by kernel_rfl) (by simp) ?_
    refine AllReadyH.cons (o := ?_) ?_ ?_ ?_
    rotate_left 1
    · simp only [List.getElem?_toArray, List.getElem?_cons_succ, List.getElem?_cons_zero]; rfl
    rotate_left 1
    · exact AllReadyH.nil
    intro K hK
    go_simp
    skip
    refine hK.out _ _ H3.out.hs.rd (fun hHeld => ?_)
    clear hK K
    try simp only [Act.put, List.setIfInBounds_toArray, List.set_cons_zero, List.set_cons_succ]
    refine wpAnyH_done (by kernel_rfl) ?_ _
    clear hHeld
  all_goals
    clear k1d k2 hmax hmin k1r k1w kr CL hw3
    obtain ⟨w4, hw4, k4, l4, s4⟩ := box_new w3 #[.slice none 0 0] 33
    have hs3 : w3.heap.size = kb + 1 := HB3.out.2
    obtain ⟨lb, hlb⟩ : ∃ x, x = w3.heap.size := ⟨_, rfl⟩
    rw [← hlb] at k4
    have H4 := Lib.hid (H3.out.keep l4)
    have K4 := Lib.hid k4
    have K43 := Lib.hid (K3.out.keep l4)
    have HLB := Lib.hid (show lb = kb + 1 ∧ w4.heap.size = kb + 2 ∧ Below w.heap.size w w4 ∧ w.heap.size = kb from ⟨by omega, by omega, below_in HB3.out.1 l4, HB.out.1.symm⟩)
    clear k4 l4 s4 hs3
    go_upto_region 6 with (fail)
    rw [← hlb]
    clear hlb hw4
    go_wp2
    have hit := small_any Q L0 tot σ0 w4 H4.out
    rw [HL.out] at hit
    obtain ⟨is0, hi0, hz0, hz1, hz2⟩ := info_parts info_cnt
    have HI0 := Lib.hid (And.intro hi0 (And.intro hz0 (And.intro hz1 hz2)))
    clear hi0 hz0 hz1 hz2
    refine (wpIn_wide (n := 0)).1 (rf_law (gf := 17) (fb := #[.pointer (some ⟨Q.s, 0, none⟩)]) rfl (enters_of Try.func17 (by kernel_rfl) rfl) hit (Below.refl _ _) (fun _ => rfl) KeepB.trans (fun _ _ h => KeepB.turn h)
      (fun pre W' => TopS w W' Q L0 tot σ0 kb lb N pre ∧ pre.length ≤ N ∧ w4.heap.size ≤ W'.heap.size)
      (fun c pre W' => c = .exit 0 ∧ ∃ pre', TopS w W' Q L0 tot σ0 kb lb N pre' ∧ pre' <+: pre ∧ pre'.length = N ∧ w4.heap.size ≤ W'.heap.size)
      ?hI ?hIx ?h0 ?round ?done ?stop)
    case hI => exact fun s X Y hs hT => ⟨hs.1.turn hT HLB.out.2.2.1.size, hs.2.1, Nat.le_trans hs.2.2 hT.size⟩
    case hIx =>
      rintro c s X Y ⟨rfl, pre', h1, h2, h3, h4⟩ hT
      exact ⟨rfl, pre', h1.turn hT HLB.out.2.2.1.size, h2, h3, Nat.le_trans h4 hT.size⟩
    case h0 => exact ⟨⟨H4.out, K43.out, ⟨_, K4.out, World.ownsRow_nil _ _ _ _⟩, HLB.out.2.2.1⟩, Nat.zero_le _, Nat.le_refl _⟩
    case round =>
      rintro l pre ⟨s, nn, ee⟩ X K hl hpx ⟨hT0, hpn, hsz⟩ hK
      obtain ⟨hpl, hpa⟩ := nextS_at hpx
      obtain ⟨x1, x2, e1, kr, kw, e2, bl2, kc2⟩ := box3 X 42 (.string ⟨#[]⟩) (.int .i64 0) (.int .i64 0) (.string s) (.int .i64 nn) (.int .i64 ee)
      have HW := Lib.hid (And.intro e2 (And.intro bl2 kc2))
      have HS := Lib.hid (And.intro (hT0.keep bl2) (show w4.heap.size ≤ x2.heap.size by have := bl2.size; omega))
      have HK2 := Lib.hid hK
      have HP := Lib.hid (And.intro hpn hpl)
      clear e2 bl2 kc2 hT0 hsz hK hpn hpx hl hit hpl hpa
      gi_wp2
      rw [HW.out.1]
      refine HK2.out _ _ (keepsFrom_below HW.out.2.1) (KeepB.below HW.out.2.1) ?_
      clear kr kw e1
      intro W2 hT
      have T2 := Lib.hid (And.intro (HS.out.1.turn hT HLB.out.2.2.1.size) (And.intro (HW.out.2.2.turn hT) (show w4.heap.size ≤ W2.heap.size by have := hT.size; have := HS.out.2; omega)))
      clear hT HK2
      obtain ⟨v, hv1, hv2⟩ := T2.out.1.lb
      obtain ⟨Av, cv, rfl, hcv, hcm, hget⟩ := G.own_at hv2
      have HV := Lib.hid (And.intro hv1 hv2)
      have z0 := T2.out.1.kb.rd
      have z1 := hv1.rd
      have z2 := T2.out.2.1.rd
      clear hv1 hv2 hget hcm hcv
      by_cases hst : pre.length = N
      · have t3 : ((pre.length : Int) == (N : Int)) = true := by rw [beq_iff_eq]; omega
        have HST := Lib.hid hst
        clear hst
        gi_wp2
        exact ⟨KeepsFrom.refl _ _, rfl, pre, T2.out.1, List.prefix_append _ _, HST.out, T2.out.2.2⟩
      · have t3 : ((pre.length : Int) == (N : Int)) = false := by rw [beq_eq_false_iff_ne]; omega
        have HST := Lib.hid (show pre.length < N by have := HP.out.1; omega)
        clear hst
        have hN64 : pre.length < 64 := by have := HST.out; have := HN.out; omega
        have hob := G.own_base HV.out.2
        gi_wp2_with (gi_at_builtin; refine round_push (w0 := W2) (v := .slice Av pre.length cv) rfl _ _ rfl rfl rfl Try.underlying33 HI0.out.1 HI0.out.2.1 HI0.out.2.2.1 HI0.out.2.2.2 (by rfl) (by omega) HV.out.2 (by have := T2.out.2.2; have := HLB.out; omega) [.string s, .int .i64 nn, .int .i64 ee] rfl (by intro u hu; simp at hu; rcases hu with rfl | rfl | rfl <;> rfl) (by omega) (by unfold maxLen; omega) ?_; intro gl cl w9 hown9 hf9 hgl9; replace hf9 : Fr (fun k => (Value.slice Av pre.length cv).ownBlock = some k) W2 w9 := hf9; have O9 := Lib.hid hown9; have F9 := Lib.hid hf9; have B9 := Lib.hid (HV.out.1.fr hf9 (fun e => by have := hob _ e; omega)); have z9 := B9.out.rd; have z9w := B9.out.wr; clear hown9 hf9 hgl9)
        rw [setCell_obj B9.out]
        have f10 := fr_one w9 lb (.cells ((#[.slice Av pre.length cv] : Array Value).setIfInBounds 0 (.slice (some ⟨gl, 0, none⟩) (pre.length + 1) cl)) 33 (0, 0))
        have hb := HLB.out
        have hq := HQ.out
        have hsz := T2.out.2.2
        refine ⟨(keepsFrom_fr F9.out (fun k o hk _ ho => by obtain ⟨o', h1, h2⟩ := own_cells HV.out.2 k hk; rw [ho] at h1; cases h1; exact h2)).trans (keepsFrom_fr f10 (fun k o hk hB => by omega)), (KeepB.fr F9.out (fun k hk e => by have := hob k e; have := hq k hk; omega)).trans (KeepB.fr f10 (fun k hk e => by have := hq k hk; omega)), ⟨?_, ?_, ⟨_, setObj_at (lt_of_block B9.out) _, ?_⟩, ?_⟩, ?_, Nat.le_trans hsz (Nat.le_trans F9.out.size f10.size)⟩
        · exact (T2.out.1.at_.fr F9.out (fun k hk e => by have := hob k e; have := hq k hk; omega)).fr f10 (fun k hk e => by have := hq k hk; omega)
        · exact (T2.out.1.kb.fr F9.out (fun e => by have := hob _ e; omega)).fr f10 (by omega)
        · rw [List.length_append, List.flatMap_append]
          exact G.own_fr O9.out f10 (fun g hg e => by have := G.own_base O9.out g hg; omega)
        · have hbl := T2.out.1.bl
          exact (hbl.trans (F9.out.below hbl.size (fun k hk => by have := hob k hk; omega))).trans (f10.below (by have := F9.out.size; have := hbl.size; omega) (fun k hk => by omega))
        · rw [List.length_append]; have := HST.out; simp; omega
    case done =>
      rintro D X hD ⟨hT0, hpn, hsz⟩ hd
      obtain ⟨v, hv1, hv2⟩ := hT0.lb
      have HX := Lib.hid (And.intro hT0.bl (And.intro hv2 hpn))
      have HD := Lib.hid (And.intro hD hd)
      have z1 := hv1.rd
      clear hT0 hpn hsz hd hD hit hv1 hv2
      go_wp2
      have hx := HX.out
      have hb := HLB.out
      have hd := HD.out
      have hT := Turn.putObj X w4.heap.size D (.deferred none) hd.1 hd.2 rfl
      refine bodyM_mark rfl hd.2 (v := v) (by simp [results, Try.func23]) ⟨v, rfl, ?_, hT.below hx.1 (by omega)⟩
      rw [show min N M.length = M.length by omega, List.take_of_length_le hx.2.2]
      exact G.own_more (own_turn hx.2.1 hT) (by omega)
    case stop =>
      rintro D c pre X hD hpre ⟨rfl, pre', hT0, h2, h3, h4⟩ hd
      obtain ⟨v, hv1, hv2⟩ := hT0.lb
      have HX := Lib.hid (And.intro hT0.bl (And.intro hv2 (And.intro h2 h3)))
      have HD := Lib.hid (And.intro hD hd)
      have z1 := hv1.rd
      clear hT0 h2 h3 h4 hd hD hit hv1 hv2
      gi_wp2
      go_wp2
      have hx := HX.out
      have hb := HLB.out
      have hd := HD.out
      have hT := Turn.putObj X w4.heap.size D (.deferred none) hd.1 hd.2 rfl
      refine bodyM_mark rfl hd.2 (v := v) (by simp [results, Try.func23]) ⟨v, rfl, ?_, hT.below hx.1 (by omega)⟩
      have hp : pre' <+: M := hx.2.2.1.trans hpre
      have hl := hp.length_le
      rw [show min N M.length = pre'.length by omega, ← hx.2.2.2, ← List.prefix_iff_eq_take.1 hp]
      exact G.own_more (own_turn hx.2.1 hT) (by omega)
end Go.Proofs.Ytnpiimaapholiaa
/- The laws of layer 8 (summary): what Top tells, as a list; counts held against each other. -/
namespace Go.Proofs.Ytnpiimaapholiaa
set_option linter.unusedSimpArgs false
set_option linter.unusedVariables false
open Go.ChangeShapes Go.WideShapes Go.ChangeAt Go.RowKit
/-- a slice of counts, in a block from B on. -/
structure RdT (B : Nat) (w : World) (A : Option Addr) (n c : Nat) (L : List Tri) : Prop where
  len : L.length = n
  cap : n ≤ c
  max : c ≤ maxLen
  at_ : 0 < n → ∃ g C, A = some ⟨g, 0, none⟩ ∧ B ≤ g ∧ Blk w g 42 C ∧ ∀ (i : Nat) (a : Tri), L[i]? = some a → C[i * 3]? = some (.string a.1) ∧ C[i * 3 + 1]? = some (.int .i64 a.2.1) ∧ C[i * 3 + 2]? = some (.int .i64 a.2.2)
section
variable {B : Nat} {w w' : World} {A : Option Addr} {n c : Nat} {L : List Tri}
theorem RdT.keep (h : RdT B w A n c L) (hb : Below w.heap.size w w') : RdT B w' A n c L :=
  ⟨h.len, h.cap, h.max, fun hn => by obtain ⟨g, C, h1, h2, h3, h4⟩ := h.at_ hn; exact ⟨g, C, h1, h2, h3.keep hb, h4⟩⟩
theorem RdT.turn {D : Nat} (h : RdT B w A n c L) (hb : Turn D w w') : RdT B w' A n c L :=
  ⟨h.len, h.cap, h.max, fun hn => by obtain ⟨g, C, h1, h2, h3, h4⟩ := h.at_ hn; exact ⟨g, C, h1, h2, h3.turn hb, h4⟩⟩
theorem RdT.fr {F : Nat → Prop} (h : RdT B w A n c L) (hf : Fr F w w') (hF : ∀ k, B ≤ k → k < w.heap.size → ¬ F k) : RdT B w' A n c L :=
  ⟨h.len, h.cap, h.max, fun hn => by obtain ⟨g, C, h1, h2, h3, h4⟩ := h.at_ hn; exact ⟨g, C, h1, h2, h3.fr hf (hF g h2 (lt_of_block h3)), h4⟩⟩
theorem RdT.cell (h : RdT B w A n c L) {i : Nat} {a : Tri} (hi : L[i]? = some a) : ∃ g, A = some ⟨g, 0, none⟩ ∧ w.cell? ⟨g, i * 3, none⟩ = some (.string a.1) ∧ w.cell? ⟨g, i * 3 + 1, none⟩ = some (.int .i64 a.2.1) ∧ w.cell? ⟨g, i * 3 + 2, none⟩ = some (.int .i64 a.2.2) := by
  have := (List.getElem?_eq_some_iff.1 hi).1
  have hl := h.len
  obtain ⟨g, C, h1, h2, h3, h4⟩ := h.at_ (by omega)
  obtain ⟨c0, c1, c2⟩ := h4 i a hi
  exact ⟨g, h1, by rw [h3.rd]; exact c0, by rw [h3.rd]; exact c1, by rw [h3.rd]; exact c2⟩
theorem triV_get : ∀ (L : List Tri) (i : Nat) (a : Tri), L[i]? = some a → (L.flatMap triV)[i * 3]? = some (.string a.1) ∧ (L.flatMap triV)[i * 3 + 1]? = some (.int .i64 a.2.1) ∧ (L.flatMap triV)[i * 3 + 2]? = some (.int .i64 a.2.2)
  | [], i, a, h => by simp at h
  | x :: L, 0, a, h => by
    simp at h; subst h
    simp [triV]
  | x :: L, i + 1, a, h => by
    have := triV_get L i a (by simpa using h)
    rw [List.flatMap_cons]
    have e : ∀ j, (triV x ++ L.flatMap triV)[(i + 1) * 3 + j]? = (L.flatMap triV)[i * 3 + j]? := fun j => by
      rw [List.getElem?_append_right (by show 3 ≤ _; omega)]
      congr 1
      show (i + 1) * 3 + j - 3 = _
      omega
    exact ⟨by have := e 0; rw [Nat.add_zero, Nat.add_zero] at this; rw [this]; exact (triV_get L i a (by simpa using h)).1, by rw [e]; exact this.2.1, by rw [e]; exact this.2.2⟩
theorem rdT_own {v : Value} (h : w.ownsRow B 42 3 v n (L.flatMap triV)) : ∃ A c, v = .slice A n c ∧ RdT B w A n c L := by
  have hl := h.1
  rw [triV_len] at hl
  rcases h.2 with ⟨rfl, h0⟩ | ⟨g, cap, cur, rfl, hb, hg, hnc, hcm, hcs, htake⟩
  · exact ⟨none, 0, by rw [h0], by omega, by omega, by unfold maxLen; omega, fun h => absurd h (by omega)⟩
  · refine ⟨_, _, rfl, by omega, hnc, hcm, fun _ => ⟨g, cur, rfl, hb, hg, fun i a hi => ?_⟩⟩
    have hil := (List.getElem?_eq_some_iff.1 hi).1
    have hc : ∀ j, j < n * 3 → cur[j]? = (L.flatMap triV)[j]? := fun j hj => by
      rw [← htake]
      simp [hj]
    obtain ⟨c0, c1, c2⟩ := triV_get L i a hi
    exact ⟨by rw [hc _ (by omega)]; exact c0, by rw [hc _ (by omega)]; exact c1, by rw [hc _ (by omega)]; exact c2⟩
end
theorem smtopM {w : World} {Q : SmN} {M : List Tri} {tot : Int} (kq : Int) (hk : -9223372036854775808 ≤ kq ∧ kq ≤ 9223372036854775807) (h : SmM w Q M tot) :
    Calls Try.prog 23 #[.pointer (some ⟨Q.s, 0, none⟩), .int .i64 kq] w fun e w' => ∃ A c, e = .returned (.slice A (min (topN kq Q.N.n) M.length) c) ∧ RdT w.heap.size w' A (min (topN kq Q.N.n) M.length) c (M.take (topN kq Q.N.n)) ∧ Below w.heap.size w w' :=
  (smtop_any Q M tot kq hk w h).mono (fun e w' ⟨v, h1, h2, h3⟩ => by
    obtain ⟨A, c, rfl, h4⟩ := rdT_own h2
    exact ⟨A, c, h1, h4, h3⟩)
theorem cnt_equal (x y : Tri) (w : World) : (Op.equalIn 10000 42 (.agg #[.string x.1, .int .i64 x.2.1, .int .i64 x.2.2]) (.agg #[.string y.1, .int .i64 y.2.1, .int .i64 y.2.2])).run Try.prog w = .ok (decide (x = y)) w := by
  have hS : Try.prog.underlying 42 = some (.struct (Try.prog.fieldsOf 42)) := by kernel_rfl
  have hp : Try.prog.stoodInHeld 42 = false := by kernel_rfl
  obtain ⟨s, a, b⟩ := x
  obtain ⟨s', a', b'⟩ := y
  have hb : (s.toList == s'.toList) = decide (s = s') := by
    by_cases h : s = s'
    · subst h; simp
    · rw [decide_eq_false h]
      refine beq_eq_false_iff_ne.2 (fun e => h ?_)
      rw [ByteArray.toList_eq, ByteArray.toList_eq] at e
      exact ByteArray.ext (Array.ext' e)
  rw [show (10000 : Nat) = 9999 + 1 from rfl, run_equalIn_agg w 9999 42 _ _ hS hp]
  simp only [Program.fieldsOf, Try.underlying42]
  go_simp
  by_cases h1 : s = s' <;> by_cases h2 : a = a' <;> by_cases h3 : b = b' <;> simp [h1, h2, h3, hb]
end Go.Proofs.Ytnpiimaapholiaa
/- The law SummaryHeads of layer 8, walked. -/
namespace Go.Proofs.Ytnpiimaapholiaa
set_option linter.unusedSimpArgs false
set_option linter.unusedVariables false
open Go.ChangeShapes Go.WideShapes Go.ChangeAt Go.RowKit Go.Shelf
attribute [local go_sem] Oper.semAt_some
/-- what calls leave. -/
def runM (n : Nat) (l : List (ByteArray × Int)) : List Tri × Int := l.foldl (fun s c => offerM n s.1 s.2 c.1 c.2) ([], 0)
theorem runM_snoc (n : Nat) (l : List (ByteArray × Int)) (a : ByteArray × Int) : runM n (l ++ [a]) = offerM n (runM n l).1 (runM n l).2 a.1 a.2 := by unfold runM; rw [List.foldl_append]; rfl
theorem runM_take (n : Nat) {L : List (ByteArray × Int)} {i : Nat} {a : ByteArray × Int} (h : L[i]? = some a) : runM n (L.take (i + 1)) = offerM n (runM n (L.take i)).1 (runM n (L.take i)).2 a.1 a.2 := by
  rw [take_more h, runM_snoc]
/-- the law's summary, its boxes. -/
structure HdS (w wx : World) (sb rb : Nat) (stop : Int) (Q : SmN) (M : List Tri) (tot : Int) : Prop where
  at_ : SmB w wx Q M tot
  ks : Blk wx sb 3 #[.int .i64 stop]
  kr : Blk wx rb 4 #[.bool false]
theorem HdS.keep {w X Y : World} {sb rb : Nat} {stop : Int} {Q : SmN} {M : List Tri} {tot : Int} (h : HdS w X sb rb stop Q M tot) (hb : Below X.heap.size X Y) : HdS w Y sb rb stop Q M tot :=
  ⟨h.at_.keep hb, h.ks.keep hb, h.kr.keep hb⟩
theorem HdS.step {w X Y : World} {sb rb : Nat} {stop : Int} {Q : SmN} {M M' : List Tri} {tot tot' : Int} (h : HdS w X sb rb stop Q M tot) (h' : SmM Y Q M' tot') (hf : Fr Q.F X Y) (hQ : ∀ k, Q.all k → sb < k ∧ rb < k) : HdS w Y sb rb stop Q M' tot' :=
  ⟨h.at_.step h' hf, h.ks.fr hf (fun e => by have := (hQ _ (Or.inl e)).1; omega), h.kr.fr hf (fun e => by have := (hQ _ (Or.inl e)).2; omega)⟩
theorem HdS.turn {w X Y : World} {sb rb B : Nat} {stop : Int} {Q : SmN} {M : List Tri} {tot : Int} (h : HdS w X sb rb stop Q M tot) (ht : Turn B X Y) (hB : w.heap.size ≤ B) : HdS w Y sb rb stop Q M tot :=
  ⟨⟨KeepB.smM (KeepB.turn ht) h.at_.at_, ht.below h.at_.bl hB, h.at_.new⟩, h.ks.turn ht, h.kr.turn ht⟩
/-- and the list of all. -/
structure HdT (w wx : World) (sb rb tb : Nat) (stop : Int) (Q : SmN) (M : List Tri) (tot : Int) (A : Option Addr) (m c : Nat) : Prop where
  at_ : HdS w wx sb rb stop Q M tot
  kt : Blk wx tb 33 #[.slice A m c]
  rt : RdT 0 wx A m c M
theorem HdT.keep {w X Y : World} {sb rb tb : Nat} {stop : Int} {Q : SmN} {M : List Tri} {tot : Int} {A : Option Addr} {m c : Nat} (h : HdT w X sb rb tb stop Q M tot A m c) (hb : Below X.heap.size X Y) : HdT w Y sb rb tb stop Q M tot A m c :=
  ⟨h.at_.keep hb, h.kt.keep hb, h.rt.keep hb⟩
theorem HdT.turn {w X Y : World} {sb rb tb B : Nat} {stop : Int} {Q : SmN} {M : List Tri} {tot : Int} {A : Option Addr} {m c : Nat} (h : HdT w X sb rb tb stop Q M tot A m c) (ht : Turn B X Y) (hB : w.heap.size ≤ B) : HdT w Y sb rb tb stop Q M tot A m c :=
  ⟨h.at_.turn ht hB, h.kt.turn ht, h.rt.turn ht⟩
theorem RdT.more {B B' : Nat} {w : World} {A : Option Addr} {n c : Nat} {L : List Tri} (h : RdT B w A n c L) (hb : B' ≤ B) : RdT B' w A n c L :=
  ⟨h.len, h.cap, h.max, fun hn => by obtain ⟨g, C, h1, h2, h3, h4⟩ := h.at_ hn; exact ⟨g, C, h1, Nat.le_trans hb h2, h3, h4⟩⟩
set_option maxRecDepth 100000 in
set_option maxHeartbeats 8000000 in
theorem smheads_law (w : World) (z : Int) (A : Option Addr) (n c : Nat) (L : List (ByteArray × Int)) (stop : Int) (hz : -9223372036854775808 ≤ z ∧ z ≤ 9223372036854775807) (hr : RdL w A n c 2 encSI L) (hok : ∀ a ∈ L, okSI a) (hst : -9223372036854775808 ≤ stop ∧ stop ≤ 9223372036854775807) :
    Calls Try.prog 9 #[.int .i64 z, .slice A n c, .int .i64 stop] w fun e w' => e = .returned (.bool true) ∧ Below w.heap.size w w' := by
  have hmx := hr.max
  unfold maxLen at hmx
  have hcp := hr.cap
  have HR := Lib.hid hr
  have HO := Lib.hid hok
  have HST := Lib.hid hst
  obtain ⟨w1, hw1, k1, l1, s1⟩ := box_new w #[.int .i64 stop] 3
  obtain ⟨w2, hw2, k2, l2, s2⟩ := box_new w1 #[.bool false] 4
  obtain ⟨rb, hrb⟩ : ∃ x, x = w1.heap.size := ⟨_, rfl⟩
  obtain ⟨sb, hsb⟩ : ∃ x, x = w.heap.size := ⟨_, rfl⟩
  rw [← hrb] at k2
  rw [← hsb] at k1
  have BB := Lib.hid (show sb = w.heap.size ∧ rb = sb + 1 ∧ w2.heap.size = rb + 1 from ⟨hsb, by omega, by omega⟩)
  have K2 := Lib.hid (And.intro (k1.keep l2) k2)
  have L2 := Lib.hid (below_in l1 l2)
  obtain ⟨y, hy⟩ : ∃ y : Int, y = z % 16 := ⟨_, rfl⟩
  obtain ⟨N, hN⟩ : ∃ N : Nat, (N : Int) = y + 1 ∧ 1 ≤ N ∧ N ≤ 16 := ⟨(z % 16 + 1).toNat, by omega, by omega, by omega⟩
  have eb : bits BinOp.and IntKind.i64 z 15 = y := by rw [i64_mask4, hy]
  have ey : IntKind.i64.wrap (y + 1) = (N : Int) := by rw [IntKind.wrap_i64]; omega
  have CR := Lib.hid (fun wx => smrow_any 3 4 5 (by omega) (by omega) (by omega) wx)
  have hl := d_lt 3 4 5
  obtain ⟨X, hX⟩ : ∃ x, x = dX 3 4 5 := ⟨_, rfl⟩
  obtain ⟨Y, hY⟩ : ∃ x, x = dA 3 4 5 := ⟨_, rfl⟩
  obtain ⟨Z, hZ⟩ : ∃ x, x = dB 3 4 5 := ⟨_, rfl⟩
  rw [← hX, ← hY, ← hZ] at CR hl
  have CN := Lib.hid (fun wx => show Calls Try.prog 13 #[.int .i64 (N : Int), .agg #[.int .u64 X, .int .u64 Y, .int .u64 Z]] wx _ from smnew_any X Y Z hl.1 hl.2.1 hl.2.2 N hN.2.1 (by omega) wx)
  have HN := Lib.hid hN.2
  have t0 : (N : Int) ≤ 16 := by omega
  clear hr hok hst hz hX hY hZ hl k1 k2 l1 l2 s1 s2 hy hN
  refine callsM Try.func9 rfl ?_
  simp only [Try.ntmps9, List.size_toArray, List.length_cons, List.length_nil, Nat.reduceAdd, Nat.reduceSub, Array.replicate_succ, Array.replicate_zero, List.push_toArray, List.append_toArray, List.nil_append, List.cons_append]
  go_wp2_with (fail)
  rw [← hrb, ← hsb]
  clear hw1 hw2 hrb hsb
  refine (smfit_any w2).mono ?_
  rintro e w3 ⟨rfl, b3⟩
  have K3 := Lib.hid (And.intro (K2.out.1.keep b3) (K2.out.2.keep b3))
  have L3 := Lib.hid (below_in L2.out b3)
  have B3 := Lib.hid (show rb < w3.heap.size from by have := b3.size; have := BB.out; omega)
  clear b3 K2 L2
  have CLi := Lib.hid (smlight_any A n c L w3 (HR.out.below L3.out) HO.out)
  cases hlb : lightS L with
  | false =>
    rw [hlb] at CLi
    go_upto_region 4 with (fail)
    go_wp2_with (fail)
    refine CLi.out.mono ?_
    rintro e w4 ⟨rfl, b4⟩
    have K4 := Lib.hid (And.intro (K3.out.1.keep b4) (K3.out.2.keep b4))
    have L4 := Lib.hid (below_in L3.out b4)
    clear b4 CR CN CLi
    have kr := K4.out.2.rd
    have kw := K4.out.2.wr
    go_wp2
    exact bodyM_early rfl Try.underlying4 rfl rfl rfl K4.out.2 L4.out (by have := BB.out; omega)
  | true =>
  rw [hlb] at CLi
  have hlen : L.length ≤ 150 := by unfold lightS at hlb; simp at hlb; exact hlb.1
  have hln := HR.out.len
  have hb2 : (n : Int) ≤ 150 := by omega
  clear hlb hlen hln
  go_upto_region 4 with (fail)
  go_wp2_with (fail)
  refine CLi.out.mono ?_
  rintro e w4 ⟨rfl, b4⟩
  have K4 := Lib.hid (And.intro (K3.out.1.keep b4) (K3.out.2.keep b4))
  have L4 := Lib.hid (below_in L3.out b4)
  have B4 := Lib.hid (show rb < w4.heap.size from by have := b4.size; have := B3.out; omega)
  clear b4 CLi K3 L3 B3
  go_upto_region 6 with (fail)
  go_wp2_with (fail)
  refine (CR.out w4).mono ?_
  rintro e w5 ⟨rfl, b5⟩
  have B5 := Lib.hid b5
  clear b5 CR
  go_wp2_with (fail)
  refine (CN.out w5).mono ?_
  rintro e w6 ⟨Q, rfl, h6, hN6, hnew, b6⟩
  have HQN := Lib.hid hN6
  have H6 := Lib.hid (show HdS w w6 sb rb stop Q [] 0 from ⟨⟨⟨[], _, h6, rfl⟩, below_in (below_in L4.out B5.out) b6, fun k hk => Nat.le_trans (below_in L4.out B5.out).size (hnew k hk)⟩, (K4.out.1.keep B5.out).keep b6, (K4.out.2.keep B5.out).keep b6⟩)
  have HQ := Lib.hid (show ∀ k, Q.all k → sb < k ∧ rb < k from fun k hk => by have h1 := hnew k hk; have h2 := B5.out.size; have h3 := B4.out; have h4 := BB.out; omega)
  clear h6 hN6 hnew b6 CN L4 K4 B4 B5
  go_wp2
  go_loopg [30] n (fun kk si wr => ∃ (i : Nat), i ≤ n ∧ Hid (kk = n - i) ∧ si = .int .i64 (i : Int) ∧ Hid (HdS w wr sb rb stop Q (runM N (L.take i)).1 (runM N (L.take i)).2))
  case atStart => exact ⟨0, by omega, Lib.hid rfl, rfl, H6⟩
  case round =>
    obtain ⟨i, hi, HKK, rfl, HS⟩ := hrel
    by_cases hin : i < n
    · have hl2 := HR.out.len
      obtain ⟨b, off, rfl, hbl, hc⟩ := (HR.out.below HS.out.at_.bl).at_ (by omega)
      obtain ⟨⟨ky, v⟩, ha⟩ : ∃ a, L[i]? = some a := ⟨_, List.getElem?_eq_getElem (by omega)⟩
      have hoka := HO.out _ (List.mem_of_getElem? ha)
      have kr0 : wr.cell? ⟨b, off + i * 2, none⟩ = some (.string ky) := hc i _ ha 0 (by omega)
      have kr1 : wr.cell? ⟨b, off + i * 2 + 1, none⟩ = some (.int .i64 v) := hc i _ ha 1 (by omega)
      unfold okSI at hoka
      simp only at hoka
      obtain ⟨hky, hv⟩ := hoka
      obtain ⟨x1, x2, ex1, kr, kw, ex2, bl2, kc2⟩ := box2 wr 37 (.string ⟨#[]⟩) (.int .i64 0) (.string ky) (.int .i64 v)
      have S7 := Lib.hid (HS.out.keep bl2)
      obtain ⟨bx, hbx⟩ : ∃ bx, bx = wr.heap.size := ⟨_, rfl⟩
      rw [← hbx] at kc2
      have kc3 := kc2.rd
      have t2 : (i : Int) < (n : Int) := by omega
      have HIN := Lib.hid hin
      have co := smoffer_any ky hky v x2 S7.out.at_.at_
      rw [HQN.out] at co
      have CO := Lib.hid co
      have HT := Lib.hid (runM_take N ha)
      have fi : IntKind.i64.wrap ((i : Int) + 1) = ((i + 1 : Nat) : Int) := by rw [IntKind.wrap_i64]; omega
      clear hl2 hc hbl ha bl2 kc2 hky co
      go_upto_region 10 with (fail)
      rw [← hbx]
      clear kr kw ex1 kr0 kr1 ex2 hbx
      go_wp2_with (go_at_call 15; ((with_reducible refine CO.out.mono ?_); rintro e y2 ⟨rfl, s1, f1⟩; have Y2 := Lib.hid (S7.out.step s1 f1 HQ.out); clear s1 f1))
      go_roundg (n - (i + 1))
      case measure => have := HKK.out; have := HIN.out; omega
      case rel => exact ⟨i + 1, HIN.out, Lib.hid rfl, rfl, by rw [HT.out]; exact Y2⟩
    · have hie : i = n := by omega
      subst hie
      clear hin hi HKK
      obtain ⟨wz, hwz⟩ : ∃ wz, wz = wr := ⟨_, rfl⟩
      rw [← hwz] at HS ⊢
      clear hwz
      obtain ⟨M, hM⟩ : ∃ M, M = (runM N (L.take i)).1 := ⟨_, rfl⟩
      obtain ⟨tot, htot⟩ : ∃ tot, tot = (runM N (L.take i)).2 := ⟨_, rfl⟩
      rw [← hM, ← htot] at HS
      clear hM htot
      obtain ⟨m, hm⟩ : ∃ m, m = M.length := ⟨_, rfl⟩
      have hmN : m ≤ N := by have := (uni_of HS.out.at_.at_).2.1; rw [HQN.out] at this; omega
      have TOP := Lib.hid (fun (wx : World) (k : Int) (hk : 1 ≤ k ∧ k ≤ 16) (h : SmM wx Q M tot) => show Calls Try.prog 23 #[.pointer (some ⟨Q.s, 0, none⟩), .int .i64 k] wx (fun e w' => ∃ A c, e = .returned (.slice A (min (topN k N) m) c) ∧ RdT wx.heap.size w' A (min (topN k N) m) c (M.take (topN k N)) ∧ Below wx.heap.size wx w') from by
        have := smtopM k (by omega) h
        rw [HQN.out, ← hm] at this
        exact this)
      have hm16 : (m : Int) ≤ 16 := by omega
      have tn : topN (N : Int) N = N := by have := HN.out; unfold topN; omega
      have CT := TOP.out wz (N : Int) (by have := HN.out; omega) HS.out.at_.at_
      rw [tn, show min N m = m by omega, List.take_of_length_le (by omega)] at CT
      have CTT := Lib.hid CT
      have HM := Lib.hid (And.intro hm hmN)
      have HB2 := Lib.hid hb2
      clear CT tn hm hmN hb2 hmx hcp
      go_upto_region 12 with (fail)
      go_wp2_with (fail)
      refine CTT.out.mono ?_
      rintro e w7 ⟨At, ct, rfl, hrd, b7⟩
      obtain ⟨w8, w9, e8, k8, k8w, e9, b9, k9, s9⟩ := box1 w7 33 (.slice none 0 0) (.slice At m ct)
      obtain ⟨tb, htb⟩ : ∃ x, x = w7.heap.size := ⟨_, rfl⟩
      rw [← htb] at k9
      have HT9 := Lib.hid (show HdT w w9 sb rb tb stop Q M tot At m ct from ⟨(HS.out.keep b7).keep b9, k9, (hrd.more (Nat.zero_le _)).keep b9⟩)
      have HTB := Lib.hid (show rb < tb ∧ (∀ k, Q.all k → k < tb) ∧ w9.heap.size = tb + 1 from ⟨by have := lt_of_block (HS.out.keep b7).kr; omega, fun k hk => by have := (HS.out.keep b7).at_.lt k hk; omega, by omega⟩)
      clear hrd b7 k9 b9 CTT HS s9
      go_upto_region 13 with (fail)
      rw [← htb]
      clear k8 k8w e8 e9 htb
      go_wp2
      obtain ⟨N1, hN1⟩ : ∃ N1, N1 = N + 1 := ⟨_, rfl⟩
      have HN1 := Lib.hid hN1
      clear hN1
      go_loopg [11] N (fun kk si wr => ∃ (k : Nat), 1 ≤ k ∧ k ≤ N1 ∧ Hid (kk = N1 - k) ∧ si = .int .i64 (k : Int) ∧ Hid (HdT w wr sb rb tb stop Q M tot At m ct ∧ tb < wr.heap.size))
      case atStart => exact ⟨1, by omega, by have := HN1.out; omega, Lib.hid (by have := HN1.out; omega), rfl, Lib.hid ⟨HT9.out, by have := HTB.out; omega⟩⟩
      case round =>
        obtain ⟨k, hk1, hk2, HKK, rfl, HT⟩ := hrel
        by_cases hkn : k ≤ N
        · have t3 : (k : Int) ≤ (N : Int) := by omega
          have tn : topN (k : Int) N = k := by unfold topN; omega
          obtain ⟨q, hq⟩ : ∃ q, q = min k m := ⟨_, rfl⟩
          have CT := TOP.out wr (k : Int) (by have := HN.out; omega) HT.out.1.at_.at_.at_
          rw [tn, ← hq] at CT
          have CTT := Lib.hid CT
          have eq : min (k : Int) (m : Int) = (q : Int) := by omega
          have b1 : ((q : Int) != (q : Int)) = false := by simp
          have HKN := Lib.hid (And.intro hkn hq)
          have tq : (q : Int) ≤ 16 := by omega
          clear CT tn hkn hq
          go_upto_region 16 with (fail)
          go_wp2_with (fail)
          refine CTT.out.mono ?_
          rintro e wa ⟨Al, cl, rfl, hrd, ba⟩
          have HT2 := Lib.hid (And.intro (HT.out.1.keep ba) (And.intro (hrd.more (Nat.zero_le _)) (show tb < wa.heap.size by have := ba.size; have := HT.out.2; omega)))
          have zt := HT2.out.1.kt.rd
          clear hrd ba CTT
          go_upto_region 19 with (fail)
          clear eq b1
          go_wp2
          clear zt
          go_loopg [61] q (fun kq si wq => ∃ (j : Nat), j ≤ q ∧ Hid (kq = q - j) ∧ si = .int .i64 (j : Int) ∧ Hid (HdT w wq sb rb tb stop Q M tot At m ct ∧ RdT 0 wq Al q cl (M.take k) ∧ tb < wq.heap.size))
          case atStart => exact ⟨0, by omega, Lib.hid rfl, rfl, HT2⟩
          case round =>
            obtain ⟨j, hj, HJJ, rfl, HJ⟩ := hrel
            by_cases hjq : j < q
            · have hjm : j < M.length := by have := HKN.out.2; have := HM.out.1; omega
              obtain ⟨⟨s, nn, ee⟩, hx⟩ : ∃ a, M[j]? = some a := ⟨_, List.getElem?_eq_getElem hjm⟩
              have hx2 : (M.take k)[j]? = some (s, nn, ee) := by
                rw [List.getElem?_take, if_pos (by have := HKN.out.2; omega)]; exact hx
              obtain ⟨g1, rfl, p0, p1, p2⟩ := HJ.out.2.1.cell hx2
              obtain ⟨g2, hAt, q0, q1, q2⟩ := HJ.out.1.rt.cell hx
              have zt := HJ.out.1.kt.rd
              rw [hAt] at zt
              have CE := fun wx => cnt_equal (s, nn, ee) (s, nn, ee) wx
              rw [show decide (((s, nn, ee) : Tri) = (s, nn, ee)) = true from by simp] at CE
              have t4 : (0 : Int) ≤ (j : Int) := by omega
              have t5 : (j : Int) < (q : Int) := by omega
              have t6 : (j : Int) < (m : Int) := by have := HKN.out.2; omega
              have fi : IntKind.i64.wrap ((j : Int) + 1) = ((j + 1 : Nat) : Int) := by rw [IntKind.wrap_i64]; omega
              have HJQ := Lib.hid hjq
              clear hjm hx hx2 hAt hjq
              go_upto_region 22 with (fail)
              go_quiet (fail)
              clear zt p0 p1 p2 q0 q1 q2 CE
              have HJ2 := Lib.hid (show HdT w (wr.drewN nq) sb rb tb stop Q M tot At m ct ∧ RdT 0 (wr.drewN nq) (some ⟨g1, 0, none⟩) q cl (M.take k) ∧ tb < (wr.drewN nq).heap.size from
                ⟨HJ.out.1.keep (below_draws (Below.refl _ _) nq), HJ.out.2.1.keep (below_draws (Below.refl _ _) nq), HJ.out.2.2⟩)
              go_wp2
              go_roundg (q - (j + 1))
              case measure => have := HJJ.out; have := HJQ.out; omega
              case rel => exact ⟨j + 1, HJQ.out, Lib.hid rfl, rfl, HJ2⟩
            · have hjq2 : j = q := by omega
              have fk : IntKind.i64.wrap ((k : Int) + 1) = ((k + 1 : Nat) : Int) := by rw [IntKind.wrap_i64]; omega
              subst hjq2
              clear hj hjq
              go_wp2
              go_roundg (N1 - (k + 1))
              case measure => have := HKK.out; have := HKN.out; have := HN1.out; omega
              case rel => exact ⟨k + 1, by omega, by have := HN1.out; have := HKN.out; omega, Lib.hid rfl, rfl, Lib.hid ⟨HJ.out.1, HJ.out.2.2⟩⟩
        · have hk : k = N1 := by have := HN1.out; omega
          have t3 : N < k := by omega
          subst hk
          clear hk1 hk2 HKK hkn
          obtain ⟨wy, hwy⟩ : ∃ wy, wy = wr := ⟨_, rfl⟩
          rw [← hwy] at HT ⊢
          clear hwy
          go_upto_region 25 with (fail)
          obtain ⟨v8, v9, e8, k8, k8w, e9, b9, k9, s9⟩ := box1 wy 3 (.int .i64 0) (.int .i64 0)
          obtain ⟨ib, hib⟩ : ∃ x, x = wy.heap.size := ⟨_, rfl⟩
          rw [← hib] at k9
          have HT9 := Lib.hid (show HdT w v9 sb rb tb stop Q M tot At m ct ∧ Blk v9 ib 3 #[.int .i64 0] from ⟨HT.out.1.keep b9, k9⟩)
          have HIB := Lib.hid (show tb < ib ∧ v9.heap.size = ib + 1 from ⟨by have := HT.out.2; omega, by omega⟩)
          clear b9 k9 s9 HT
          go_upto_region 26 with (fail)
          rw [← hib]
          clear k8 k8w e8 e9 hib
          go_wp2
          have hit := smallM Q M tot v9 HT9.out.1.at_.at_.at_
          refine (wpIn_wide (n := 0)).1 (rf_law (gf := 17) (fb := #[.pointer (some ⟨Q.s, 0, none⟩)]) rfl (enters_of Try.func17 (by kernel_rfl) rfl) hit (Below.refl _ _) (fun _ => rfl) KeepB.trans (fun _ _ h => KeepB.turn h)
            (fun pre W' => HdT w W' sb rb tb stop Q M tot At m ct ∧ Blk W' ib 3 #[.int .i64 (pre.length : Int)] ∧ v9.heap.size ≤ W'.heap.size)
            (fun c pre W' => c = .exit 6 ∧ HdT w W' sb rb tb stop Q M tot At m ct ∧ Blk W' ib 3 #[.int .i64 stop])
            ?hI ?hIx ?h0 ?round ?done ?stop)
          case hI => exact fun s X Y hs hT => ⟨hs.1.turn hT HT9.out.1.at_.at_.bl.size, hs.2.1.turn hT, Nat.le_trans hs.2.2 hT.size⟩
          case hIx =>
            rintro c s X Y ⟨rfl, h1, h2⟩ hT
            exact ⟨rfl, h1.turn hT HT9.out.1.at_.at_.bl.size, h2.turn hT⟩
          case h0 => exact ⟨HT9.out.1, HT9.out.2, Nat.le_refl _⟩
          case round =>
            rintro l pre ⟨s, nn, ee⟩ V K hl hpx ⟨hT0, hi0, hsz⟩ hK
            obtain ⟨hpl, hpa⟩ := nextS_at hpx
            obtain ⟨j, hj⟩ : ∃ j, j = pre.length := ⟨_, rfl⟩
            rw [← hj] at hi0 hpl hpa
            obtain ⟨x1, x2, e1, kr, kw, e2, bl2, kc2⟩ := box3 V 42 (.string ⟨#[]⟩) (.int .i64 0) (.int .i64 0) (.string s) (.int .i64 nn) (.int .i64 ee)
            have HW := Lib.hid (And.intro e2 (And.intro bl2 kc2))
            have HS := Lib.hid (And.intro (hT0.keep bl2) (And.intro (hi0.keep bl2) (show v9.heap.size ≤ x2.heap.size by have := bl2.size; omega)))
            have HK2 := Lib.hid hK
            have HP := Lib.hid (And.intro hj (And.intro hpl hpa))
            have HXL := Lib.hid (show v9.heap.size ≤ V.heap.size from hsz)
            have t6 : (j : Int) < (m : Int) := by have := HM.out.1; omega
            clear e2 bl2 kc2 hT0 hi0 hsz hK hpx hl hit hpl hpa hj
            gi_wp2
            rw [HW.out.1]
            refine HK2.out _ _ (keepsFrom_below HW.out.2.1) (KeepB.below HW.out.2.1) ?_
            clear kr kw e1
            intro W2 hT
            have T2 := Lib.hid (And.intro (HS.out.1.turn hT HT9.out.1.at_.at_.bl.size) (And.intro (HS.out.2.1.turn hT) (And.intro (HW.out.2.2.turn hT) (show v9.heap.size ≤ W2.heap.size by have := hT.size; have := HS.out.2.2; omega))))
            clear hT HK2
            have z0 := T2.out.2.1.rd
            have z1 := T2.out.1.at_.ks.rd
            by_cases hst : (j : Int) = stop
            · have t3 : ((j : Int) == stop) = true := by rw [beq_iff_eq]; exact hst
              have HSJ := Lib.hid hst
              clear hst
              gi_wp2
              exact ⟨KeepsFrom.refl _ _, rfl, T2.out.1, by rw [← HSJ.out]; exact T2.out.2.1⟩
            · have t3 : ((j : Int) == stop) = false := by rw [beq_eq_false_iff_ne]; exact hst
              clear hst
              obtain ⟨g2, hAt, q0, q1, q2⟩ := T2.out.1.rt.cell HP.out.2.2
              have CE := fun wx => cnt_equal (s, nn, ee) (s, nn, ee) wx
              rw [show decide (((s, nn, ee) : Tri) = (s, nn, ee)) = true from by simp] at CE
              have t4 : (0 : Int) ≤ (j : Int) := by omega
              have fi : IntKind.i64.wrap ((j : Int) + 1) = ((j + 1 : Nat) : Int) := by rw [IntKind.wrap_i64]; omega
              clear q0 q1 q2
              gi_wp2
              clear z0 z1
              have B2 := Lib.hid (show Below W2.heap.size W2 W2.drew from below_draws (Below.refl _ _) 1)
              have T3 := Lib.hid (And.intro (T2.out.1.keep B2.out) (And.intro (T2.out.2.1.keep B2.out) (T2.out.2.2.1.keep B2.out)))
              have hS : (fun wx : World => (∀ x, wx.cell? ⟨V.heap.size, x, none⟩ = (#[.string s, .int .i64 nn, .int .i64 ee] : Array Value)[x]?) ∧ (∀ x, wx.cell? ⟨tb, x, none⟩ = (#[.slice (some ⟨g2, 0, none⟩) m ct] : Array Value)[x]?) ∧ (∀ x, wx.cell? ⟨ib, x, none⟩ = (#[.int .i64 (j : Int)] : Array Value)[x]?) ∧ wx.cell? ⟨g2, j * 3, none⟩ = some (.string s) ∧ wx.cell? ⟨g2, j * 3 + 1, none⟩ = some (.int .i64 nn) ∧ wx.cell? ⟨g2, j * 3 + 2, none⟩ = some (.int .i64 ee)) W2.drew := by
                obtain ⟨g3, hA3, q0, q1, q2⟩ := T3.out.1.rt.cell HP.out.2.2
                rw [hAt] at hA3
                cases hA3
                have := T3.out.1.kt.rd
                rw [hAt] at this
                exact ⟨T3.out.2.2.rd, this, T3.out.2.1.rd, q0, q1, q2⟩
              refine round_region_held (S := (fun wx : World => (∀ x, wx.cell? ⟨V.heap.size, x, none⟩ = (#[.string s, .int .i64 nn, .int .i64 ee] : Array Value)[x]?) ∧ (∀ x, wx.cell? ⟨tb, x, none⟩ = (#[.slice (some ⟨g2, 0, none⟩) m ct] : Array Value)[x]?) ∧ (∀ x, wx.cell? ⟨ib, x, none⟩ = (#[.int .i64 (j : Int)] : Array Value)[x]?) ∧ wx.cell? ⟨g2, j * 3, none⟩ = some (.string s) ∧ wx.cell? ⟨g2, j * 3 + 1, none⟩ = some (.int .i64 nn) ∧ wx.cell? ⟨g2, j * 3 + 2, none⟩ = some (.int .i64 ee))) (by kernel_rfl) (by kernel_rfl) (by rintro ⟨_, _, h⟩; exact h) hS (fun hHeld => ?_)
              refine wpAnyH_take (i := 0) (oi := ?_) (v := ?_) ?_ ?_ ?_ ?_ ?_ ?_ ?_ ?_
              rotate_left 2
              · simp only [List.getElem?_toArray, List.getElem?_cons_succ, List.getElem?_cons_zero]; rfl
              · kernel_rfl
              · kernel_rfl
              · kernel_rfl
              · exact fun _ _ _ h => h
              · refine Or.inl ⟨by rfl, ?_⟩
                intro w' hSw
                (try dsimp only at hSw)
                go_simp
                all_goals (with_reducible rfl)
              · assumption
              try simp only [Act.put, List.setIfInBounds_toArray, List.set_cons_zero, List.set_cons_succ]
              refine wpAnyH_take (i := 1) (oi := ?_) (v := ?_) ?_ ?_ ?_ ?_ ?_ ?_ ?_ ?_
              rotate_left 2
              · simp only [List.getElem?_toArray, List.getElem?_cons_succ, List.getElem?_cons_zero]; rfl
              · kernel_rfl
              · kernel_rfl
              · kernel_rfl
              · exact fun _ _ _ h => h
              · refine Or.inl ⟨by rfl, ?_⟩
                intro w' hSw
                (try dsimp only at hSw)
                go_simp
                all_goals (with_reducible rfl)
              · assumption
              try simp only [Act.put, List.setIfInBounds_toArray, List.set_cons_zero, List.set_cons_succ]
              refine wpAnyH_take (i := 2) (oi := ?_) (v := ?_) ?_ ?_ ?_ ?_ ?_ ?_ ?_ ?_
              rotate_left 2
              · simp only [List.getElem?_toArray, List.getElem?_cons_succ, List.getElem?_cons_zero]; rfl
              · kernel_rfl
              · kernel_rfl
              · kernel_rfl
              · exact fun _ _ _ h => h
              · refine Or.inl ⟨by rfl, ?_⟩
                intro w' hSw
                (try dsimp only at hSw)
                go_simp
                all_goals (with_reducible rfl)
              · assumption
              try simp only [Act.put, List.setIfInBounds_toArray, List.set_cons_zero, List.set_cons_succ]
              refine wpAnyH_take (i := 3) (oi := ?_) (v := ?_) ?_ ?_ ?_ ?_ ?_ ?_ ?_ ?_
              rotate_left 2
              · simp only [List.getElem?_toArray, List.getElem?_cons_succ, List.getElem?_cons_zero]; rfl
              · kernel_rfl
              · kernel_rfl
              · kernel_rfl
              · exact fun _ _ _ h => h
              · refine Or.inl ⟨by rfl, ?_⟩
                intro w' hSw
                (try dsimp only at hSw)
                go_simp
                all_goals (with_reducible rfl)
              · assumption
              try simp only [Act.put, List.setIfInBounds_toArray, List.set_cons_zero, List.set_cons_succ]
              refine wpAnyH_take (i := 4) (oi := ?_) (v := ?_) ?_ ?_ ?_ ?_ ?_ ?_ ?_ ?_
              rotate_left 2
              · simp only [List.getElem?_toArray, List.getElem?_cons_succ, List.getElem?_cons_zero]; rfl
              · kernel_rfl
              · kernel_rfl
              · kernel_rfl
              · exact fun _ _ _ h => h
              · refine Or.inl ⟨by rfl, ?_⟩
                intro w' hSw
                (try dsimp only at hSw)
                go_simp
                all_goals (with_reducible rfl)
              · assumption
              try simp only [Act.put, List.setIfInBounds_toArray, List.set_cons_zero, List.set_cons_succ]
              refine wpAnyH_take (i := 5) (oi := ?_) (v := ?_) ?_ ?_ ?_ ?_ ?_ ?_ ?_ ?_
              rotate_left 2
              · simp only [List.getElem?_toArray, List.getElem?_cons_succ, List.getElem?_cons_zero]; rfl
              · kernel_rfl
              · kernel_rfl
              · kernel_rfl
              · exact fun _ _ _ h => h
              · refine Or.inl ⟨by rfl, ?_⟩
                intro w' hSw
                (try dsimp only at hSw)
                go_simp
                all_goals (with_reducible rfl)
              · assumption
              try simp only [Act.put, List.setIfInBounds_toArray, List.set_cons_zero, List.set_cons_succ]
              refine wpAnyH_done (by kernel_rfl) ?_ _
              clear hHeld hS CE
              have Z7 := Lib.hid T3.out.2.1
              have z7 := Z7.out.rd
              have z7w := Z7.out.wr
              gi_wp2
              rw [setCell_obj T2.out.2.1]
              have f5 := fr_one W2 ib (.cells ((#[.int .i64 (j : Int)] : Array Value).setIfInBounds 0 (.int .i64 ((j : Int) + 1))) 3 (0, 0))
              have g5 : Blk (setObj W2 ib (.cells ((#[.int .i64 (j : Int)] : Array Value).setIfInBounds 0 (.int .i64 ((j : Int) + 1))) 3 (0, 0))) ib 3 #[.int .i64 ((j : Int) + 1)] := setObj_at (lt_of_block T2.out.2.1) _
              generalize setObj W2 ib (.cells ((#[.int .i64 (j : Int)] : Array Value).setIfInBounds 0 (.int .i64 ((j : Int) + 1))) 3 (0, 0)) = w5 at f5 g5 ⊢
              have b5 : Below w5.heap.size w5 w5.drew := below_draws (Below.refl _ _) 1
              have h9 := HIB.out
              have ht := HTB.out
              have hlb := T2.out.1.at_.at_.bl
              have hq := HQ.out
              have hbb := BB.out
              have hw0 : w.heap.size ≤ ib := by omega
              refine ⟨(keepsFrom_fr f5 (fun k o hk hB => by omega)).trans (keepsFrom_below b5), (KeepB.fr f5 (fun k hk e => by have := ht.2.1 k hk; omega)).trans (KeepB.below b5), HdT.keep (X := w5) ?_ b5, ?_, by have := T2.out.2.2.2; have := f5.size; have := b5.size; omega⟩
              · refine ⟨⟨⟨T2.out.1.at_.at_.at_.fr f5 (fun k hk e => by have := ht.2.1 k hk; omega), hlb.trans (f5.below hlb.size (fun k hk => by omega)), T2.out.1.at_.at_.new⟩, T2.out.1.at_.ks.fr f5 (by omega), T2.out.1.at_.kr.fr f5 (by omega)⟩, T2.out.1.kt.fr f5 (by omega), ⟨T2.out.1.rt.len, T2.out.1.rt.cap, T2.out.1.rt.max, fun hn => ?_⟩⟩
                obtain ⟨g, C, h1, h2, h3, h4⟩ := T2.out.1.rt.at_ hn
                refine ⟨g, C, h1, h2, h3.fr f5 (fun e => ?_), h4⟩
                have hbk := T2.out.2.1
                rw [e] at h3
                have h5 : some (Obj.cells C 42 (0, 0)) = some (Obj.cells #[.int .i64 (j : Int)] 3 (0, 0)) := h3.symm.trans hbk
                injection h5 with h5
                injection h5 with h6 h7
                exact absurd h7 (by decide)
              · have : ((pre ++ [((s, nn, ee) : Tri)]).length : Int) = (j : Int) + 1 := by rw [List.length_append, ← HP.out.1]; simp
                rw [this]
                exact g5.keep b5
          case done =>
            rintro D Xd hD ⟨hT0, hi0, hsz⟩ hd
            have HX := Lib.hid (And.intro hT0 (And.intro hi0 (And.intro hD hd)))
            have z1 := hT0.at_.kr.rd
            have z1w := hT0.at_.kr.wr
            have z7 := hi0.rd
            have z0 := hT0.at_.ks.rd
            have zt := hT0.kt.rd
            rw [← HM.out.1] at z7
            have n17 : rb ≠ ib := by have := HTB.out; have := HIB.out; omega
            clear hT0 hi0 hsz hd hD hit
            go_wp2
            have h0 := HX.out.1.at_.at_.bl.size
            have hbb := BB.out
            exact bodyM_law rfl Try.underlying4 rfl rfl rfl HX.out.1.at_.kr HX.out.2.2.2 HX.out.1.at_.at_.bl (by omega) (by have := HX.out.2.2.1; have := HIB.out; have := HTB.out; omega)
          case stop =>
            rintro D c pre Xd hD hpre ⟨rfl, hT0, hi0⟩ hd
            have HX := Lib.hid (And.intro hT0 (And.intro hi0 (And.intro hD hd)))
            have z1 := hT0.at_.kr.rd
            have z1w := hT0.at_.kr.wr
            have z7 := hi0.rd
            have z0 := hT0.at_.ks.rd
            have zt := hT0.kt.rd
            have n17 : rb ≠ ib := by have := HTB.out; have := HIB.out; omega
            clear hT0 hi0 hd hD hit
            refine wpIn_exit ?_
            by_cases hsi : stop = (m : Int)
            · subst hsi
              go_wp2
              have hbb := BB.out
              exact bodyM_law rfl Try.underlying4 rfl rfl rfl HX.out.1.at_.kr HX.out.2.2.2 HX.out.1.at_.at_.bl (by omega) (by have := HX.out.2.2.1; have := HIB.out; have := HTB.out; omega)
            · have t5 : (stop == (m : Int)) = false := by simpa using hsi
              go_wp2
              have hbb := BB.out
              exact bodyM_law rfl Try.underlying4 rfl rfl rfl HX.out.1.at_.kr HX.out.2.2.2 HX.out.1.at_.at_.bl (by omega) (by have := HX.out.2.2.1; have := HIB.out; have := HTB.out; omega)
end Go.Proofs.Ytnpiimaapholiaa
/- The law SummaryAlike of layer 8, walked. -/
namespace Go.Proofs.Ytnpiimaapholiaa
set_option linter.unusedSimpArgs false
set_option linter.unusedVariables false
open Go.ChangeShapes Go.WideShapes Go.ChangeAt Go.RowKit
theorem smk_u8 : (Try.prog.info? 5).map (fun i => (i.zero, i.size, i.bytes)) = some (some (.int .u8 0), 1, 1) := by kernel_rfl
/-- two summaries. -/
structure TwoS (w wx : World) (sp : Nat) (Q1 Q2 : SmN) (M : List Tri) (tot : Int) : Prop where
  a1 : SmM wx Q1 M tot
  a2 : SmM wx Q2 M tot
  bl : Below w.heap.size w wx
theorem TwoS.keep {w X Y : World} {sp : Nat} {Q1 Q2 : SmN} {M : List Tri} {tot : Int} (h : TwoS w X sp Q1 Q2 M tot) (hb : Below X.heap.size X Y) : TwoS w Y sp Q1 Q2 M tot :=
  ⟨h.a1.keep hb, h.a2.keep hb, below_in h.bl hb⟩
theorem off_skip (n : Nat) (M : List Tri) (t : Int) (s : ByteArray) (d : Int) (h : d < 1 ∨ 4611686018427387904 ≤ d ∨ 64 < s.size) : offerM n M t s d = (M, t) := by unfold offerM; rw [if_pos h]
set_option maxRecDepth 100000 in
set_option maxHeartbeats 8000000 in
theorem smalike_law (w : World) (a1 b1 c1 a2 b2 c2 : Nat) (A : Option Addr) (n c : Nat) (L : List (ByteArray × Int)) (h1 : a1 < 18446744073709551616 ∧ b1 < 18446744073709551616 ∧ c1 < 18446744073709551616) (h2 : a2 < 18446744073709551616 ∧ b2 < 18446744073709551616 ∧ c2 < 18446744073709551616) (hr : RdL w A n c 2 encSI L) (hok : ∀ a ∈ L, okSI a) :
    Calls Try.prog 8 #[.agg #[.int .u64 (a1 : Int), .int .u64 (b1 : Int), .int .u64 (c1 : Int), .int .u64 (a2 : Int), .int .u64 (b2 : Int), .int .u64 (c2 : Int)], .slice A n c] w fun e w' => e = .returned (.bool true) ∧ Below w.heap.size w w' := by
  have hmx := hr.max
  unfold maxLen at hmx
  have hcp := hr.cap
  have HR := Lib.hid hr
  have HO := Lib.hid hok
  have C1 := Lib.hid (fun w => smrow_any a1 b1 c1 h1.1 h1.2.1 h1.2.2 w)
  have C2 := Lib.hid (fun w => smrow_any a2 b2 c2 h2.1 h2.2.1 h2.2.2 w)
  have D1 := Lib.hid (d_lt a1 b1 c1)
  have D2 := Lib.hid (d_lt a2 b2 c2)
  obtain ⟨X1, hX1⟩ : ∃ X, X = dX a1 b1 c1 := ⟨_, rfl⟩
  obtain ⟨A1, hA1⟩ : ∃ X, X = dA a1 b1 c1 := ⟨_, rfl⟩
  obtain ⟨B1, hB1⟩ : ∃ X, X = dB a1 b1 c1 := ⟨_, rfl⟩
  obtain ⟨X2, hX2⟩ : ∃ X, X = dX a2 b2 c2 := ⟨_, rfl⟩
  obtain ⟨A2, hA2⟩ : ∃ X, X = dA a2 b2 c2 := ⟨_, rfl⟩
  obtain ⟨B2, hB2⟩ : ∃ X, X = dB a2 b2 c2 := ⟨_, rfl⟩
  rw [← hX1, ← hA1, ← hB1] at C1 D1
  rw [← hX2, ← hA2, ← hB2] at C2 D2
  have CN1 := Lib.hid (fun wx => show Calls Try.prog 13 #[.int .i64 3, .agg #[.int .u64 X1, .int .u64 A1, .int .u64 B1]] wx _ from smnew_any X1 A1 B1 D1.out.1 D1.out.2.1 D1.out.2.2 3 (by omega) (by omega) wx)
  have CN2 := Lib.hid (fun wx => show Calls Try.prog 13 #[.int .i64 3, .agg #[.int .u64 X2, .int .u64 A2, .int .u64 B2]] wx _ from smnew_any X2 A2 B2 D2.out.1 D2.out.2.1 D2.out.2.2 3 (by omega) (by omega) wx)
  obtain ⟨i0, hi, hz0, hz1, hz2⟩ := info_parts smk_u8
  have hmk : ∀ wx : World, (Instr.makeSlice 56 (.int .i64 65) (.int .i64 65)).run Try.prog wx = .ok (.slice (some ⟨wx.heap.size, 0, none⟩) 65 65) (wx.alloc (.cells (noughts 65) 5)) := make_bytes (P := Try.prog) (t := 56) (e := 5) Try.underlying56 hi hz0 hz1 hz2 65 (by omega)
  obtain ⟨w0, hw0, k0, l0, s0⟩ := box_new w #[.int .u64 (a1 : Int), .int .u64 (b1 : Int), .int .u64 (c1 : Int), .int .u64 (a2 : Int), .int .u64 (b2 : Int), .int .u64 (c2 : Int)] 55
  obtain ⟨db, hdb⟩ : ∃ db, db = w.heap.size := ⟨_, rfl⟩
  rw [← hdb] at k0
  have K0 := Lib.hid k0
  have L0 := Lib.hid l0
  clear hr hok h1 h2 hX1 hA1 hB1 hX2 hA2 hB2 k0 l0 s0 hi hz0 hz1 hz2
  go_enter Try.func8, Try.ntmps8
  go_upto_region 1 with (fail)
  rw [← hdb]
  clear hw0 hdb
  go_upto_region 3 with (go_at_call 11; refine (smfit_any _).mono ?_; rintro e w1 ⟨rfl, bb⟩; have K1 := Lib.hid (K0.out.keep bb); have L1 := Lib.hid (below_in L0.out bb); clear bb)
  have CLi := Lib.hid (smlight_any A n c L w1 (HR.out.below L1.out) HO.out)
  cases hlb : lightS L with
  | false =>
    rw [hlb] at CLi
    go_wp2_with (go_at_call 12; ((with_reducible refine CLi.out.mono ?_); rintro e w3 ⟨rfl, b3⟩; have T3 := Lib.hid (below_in L1.out b3); clear b3))
    go_ret
    exact ⟨rfl, T3.out⟩
  | true =>
  rw [hlb] at CLi
  have hlen : L.length ≤ 150 := by unfold lightS at hlb; simp at hlb; exact hlb.1
  have hln := HR.out.len
  have hb2 : (n : Int) ≤ 150 := by omega
  clear hlb hlen hln
  go_upto_region 5 with (go_at_call 12; ((with_reducible refine CLi.out.mono ?_); rintro e w2 ⟨rfl, b2⟩; have L2 := Lib.hid (below_in L1.out b2); have K2 := Lib.hid (K1.out.keep b2); clear b2))
  clear CLi L1 K1 L0 K0
  have S0 := Lib.hid (fun (wx : World) (hx : Below w2.heap.size w2 wx) => (K2.out.keep hx).rd)
  have Y0 := Lib.hid (show Below w2.heap.size w2 w2.drew from below_draws (Below.refl _ _) 1)
  refine wp_region_held_drew (S := fun w' => ∀ j, w'.cell? ⟨db, j, none⟩ = (#[.int .u64 (a1 : Int), .int .u64 (b1 : Int), .int .u64 (c1 : Int), .int .u64 (a2 : Int), .int .u64 (b2 : Int), .int .u64 (c2 : Int)] : Array Value)[j]?) (by kernel_rfl) (S0.out _ Y0.out) (fun hHeld => ?_)
  refine wpAnyH_take (i := 0) (oi := ?_) (v := ?_) ?_ ?_ ?_ ?_ ?_ ?_ ?_ ?_
  rotate_left 2
  · simp only [List.getElem?_toArray, List.getElem?_cons_succ, List.getElem?_cons_zero]; rfl
  · kernel_rfl
  · kernel_rfl
  · kernel_rfl
  · exact fun _ _ _ h => h
  · refine Or.inl ⟨by rfl, ?_⟩
    intro w' hSw
    (try dsimp only at hSw)
    go_simp
    all_goals (with_reducible rfl)
  · assumption
  try simp only [Act.put, List.setIfInBounds_toArray, List.set_cons_zero, List.set_cons_succ]
  refine wpAnyH_take (i := 1) (oi := ?_) (v := ?_) ?_ ?_ ?_ ?_ ?_ ?_ ?_ ?_
  rotate_left 2
  · simp only [List.getElem?_toArray, List.getElem?_cons_succ, List.getElem?_cons_zero]; rfl
  · kernel_rfl
  · kernel_rfl
  · kernel_rfl
  · exact fun _ _ _ h => h
  · refine Or.inl ⟨by rfl, ?_⟩
    intro w' hSw
    (try dsimp only at hSw)
    go_simp
    all_goals (with_reducible rfl)
  · assumption
  try simp only [Act.put, List.setIfInBounds_toArray, List.set_cons_zero, List.set_cons_succ]
  refine wpAnyH_take (i := 4) (oi := ?_) (v := ?_) ?_ ?_ ?_ ?_ ?_ ?_ ?_ ?_
  rotate_left 2
  · simp only [List.getElem?_toArray, List.getElem?_cons_succ, List.getElem?_cons_zero]; rfl
  · kernel_rfl
  · kernel_rfl
  · kernel_rfl
  · exact fun _ _ _ h => h
  · refine Or.inl ⟨by rfl, ?_⟩
    intro w' hSw
    (try dsimp only at hSw)
    go_simp
    all_goals (with_reducible rfl)
  · assumption
  try simp only [Act.put, List.setIfInBounds_toArray, List.set_cons_zero, List.set_cons_succ]
  refine wpAnyH_take (i := 5) (oi := ?_) (v := ?_) ?_ ?_ ?_ ?_ ?_ ?_ ?_ ?_
  rotate_left 2
  · simp only [List.getElem?_toArray, List.getElem?_cons_succ, List.getElem?_cons_zero]; rfl
  · kernel_rfl
  · kernel_rfl
  · kernel_rfl
  · exact fun _ _ _ h => h
  · refine Or.inl ⟨by rfl, ?_⟩
    intro w' hSw
    (try dsimp only at hSw)
    go_simp
    all_goals (with_reducible rfl)
  · assumption
  try simp only [Act.put, List.setIfInBounds_toArray, List.set_cons_zero, List.set_cons_succ]
  refine wpAnyH_ready (rs := [2]) (by kernel_rfl) (by simp) ?_
  refine AllReadyH.cons (o := ?_) ?_ ?_ ?_
  rotate_left 1
  · simp only [List.getElem?_toArray, List.getElem?_cons_succ, List.getElem?_cons_zero]; rfl
  rotate_left 1
  · exact AllReadyH.nil
  intro K hK
  go_simp
  ((with_reducible refine (C1.out _).mono ?_); rintro e w3 ⟨rfl, bk⟩; have Y1 := Lib.hid (below_in Y0.out bk); clear bk)
  refine hK.out _ _ (S0.out _ Y1.out) (fun hHeld => ?_)
  clear hK K
  try simp only [Act.put, List.setIfInBounds_toArray, List.set_cons_zero, List.set_cons_succ]
  refine wpAnyH_ready (rs := [3]) (by kernel_rfl) (by simp) ?_
  refine AllReadyH.cons (o := ?_) ?_ ?_ ?_
  rotate_left 1
  · simp only [List.getElem?_toArray, List.getElem?_cons_succ, List.getElem?_cons_zero]; rfl
  rotate_left 1
  · exact AllReadyH.nil
  intro K hK
  go_simp
  ((with_reducible refine (CN1.out _).mono ?_); rintro e w4 ⟨Q1, rfl, hq, hn, hnew, bk⟩; have P1 := Lib.hid hq; have N1 := Lib.hid hn; have W1 := Lib.hid hnew; have Y2 := Lib.hid (below_in Y1.out bk); clear hq hn hnew bk)
  refine hK.out _ _ (S0.out _ Y2.out) (fun hHeld => ?_)
  clear hK K
  try simp only [Act.put, List.setIfInBounds_toArray, List.set_cons_zero, List.set_cons_succ]
  refine wpAnyH_ready (rs := [6]) (by kernel_rfl) (by simp) ?_
  refine AllReadyH.cons (o := ?_) ?_ ?_ ?_
  rotate_left 1
  · simp only [List.getElem?_toArray, List.getElem?_cons_succ, List.getElem?_cons_zero]; rfl
  rotate_left 1
  · exact AllReadyH.nil
  intro K hK
  go_simp
  ((with_reducible refine (C2.out _).mono ?_); rintro e w5 ⟨rfl, bk⟩; have Y3 := Lib.hid (below_in Y2.out bk); have P2 := Lib.hid (P1.out.keep bk); have Z5 := Lib.hid bk.size; clear bk)
  refine hK.out _ _ (S0.out _ Y3.out) (fun hHeld => ?_)
  clear hK K
  try simp only [Act.put, List.setIfInBounds_toArray, List.set_cons_zero, List.set_cons_succ]
  refine wpAnyH_ready (rs := [7]) (by kernel_rfl) (by simp) ?_
  refine AllReadyH.cons (o := ?_) ?_ ?_ ?_
  rotate_left 1
  · simp only [List.getElem?_toArray, List.getElem?_cons_succ, List.getElem?_cons_zero]; rfl
  rotate_left 1
  · exact AllReadyH.nil
  intro K hK
  go_simp
  ((with_reducible refine (CN2.out _).mono ?_); rintro e w6 ⟨Q2, rfl, hq, hn, hnew, bk⟩; have R1 := Lib.hid hq; have N2 := Lib.hid hn; have W2 := Lib.hid hnew; have P3 := Lib.hid (P2.out.keep bk); have Y4 := Lib.hid (below_in Y3.out bk); clear hq hn hnew bk)
  refine hK.out _ _ (S0.out _ Y4.out) (fun hHeld => ?_)
  clear hK K
  try simp only [Act.put, List.setIfInBounds_toArray, List.set_cons_zero, List.set_cons_succ]
  refine wpAnyH_take (i := 8) (oi := ?_) (v := ?_) ?_ ?_ ?_ ?_ ?_ ?_ ?_ ?_
  rotate_left 2
  · simp only [List.getElem?_toArray, List.getElem?_cons_succ, List.getElem?_cons_zero]; rfl
  · kernel_rfl
  · kernel_rfl
  · kernel_rfl
  · exact fun _ _ _ h => h
  · refine Or.inl ⟨by rfl, ?_⟩
    intro w' hSw
    (try dsimp only at hSw)
    go_simp
    all_goals (with_reducible rfl)
  · assumption
  try simp only [Act.put, List.setIfInBounds_toArray, List.set_cons_zero, List.set_cons_succ]
  refine wpAnyH_take (i := 9) (oi := ?_) (v := ?_) ?_ ?_ ?_ ?_ ?_ ?_ ?_ ?_
  rotate_left 2
  · simp only [List.getElem?_toArray, List.getElem?_cons_succ, List.getElem?_cons_zero]; rfl
  · kernel_rfl
  · kernel_rfl
  · kernel_rfl
  · exact fun _ _ _ h => h
  · refine Or.inl ⟨by rfl, ?_⟩
    intro w' hSw
    (try dsimp only at hSw)
    go_simp
    all_goals (with_reducible rfl)
  · assumption
  try simp only [Act.put, List.setIfInBounds_toArray, List.set_cons_zero, List.set_cons_succ]
  refine wpAnyH_done (by kernel_rfl) ?_ _
  clear hHeld
  have HQ := Lib.hid (show (∀ k, Q1.all k → w.heap.size ≤ k ∧ k < w5.heap.size) ∧ (∀ k, Q2.all k → w5.heap.size ≤ k) ∧ w.heap.size ≤ w5.heap.size from
    ⟨fun k hk => ⟨by have h1 := W1.out k hk; have h2 := Y1.out.size; have h3 := L2.out.size; have h4 : w2.drew.heap.size = w2.heap.size := rfl; omega, P2.out.lt k hk⟩, W2.out, by have h2 := Y3.out.size; have h3 := L2.out.size; omega⟩)
  have T6 := Lib.hid (show TwoS w w6 w5.heap.size Q1 Q2 [] 0 from ⟨⟨[], _, P3.out, rfl⟩, ⟨[], _, R1.out, rfl⟩, below_in L2.out Y4.out⟩)
  clear S0 Y0 Y1 Y2 Y3 Y4 P1 P2 P3 R1 W1 W2 Z5 K2 L2 C1 C2 CN1 CN2 D1 D2
  generalize w5.heap.size = sp at HQ T6
  obtain ⟨w7, hw7, k7, l7, s7⟩ := box_new w6 (noughts 65) 5
  have hcv := conv_str (P := Try.prog) (dst := 9) Try.underlying56 Try.underlying5 Try.underlying9 (rd_blk (k := .u8) (zs := List.replicate 65 0) (n := 65) k7 (by simp) (by unfold maxLen; omega) (by intro z hz; rw [List.mem_replicate] at hz; rw [hz.2]; rfl))
  obtain ⟨ls, hls⟩ : ∃ ls, ls = strOfNums (List.replicate 65 0) := ⟨_, rfl⟩
  have HLS := Lib.hid (show ls.size = 65 by rw [hls, str_size]; simp)
  rw [← hls] at hcv
  have T7 := Lib.hid (T6.out.keep l7)
  clear hls k7 l7 s7 T6
  go_upto_region 7 with (fail)
  clear hcv hmk hw7
  go_wp2
  go_loopg [30] n (fun kk si wr => ∃ (i : Nat), i ≤ n ∧ Hid (kk = n - i) ∧ si = .int .i64 (i : Int) ∧ Hid (TwoS w wr sp Q1 Q2 (runM 3 (L.take i)).1 (runM 3 (L.take i)).2))
  case atStart => exact ⟨0, by omega, Lib.hid rfl, rfl, T7⟩
  case round =>
    obtain ⟨i, hi, HKK, rfl, HS⟩ := hrel
    by_cases hin : i < n
    · have hl2 := HR.out.len
      obtain ⟨b, off, rfl, hbl, hc⟩ := (HR.out.below HS.out.bl).at_ (by omega)
      obtain ⟨⟨ky, v⟩, ha⟩ : ∃ a, L[i]? = some a := ⟨_, List.getElem?_eq_getElem (by omega)⟩
      have hoka := HO.out _ (List.mem_of_getElem? ha)
      have kr0 : wr.cell? ⟨b, off + i * 2, none⟩ = some (.string ky) := hc i _ ha 0 (by omega)
      have kr1 : wr.cell? ⟨b, off + i * 2 + 1, none⟩ = some (.int .i64 v) := hc i _ ha 1 (by omega)
      unfold okSI at hoka
      simp only at hoka
      obtain ⟨hky, hv⟩ := hoka
      obtain ⟨x1, x2, ex1, kr, kw, ex2, bl2, kc2⟩ := box2 wr 37 (.string ⟨#[]⟩) (.int .i64 0) (.string ky) (.int .i64 v)
      obtain ⟨M, hM⟩ : ∃ M, M = (runM 3 (L.take i)).1 := ⟨_, rfl⟩
      obtain ⟨tot, htot⟩ : ∃ tot, tot = (runM 3 (L.take i)).2 := ⟨_, rfl⟩
      have HT := Lib.hid (runM_take 3 ha)
      rw [← hM, ← htot] at HS HT
      obtain ⟨M', hM'⟩ : ∃ M', M' = (offerM 3 M tot ky v).1 := ⟨_, rfl⟩
      obtain ⟨tot', htot'⟩ : ∃ tot', tot' = (offerM 3 M tot ky v).2 := ⟨_, rfl⟩
      have hT2 : runM 3 (L.take (i + 1)) = (M', tot') := by rw [HT.out, hM', htot']
      have HT2 := Lib.hid hT2
      have S7 := Lib.hid (HS.out.keep bl2)
      obtain ⟨bx, hbx⟩ : ∃ bx, bx = wr.heap.size := ⟨_, rfl⟩
      rw [← hbx] at kc2
      have KC := Lib.hid (show Blk x2 bx 37 #[.string ky, .int .i64 v] ∧ (∀ k, Q1.all k → k < bx) ∧ (∀ k, Q2.all k → k < bx) from ⟨kc2, fun k hk => by
        obtain ⟨L1, σ1, g1, _⟩ := HS.out.a1
        have := g1.lt k hk; omega, fun k hk => by
        obtain ⟨L1, σ1, g1, _⟩ := HS.out.a2
        have := g1.lt k hk; omega⟩)
      have kc3 := kc2.rd
      have t2 : (i : Int) < (n : Int) := by omega
      have HIN := Lib.hid hin
      have fi : IntKind.i64.wrap ((i : Int) + 1) = ((i + 1 : Nat) : Int) := by rw [IntKind.wrap_i64]; omega
      -- the five offers
      have OF1 := Lib.hid (fun (wx : World) (hx : SmM wx Q1 M tot) => show Calls Try.prog 15 #[.pointer (some ⟨Q1.s, 0, none⟩), .string ky, .int .i64 v] wx (fun e w' => e = .returned (.tuple #[]) ∧ SmM w' Q1 M' tot' ∧ Fr Q1.F wx w') from by
        have := smoffer_any ky hky v wx hx
        rw [N1.out, ← hM', ← htot'] at this
        exact this)
      have OF2 := Lib.hid (fun (wx : World) (hx : SmM wx Q2 M tot) => show Calls Try.prog 15 #[.pointer (some ⟨Q2.s, 0, none⟩), .string ky, .int .i64 v] wx (fun e w' => e = .returned (.tuple #[]) ∧ SmM w' Q2 M' tot' ∧ Fr Q2.F wx w') from by
        have := smoffer_any ky hky v wx hx
        rw [N2.out, ← hM', ← htot'] at this
        exact this)
      have OF3 := Lib.hid (fun (wx : World) => smoffer_not (Q := Q2) ls (by rw [HLS.out]; unfold maxLen; omega) 5 (by rw [HLS.out]; omega) wx)
      have OF4 := Lib.hid (fun (wx : World) => smoffer_not (Q := Q2) ky hky 0 (by omega) wx)
      have OF5 := Lib.hid (fun (wx : World) => smoffer_not (Q := Q2) ky hky 4611686018427387904 (by omega) wx)
      clear hl2 hc hbl ha bl2 kc2 hky hM htot hM' htot' hT2 HT HS
      go_upto_region 10 with (fail)
      rw [← hbx]
      clear kr kw ex1 kr0 kr1 ex2 hbx
      go_upto_region 11 with (go_at_call 15; ((with_reducible refine (OF1.out _ S7.out.a1).mono ?_); rintro e y1 ⟨rfl, s1, f1⟩; have Y1 := Lib.hid (show SmM y1 Q1 M' tot' ∧ SmM y1 Q2 M tot ∧ Below w.heap.size w y1 ∧ Blk y1 bx 37 #[.string ky, .int .i64 v] from ⟨s1, S7.out.a2.fr f1 (fun k hk e => by have h1 := (HQ.out.1 k (Or.inl e)).2; have h2 := HQ.out.2.1 k hk; omega), S7.out.bl.trans (f1.below S7.out.bl.size (fun k hk => (HQ.out.1 k (Or.inl hk)).1)), KC.out.1.fr f1 (fun e => by have := KC.out.2.1 _ (Or.inl e); omega)⟩); clear s1 f1))
      clear kc3
      have kc3 := Y1.out.2.2.2.rd
      go_upto_region 12 with (go_at_call 15; ((with_reducible refine (OF2.out _ Y1.out.2.1).mono ?_); rintro e y2 ⟨rfl, s1, f1⟩; have Y2 := Lib.hid (show TwoS w y2 sp Q1 Q2 M' tot' ∧ Blk y2 bx 37 #[.string ky, .int .i64 v] from ⟨⟨Y1.out.1.fr f1 (fun k hk e => by have h1 := (HQ.out.1 k hk).2; have h2 := HQ.out.2.1 k (Or.inl e); omega), s1, Y1.out.2.2.1.trans (f1.below Y1.out.2.2.1.size (fun k hk => by have h2 := HQ.out.2.1 k (Or.inl hk); have := HQ.out.2.2; omega))⟩, Y1.out.2.2.2.fr f1 (fun e => by have := KC.out.2.2 _ (Or.inl e); omega)⟩); clear s1 f1))
      clear kc3
      have kc3 := Y2.out.2.rd
      go_upto_region 13 with (go_at_call 15; ((with_reducible refine (OF3.out _).mono ?_); rintro e yx ⟨rfl, rfl⟩))
      go_upto_region 14 with (go_at_call 15; ((with_reducible refine (OF4.out _).mono ?_); rintro e yx ⟨rfl, rfl⟩))
      go_upto_region 15 with (go_at_call 15; ((with_reducible refine (OF5.out _).mono ?_); rintro e yx ⟨rfl, rfl⟩))
      clear kc3 OF1 OF2 OF3 OF4 OF5
      obtain ⟨m, hm⟩ : ∃ m, m = M'.length := ⟨_, rfl⟩
      have hm3 : m ≤ 3 := by have := (uni_of Y2.out.1.a1).2.1; rw [N1.out] at this; omega
      have TOP := Lib.hid (fun (Q : SmN) (hQ : Q.N.n = 3) (wx : World) (h : SmM wx Q M' tot') => show Calls Try.prog 23 #[.pointer (some ⟨Q.s, 0, none⟩), .int .i64 3] wx (fun e w' => ∃ A c, e = .returned (.slice A m c) ∧ RdT 0 w' A m c M' ∧ Below wx.heap.size wx w') from by
        have := smtopM 3 (by omega) h
        rw [hQ, show topN 3 3 = 3 from rfl, show min 3 M'.length = m by omega, List.take_of_length_le (by omega)] at this
        exact this.mono (fun e w' ⟨A, c, h1, h2, h3⟩ => ⟨A, c, h1, h2.more (Nat.zero_le _), h3⟩))
      have CT1 := Lib.hid (fun (wx : World) (h : SmM wx Q1 M' tot') => smtotalM wx h)
      have CT2 := Lib.hid (fun (wx : World) (h : SmM wx Q2 M' tot') => smtotalM wx h)
      have HM := Lib.hid hm
      have tm3 : (m : Int) ≤ 3 := by omega
      clear hm hm3
      go_wp2_with (fail)
      refine (TOP.out Q1 N1.out _ Y2.out.1.a1).mono ?_
      rintro e wa ⟨Aa, ca, rfl, ra, ba⟩
      have Y3 := Lib.hid (Y2.out.1.keep ba)
      have RA := Lib.hid ra
      clear ra ba
      go_wp2_with (fail)
      refine (TOP.out Q2 N2.out _ Y3.out.a2).mono ?_
      rintro e wb ⟨Ab, cb, rfl, rb, bb⟩
      have Y4 := Lib.hid (Y3.out.keep bb)
      have RB := Lib.hid (And.intro (RA.out.keep bb) rb)
      clear rb bb RA Y3
      have b1 : ((m : Int) != (m : Int)) = false := by simp
      have b2 : (tot' != tot') = false := by simp
      go_upto_region 18 with (go_at_call 19; first
        | ((with_reducible refine (CT1.out _ Y4.out.a1).mono ?_); rintro e yx ⟨rfl, rfl⟩)
        | ((with_reducible refine (CT2.out _ Y4.out.a2).mono ?_); rintro e yx ⟨rfl, rfl⟩))
      clear b1 b2 CT1 CT2 TOP
      go_wp2
      go_loopg [75] m (fun kq si wq => ∃ (j : Nat), j ≤ m ∧ Hid (kq = m - j) ∧ si = .int .i64 (j : Int) ∧ Hid (TwoS w wq sp Q1 Q2 M' tot' ∧ RdT 0 wq Aa m ca M' ∧ RdT 0 wq Ab m cb M'))
      case atStart => exact ⟨0, by omega, Lib.hid rfl, rfl, Lib.hid ⟨Y4.out, RB.out.1, RB.out.2⟩⟩
      case round =>
        obtain ⟨j, hj, HJJ, rfl, HJ⟩ := hrel
        by_cases hjq : j < m
        · obtain ⟨⟨s, nn, ee⟩, hx⟩ : ∃ a, M'[j]? = some a := ⟨_, List.getElem?_eq_getElem (by rw [← HM.out]; exact hjq)⟩
          obtain ⟨g1, rfl, p0, p1, p2⟩ := HJ.out.2.1.cell hx
          obtain ⟨g2, rfl, q0, q1, q2⟩ := HJ.out.2.2.cell hx
          have CE := fun wx => cnt_equal (s, nn, ee) (s, nn, ee) wx
          rw [show decide (((s, nn, ee) : Tri) = (s, nn, ee)) = true from by simp] at CE
          have t4 : (0 : Int) ≤ (j : Int) := by omega
          have t5 : (j : Int) < (m : Int) := by omega
          have fj : IntKind.i64.wrap ((j : Int) + 1) = ((j + 1 : Nat) : Int) := by rw [IntKind.wrap_i64]; omega
          have HJQ := Lib.hid hjq
          clear hx hjq
          go_upto_region 21 with (fail)
          go_quiet (fail)
          clear p0 p1 p2 q0 q1 q2 CE
          have HJ2 := Lib.hid (show TwoS w (wr.drewN nq) sp Q1 Q2 M' tot' ∧ RdT 0 (wr.drewN nq) (some ⟨g1, 0, none⟩) m ca M' ∧ RdT 0 (wr.drewN nq) (some ⟨g2, 0, none⟩) m cb M' from
            ⟨HJ.out.1.keep (below_draws (Below.refl _ _) nq), HJ.out.2.1.keep (below_draws (Below.refl _ _) nq), HJ.out.2.2.keep (below_draws (Below.refl _ _) nq)⟩)
          go_wp2
          go_roundg (m - (j + 1))
          case measure => have := HJJ.out; have := HJQ.out; omega
          case rel => exact ⟨j + 1, HJQ.out, Lib.hid rfl, rfl, HJ2⟩
        · have hjq2 : j = m := by omega
          subst hjq2
          clear hj hjq
          go_wp2
          go_roundg (n - (i + 1))
          case measure => have := HKK.out; have := HIN.out; omega
          case rel => exact ⟨i + 1, HIN.out, Lib.hid rfl, rfl, by rw [HT2.out]; exact Lib.hid HJ.out.1⟩
    · go_wp2
      go_ret
      exact ⟨rfl, HS.out.bl⟩
end Go.Proofs.Ytnpiimaapholiaa
/- The law SummaryTop of layer 8, walked. -/
namespace Go.Proofs.Ytnpiimaapholiaa
set_option linter.unusedSimpArgs false
set_option linter.unusedVariables false
open Go.ChangeShapes Go.WideShapes Go.ChangeAt Go.RowKit
theorem sumM_split (k : Nat) (M : List Tri) : sumM M = sumM (M.take k) + sumM (M.drop k) := by rw [← sumM_app, List.take_append_drop]
/-- whoever had more than the k-th part of all is among the first k. -/
theorem SSI.top {n : Nat} {H : ByteArray → Int} {M : List Tri} {tot : Int} (h : SSI n H M tot) {k : Nat} (hk : 1 ≤ k ∧ k ≤ n) {s : ByteArray} (hs : tot < H s * (k : Int)) : ∃ t ∈ M.take k, t.1 = s := by
  refine Classical.byContradiction fun hno => ?_
  have hno : ∀ t ∈ M.take k, t.1 ≠ s := fun t ht e => hno ⟨t, ht, e⟩
  have hrest : 0 ≤ sumM (M.drop k) := by
    have := sumM_low (c := 0) (M := M.drop k) (fun t ht => (h.bd t (List.mem_of_mem_drop ht)).2.2.2.2)
    omega
  have hsum := h.sum
  rw [sumM_split k] at hsum
  have key : M.length ≥ k → (∀ t ∈ M.take k, H s ≤ t.2.1) → False := fun hl hle => by
    have := sumM_low hle
    rw [List.length_take, Nat.min_eq_left hl] at this
    omega
  by_cases hM : ∃ t ∈ M, t.1 = s
  · obtain ⟨t, ht, e⟩ := hM
    obtain ⟨j, hj, ej⟩ := List.mem_iff_getElem.1 ht
    have hjk : k ≤ j := by
      rcases Nat.lt_or_ge j k with h1 | h1
      · refine absurd e (hno t ?_)
        rw [← ej]
        exact List.mem_take_iff_getElem.2 ⟨j, by omega, rfl⟩
      · exact h1
    refine key (by omega) (fun u hu => ?_)
    obtain ⟨i, hi, ei⟩ := List.mem_take_iff_getElem.1 hu
    have := List.pairwise_iff_getElem.1 h.srt i j (by omega) hj (by omega)
    rw [ei, ej] at this
    have := (h.bd t ht).1
    rw [e] at this
    omega
  · have hle := h.no s (fun t ht e => hM ⟨t, ht, e⟩)
    by_cases hf : M.length < n
    · have e1 : leastM n M = 0 := by unfold leastM; rw [if_pos hf]
      rw [e1] at hle
      have h0 : 0 ≤ sumM (M.take k) := by
        have := sumM_low (c := 0) (M := M.take k) (fun t ht => (h.bd t (List.mem_of_mem_take ht)).2.2.2.2)
        omega
      have : H s * (k : Int) ≤ 0 := by
        have h1 := h.pos s
        have : H s = 0 := by omega
        rw [this, Int.zero_mul]; exact Int.le_refl _
      omega
    · refine key (by have := h.len; omega) (fun t ht => ?_)
      have := h.least t (List.mem_of_mem_take ht)
      omega
/-- the sums that a map has. -/
def hadH (H : ByteArray → Option Int) : ByteArray → Int := fun s => (H s).getD 0
theorem hadH_put (H : ByteArray → Option Int) (s : ByteArray) (d : Int) : hadH (putH H s ((H s).getD 0 + d)) = fun x => if x = s then hadH H s + d else hadH H x := by
  funext x
  unfold hadH putH
  split <;> rfl
/-- what the law knows behind i calls. -/
structure TpI (n : Nat) (H : ByteArray → Option Int) (M : List Tri) (tot : Int) (cm i : Nat) (B : Int) : Prop where
  ss : SSI n (hadH H) M tot
  ci : cm ≤ i
  tb : 0 ≤ tot ∧ tot ≤ B * (i : Int)
  xb : ∀ s, (H s).getD 0 ≤ tot
theorem TpI.step {n : Nat} {H : ByteArray → Option Int} {M : List Tri} {tot : Int} {cm i : Nat} {B : Int} (h : TpI n H M tot cm i B) (hn : 1 ≤ n) {s : ByteArray} (hs : s.size ≤ 64) {d : Int} (hd : 1 ≤ d ∧ d ≤ B) (hi : i ≤ 150) (hB : B ≤ 65536) :
    TpI n (putH H s ((H s).getD 0 + d)) (offerM n M tot s d).1 (tot + d) (if (H s).isSome = true then cm else cm + 1) (i + 1) B ∧ (offerM n M tot s d).2 = tot + d := by
  have htb := h.tb
  have hBi : B * ((i + 1 : Nat) : Int) = B * (i : Int) + B := by rw [Int.natCast_add, Int.mul_add]; simp
  have hmul : B * (i : Int) ≤ 65536 * 150 := by
    have h1 : B * (i : Int) ≤ 65536 * (i : Int) := Int.mul_le_mul_of_nonneg_right hB (by omega)
    omega
  obtain ⟨h1, h2⟩ := h.ss.step hn hs hd.1 (by omega) htb.1
  refine ⟨⟨by rw [hadH_put]; exact h1, by have := h.ci; split <;> omega, by omega, fun x => ?_⟩, h2⟩
  have hx := h.xb x
  have hs := h.xb s
  unfold putH
  split
  · show (H s).getD 0 + d ≤ _; omega
  · omega
theorem TpI.skip {n : Nat} {H : ByteArray → Option Int} {M : List Tri} {tot : Int} {cm i : Nat} {B : Int} (h : TpI n H M tot cm i B) (hB : 0 ≤ B) : TpI n H M tot cm (i + 1) B :=
  ⟨h.ss, by have := h.ci; omega, by
    have := h.tb
    have hBi : B * ((i + 1 : Nat) : Int) = B * (i : Int) + B := by rw [Int.natCast_add, Int.mul_add]; simp
    omega, h.xb⟩
/-- the keys that have been seen. -/
def seenM (M : List Tri) : ByteArray → Option Value := fun s => if (M.any fun t => decide (t.1 = s)) then some (.bool true) else none
theorem seenM_nil : seenM [] = fun _ => none := by funext s; simp [seenM]
theorem seenM_snoc (M : List Tri) (x : Tri) : (fun t => if t = x.1 then some (Value.bool true) else seenM M t) = seenM (M ++ [x]) := by
  funext t
  unfold seenM
  rw [List.any_append]
  by_cases h : t = x.1
  · subst h; simp
  · rw [if_neg h]
    have : ([x].any fun u => decide (u.1 = t)) = false := by simp; exact fun e => h e.symm
    rw [this, Bool.or_false]
theorem seenM_get (M : List Tri) (s : ByteArray) : (seenM M s).getD (.bool false) = .bool (M.any fun t => decide (t.1 = s)) := by
  unfold seenM
  cases h : (M.any fun t => decide (t.1 = s)) <;> simp
set_option maxRecDepth 100000 in
set_option maxHeartbeats 8000000 in
theorem smtop_law (w : World) (z kq : Int) (A : Option Addr) (n c : Nat) (L : List (ByteArray × Int)) (hz : -9223372036854775808 ≤ z ∧ z ≤ 9223372036854775807) (hkq : -9223372036854775808 ≤ kq ∧ kq ≤ 9223372036854775807) (hr : RdL w A n c 2 encSI L) (hok : ∀ a ∈ L, okSI a) :
    Calls Try.prog 5 #[.int .i64 z, .int .i64 kq, .slice A n c] w fun e w' => e = .returned (.bool true) ∧ Below w.heap.size w w' := by
  have hmx := hr.max
  unfold maxLen at hmx
  have hcp := hr.cap
  have HR := Lib.hid hr
  have HO := Lib.hid hok
  have HKQ := Lib.hid hkq
  have hmm := @run_makeMap Try.prog
  obtain ⟨y, hy⟩ : ∃ y : Int, y = z % 16 := ⟨_, rfl⟩
  obtain ⟨N, hN⟩ : ∃ N : Nat, (N : Int) = y + 1 ∧ 1 ≤ N ∧ N ≤ 16 := ⟨(z % 16 + 1).toNat, by omega, by omega, by omega⟩
  have eb : bits BinOp.and IntKind.i64 z 15 = y := by rw [i64_mask4, hy]
  have ey : IntKind.i64.wrap (y + 1) = (N : Int) := by rw [IntKind.wrap_i64]; omega
  have CR := Lib.hid (fun wx => show Calls Try.prog 14 #[.agg #[.int .u64 5, .int .u64 6, .int .u64 7]] wx _ from smrow_any 5 6 7 (by omega) (by omega) (by omega) wx)
  have hl := d_lt 5 6 7
  obtain ⟨X, hX⟩ : ∃ x, x = dX 5 6 7 := ⟨_, rfl⟩
  obtain ⟨Y, hY⟩ : ∃ x, x = dA 5 6 7 := ⟨_, rfl⟩
  obtain ⟨Z, hZ⟩ : ∃ x, x = dB 5 6 7 := ⟨_, rfl⟩
  rw [← hX, ← hY, ← hZ] at CR hl
  have CN := Lib.hid (fun wx (hb : Below w.heap.size w wx) => show Calls Try.prog 13 #[.int .i64 (N : Int), .agg #[.int .u64 X, .int .u64 Y, .int .u64 Z]] wx _ from smnewM (W := w) X Y Z hl.1 hl.2.1 hl.2.2 N hN.2.1 (by omega) hb)
  have HN := Lib.hid hN.2
  have t0 : (N : Int) ≤ 16 := by omega
  clear hr hok hz hkq hX hY hZ hl hy hN
  go_enter Try.func5, Try.ntmps5
  go_upto_region 3 with (go_at_call 11; ((refine (smfit_any _).mono ?_); rintro e w2 ⟨rfl, b2⟩; have T2 := Lib.hid b2; clear b2))
  have CLi := Lib.hid (smlight_any A n c L w2 (HR.out.below T2.out) HO.out)
  cases hlb : lightS L with
  | false =>
    rw [hlb] at CLi
    go_wp2_with (go_at_call 12; ((with_reducible refine CLi.out.mono ?_); rintro e w3 ⟨rfl, b3⟩; have T3 := Lib.hid (G.below_on T2.out b3); clear b3))
    go_ret
    exact ⟨rfl, T3.out⟩
  | true =>
  rw [hlb] at CLi
  have hlen : L.length ≤ 150 := by unfold lightS at hlb; simp at hlb; exact hlb.1
  have hln := HR.out.len
  have hb2 : (n : Int) ≤ 150 := by omega
  have hb3 := Lib.hid (show n ≤ 150 by omega)
  clear hlb hlen hln
  go_upto_region 6 with (go_at_call 12; ((with_reducible refine CLi.out.mono ?_); rintro e w3 ⟨rfl, b3⟩; have T3 := Lib.hid (G.below_on T2.out b3); clear b3))
  go_upto_region 7 with (first
    | (go_at_call 14; ((with_reducible refine (CR.out _).mono ?_); rintro e w4 ⟨rfl, b4⟩; have B4 := Lib.hid (G.below_on T3.out b4); clear b4))
    | (go_at_call 13; ((with_reducible refine (CN.out _ B4.out).mono ?_); rintro e w6 ⟨Q, rfl, h5, hn5⟩; have H6 := Lib.hid h5; have HQN := Lib.hid hn5; clear h5 hn5)))
  clear CR CN CLi
  go_upto_region 8 with (fail)
  have hm0 : Mp.MapS Try.prog 9 (w6.alloc (.map #[] 0)) w6.heap.size 0 (liftH fun _ => none) := Mp.MapS.new (P := Try.prog) (k := 9) w6
  obtain ⟨mb, hmb⟩ : ∃ mb, mb = w6.heap.size := ⟨_, rfl⟩
  rw [← hmb] at hm0 ⊢
  have bl9 : Below w6.heap.size w6 (w6.alloc (.map #[] 0)) := (Below.refl _ _).alloc (Nat.le_refl _) _
  have S9 := Lib.hid (H6.out.keep bl9)
  have M9 := Lib.hid hm0
  have HMB := Lib.hid (show (∀ k, Q.all k → k ≠ mb) ∧ w.heap.size ≤ mb from ⟨fun k hk e => by have := H6.out.lt k hk; omega, by rw [hmb]; exact H6.out.bl.size⟩)
  generalize w6.alloc (.map #[] 0) = w9 at S9 M9 ⊢
  clear hm0 hmb bl9
  go_wp2
  go_loopg [34, 9] n (fun kk si sa wr => ∃ (i cm : Nat) (H : ByteArray → Option Int) (M : List Tri) (tot : Int), i ≤ n ∧ Hid (kk = n - i) ∧ si = .int .i64 (i : Int) ∧ sa = .int .i64 tot ∧ Hid (SmB w wr Q M tot) ∧ Hid (Mp.MapS Try.prog 9 wr mb cm (liftH H)) ∧ Hid (TpI N H M tot cm i 256))
  case atStart => exact ⟨0, 0, _, [], 0, by omega, Lib.hid rfl, rfl, rfl, S9, M9, Lib.hid ⟨SSI.nil N, by omega, by omega, fun s => Int.le_refl _⟩⟩
  case round =>
    obtain ⟨i, cm, H, M, tot, hi, HKK, rfl, rfl, HS, HM, HV⟩ := hrel
    by_cases hin : i < n
    · as_aux_lemma =>
        have hl2 := HR.out.len
        obtain ⟨b, off, rfl, hbl, hc⟩ := (HR.out.below HS.out.bl).at_ (by omega)
        obtain ⟨⟨ky, v⟩, ha⟩ : ∃ a, L[i]? = some a := ⟨_, List.getElem?_eq_getElem (by omega)⟩
        have hoka := HO.out _ (List.mem_of_getElem? ha)
        have kr0 : wr.cell? ⟨b, off + i * 2, none⟩ = some (.string ky) := hc i _ ha 0 (by omega)
        have kr1 : wr.cell? ⟨b, off + i * 2 + 1, none⟩ = some (.int .i64 v) := hc i _ ha 1 (by omega)
        unfold okSI at hoka
        simp only at hoka
        obtain ⟨hky, hv⟩ := hoka
        unfold maxLen at hky
        obtain ⟨x1, x2, ex1, kr, kw, ex2, bl2, kc2⟩ := box2 wr 37 (.string ⟨#[]⟩) (.int .i64 0) (.string ky) (.int .i64 v)
        have S7 := Lib.hid (HS.out.keep bl2)
        have M6 := Lib.hid (HM.out.keep bl2)
        obtain ⟨bx, hbx⟩ : ∃ bx, bx = wr.heap.size := ⟨_, rfl⟩
        rw [← hbx] at kc2
        have KC := Lib.hid (show Blk x2 bx 37 #[.string ky, .int .i64 v] ∧ (∀ k, Q.all k → k ≠ bx) from ⟨kc2, fun k hk e => by have := HS.out.lt k hk; omega⟩)
        have kc3 := kc2.rd
        have t2 : (i : Int) < (n : Int) := by omega
        have HIN := Lib.hid hin
        have fi : IntKind.i64.wrap ((i : Int) + 1) = ((i + 1 : Nat) : Int) := by rw [IntKind.wrap_i64]; omega
        clear hl2 hc hbl ha bl2 kc2
        go_upto_region 12 with (fail)
        rw [← hbx]
        clear kr kw ex1 kr0 kr1 ex2 hbx
        by_cases hks : (64 : Int) < (ky.size : Int)
        · clear hv
          go_wp2
          go_roundg (n - (i + 1))
          case measure => have := HKK.out; have := HIN.out; omega
          case rel => exact ⟨i + 1, cm, H, M, tot, HIN.out, Lib.hid rfl, rfl, rfl, S7, M6, Lib.hid (HV.out.skip (by omega))⟩
        · have HKS := Lib.hid (show ky.size ≤ 64 ∧ ky.size ≤ maxLen by unfold maxLen; omega)
          obtain ⟨d, hd⟩ : ∃ d, d = v % 256 + 1 := ⟨_, rfl⟩
          obtain ⟨yv, hyv⟩ : ∃ y, y = v % 256 := ⟨_, rfl⟩
          have m1 : bits .and .i64 v 255 = yv := by rw [hyv]; exact i64_mask8 v
          have e1 : IntKind.i64.wrap (yv + 1) = d := by rw [IntKind.wrap_i64]; omega
          have hdb : 1 ≤ d ∧ d ≤ 256 := by omega
          obtain ⟨hst1, hst2⟩ := HV.out.step HN.out.1 HKS.out.1 hdb (by have := hb3.out; omega) (by omega)
          have co := smoffer_any ky HKS.out.2 d x2 S7.out.at_
          rw [HQN.out, hst2] at co
          have CO := Lib.hid co
          have HV2 := Lib.hid hst1
          have htb := HV.out.tb
          have htl := HV.out.xb ky
          have hpl := HV.out.ss.pos ky
          unfold hadH at hpl
          obtain ⟨hg, hhg⟩ : ∃ hg, hg = (H ky).getD 0 := ⟨_, rfl⟩
          rw [← hhg] at htl hpl
          have htb2 : tot ≤ 256 * 150 := by have := hb3.out; have : 256 * (i : Int) ≤ 256 * 150 := by have := HIN.out; omega
                                            omega
          have eh : IntKind.i64.wrap (hg + d) = hg + d := by rw [IntKind.wrap_i64]; omega
          have et : IntKind.i64.wrap (tot + d) = tot + d := by rw [IntKind.wrap_i64]; omega
          have HHG := Lib.hid hhg
          have HCI := Lib.hid (show cm < maxLen by have := HV.out.ci; have := hb3.out; unfold maxLen; omega)
          clear co hd hyv hdb hhg htb htl hpl htb2 hv hst1 hst2
          go_upto_region 15 with (go_at_call 15; ((with_reducible refine CO.out.mono ?_); rintro e y2 ⟨rfl, s1, f1⟩; have Y2 := Lib.hid (S7.out.step s1 f1); have MY2 := Lib.hid (M6.out.fr f1 (fun e => (HMB.out.1 _ (Or.inl e)) rfl)); have KY := Lib.hid (KC.out.1.fr f1 (fun e => KC.out.2 _ (Or.inl e) rfl)); clear s1 f1))
          clear kc3 m1 e1
          have kc3 := KY.out.rd
          have hlk2 := MY2.out.look Try.underlying9 Try.underlying49 (z := .int .i64 0) (by kernel_rfl) (s := ky) HKS.out.2
          rw [liftH_getD, ← HHG.out] at hlk2
          obtain ⟨y3, hst, m3, f3⟩ := MY2.out.store Try.underlying9 Try.underlying49 HCI.out (s := ky) HKS.out.2 (.int .i64 (hg + d))
          rw [liftH_put, show (liftH H ky).isSome = (H ky).isSome from by unfold liftH; simp] at m3
          have m3' := Lib.hid m3
          have M3 := Lib.hid (show Mp.MapS Try.prog 9 y3 mb (if (H ky).isSome = true then cm else cm + 1) (liftH (putH H ky ((H ky).getD 0 + d))) from by rw [← HHG.out]; exact m3'.out)
          have Y3 := Lib.hid (Y2.out.fr f3 (fun k hk => HMB.out.1 k hk) (fun k hk => by rw [hk]; exact HMB.out.2))
          clear m3 f3 m3'
          go_wp2
          go_roundg (n - (i + 1))
          case measure => have := HKK.out; have := HIN.out; omega
          case rel => exact ⟨i + 1, _, _, _, _, HIN.out, Lib.hid rfl, rfl, rfl, Y3, M3, HV2⟩
    · as_aux_lemma =>
        have hie : i = n := by omega
        subst hie
        clear hin hi HKK
        obtain ⟨wz, hwz⟩ : ∃ wz, wz = wr := ⟨_, rfl⟩
        rw [← hwz] at HS HM ⊢
        clear hwz
        obtain ⟨kk, hkk⟩ : ∃ kk, kk = topN kq N := ⟨_, rfl⟩
        have hkb := topN_le kq HN.out.1
        rw [← hkk] at hkb
        obtain ⟨kx, hkx⟩ : ∃ kx, kx = max kq 1 := ⟨_, rfl⟩
        have hmin : min kx (N : Int) = (kk : Int) := by rw [hkx, hkk]; unfold topN; omega
        have hmax : max kq 1 = kx := hkx.symm
        obtain ⟨m, hm⟩ : ∃ m, m = M.length := ⟨_, rfl⟩
        obtain ⟨q, hq⟩ : ∃ q, q = min kk m := ⟨_, rfl⟩
        have hminq : min (kk : Int) (m : Int) = (q : Int) := by omega
        have CT := smtopM kq HKQ.out HS.out.at_
        rw [HQN.out, ← hkk, ← hm, ← hq] at CT
        have CTT := Lib.hid CT
        have CL := Lib.hid (fun wx (h : SmM wx Q M tot) => smlenM wx h)
        rw [← hm] at CL
        have b1 : ((q : Int) != (q : Int)) = false := by simp
        have HQQ := Lib.hid (show q = min kk m ∧ m = M.length ∧ 1 ≤ kk ∧ kk ≤ N ∧ kk = topN kq N from ⟨hq, hm, hkb.1, hkb.2, hkk⟩)
        have tq : (q : Int) ≤ 16 := by have := HN.out; omega
        have tk1 : (1 : Int) ≤ (kk : Int) := by omega
        have tk2 : (kk : Int) ≤ 16 := by have := HN.out; omega
        clear CT hkk hkb hkx hm hq
        go_upto_region 19 with (go_at_call 23; ((refine CTT.out.mono ?_); rintro e wa ⟨Al, cl, rfl, hrd, ba⟩; have SA := Lib.hid (HS.out.keep ba); have MA := Lib.hid (HM.out.keep ba); have RA := Lib.hid hrd; clear hrd ba))
        go_upto_region 22 with (go_at_call 18; ((with_reducible refine (CL.out _ SA.out.at_).mono ?_); rintro e wx ⟨rfl, rfl⟩))
        clear b1 hminq hmin hmax CTT CL
        go_upto_region 23 with (fail)
        have hm0 : Mp.MapS Try.prog 9 (wa.alloc (.map #[] 0)) wa.heap.size 0 (fun _ => none) := Mp.MapS.new (P := Try.prog) (k := 9) wa
        obtain ⟨ub, hub⟩ : ∃ ub, ub = wa.heap.size := ⟨_, rfl⟩
        rw [← hub] at hm0 ⊢
        have blb : Below wa.heap.size wa (wa.alloc (.map #[] 0)) := (Below.refl _ _).alloc (Nat.le_refl _) _
        have SB := Lib.hid (SA.out.keep blb)
        have MB := Lib.hid (MA.out.keep blb)
        have RB := Lib.hid (RA.out.keep blb)
        have UB := Lib.hid hm0
        have HUB := Lib.hid (show (∀ k, Q.all k → k ≠ ub) ∧ w.heap.size ≤ ub ∧ mb ≠ ub ∧ (∀ g, Al = some ⟨g, 0, none⟩ → 0 < q → g ≠ ub) from
          ⟨fun k hk e => by have := SA.out.lt k hk; omega, by rw [hub]; exact SA.out.bl.size, fun e => by have := MA.out.lt; omega, fun g hg hq0 e => by
            obtain ⟨g', C, h1, h2, h3, h4⟩ := RA.out.at_ hq0
            rw [hg] at h1
            cases h1
            have := lt_of_block h3
            omega⟩)
        generalize wa.alloc (.map #[] 0) = wb at SB MB RB UB ⊢
        clear hm0 hub blb hmm SA MA RA
        go_wp2
        go_loopg [78] q (fun kv si wv => ∃ (j : Nat), j ≤ q ∧ Hid (kv = q - j) ∧ si = .int .i64 (j : Int) ∧ Hid (SmB w wv Q M tot) ∧ Hid (Mp.MapS Try.prog 9 wv mb cm (liftH H)) ∧ Hid (RdT 0 wv Al q cl (M.take kk)) ∧ Hid (Mp.MapS Try.prog 9 wv ub j (seenM (M.take j))))
        case atStart => exact ⟨0, by omega, Lib.hid rfl, rfl, SB, MB, Lib.hid (RB.out.more (Nat.zero_le _)), Lib.hid (by rw [List.take_zero, seenM_nil]; exact UB.out)⟩
        case round =>
          obtain ⟨j, hj, HJJ, rfl, SJ, MJ, RJ, UJ⟩ := hrel
          by_cases hjq : j < q
          · have hjm : j < M.length := by have := HQQ.out; omega
            obtain ⟨⟨s, nn, ee⟩, hx⟩ : ∃ a, M[j]? = some a := ⟨_, List.getElem?_eq_getElem hjm⟩
            have hx2 : (M.take kk)[j]? = some (s, nn, ee) := by rw [List.getElem?_take, if_pos (by have := HQQ.out; omega)]; exact hx
            obtain ⟨g1, hAl, p0, p1, p2⟩ := RJ.out.cell hx2
            subst hAl
            obtain ⟨x1, x2, ex1, kr, kw, ex2, bl2, kc2⟩ := box3 wr 42 (.string ⟨#[]⟩) (.int .i64 0) (.int .i64 0) (.string s) (.int .i64 nn) (.int .i64 ee)
            have hss : s.size ≤ maxLen := by
              obtain ⟨L0, σ0, g0, e0⟩ := SJ.out.at_
              obtain ⟨en, hen, hec⟩ := List.mem_map.1 (e0 ▸ List.mem_of_getElem? hx)
              have h1 := (g0.ix.uni).2.1 _ _ (g0.ok.key en hen)
              have h2 : en.k = s := congrArg Prod.fst hec
              rw [h2] at h1
              unfold maxLen; omega
            have SK := Lib.hid (SJ.out.keep bl2)
            have MK := Lib.hid (MJ.out.keep bl2)
            have RK := Lib.hid (RJ.out.keep bl2)
            have UK := Lib.hid (UJ.out.keep bl2)
            have KC := Lib.hid kc2
            obtain ⟨bx, hbx⟩ : ∃ bx, bx = wr.heap.size := ⟨_, rfl⟩
            rw [← hbx] at KC
            have HX := Lib.hid (And.intro hx (And.intro hjq (And.intro hjm (And.intro hx2 hss))))
            have t4 : (0 : Int) ≤ (j : Int) := by omega
            have t5 : (j : Int) < (q : Int) := by omega
            have fj : IntKind.i64.wrap ((j : Int) + 1) = ((j + 1 : Nat) : Int) := by rw [IntKind.wrap_i64]; omega
            have hj63 := Lib.hid (show j < maxLen by unfold maxLen; omega)
            clear bl2 kc2 hx2 hss hjm
            go_upto_region 26 with (fail)
            rw [← hbx]
            clear kr kw ex1 ex2 hbx p0 p1 p2
            have hnot : (M.take j).any (fun t => decide (t.1 = s)) = false := by
              rw [List.any_eq_false]
              intro t ht
              simp only [decide_eq_true_eq]
              intro e
              obtain ⟨i', hi', ei'⟩ := List.mem_take_iff_getElem.1 ht
              have := (List.pairwise_iff_getElem.1 HV.out.ss.uni) i' j (by simp; omega) (by simp; exact HX.out.2.2.1) (by omega)
              simp only [List.getElem_map] at this
              rw [ei', e] at this
              have hjx : M[j]'HX.out.2.2.1 = (s, nn, ee) := by have := HX.out.1; rw [List.getElem?_eq_getElem HX.out.2.2.1] at this; exact Option.some.inj this
              rw [hjx] at this
              exact this rfl
            have HNT := Lib.hid hnot
            have LK := Lib.hid (fun (wx : World) (h : Mp.MapS Try.prog 9 wx ub j (seenM (M.take j))) => show (Instr.lookup 50 (.map (some ub)) (.string s) false).run Try.prog wx = .ok (.bool false) wx from by
              have := h.look Try.underlying9 Try.underlying50 (z := .bool false) (by kernel_rfl) (s := s) HX.out.2.2.2.2
              rw [seenM_get, HNT.out] at this
              exact this)
            have B3 := Lib.hid (show Below x2.heap.size x2 x2.drew from below_draws (Below.refl _ _) 1)
            clear hnot hx hjq
            rcases Nat.eq_zero_or_pos j with hj0 | hj0
            focus
              have tj : decide ((0 : Int) < (j : Int)) = false := by rw [decide_eq_false_iff_not]; omega
              have tj2 : decide (0 < j) = false := by rw [decide_eq_false_iff_not]; omega
              have hS : (fun wx : World => (∀ x, wx.cell? ⟨bx, x, none⟩ = (#[.string s, .int .i64 nn, .int .i64 ee] : Array Value)[x]?) ∧ Mp.MapS Try.prog 9 wx ub j (seenM (M.take j))) x2.drew := ⟨(KC.out.keep B3.out).rd, UK.out.keep B3.out⟩
              refine wp_region_held_drew (S := (fun wx : World => (∀ x, wx.cell? ⟨bx, x, none⟩ = (#[.string s, .int .i64 nn, .int .i64 ee] : Array Value)[x]?) ∧ Mp.MapS Try.prog 9 wx ub j (seenM (M.take j)))) (by kernel_rfl) hS (fun hHeld => ?_)
              refine wpAnyH_take (i := 0) (oi := ?_) (v := ?_) ?_ ?_ ?_ ?_ ?_ ?_ ?_ ?_
              rotate_left 2
              · simp only [List.getElem?_toArray, List.getElem?_cons_succ, List.getElem?_cons_zero]; rfl
              · kernel_rfl
              · kernel_rfl
              · kernel_rfl
              · exact fun _ _ _ h => h
              · refine Or.inl ⟨by rfl, ?_⟩
                intro w' hSw
                (try dsimp only at hSw)
                go_simp
                all_goals (with_reducible rfl)
              · assumption
              try simp only [Act.put, List.setIfInBounds_toArray, List.set_cons_zero, List.set_cons_succ]
              refine wpAnyH_take (i := 1) (oi := ?_) (v := ?_) ?_ ?_ ?_ ?_ ?_ ?_ ?_ ?_
              rotate_left 2
              · simp only [List.getElem?_toArray, List.getElem?_cons_succ, List.getElem?_cons_zero]; rfl
              · kernel_rfl
              · kernel_rfl
              · kernel_rfl
              · exact fun _ _ _ h => h
              · refine Or.inl ⟨by rfl, ?_⟩
                intro w' hSw
                (try dsimp only at hSw)
                go_simp
                all_goals (with_reducible rfl)
              · assumption
              try simp only [Act.put, List.setIfInBounds_toArray, List.set_cons_zero, List.set_cons_succ]
              refine wpAnyH_take (i := 2) (oi := ?_) (v := ?_) ?_ ?_ ?_ ?_ ?_ ?_ ?_ ?_
              rotate_left 2
              · simp only [List.getElem?_toArray, List.getElem?_cons_succ, List.getElem?_cons_zero]; rfl
              · kernel_rfl
              · kernel_rfl
              · kernel_rfl
              · exact fun _ _ _ h => h
              · refine Or.inl ⟨by rfl, ?_⟩
                intro w' hSw
                (try dsimp only at hSw)
                go_simp
                all_goals (with_reducible rfl)
              · assumption
              try simp only [Act.put, List.setIfInBounds_toArray, List.set_cons_zero, List.set_cons_succ]
              refine wpAnyH_take (i := 3) (oi := ?_) (v := undef) ?_ ?_ ?_ ?_ ?_ ?_ ?_ ?_
              rotate_left 1
              · simp only [List.getElem?_toArray, List.getElem?_cons_succ, List.getElem?_cons_zero]; rfl
              · kernel_rfl
              · kernel_rfl
              · kernel_rfl
              · exact fun _ _ _ h => h
              · exact Or.inr ⟨by kernel_rfl, rfl⟩
              · assumption
              try simp only [Act.put, List.setIfInBounds_toArray, List.set_cons_zero, List.set_cons_succ]
              refine wpAnyH_take (i := 4) (oi := ?_) (v := undef) ?_ ?_ ?_ ?_ ?_ ?_ ?_ ?_
              rotate_left 1
              · simp only [List.getElem?_toArray, List.getElem?_cons_succ, List.getElem?_cons_zero]; rfl
              · kernel_rfl
              · kernel_rfl
              · kernel_rfl
              · exact fun _ _ _ h => h
              · exact Or.inr ⟨by kernel_rfl, rfl⟩
              · assumption
              try simp only [Act.put, List.setIfInBounds_toArray, List.set_cons_zero, List.set_cons_succ]
              refine wpAnyH_take (i := 5) (oi := ?_) (v := undef) ?_ ?_ ?_ ?_ ?_ ?_ ?_ ?_
              rotate_left 1
              · simp only [List.getElem?_toArray, List.getElem?_cons_succ, List.getElem?_cons_zero]; rfl
              · kernel_rfl
              · kernel_rfl
              · kernel_rfl
              · exact fun _ _ _ h => h
              · exact Or.inr ⟨by kernel_rfl, rfl⟩
              · assumption
              try simp only [Act.put, List.setIfInBounds_toArray, List.set_cons_zero, List.set_cons_succ]
              refine wpAnyH_take (i := 6) (oi := ?_) (v := undef) ?_ ?_ ?_ ?_ ?_ ?_ ?_ ?_
              rotate_left 1
              · simp only [List.getElem?_toArray, List.getElem?_cons_succ, List.getElem?_cons_zero]; rfl
              · kernel_rfl
              · kernel_rfl
              · kernel_rfl
              · exact fun _ _ _ h => h
              · exact Or.inr ⟨by kernel_rfl, rfl⟩
              · assumption
              try simp only [Act.put, List.setIfInBounds_toArray, List.set_cons_zero, List.set_cons_succ]
              refine wpAnyH_take (i := 7) (oi := ?_) (v := undef) ?_ ?_ ?_ ?_ ?_ ?_ ?_ ?_
              rotate_left 1
              · simp only [List.getElem?_toArray, List.getElem?_cons_succ, List.getElem?_cons_zero]; rfl
              · kernel_rfl
              · kernel_rfl
              · kernel_rfl
              · exact fun _ _ _ h => h
              · exact Or.inr ⟨by kernel_rfl, rfl⟩
              · assumption
              try simp only [Act.put, List.setIfInBounds_toArray, List.set_cons_zero, List.set_cons_succ]
              refine wpAnyH_take (i := 8) (oi := ?_) (v := undef) ?_ ?_ ?_ ?_ ?_ ?_ ?_ ?_
              rotate_left 1
              · simp only [List.getElem?_toArray, List.getElem?_cons_succ, List.getElem?_cons_zero]; rfl
              · kernel_rfl
              · kernel_rfl
              · kernel_rfl
              · exact fun _ _ _ h => h
              · exact Or.inr ⟨by kernel_rfl, rfl⟩
              · assumption
              try simp only [Act.put, List.setIfInBounds_toArray, List.set_cons_zero, List.set_cons_succ]
              refine wpAnyH_take (i := 9) (oi := ?_) (v := undef) ?_ ?_ ?_ ?_ ?_ ?_ ?_ ?_
              rotate_left 1
              · simp only [List.getElem?_toArray, List.getElem?_cons_succ, List.getElem?_cons_zero]; rfl
              · kernel_rfl
              · kernel_rfl
              · kernel_rfl
              · exact fun _ _ _ h => h
              · exact Or.inr ⟨by kernel_rfl, rfl⟩
              · assumption
              try simp only [Act.put, List.setIfInBounds_toArray, List.set_cons_zero, List.set_cons_succ]
              refine wpAnyH_take (i := 10) (oi := ?_) (v := undef) ?_ ?_ ?_ ?_ ?_ ?_ ?_ ?_
              rotate_left 1
              · simp only [List.getElem?_toArray, List.getElem?_cons_succ, List.getElem?_cons_zero]; rfl
              · kernel_rfl
              · kernel_rfl
              · kernel_rfl
              · exact fun _ _ _ h => h
              · exact Or.inr ⟨by kernel_rfl, rfl⟩
              · assumption
              try simp only [Act.put, List.setIfInBounds_toArray, List.set_cons_zero, List.set_cons_succ]
              refine wpAnyH_take (i := 11) (oi := ?_) (v := undef) ?_ ?_ ?_ ?_ ?_ ?_ ?_ ?_
              rotate_left 1
              · simp only [List.getElem?_toArray, List.getElem?_cons_succ, List.getElem?_cons_zero]; rfl
              · kernel_rfl
              · kernel_rfl
              · kernel_rfl
              · exact fun _ _ _ h => h
              · exact Or.inr ⟨by kernel_rfl, rfl⟩
              · assumption
              try simp only [Act.put, List.setIfInBounds_toArray, List.set_cons_zero, List.set_cons_succ]
              refine wpAnyH_take (i := 12) (oi := ?_) (v := ?_) ?_ ?_ ?_ ?_ ?_ ?_ ?_ ?_
              rotate_left 2
              · simp only [List.getElem?_toArray, List.getElem?_cons_succ, List.getElem?_cons_zero]; rfl
              · kernel_rfl
              · kernel_rfl
              · kernel_rfl
              · exact fun _ _ _ h => h
              · refine Or.inl ⟨by rfl, ?_⟩
                intro w' hSw
                (try dsimp only at hSw)
                go_simp
                all_goals (with_reducible rfl)
              · assumption
              try simp only [Act.put, List.setIfInBounds_toArray, List.set_cons_zero, List.set_cons_succ]
              refine wpAnyH_take (i := 13) (oi := ?_) (v := ?_) ?_ ?_ ?_ ?_ ?_ ?_ ?_ ?_
              rotate_left 2
              · simp only [List.getElem?_toArray, List.getElem?_cons_succ, List.getElem?_cons_zero]; rfl
              · kernel_rfl
              · kernel_rfl
              · kernel_rfl
              · exact fun _ _ _ h => h
              · refine Or.inl ⟨by rfl, ?_⟩
                intro w' hSw
                (try dsimp only at hSw)
                go_simp
                all_goals (with_reducible rfl)
              · assumption
              try simp only [Act.put, List.setIfInBounds_toArray, List.set_cons_zero, List.set_cons_succ]
              refine wpAnyH_take (i := 14) (oi := ?_) (v := ?_) ?_ ?_ ?_ ?_ ?_ ?_ ?_ ?_
              rotate_left 2
              · simp only [List.getElem?_toArray, List.getElem?_cons_succ, List.getElem?_cons_zero]; rfl
              · kernel_rfl
              · kernel_rfl
              · kernel_rfl
              · exact fun _ _ _ h => h
              · refine Or.inl ⟨by rfl, ?_⟩
                intro w' hSw
                (try dsimp only at hSw)
                go_simp
                all_goals (with_reducible rfl)
              · assumption
              try simp only [Act.put, List.setIfInBounds_toArray, List.set_cons_zero, List.set_cons_succ]
              refine wpAnyH_take (i := 15) (oi := ?_) (v := ?_) ?_ ?_ ?_ ?_ ?_ ?_ ?_ ?_
              rotate_left 2
              · simp only [List.getElem?_toArray, List.getElem?_cons_succ, List.getElem?_cons_zero]; rfl
              · kernel_rfl
              · kernel_rfl
              · kernel_rfl
              · exact fun _ _ _ h => h
              · refine Or.inl ⟨by rfl, ?_⟩
                intro w' hSw
                (try dsimp only at hSw)
                go_simp
                all_goals (with_reducible rfl)
              · assumption
              try simp only [Act.put, List.setIfInBounds_toArray, List.set_cons_zero, List.set_cons_succ]
              refine wpAnyH_take (i := 16) (oi := ?_) (v := ?_) ?_ ?_ ?_ ?_ ?_ ?_ ?_ ?_
              rotate_left 2
              · simp only [List.getElem?_toArray, List.getElem?_cons_succ, List.getElem?_cons_zero]; rfl
              · kernel_rfl
              · kernel_rfl
              · kernel_rfl
              · exact fun _ _ _ h => h
              · refine Or.inl ⟨by rfl, ?_⟩
                intro w' hSw
                (try dsimp only at hSw)
                go_simp
                all_goals (with_reducible rfl)
              · assumption
              try simp only [Act.put, List.setIfInBounds_toArray, List.set_cons_zero, List.set_cons_succ]
              refine wpAnyH_take (i := 17) (oi := ?_) (v := ?_) ?_ ?_ ?_ ?_ ?_ ?_ ?_ ?_
              rotate_left 2
              · simp only [List.getElem?_toArray, List.getElem?_cons_succ, List.getElem?_cons_zero]; rfl
              · kernel_rfl
              · kernel_rfl
              · kernel_rfl
              · exact fun _ _ _ h => h
              · refine Or.inl ⟨by rfl, ?_⟩
                intro w' hSw
                (try dsimp only at hSw)
                have hlk := LK.out w' hSw.2
                go_simp
                all_goals (with_reducible rfl)
              · assumption
              try simp only [Act.put, List.setIfInBounds_toArray, List.set_cons_zero, List.set_cons_succ]
              refine wpAnyH_take (i := 18) (oi := ?_) (v := ?_) ?_ ?_ ?_ ?_ ?_ ?_ ?_ ?_
              rotate_left 2
              · simp only [List.getElem?_toArray, List.getElem?_cons_succ, List.getElem?_cons_zero]; rfl
              · kernel_rfl
              · kernel_rfl
              · kernel_rfl
              · exact fun _ _ _ h => h
              · refine Or.inl ⟨by rfl, ?_⟩
                intro w' hSw
                (try dsimp only at hSw)
                go_simp
                all_goals (with_reducible rfl)
              · assumption
              try simp only [Act.put, List.setIfInBounds_toArray, List.set_cons_zero, List.set_cons_succ]
              refine wpAnyH_done (by kernel_rfl) ?_ _
              clear hHeld hS tj tj2 hj0
            rotate_left 1
            focus
              have tj : decide ((0 : Int) < (j : Int)) = true := by rw [decide_eq_true_iff]; omega
              have tj2 : decide (0 < j) = true := by rw [decide_eq_true_iff]; omega
              obtain ⟨j1, hj1⟩ : ∃ j1, j1 = j - 1 := ⟨_, rfl⟩
              obtain ⟨⟨s', n', e'⟩, hy⟩ : ∃ a, M[j1]? = some a := ⟨_, List.getElem?_eq_getElem (by have := HX.out.2.2.1; omega)⟩
              have hy2 : (M.take kk)[j1]? = some (s', n', e') := by rw [List.getElem?_take, if_pos (by have := HQQ.out; have := HX.out.2.1; omega)]; exact hy
              obtain ⟨g2, hg2, r0, r1, r2⟩ := (RK.out.keep B3.out).cell hy2
              cases hg2
              have e5 : IntKind.i64.wrap ((j : Int) - 1) = (j1 : Int) := by rw [IntKind.wrap_i64]; omega
              have t6 : (0 : Int) ≤ (j1 : Int) := by omega
              have t7 : (j1 : Int) < (q : Int) := by omega
              have hle : nn ≤ n' := by
                obtain ⟨l1, f1⟩ := List.getElem?_eq_some_iff.1 hy
                obtain ⟨l2, f2⟩ := List.getElem?_eq_some_iff.1 HX.out.1
                have := List.pairwise_iff_getElem.1 HV.out.ss.srt j1 j l1 l2 (by omega)
                rw [f1, f2] at this
                exact this
              have b3 : decide (n' < nn) = false := by rw [decide_eq_false_iff_not]; omega
              clear hy hy2 r0 r2 hle hj1
              have hS : (fun wx : World => ((∀ x, wx.cell? ⟨bx, x, none⟩ = (#[.string s, .int .i64 nn, .int .i64 ee] : Array Value)[x]?) ∧ wx.cell? ⟨g1, j1 * 3 + 1, none⟩ = some (.int .i64 n')) ∧ Mp.MapS Try.prog 9 wx ub j (seenM (M.take j))) x2.drew := ⟨⟨(KC.out.keep B3.out).rd, r1⟩, UK.out.keep B3.out⟩
              refine wp_region_held_drew (S := (fun wx : World => ((∀ x, wx.cell? ⟨bx, x, none⟩ = (#[.string s, .int .i64 nn, .int .i64 ee] : Array Value)[x]?) ∧ wx.cell? ⟨g1, j1 * 3 + 1, none⟩ = some (.int .i64 n')) ∧ Mp.MapS Try.prog 9 wx ub j (seenM (M.take j)))) (by kernel_rfl) hS (fun hHeld => ?_)
              refine wpAnyH_take (i := 0) (oi := ?_) (v := ?_) ?_ ?_ ?_ ?_ ?_ ?_ ?_ ?_
              rotate_left 2
              · simp only [List.getElem?_toArray, List.getElem?_cons_succ, List.getElem?_cons_zero]; rfl
              · kernel_rfl
              · kernel_rfl
              · kernel_rfl
              · exact fun _ _ _ h => h
              · refine Or.inl ⟨by rfl, ?_⟩
                intro w' hSw
                (try dsimp only at hSw)
                go_simp
                all_goals (with_reducible rfl)
              · assumption
              try simp only [Act.put, List.setIfInBounds_toArray, List.set_cons_zero, List.set_cons_succ]
              refine wpAnyH_take (i := 1) (oi := ?_) (v := ?_) ?_ ?_ ?_ ?_ ?_ ?_ ?_ ?_
              rotate_left 2
              · simp only [List.getElem?_toArray, List.getElem?_cons_succ, List.getElem?_cons_zero]; rfl
              · kernel_rfl
              · kernel_rfl
              · kernel_rfl
              · exact fun _ _ _ h => h
              · refine Or.inl ⟨by rfl, ?_⟩
                intro w' hSw
                (try dsimp only at hSw)
                go_simp
                all_goals (with_reducible rfl)
              · assumption
              try simp only [Act.put, List.setIfInBounds_toArray, List.set_cons_zero, List.set_cons_succ]
              refine wpAnyH_take (i := 2) (oi := ?_) (v := ?_) ?_ ?_ ?_ ?_ ?_ ?_ ?_ ?_
              rotate_left 2
              · simp only [List.getElem?_toArray, List.getElem?_cons_succ, List.getElem?_cons_zero]; rfl
              · kernel_rfl
              · kernel_rfl
              · kernel_rfl
              · exact fun _ _ _ h => h
              · refine Or.inl ⟨by rfl, ?_⟩
                intro w' hSw
                (try dsimp only at hSw)
                go_simp
                all_goals (with_reducible rfl)
              · assumption
              try simp only [Act.put, List.setIfInBounds_toArray, List.set_cons_zero, List.set_cons_succ]
              refine wpAnyH_take (i := 3) (oi := ?_) (v := ?_) ?_ ?_ ?_ ?_ ?_ ?_ ?_ ?_
              rotate_left 2
              · simp only [List.getElem?_toArray, List.getElem?_cons_succ, List.getElem?_cons_zero]; rfl
              · kernel_rfl
              · kernel_rfl
              · kernel_rfl
              · exact fun _ _ _ h => h
              · refine Or.inl ⟨by rfl, ?_⟩
                intro w' hSw
                (try dsimp only at hSw)
                go_simp
                all_goals (with_reducible rfl)
              · assumption
              try simp only [Act.put, List.setIfInBounds_toArray, List.set_cons_zero, List.set_cons_succ]
              refine wpAnyH_take (i := 4) (oi := ?_) (v := ?_) ?_ ?_ ?_ ?_ ?_ ?_ ?_ ?_
              rotate_left 2
              · simp only [List.getElem?_toArray, List.getElem?_cons_succ, List.getElem?_cons_zero]; rfl
              · kernel_rfl
              · kernel_rfl
              · kernel_rfl
              · exact fun _ _ _ h => h
              · refine Or.inl ⟨by rfl, ?_⟩
                intro w' hSw
                (try dsimp only at hSw)
                go_simp
                all_goals (with_reducible rfl)
              · assumption
              try simp only [Act.put, List.setIfInBounds_toArray, List.set_cons_zero, List.set_cons_succ]
              refine wpAnyH_take (i := 5) (oi := ?_) (v := ?_) ?_ ?_ ?_ ?_ ?_ ?_ ?_ ?_
              rotate_left 2
              · simp only [List.getElem?_toArray, List.getElem?_cons_succ, List.getElem?_cons_zero]; rfl
              · kernel_rfl
              · kernel_rfl
              · kernel_rfl
              · exact fun _ _ _ h => h
              · refine Or.inl ⟨by rfl, ?_⟩
                intro w' hSw
                (try dsimp only at hSw)
                go_simp
                all_goals (with_reducible rfl)
              · assumption
              try simp only [Act.put, List.setIfInBounds_toArray, List.set_cons_zero, List.set_cons_succ]
              refine wpAnyH_take (i := 6) (oi := ?_) (v := ?_) ?_ ?_ ?_ ?_ ?_ ?_ ?_ ?_
              rotate_left 2
              · simp only [List.getElem?_toArray, List.getElem?_cons_succ, List.getElem?_cons_zero]; rfl
              · kernel_rfl
              · kernel_rfl
              · kernel_rfl
              · exact fun _ _ _ h => h
              · refine Or.inl ⟨by rfl, ?_⟩
                intro w' hSw
                (try dsimp only at hSw)
                go_simp
                all_goals (with_reducible rfl)
              · assumption
              try simp only [Act.put, List.setIfInBounds_toArray, List.set_cons_zero, List.set_cons_succ]
              refine wpAnyH_take (i := 7) (oi := ?_) (v := ?_) ?_ ?_ ?_ ?_ ?_ ?_ ?_ ?_
              rotate_left 2
              · simp only [List.getElem?_toArray, List.getElem?_cons_succ, List.getElem?_cons_zero]; rfl
              · kernel_rfl
              · kernel_rfl
              · kernel_rfl
              · exact fun _ _ _ h => h
              · refine Or.inl ⟨by rfl, ?_⟩
                intro w' hSw
                (try dsimp only at hSw)
                go_simp
                all_goals (with_reducible rfl)
              · assumption
              try simp only [Act.put, List.setIfInBounds_toArray, List.set_cons_zero, List.set_cons_succ]
              refine wpAnyH_take (i := 8) (oi := ?_) (v := ?_) ?_ ?_ ?_ ?_ ?_ ?_ ?_ ?_
              rotate_left 2
              · simp only [List.getElem?_toArray, List.getElem?_cons_succ, List.getElem?_cons_zero]; rfl
              · kernel_rfl
              · kernel_rfl
              · kernel_rfl
              · exact fun _ _ _ h => h
              · refine Or.inl ⟨by rfl, ?_⟩
                intro w' hSw
                (try dsimp only at hSw)
                go_simp
                all_goals (with_reducible rfl)
              · assumption
              try simp only [Act.put, List.setIfInBounds_toArray, List.set_cons_zero, List.set_cons_succ]
              refine wpAnyH_take (i := 9) (oi := ?_) (v := ?_) ?_ ?_ ?_ ?_ ?_ ?_ ?_ ?_
              rotate_left 2
              · simp only [List.getElem?_toArray, List.getElem?_cons_succ, List.getElem?_cons_zero]; rfl
              · kernel_rfl
              · kernel_rfl
              · kernel_rfl
              · exact fun _ _ _ h => h
              · refine Or.inl ⟨by rfl, ?_⟩
                intro w' hSw
                (try dsimp only at hSw)
                go_simp
                all_goals (with_reducible rfl)
              · assumption
              try simp only [Act.put, List.setIfInBounds_toArray, List.set_cons_zero, List.set_cons_succ]
              refine wpAnyH_take (i := 10) (oi := ?_) (v := ?_) ?_ ?_ ?_ ?_ ?_ ?_ ?_ ?_
              rotate_left 2
              · simp only [List.getElem?_toArray, List.getElem?_cons_succ, List.getElem?_cons_zero]; rfl
              · kernel_rfl
              · kernel_rfl
              · kernel_rfl
              · exact fun _ _ _ h => h
              · refine Or.inl ⟨by rfl, ?_⟩
                intro w' hSw
                (try dsimp only at hSw)
                go_simp
                all_goals (with_reducible rfl)
              · assumption
              try simp only [Act.put, List.setIfInBounds_toArray, List.set_cons_zero, List.set_cons_succ]
              refine wpAnyH_take (i := 11) (oi := ?_) (v := ?_) ?_ ?_ ?_ ?_ ?_ ?_ ?_ ?_
              rotate_left 2
              · simp only [List.getElem?_toArray, List.getElem?_cons_succ, List.getElem?_cons_zero]; rfl
              · kernel_rfl
              · kernel_rfl
              · kernel_rfl
              · exact fun _ _ _ h => h
              · refine Or.inl ⟨by rfl, ?_⟩
                intro w' hSw
                (try dsimp only at hSw)
                go_simp
                all_goals (with_reducible rfl)
              · assumption
              try simp only [Act.put, List.setIfInBounds_toArray, List.set_cons_zero, List.set_cons_succ]
              refine wpAnyH_take (i := 12) (oi := ?_) (v := ?_) ?_ ?_ ?_ ?_ ?_ ?_ ?_ ?_
              rotate_left 2
              · simp only [List.getElem?_toArray, List.getElem?_cons_succ, List.getElem?_cons_zero]; rfl
              · kernel_rfl
              · kernel_rfl
              · kernel_rfl
              · exact fun _ _ _ h => h
              · refine Or.inl ⟨by rfl, ?_⟩
                intro w' hSw
                (try dsimp only at hSw)
                go_simp
                all_goals (with_reducible rfl)
              · assumption
              try simp only [Act.put, List.setIfInBounds_toArray, List.set_cons_zero, List.set_cons_succ]
              refine wpAnyH_take (i := 13) (oi := ?_) (v := ?_) ?_ ?_ ?_ ?_ ?_ ?_ ?_ ?_
              rotate_left 2
              · simp only [List.getElem?_toArray, List.getElem?_cons_succ, List.getElem?_cons_zero]; rfl
              · kernel_rfl
              · kernel_rfl
              · kernel_rfl
              · exact fun _ _ _ h => h
              · refine Or.inl ⟨by rfl, ?_⟩
                intro w' hSw
                (try dsimp only at hSw)
                go_simp
                all_goals (with_reducible rfl)
              · assumption
              try simp only [Act.put, List.setIfInBounds_toArray, List.set_cons_zero, List.set_cons_succ]
              refine wpAnyH_take (i := 14) (oi := ?_) (v := ?_) ?_ ?_ ?_ ?_ ?_ ?_ ?_ ?_
              rotate_left 2
              · simp only [List.getElem?_toArray, List.getElem?_cons_succ, List.getElem?_cons_zero]; rfl
              · kernel_rfl
              · kernel_rfl
              · kernel_rfl
              · exact fun _ _ _ h => h
              · refine Or.inl ⟨by rfl, ?_⟩
                intro w' hSw
                (try dsimp only at hSw)
                go_simp
                all_goals (with_reducible rfl)
              · assumption
              try simp only [Act.put, List.setIfInBounds_toArray, List.set_cons_zero, List.set_cons_succ]
              refine wpAnyH_take (i := 15) (oi := ?_) (v := ?_) ?_ ?_ ?_ ?_ ?_ ?_ ?_ ?_
              rotate_left 2
              · simp only [List.getElem?_toArray, List.getElem?_cons_succ, List.getElem?_cons_zero]; rfl
              · kernel_rfl
              · kernel_rfl
              · kernel_rfl
              · exact fun _ _ _ h => h
              · refine Or.inl ⟨by rfl, ?_⟩
                intro w' hSw
                (try dsimp only at hSw)
                go_simp
                all_goals (with_reducible rfl)
              · assumption
              try simp only [Act.put, List.setIfInBounds_toArray, List.set_cons_zero, List.set_cons_succ]
              refine wpAnyH_take (i := 16) (oi := ?_) (v := ?_) ?_ ?_ ?_ ?_ ?_ ?_ ?_ ?_
              rotate_left 2
              · simp only [List.getElem?_toArray, List.getElem?_cons_succ, List.getElem?_cons_zero]; rfl
              · kernel_rfl
              · kernel_rfl
              · kernel_rfl
              · exact fun _ _ _ h => h
              · refine Or.inl ⟨by rfl, ?_⟩
                intro w' hSw
                (try dsimp only at hSw)
                go_simp
                all_goals (with_reducible rfl)
              · assumption
              try simp only [Act.put, List.setIfInBounds_toArray, List.set_cons_zero, List.set_cons_succ]
              refine wpAnyH_take (i := 17) (oi := ?_) (v := ?_) ?_ ?_ ?_ ?_ ?_ ?_ ?_ ?_
              rotate_left 2
              · simp only [List.getElem?_toArray, List.getElem?_cons_succ, List.getElem?_cons_zero]; rfl
              · kernel_rfl
              · kernel_rfl
              · kernel_rfl
              · exact fun _ _ _ h => h
              · refine Or.inl ⟨by rfl, ?_⟩
                intro w' hSw
                (try dsimp only at hSw)
                have hlk := LK.out w' hSw.2
                go_simp
                all_goals (with_reducible rfl)
              · assumption
              try simp only [Act.put, List.setIfInBounds_toArray, List.set_cons_zero, List.set_cons_succ]
              refine wpAnyH_take (i := 18) (oi := ?_) (v := ?_) ?_ ?_ ?_ ?_ ?_ ?_ ?_ ?_
              rotate_left 2
              · simp only [List.getElem?_toArray, List.getElem?_cons_succ, List.getElem?_cons_zero]; rfl
              · kernel_rfl
              · kernel_rfl
              · kernel_rfl
              · exact fun _ _ _ h => h
              · refine Or.inl ⟨by rfl, ?_⟩
                intro w' hSw
                (try dsimp only at hSw)
                go_simp
                all_goals (with_reducible rfl)
              · assumption
              try simp only [Act.put, List.setIfInBounds_toArray, List.set_cons_zero, List.set_cons_succ]
              refine wpAnyH_done (by kernel_rfl) ?_ _
              clear hHeld hS tj tj2 hj0 e5 t6 t7 b3 r1
            rotate_left 1
            all_goals
              have SL := Lib.hid (SK.out.keep B3.out)
              have ML := Lib.hid (MK.out.keep B3.out)
              have RL := Lib.hid (RK.out.keep B3.out)
              have kc3 := (KC.out.keep B3.out).rd
              obtain ⟨y3, hst, m3, f3⟩ := (UK.out.keep B3.out).store Try.underlying9 Try.underlying50 hj63.out (s := s) HX.out.2.2.2.2 (.bool true)
              have hne : (seenM (M.take j) s).isSome = false := by unfold seenM; rw [HNT.out]; rfl
              rw [hne, if_neg (by decide), seenM_snoc (M.take j) (s, nn, ee), ← take_more HX.out.1] at m3
              have HU := HUB.out
              have U3 := Lib.hid m3
              have S3 := Lib.hid (SL.out.fr f3 (fun k hk => HU.1 k hk) (fun k hk => by rw [hk]; exact HU.2.1))
              have M3 := Lib.hid (ML.out.fr f3 HU.2.2.1)
              have R3 := Lib.hid (show RdT 0 y3 (some ⟨g1, 0, none⟩) q cl (M.take kk) from ⟨RL.out.len, RL.out.cap, RL.out.max, fun hn0 => by
                obtain ⟨g, C, h1, h2, h3, h4⟩ := RL.out.at_ hn0
                cases h1
                exact ⟨g1, C, rfl, h2, h3.fr f3 (HU.2.2.2 g1 rfl hn0), h4⟩⟩)
              clear m3 f3 hne HU
              go_wp2
              go_roundg (q - (j + 1))
              case measure => have := HJJ.out; have := HX.out.2.1; omega
              case rel => exact ⟨j + 1, HX.out.2.1, Lib.hid rfl, rfl, S3, M3, R3, U3⟩
          · have hjq2 : j = q := by omega
            subst hjq2
            clear hj hjq
            obtain ⟨wy, hwy⟩ : ∃ wy, wy = wr := ⟨_, rfl⟩
            rw [← hwy] at SJ MJ RJ UJ ⊢
            clear hwy
            have hqk : M.take j = M.take kk := by
              have := HQQ.out
              rcases Nat.le_total kk m with h1 | h1
              · rw [show j = kk by omega]
              · rw [List.take_of_length_le (by omega), List.take_of_length_le (by omega)]
            have UY := Lib.hid (show Mp.MapS Try.prog 9 wy ub j (seenM (M.take kk)) from by rw [← hqk]; exact UJ.out)
            have TP := Lib.hid (fun (s : ByteArray) (h : tot < hadH H s * (kk : Int)) => show (M.take kk).any (fun t => decide (t.1 = s)) = true from by
              obtain ⟨t, ht, e⟩ := HV.out.ss.top ⟨HQQ.out.2.2.1, HQQ.out.2.2.2.1⟩ h
              exact List.any_eq_true.2 ⟨t, ht, by simpa using e⟩)
            clear hqk UJ RJ
            go_upto_region 30 with (fail)
            go_wp2_with (at_range; refine Mp.wpList_rangeS Try.underlying9 Try.underlying49 (by rfl) _ (by rfl) (by rfl) MJ.out ?_; intro wr0 hr0 hb0 hs0; have R0 := Lib.hid hr0; have HB0 := Lib.hid hb0; clear hr0 hb0)
            go_frame
            obtain ⟨rr, hrr⟩ : ∃ rr, rr = wy.heap.size := ⟨_, rfl⟩
            rw [← hrr] at R0 ⊢
            have RR := Lib.hid (show rr ≠ ub ∧ w.heap.size ≤ rr from ⟨fun e => by have := UY.out.lt; omega, by rw [hrr]; exact SJ.out.bl.size⟩)
            clear hrr hs0
            go_loopg [] cm (fun kq wq => ∃ left, Hid (Mp.RangeS Try.prog 9 wq mb rr cm (liftH H) left kq) ∧ Hid (Mp.MapS Try.prog 9 wq ub j (seenM (M.take kk))) ∧ Hid (Below w.heap.size w wq))
            case atStart => exact ⟨_, R0, Lib.hid (UY.out.keep HB0.out), Lib.hid (G.below_on SJ.out.bl HB0.out)⟩
            case round =>
              obtain ⟨left, RS, US, BS⟩ := hrel
              go_wp2_with (at_next; refine Mp.wpList_nextS Try.underlying9 (by rfl) _ (by rfl) (by rfl) RS.out ?_ ?_)
              · intro _ _
                (try go_frame)
                go_wp2
                go_ret
                exact ⟨rfl, BS.out⟩
              · intro t u w4 nr hts hlf hMt hrs hlt hfr hsz hen
                obtain ⟨x, hHx, rfl⟩ := liftH_some hMt
                have HLT2 := Lib.hid hlt
                have RS2 := Lib.hid hrs
                have US2 := Lib.hid (US.out.fr hfr (fun e => RR.out.1 e.symm))
                have BS2 := Lib.hid (BS.out.trans (hfr.below BS.out.size (fun k hk => by rw [hk]; exact RR.out.2)))
                have hxb := HV.out.xb t
                have hxp := HV.out.ss.pos t
                unfold hadH at hxp
                rw [hHx] at hxb hxp
                simp only [Option.getD_some] at hxb hxp
                have htb := HV.out.tb
                have htb2 : tot ≤ 38400 := by have := hb3.out; omega
                obtain ⟨p, hp⟩ : ∃ p, p = x * (kk : Int) := ⟨_, rfl⟩
                have hpb : 0 ≤ p ∧ p ≤ 614400 := by
                  rw [hp]
                  refine ⟨Int.mul_nonneg hxp (by omega), ?_⟩
                  have h1 := Int.mul_le_mul_of_nonneg_right (show x ≤ 38400 by omega) (show (0 : Int) ≤ (kk : Int) by omega)
                  omega
                have ep : IntKind.i64.wrap (x * (kk : Int)) = p := by rw [← hp, IntKind.wrap_i64]; omega
                have LK2 := Lib.hid (US2.out.look Try.underlying9 Try.underlying50 (z := .bool false) (by kernel_rfl) (s := t) hts)
                rw [seenM_get] at LK2
                by_cases hA : tot < x * (kk : Int)
                · have hat := TP.out t (by unfold hadH; rw [hHx]; exact hA)
                  have hlk := LK2.out
                  rw [hat] at hlk
                  have hA' : tot < p := by omega
                  clear hA hMt hrs hlt hfr hsz hlf htb hat hHx hp
                  (try go_frame)
                  go_wp2
                  all_goals
                    go_roundg nr
                    case measure => exact HLT2.out
                    case rel => exact ⟨_, RS2, US2, BS2⟩
                · have hA' : p ≤ tot := by omega
                  clear hMt hrs hlt hfr hsz hlf htb hHx hp hA
                  (try go_frame)
                  go_wp2
                  all_goals
                    go_roundg nr
                    case measure => exact HLT2.out
                    case rel => exact ⟨_, RS2, US2, BS2⟩
end Go.Proofs.Ytnpiimaapholiaa
/- The law SummaryBounds of layer 8, walked. -/
namespace Go.Proofs.Ytnpiimaapholiaa
set_option linter.unusedSimpArgs false
set_option linter.unusedVariables false
open Go.ChangeShapes Go.WideShapes Go.ChangeAt Go.RowKit Go.Shelf
attribute [local go_sem] Oper.semAt_some
/-- the law's own boxes and its map. -/
structure BdS (w wx : World) (nb rb mv ab mb : Nat) (N : Nat) (Q : SmN) (M : List Tri) (tot ta : Int) (H : ByteArray → Option Int) (cm : Nat) : Prop where
  at_ : SmM wx Q M tot
  kn : Blk wx nb 3 #[.int .i64 (N : Int)]
  kr : Blk wx rb 4 #[.bool false]
  km : Blk wx mv 49 #[.map (some mb)]
  ka : Blk wx ab 2 #[.int .i64 ta]
  mp : Mp.MapS Try.prog 9 wx mb cm (liftH H)
  bl : Below w.heap.size w wx
section
variable {w X Y : World} {nb rb mv ab mb N cm : Nat} {Q : SmN} {M : List Tri} {tot ta : Int} {H : ByteArray → Option Int}
theorem BdS.keep (h : BdS w X nb rb mv ab mb N Q M tot ta H cm) (hb : Below X.heap.size X Y) : BdS w Y nb rb mv ab mb N Q M tot ta H cm :=
  ⟨h.at_.keep hb, h.kn.keep hb, h.kr.keep hb, h.km.keep hb, h.ka.keep hb, h.mp.keep hb, below_in h.bl hb⟩
theorem BdS.turn {B : Nat} (h : BdS w X nb rb mv ab mb N Q M tot ta H cm) (ht : Turn B X Y) (hB : w.heap.size ≤ B) (hm : mb < B) : BdS w Y nb rb mv ab mb N Q M tot ta H cm :=
  ⟨KeepB.smM (KeepB.turn ht) h.at_, h.kn.turn ht, h.kr.turn ht, h.km.turn ht, h.ka.turn ht, MapS_turn h.mp ht hm, ht.below h.bl hB⟩
theorem BdS.fr {F : Nat → Prop} (h : BdS w X nb rb mv ab mb N Q M tot ta H cm) (hf : Fr F X Y) (hQ : ∀ k, Q.all k → ¬ F k) (hn : ¬ F nb ∧ ¬ F rb ∧ ¬ F mv ∧ ¬ F ab ∧ ¬ F mb) (hl : ∀ k, F k → w.heap.size ≤ k) : BdS w Y nb rb mv ab mb N Q M tot ta H cm :=
  ⟨h.at_.fr hf hQ, h.kn.fr hf hn.1, h.kr.fr hf hn.2.1, h.km.fr hf hn.2.2.1, h.ka.fr hf hn.2.2.2.1, h.mp.fr hf hn.2.2.2.2, h.bl.trans (hf.below h.bl.size hl)⟩
end
theorem blk_unmarked {w : World} {b : Nat} {t : TypeId} {C : Array Value} (h : Blk w b t C) : w.heap[b]? ≠ some (.deferred (some [])) := no_mark_cells h
theorem keys_unmarked {w : World} {b gb gs gf n : Nat} {fl : List Nat} {K : Nat → Option ByteArray} (h : KeysIn w b gb gs gf n fl K) {k : Nat} (hk : kyF b gb gs gf k) : w.heap[k]? ≠ some (.deferred (some [])) := by
  obtain ⟨bs, ss, fs, h⟩ := h
  rcases hk with hk | hk | hk | hk
  · rw [hk]; exact no_mark_cells h.hb
  · rw [hk]; exact no_mark_cells h.hgb
  · rw [hk]; exact no_mark_cells h.hgs
  · rw [hk]; exact no_mark_cells h.hgf
theorem SmAt.unmarked {w : World} {Q : SmN} {L : List Ent} {tot : Int} {σ : KSt} (h : SmAt w Q L tot σ) (k : Nat) (hk : Q.all k) : w.heap[k]? ≠ some (.deferred (some [])) := by
  obtain ⟨R, h1, _⟩ := h.hg
  obtain ⟨Lx, hm, _⟩ := h.ix
  rcases hk with (hk | hk | hk) | hk
  · rcases hk with hk | hk
    · rw [hk]; exact no_mark_cells hm.hg
    · exact keys_unmarked hm.ks hk
  · rw [hk]; exact no_mark_cells h.hs
  · rw [hk]; exact no_mark_cells h1
  · rw [hk]; exact no_mark_cells hm.hx
theorem smleastM {w : World} {Q : SmN} {M : List Tri} {tot : Int} (w1 : World) (h : SmM w1 Q M tot) (hw : w = w1) : Calls Try.prog 20 #[.pointer (some ⟨Q.s, 0, none⟩)] w1 fun e w' => e = .returned (.int .i64 (leastM Q.N.n M)) ∧ Below w1.heap.size w1 w' := by
  obtain ⟨L, σ, h1, rfl⟩ := h
  have e : leastE Q.N.n L = leastM Q.N.n (L.map Ent.c) := by
    unfold leastE leastM
    rw [List.length_map, List.getLast?_map]
    split
    · rfl
    · cases L.getLast? <;> rfl
  rw [← e]
  exact smleast_any w1 h1
set_option maxRecDepth 100000 in
set_option maxHeartbeats 8000000 in
theorem smbounds_law (w : World) (z : Int) (d1 d2 d3 : Nat) (A : Option Addr) (n c : Nat) (L : List (ByteArray × Int)) (hz : -9223372036854775808 ≤ z ∧ z ≤ 9223372036854775807) (hd : d1 < 18446744073709551616 ∧ d2 < 18446744073709551616 ∧ d3 < 18446744073709551616) (hr : RdL w A n c 2 encSI L) (hok : ∀ a ∈ L, okSI a) :
    Calls Try.prog 4 #[.int .i64 z, .agg #[.int .u64 (d1 : Int), .int .u64 (d2 : Int), .int .u64 (d3 : Int)], .slice A n c] w fun e w' => e = .returned (.bool true) ∧ Below w.heap.size w w' := by
  have hmx := hr.max
  unfold maxLen at hmx
  have hcp := hr.cap
  have HR := Lib.hid hr
  have HO := Lib.hid hok
  have hmm := @run_makeMap Try.prog
  obtain ⟨w1, hw1, k1, l1, s1⟩ := box_new w #[.int .i64 z] 3
  obtain ⟨w2, hw2, k2, l2, s2⟩ := box_new w1 #[.int .u64 (d1 : Int), .int .u64 (d2 : Int), .int .u64 (d3 : Int)] 23
  obtain ⟨w3, hw3, k3, l3, s3⟩ := box_new w2 #[.bool false] 4
  obtain ⟨rb, hrb⟩ : ∃ x, x = w2.heap.size := ⟨_, rfl⟩
  obtain ⟨db, hdb⟩ : ∃ x, x = w1.heap.size := ⟨_, rfl⟩
  obtain ⟨nb, hnb⟩ : ∃ x, x = w.heap.size := ⟨_, rfl⟩
  rw [← hrb] at k3
  rw [← hdb] at k2
  rw [← hnb] at k1
  have BB := Lib.hid (show nb = w.heap.size ∧ db = nb + 1 ∧ rb = nb + 2 ∧ w3.heap.size = nb + 3 from ⟨hnb, by omega, by omega, by omega⟩)
  have K3 := Lib.hid (And.intro ((k1.keep l2).keep l3) (And.intro (k2.keep l3) k3))
  have L3 := Lib.hid (below_in (below_in l1 l2) l3)
  obtain ⟨y, hy⟩ : ∃ y : Int, y = z % 16 := ⟨_, rfl⟩
  obtain ⟨N, hN⟩ : ∃ N : Nat, (N : Int) = y + 1 ∧ 1 ≤ N ∧ N ≤ 16 := ⟨(z % 16 + 1).toNat, by omega, by omega, by omega⟩
  have eb : bits BinOp.and IntKind.i64 z 15 = y := by rw [i64_mask4, hy]
  have ey : IntKind.i64.wrap (y + 1) = (N : Int) := by rw [IntKind.wrap_i64]; omega
  have hl := d_lt d1 d2 d3
  have CR := Lib.hid (fun wx => smrow_any d1 d2 d3 hd.1 hd.2.1 hd.2.2 wx)
  obtain ⟨X, hX⟩ : ∃ x, x = dX d1 d2 d3 := ⟨_, rfl⟩
  obtain ⟨Y, hY⟩ : ∃ x, x = dA d1 d2 d3 := ⟨_, rfl⟩
  obtain ⟨Z, hZ⟩ : ∃ x, x = dB d1 d2 d3 := ⟨_, rfl⟩
  rw [← hX, ← hY, ← hZ] at CR hl
  have CN := Lib.hid (fun wx => show Calls Try.prog 13 #[.int .i64 (N : Int), .agg #[.int .u64 X, .int .u64 Y, .int .u64 Z]] wx _ from smnew_any X Y Z hl.1 hl.2.1 hl.2.2 N hN.2.1 (by omega) wx)
  have HN := Lib.hid hN.2
  have t0 : (N : Int) ≤ 16 := by omega
  have t01 : (1 : Int) ≤ (N : Int) := by omega
  clear hr hok hz hd hX hY hZ hl k1 k2 k3 l1 l2 l3 s1 s2 s3 hy hN
  refine callsM Try.func4 rfl ?_
  simp only [Try.ntmps4, List.size_toArray, List.length_cons, List.length_nil, Nat.reduceAdd, Nat.reduceSub, Array.replicate_succ, Array.replicate_zero, List.push_toArray, List.append_toArray, List.nil_append, List.cons_append]
  go_wp2_with (fail)
  rw [← hrb, ← hdb, ← hnb]
  clear hw1 hw2 hw3 hrb hdb hnb
  refine (smfit_any w3).mono ?_
  rintro e w4 ⟨rfl, b4⟩
  have K4 := Lib.hid (And.intro (K3.out.1.keep b4) (And.intro (K3.out.2.1.keep b4) (K3.out.2.2.keep b4)))
  have L4 := Lib.hid (below_in L3.out b4)
  have S4 := Lib.hid (show nb + 3 ≤ w4.heap.size from by have := b4.size; have := BB.out; omega)
  clear b4 K3 L3
  have kn := K4.out.1.rd
  have kw := K4.out.1.wr
  obtain ⟨w5, hw5, k5, f5, s5⟩ := G.box_set K4.out.1 0 (.int .i64 (N : Int)) #[.int .i64 (N : Int)] rfl
  have K5 := Lib.hid (And.intro k5 (And.intro (K4.out.2.1.fr f5 (by have := BB.out; omega)) (K4.out.2.2.fr f5 (by have := BB.out; omega))))
  have L5 := Lib.hid (L4.out.trans (f5.below L4.out.size (fun k hk => by have := BB.out; omega)))
  have S5 := Lib.hid (show nb + 3 ≤ w5.heap.size by have := S4.out; omega)
  clear k5 f5 s5
  go_upto_region 4 with (fail)
  clear hw5 kn kw K4 L4 S4
  have CLi := Lib.hid (smlight_any A n c L w5 (HR.out.below L5.out) HO.out)
  cases hlb : lightS L with
  | false =>
    rw [hlb] at CLi
    go_wp2_with (fail)
    refine CLi.out.mono ?_
    rintro e w6 ⟨rfl, b6⟩
    have K6 := Lib.hid (K5.out.2.2.keep b6)
    have L6 := Lib.hid (below_in L5.out b6)
    clear b6 CR CN CLi hmm
    have kr := K6.out.rd
    have kw := K6.out.wr
    go_wp2
    exact bodyM_early rfl Try.underlying4 rfl rfl rfl K6.out L6.out (by have := BB.out; omega)
  | true =>
  rw [hlb] at CLi
  have hlen : L.length ≤ 150 := by unfold lightS at hlb; simp at hlb; exact hlb.1
  have hln := HR.out.len
  have hb2 : (n : Int) ≤ 150 := by omega
  have hb3 := Lib.hid (show n ≤ 150 by omega)
  clear hlb hlen hln
  go_wp2_with (fail)
  refine CLi.out.mono ?_
  rintro e w6 ⟨rfl, b6⟩
  have K6 := Lib.hid (And.intro (K5.out.1.keep b6) (And.intro (K5.out.2.1.keep b6) (K5.out.2.2.keep b6)))
  have L6 := Lib.hid (below_in L5.out b6)
  have S6 := Lib.hid (show nb + 3 ≤ w6.heap.size by have := S5.out; have := b6.size; omega)
  clear b6 CLi K5 L5 S5
  go_upto_region 6 with (fail)
  have SK := Lib.hid (show ∀ wx, Below w6.heap.size w6 wx → (fun w' : World => (∀ i, w'.cell? ⟨nb, i, none⟩ = (#[.int .i64 (N : Int)] : Array Value)[i]?) ∧ ∀ i, w'.cell? ⟨db, i, none⟩ = (#[.int .u64 (d1 : Int), .int .u64 (d2 : Int), .int .u64 (d3 : Int)] : Array Value)[i]?) wx from fun wx hb => ⟨(K6.out.1.keep hb).rd, (K6.out.2.1.keep hb).rd⟩)
  have Y0 := Lib.hid (show Below w6.heap.size w6 w6.drew from below_draws (Below.refl _ _) 1)
  refine wp_region_held_drew (S := (fun w' : World => (∀ i, w'.cell? ⟨nb, i, none⟩ = (#[.int .i64 (N : Int)] : Array Value)[i]?) ∧ ∀ i, w'.cell? ⟨db, i, none⟩ = (#[.int .u64 (d1 : Int), .int .u64 (d2 : Int), .int .u64 (d3 : Int)] : Array Value)[i]?)) (by kernel_rfl) (SK.out _ Y0.out) (fun hHeld => ?_)
  refine wpAnyH_take (i := 0) (oi := ?_) (v := ?_) ?_ ?_ ?_ ?_ ?_ ?_ ?_ ?_
  rotate_left 2
  · simp only [List.getElem?_toArray, List.getElem?_cons_succ, List.getElem?_cons_zero]; rfl
  · kernel_rfl
  · kernel_rfl
  · kernel_rfl
  · exact fun _ _ _ h => h
  · refine Or.inl ⟨by rfl, ?_⟩
    intro w' hSw
    (try dsimp only at hSw)
    go_simp
    all_goals (with_reducible rfl)
  · assumption
  try simp only [Act.put, List.setIfInBounds_toArray, List.set_cons_zero, List.set_cons_succ]
  refine wpAnyH_take (i := 1) (oi := ?_) (v := ?_) ?_ ?_ ?_ ?_ ?_ ?_ ?_ ?_
  rotate_left 2
  · simp only [List.getElem?_toArray, List.getElem?_cons_succ, List.getElem?_cons_zero]; rfl
  · kernel_rfl
  · kernel_rfl
  · kernel_rfl
  · exact fun _ _ _ h => h
  · refine Or.inl ⟨by rfl, ?_⟩
    intro w' hSw
    (try dsimp only at hSw)
    go_simp
    all_goals (with_reducible rfl)
  · assumption
  try simp only [Act.put, List.setIfInBounds_toArray, List.set_cons_zero, List.set_cons_succ]
  refine wpAnyH_ready (rs := [2]) (by kernel_rfl) (by simp) ?_
  refine AllReadyH.cons (o := ?_) ?_ ?_ ?_
  rotate_left 1
  · simp only [List.getElem?_toArray, List.getElem?_cons_succ, List.getElem?_cons_zero]; rfl
  rotate_left 1
  · exact AllReadyH.nil
  intro K hK
  go_simp
  ((with_reducible refine (CR.out _).mono ?_); rintro e w7 ⟨rfl, bk⟩; have Y1 := Lib.hid (below_in Y0.out bk); have Z7 := Lib.hid bk.size; clear bk)
  refine hK.out _ _ (SK.out _ Y1.out) (fun hHeld => ?_)
  clear hK K
  try simp only [Act.put, List.setIfInBounds_toArray, List.set_cons_zero, List.set_cons_succ]
  refine wpAnyH_ready (rs := [3]) (by kernel_rfl) (by simp) ?_
  refine AllReadyH.cons (o := ?_) ?_ ?_ ?_
  rotate_left 1
  · simp only [List.getElem?_toArray, List.getElem?_cons_succ, List.getElem?_cons_zero]; rfl
  rotate_left 1
  · exact AllReadyH.nil
  intro K hK
  go_simp
  ((with_reducible refine (CN.out _).mono ?_); rintro e w8 ⟨Q, rfl, hq, hn, hnew, bk⟩; have P1 := Lib.hid hq; have HQN := Lib.hid hn; have W1 := Lib.hid hnew; have Y2 := Lib.hid (below_in Y1.out bk); clear hq hn hnew bk)
  refine hK.out _ _ (SK.out _ Y2.out) (fun hHeld => ?_)
  clear hK K
  try simp only [Act.put, List.setIfInBounds_toArray, List.set_cons_zero, List.set_cons_succ]
  refine wpAnyH_take (i := 4) (oi := ?_) (v := ?_) ?_ ?_ ?_ ?_ ?_ ?_ ?_ ?_
  rotate_left 2
  · simp only [List.getElem?_toArray, List.getElem?_cons_succ, List.getElem?_cons_zero]; rfl
  · kernel_rfl
  · kernel_rfl
  · kernel_rfl
  · exact fun _ _ _ h => h
  · refine Or.inl ⟨by rfl, ?_⟩
    intro w' hSw
    (try dsimp only at hSw)
    go_simp
    all_goals (with_reducible rfl)
  · assumption
  try simp only [Act.put, List.setIfInBounds_toArray, List.set_cons_zero, List.set_cons_succ]
  refine wpAnyH_done (by kernel_rfl) ?_ _
  clear hHeld CR CN
  have HQ := Lib.hid (show ∀ k, Q.all k → rb < k ∧ nb < k ∧ w.heap.size ≤ k from fun k hk => by have h1 := W1.out k hk; have h2 := Y1.out.size; have h3 := S6.out; have h4 := BB.out; omega)
  have HQL := Lib.hid (show ∀ k, Q.all k → k < w8.heap.size from P1.out.lt)
  have K8 := Lib.hid (show SmM w8 Q [] 0 ∧ Blk w8 nb 3 #[.int .i64 (N : Int)] ∧ Blk w8 rb 4 #[.bool false] ∧ Below w.heap.size w w8 from ⟨⟨[], _, P1.out, rfl⟩, K6.out.1.keep Y2.out, K6.out.2.2.keep Y2.out, below_in L6.out Y2.out⟩)
  have S8 := Lib.hid (show nb + 3 ≤ w8.heap.size by have := S6.out; have := Y2.out.size; omega)
  clear P1 W1 Y0 Y1 Y2 Z7 SK K6 L6 S6
  -- the map, its box, the sum's box
  have hm0 : Mp.MapS Try.prog 9 (w8.alloc (.map #[] 0)) w8.heap.size 0 (liftH fun _ => none) := Mp.MapS.new (P := Try.prog) (k := 9) w8
  obtain ⟨mb, hmb⟩ : ∃ mb, mb = w8.heap.size := ⟨_, rfl⟩
  have bl9 : Below w8.heap.size w8 (w8.alloc (.map #[] 0)) := (Below.refl _ _).alloc (Nat.le_refl _) _
  have sz9 : (w8.alloc (.map #[] 0)).heap.size = w8.heap.size + 1 := by simp
  obtain ⟨w9, hw9⟩ : ∃ w9, w8.alloc (.map #[] 0) = w9 := ⟨_, rfl⟩
  rw [hw9] at hm0 bl9 sz9
  rw [← hmb] at hm0
  have SZ9 := Lib.hid sz9
  have HMB := Lib.hid hmb
  clear sz9 hmb
  have hmk : ∀ wx : World, (Instr.makeMap 49 none).run Try.prog wx = .ok (.map (some wx.heap.size)) (wx.alloc (.map #[] 0)) := fun wx => by
    first | exact hmm .. | (simp [hmm])
  obtain ⟨wa, wb, ea, ka, kaw, eb2, ba, kb, sb⟩ := box1 w9 49 (.map none) (.map (some w8.heap.size))
  obtain ⟨mv, hmv⟩ : ∃ x, x = w9.heap.size := ⟨_, rfl⟩
  have HMV := Lib.hid hmv
  have SB := Lib.hid sb
  clear hmv sb
  go_upto_region 8 with (fail)
  rw [← HMV.out, ← HMB.out]
  rw [← HMV.out, ← HMB.out] at kb
  clear hmk hw9 ea ka kaw eb2 hmm
  obtain ⟨wc, wd, ec, kc, kcw, ed, bd, kd, sd⟩ := box1 wb 2 (.int .i64 0) (.int .i64 0)
  obtain ⟨ab, hab⟩ : ∃ x, x = wb.heap.size := ⟨_, rfl⟩
  rw [← hab] at kd
  have BD := Lib.hid (show BdS w wd nb rb mv ab mb N Q [] 0 0 (fun _ => none) 0 from ⟨((K8.out.1.keep bl9).keep ba).keep bd, ((K8.out.2.1.keep bl9).keep ba).keep bd, ((K8.out.2.2.1.keep bl9).keep ba).keep bd, kb.keep bd, kd, (hm0.keep ba).keep bd, below_in (below_in (below_in K8.out.2.2.2 bl9) ba) bd⟩)
  have HB2 := Lib.hid (show nb + 2 < mb ∧ mv = mb + 1 ∧ ab = mb + 2 ∧ wd.heap.size = mb + 3 ∧ (∀ k, Q.all k → k < mb) ∧ rb = nb + 2 ∧ w.heap.size = nb from by
    have e1 := SZ9.out
    have e2 := HMB.out
    have e3 := HMV.out
    have e4 := SB.out
    have e5 := S8.out
    exact ⟨by omega, by omega, by omega, by omega, fun k hk => by have := HQL.out k hk; omega, BB.out.2.2.1, BB.out.1.symm⟩)
  have HAB := Lib.hid hab
  clear hm0 bl9 ba kb bd kd sd K8 S8 HQL hab
  go_upto_region 9 with (fail)
  rw [← HAB.out]
  clear ec kc kcw ed
  go_wp2
  refine wp_loop_ghost_k (fun k' a' w' => ∃ (u11 u12 u13 u14 u35 u36 u37 u38 u39 u40 u41 u42 u43 u44 u45 u46 u47 u48 u49 u50 u51 u52 u53 u54 u55 u56 u57 u58 u59 u60 u61 u62 u64 u65 u66 u67 u68 u69 u70 u71 u72 u73 u74 u75 u76 u77 u78 u79 u80 u81 u82 u83 u84 u85 u86 u87 u88 u89 u90 u91 u92 u93 u94 u95 u96 u97 u98 u99 u100 u101 u102 u103 u104 : Value) (ds : List Deferred), (∃ (i cm : Nat) (H : ByteArray → Option Int) (M : List Tri) (tot : Int), i ≤ n ∧ Hid (k' = n - i) ∧ u35 = .int .i64 (i : Int) ∧ Hid (BdS w w' nb rb mv ab mb N Q M tot tot H cm) ∧ Hid (TpI N H M tot cm i 65536) ∧ Hid (MarkS w.heap.size w' ds ∧ mb + 3 ≤ w'.heap.size)) ∧ a' = (⟨#[Value.int IntKind.i64 z, Value.agg #[Value.int IntKind.u64 ↑d1, Value.int IntKind.u64 ↑d2, Value.int IntKind.u64 ↑d3], Value.slice A n c, Value.pointer (some { block := nb, off := 0 }), Value.pointer (some { block := db, off := 0 }), undef, Value.pointer (some { block := rb, off := 0 }), Value.pointer (some { block := Q.s, off := 0 }), Value.pointer (some { block := mv, off := 0 }), Value.pointer (some { block := ab, off := 0 }), undef, u11, u12, u13, u14, undef, undef, undef, undef, undef, Value.bool true, Value.bool false, Value.int IntKind.i64 z, Value.int IntKind.i64 y, Value.int IntKind.i64 ↑N, Value.slice A n c, Value.bool true, Value.bool false, Value.int IntKind.i64 ↑N, Value.agg #[Value.int IntKind.u64 ↑d1, Value.int IntKind.u64 ↑d2, Value.int IntKind.u64 ↑d3], Value.agg #[Value.int IntKind.u64 ↑X, Value.int IntKind.u64 ↑Y, Value.int IntKind.u64 ↑Z], Value.pointer (some { block := Q.s, off := 0 }), Value.map (some mb), Value.slice A n c, Value.int IntKind.i64 ↑n, u35, u36, u37, u38, u39, u40, u41, u42, u43, u44, u45, u46, u47, u48, u49, u50, u51, u52, u53, u54, u55, u56, u57, u58, u59, u60, u61, u62, undef, u64, u65, u66, u67, u68, u69, u70, u71, u72, u73, u74, u75, u76, u77, u78, u79, u80, u81, u82, u83, u84, u85, u86, u87, u88, u89, u90, u91, u92, u93, u94, u95, u96, u97, u98, u99, u100, u101, u102, u103, u104, undef, undef, undef, undef, undef, undef, undef, undef, undef, undef, undef, undef, undef, undef, undef, undef, undef, undef, undef, undef, undef, undef], ds⟩ : Act)) n ?atStart ?round
  case atStart => (repeat apply Exists.intro); refine ⟨?_, rfl⟩; exact ⟨0, 0, _, [], 0, by omega, Lib.hid rfl, rfl, BD, Lib.hid ⟨SSI.nil N, by omega, by omega, fun s => Int.le_refl _⟩, Lib.hid ⟨MarkS.nil _ _, by have := HB2.out; omega⟩⟩
  case round =>
    intro gk _ wr hinv
    obtain ⟨u11, hinv⟩ := hinv
    obtain ⟨u12, hinv⟩ := hinv
    obtain ⟨u13, hinv⟩ := hinv
    obtain ⟨u14, hinv⟩ := hinv
    obtain ⟨u35, hinv⟩ := hinv
    obtain ⟨u36, hinv⟩ := hinv
    obtain ⟨u37, hinv⟩ := hinv
    obtain ⟨u38, hinv⟩ := hinv
    obtain ⟨u39, hinv⟩ := hinv
    obtain ⟨u40, hinv⟩ := hinv
    obtain ⟨u41, hinv⟩ := hinv
    obtain ⟨u42, hinv⟩ := hinv
    obtain ⟨u43, hinv⟩ := hinv
    obtain ⟨u44, hinv⟩ := hinv
    obtain ⟨u45, hinv⟩ := hinv
    obtain ⟨u46, hinv⟩ := hinv
    obtain ⟨u47, hinv⟩ := hinv
    obtain ⟨u48, hinv⟩ := hinv
    obtain ⟨u49, hinv⟩ := hinv
    obtain ⟨u50, hinv⟩ := hinv
    obtain ⟨u51, hinv⟩ := hinv
    obtain ⟨u52, hinv⟩ := hinv
    obtain ⟨u53, hinv⟩ := hinv
    obtain ⟨u54, hinv⟩ := hinv
    obtain ⟨u55, hinv⟩ := hinv
    obtain ⟨u56, hinv⟩ := hinv
    obtain ⟨u57, hinv⟩ := hinv
    obtain ⟨u58, hinv⟩ := hinv
    obtain ⟨u59, hinv⟩ := hinv
    obtain ⟨u60, hinv⟩ := hinv
    obtain ⟨u61, hinv⟩ := hinv
    obtain ⟨u62, hinv⟩ := hinv
    obtain ⟨u64, hinv⟩ := hinv
    obtain ⟨u65, hinv⟩ := hinv
    obtain ⟨u66, hinv⟩ := hinv
    obtain ⟨u67, hinv⟩ := hinv
    obtain ⟨u68, hinv⟩ := hinv
    obtain ⟨u69, hinv⟩ := hinv
    obtain ⟨u70, hinv⟩ := hinv
    obtain ⟨u71, hinv⟩ := hinv
    obtain ⟨u72, hinv⟩ := hinv
    obtain ⟨u73, hinv⟩ := hinv
    obtain ⟨u74, hinv⟩ := hinv
    obtain ⟨u75, hinv⟩ := hinv
    obtain ⟨u76, hinv⟩ := hinv
    obtain ⟨u77, hinv⟩ := hinv
    obtain ⟨u78, hinv⟩ := hinv
    obtain ⟨u79, hinv⟩ := hinv
    obtain ⟨u80, hinv⟩ := hinv
    obtain ⟨u81, hinv⟩ := hinv
    obtain ⟨u82, hinv⟩ := hinv
    obtain ⟨u83, hinv⟩ := hinv
    obtain ⟨u84, hinv⟩ := hinv
    obtain ⟨u85, hinv⟩ := hinv
    obtain ⟨u86, hinv⟩ := hinv
    obtain ⟨u87, hinv⟩ := hinv
    obtain ⟨u88, hinv⟩ := hinv
    obtain ⟨u89, hinv⟩ := hinv
    obtain ⟨u90, hinv⟩ := hinv
    obtain ⟨u91, hinv⟩ := hinv
    obtain ⟨u92, hinv⟩ := hinv
    obtain ⟨u93, hinv⟩ := hinv
    obtain ⟨u94, hinv⟩ := hinv
    obtain ⟨u95, hinv⟩ := hinv
    obtain ⟨u96, hinv⟩ := hinv
    obtain ⟨u97, hinv⟩ := hinv
    obtain ⟨u98, hinv⟩ := hinv
    obtain ⟨u99, hinv⟩ := hinv
    obtain ⟨u100, hinv⟩ := hinv
    obtain ⟨u101, hinv⟩ := hinv
    obtain ⟨u102, hinv⟩ := hinv
    obtain ⟨u103, hinv⟩ := hinv
    obtain ⟨u104, hinv⟩ := hinv
    obtain ⟨ds, hrel, ha⟩ := hinv
    subst ha
    try dsimp only
    intro _ _ _ _
    obtain ⟨i, cm, H, M, tot, hi, HKK, rfl, HS, HV, HD⟩ := hrel
    by_cases hin : i < n
    · as_aux_lemma =>
        have hl2 := HR.out.len
        obtain ⟨b, off, rfl, hbl, hc⟩ := (HR.out.below HS.out.bl).at_ (by omega)
        obtain ⟨⟨ky, v⟩, ha⟩ : ∃ a, L[i]? = some a := ⟨_, List.getElem?_eq_getElem (by omega)⟩
        have hoka := HO.out _ (List.mem_of_getElem? ha)
        have kr0 : wr.cell? ⟨b, off + i * 2, none⟩ = some (.string ky) := hc i _ ha 0 (by omega)
        have kr1 : wr.cell? ⟨b, off + i * 2 + 1, none⟩ = some (.int .i64 v) := hc i _ ha 1 (by omega)
        unfold okSI at hoka
        simp only at hoka
        obtain ⟨hky, hv⟩ := hoka
        unfold maxLen at hky
        obtain ⟨x1, x2, ex1, kr, kw, ex2, bl2, kc2⟩ := box2 wr 37 (.string ⟨#[]⟩) (.int .i64 0) (.string ky) (.int .i64 v)
        obtain ⟨bx, hbx⟩ : ∃ bx, bx = wr.heap.size := ⟨_, rfl⟩
        have S7 := Lib.hid (show BdS w x2 nb rb mv ab mb N Q M tot tot H cm ∧ MarkS w.heap.size x2 ds ∧ Blk x2 bx 37 #[.string ky, .int .i64 v] ∧ mb + 3 ≤ bx ∧ bx < x2.heap.size from ⟨HS.out.keep bl2, HD.out.1.keep bl2, by rw [hbx]; exact kc2, by have := HD.out.2; omega, by rw [hbx]; exact lt_of_block kc2⟩)
        have kc3 := S7.out.2.2.1.rd
        have t2 : (i : Int) < (n : Int) := by omega
        have HIN := Lib.hid hin
        have HBX := Lib.hid hbx
        have fi : IntKind.i64.wrap ((i : Int) + 1) = ((i + 1 : Nat) : Int) := by rw [IntKind.wrap_i64]; omega
        clear hl2 hc hbl ha bl2 kc2 hbx
        go_upto_region 12 with (fail)
        rw [← HBX.out]
        clear kr kw ex1 kr0 kr1 ex2
        by_cases hks : (64 : Int) < (ky.size : Int)
        · clear hv
          go_wp2
          go_roundg (n - (i + 1))
          case measure => have := HKK.out; have := HIN.out; omega
          case rel => exact ⟨i + 1, cm, H, M, tot, HIN.out, Lib.hid rfl, rfl, Lib.hid S7.out.1, Lib.hid (HV.out.skip (by omega)), Lib.hid ⟨S7.out.2.1, by have := S7.out.2.2.2; omega⟩⟩
        · have HKS := Lib.hid (show ky.size ≤ 64 ∧ ky.size ≤ maxLen by unfold maxLen; omega)
          obtain ⟨d, hd⟩ : ∃ d, d = v % 65536 + 1 := ⟨_, rfl⟩
          obtain ⟨yv, hyv⟩ : ∃ y, y = v % 65536 := ⟨_, rfl⟩
          have m1 : bits .and .i64 v 65535 = yv := by rw [hyv]; exact i64_mask16 v
          have e1 : IntKind.i64.wrap (yv + 1) = d := by rw [IntKind.wrap_i64]; omega
          have hdb : 1 ≤ d ∧ d ≤ 65536 := by omega
          obtain ⟨hst1, hst2⟩ := HV.out.step HN.out.1 HKS.out.1 hdb (by have := hb3.out; omega) (by omega)
          have co := smoffer_any ky HKS.out.2 d x2 S7.out.1.at_
          rw [HQN.out, hst2] at co
          obtain ⟨M', hM'⟩ : ∃ M', M' = (offerM N M tot ky d).1 := ⟨_, rfl⟩
          rw [← hM'] at co hst1
          have CO := Lib.hid co
          have HV2 := Lib.hid hst1
          have htb := HV.out.tb
          have htl := HV.out.xb ky
          have hpl := HV.out.ss.pos ky
          unfold hadH at hpl
          obtain ⟨hg, hhg⟩ : ∃ hg, hg = (H ky).getD 0 := ⟨_, rfl⟩
          rw [← hhg] at htl hpl
          have htb2 : tot ≤ 65536 * 150 := by
            have h1 := hb3.out
            have : 65536 * (i : Int) ≤ 65536 * 150 := by have := HIN.out; omega
            omega
          have eh : IntKind.i64.wrap (hg + d) = hg + d := by rw [IntKind.wrap_i64]; omega
          obtain ⟨tot', ht'⟩ : ∃ t', t' = tot + d := ⟨_, rfl⟩
          have et : IntKind.i64.wrap (tot + d) = tot' := by rw [IntKind.wrap_i64]; omega
          have TB2 := Lib.hid (show 0 ≤ tot' ∧ tot' ≤ 65536 * 151 by omega)
          rw [← ht'] at CO HV2
          have HHG := Lib.hid hhg
          have HCI := Lib.hid (show cm < maxLen by have := HV.out.ci; have := hb3.out; unfold maxLen; omega)
          clear co hd hyv hdb hhg htb htl hpl htb2 hv hst1 hst2 ht' hM'
          go_upto_region 15 with (go_at_call 15; ((with_reducible refine CO.out.mono ?_); rintro e y2 ⟨rfl, s1, f1⟩; have FO := Lib.hid (And.intro s1 f1); clear s1 f1))
          clear kc3 m1 e1
          have Y2 := Lib.hid (show BdS w y2 nb rb mv ab mb N Q M' tot' tot H cm ∧ MarkS w.heap.size y2 ds ∧ Blk y2 bx 37 #[.string ky, .int .i64 v] ∧ bx < y2.heap.size from by
            have hb := HB2.out
            have h7 := S7.out
            have hq := HQ.out
            obtain ⟨s1, f1⟩ := FO.out
            refine ⟨⟨s1, h7.1.kn.fr f1 (fun e => ?_), h7.1.kr.fr f1 (fun e => ?_), h7.1.km.fr f1 (fun e => ?_), h7.1.ka.fr f1 (fun e => ?_), h7.1.mp.fr f1 (fun e => ?_), h7.1.bl.trans (f1.below h7.1.bl.size (fun k hk => (hq k (Or.inl hk)).2.2))⟩, h7.2.1.fr f1 (fun k hk e => ?_), h7.2.2.1.fr f1 (fun e => ?_), Nat.lt_of_lt_of_le h7.2.2.2.2 f1.size⟩
            · have := (hq _ (Or.inl e)).2.1; omega
            · have := (hq _ (Or.inl e)).1; omega
            · have := hb.2.2.2.2.1 _ (Or.inl e); omega
            · have := hb.2.2.2.2.1 _ (Or.inl e); omega
            · have := hb.2.2.2.2.1 _ (Or.inl e); omega
            · obtain ⟨L0, σ0, g0, _⟩ := h7.1.at_
              exact g0.unmarked k (Or.inl hk) e
            · have := hb.2.2.2.2.1 _ (Or.inl e); omega)
          have kc3 := Y2.out.2.2.1.rd
          have km3 := Y2.out.1.km.rd
          have hlk2 := Y2.out.1.mp.look Try.underlying9 Try.underlying49 (z := .int .i64 0) (by kernel_rfl) (s := ky) HKS.out.2
          rw [liftH_getD, ← HHG.out] at hlk2
          obtain ⟨y3, hst, m3, f3⟩ := Y2.out.1.mp.store Try.underlying9 Try.underlying49 HCI.out (s := ky) HKS.out.2 (.int .i64 (hg + d))
          rw [liftH_put, show (liftH H ky).isSome = (H ky).isSome from by unfold liftH; simp] at m3
          obtain ⟨cm', hcm'⟩ : ∃ cm', cm' = (if (H ky).isSome = true then cm else cm + 1) := ⟨_, rfl⟩
          obtain ⟨H', hH'⟩ : ∃ H', H' = putH H ky ((H ky).getD 0 + d) := ⟨_, rfl⟩
          rw [← hcm', show putH H ky (hg + d) = H' from by rw [hH', ← HHG.out]] at m3
          have HV3 := Lib.hid (show TpI N H' M' tot' cm' (i + 1) 65536 from by rw [hcm', hH']; exact HV2.out)
          have m3' := Lib.hid m3
          have f3' := Lib.hid f3
          have Y3 := Lib.hid (show BdS w y3 nb rb mv ab mb N Q M' tot' tot H' cm' ∧ MarkS w.heap.size y3 ds ∧ bx < y3.heap.size from by
            have hb := HB2.out
            have h7 := Y2.out
            have f1 := f3'.out
            refine ⟨⟨h7.1.at_.fr f1 (fun k hk e => ?_), h7.1.kn.fr f1 (fun e => ?_), h7.1.kr.fr f1 (fun e => ?_), h7.1.km.fr f1 (fun e => ?_), h7.1.ka.fr f1 (fun e => ?_), m3'.out, h7.1.bl.trans (f1.below h7.1.bl.size (fun k hk => by omega))⟩, h7.2.1.fr f1 (fun k hk => by rw [hk]; exact no_mark_map h7.1.mp), Nat.lt_of_lt_of_le h7.2.2.2 f1.size⟩
            · have := hb.2.2.2.2.1 _ hk; omega
            all_goals omega)
          clear m3 f3 hcm' hH' HV2 m3' f3'
          go_upto_region 16 with (fail)
          clear kc3 km3 hlk2 hst eh
          have ka3 := Y3.out.1.ka.rd
          have kaw := Y3.out.1.ka.wr
          obtain ⟨y4, hy4, k4, f4, s4⟩ := G.box_set Y3.out.1.ka 0 (.int .i64 tot') #[.int .i64 tot'] rfl
          have F4 := Lib.hid (And.intro k4 f4)
          have Y4 := Lib.hid (show BdS w y4 nb rb mv ab mb N Q M' tot' tot' H' cm' ∧ MarkS w.heap.size y4 ds ∧ bx < y4.heap.size from by
            have hb := HB2.out
            have h7 := Y3.out
            obtain ⟨k4, f1⟩ := F4.out
            refine ⟨⟨h7.1.at_.fr f1 (fun k hk e => ?_), h7.1.kn.fr f1 (fun e => ?_), h7.1.kr.fr f1 (fun e => ?_), h7.1.km.fr f1 (fun e => ?_), k4, h7.1.mp.fr f1 (fun e => ?_), h7.1.bl.trans (f1.below h7.1.bl.size (fun k hk => by omega))⟩, h7.2.1.fr f1 (fun k hk => by rw [hk]; exact no_mark_cells h7.1.ka), Nat.lt_of_lt_of_le h7.2.2 f1.size⟩
            · have := hb.2.2.2.2.1 _ hk; omega
            all_goals omega)
          clear k4 f4 s4
          go_upto_region 17 with (fail)
          clear ka3 kaw hy4 et
          obtain ⟨y5, y6, e5, k5, k5w, e6, b6, k6, s6⟩ := box1 y4 2 (.int .i64 0) (.int .i64 0)
          obtain ⟨qb, hqb⟩ : ∃ x, x = y4.heap.size := ⟨_, rfl⟩
          rw [← hqb] at k6
          have Y6 := Lib.hid (show BdS w y6 nb rb mv ab mb N Q M' tot' tot' H' cm' ∧ MarkS w.heap.size y6 ds ∧ Blk y6 qb 2 #[.int .i64 0] ∧ mb + 3 ≤ qb ∧ y6.heap.size = qb + 1 from ⟨Y4.out.1.keep b6, Y4.out.2.1.keep b6, k6, by have := Y4.out.2.2; have := S7.out.2.2.2.1; omega, by omega⟩)
          have HQB := Lib.hid hqb
          clear k6 b6 s6 hqb
          go_upto_region 18 with (fail)
          rw [← HQB.out]
          clear e5 k5 k5w e6
          go_wp2
          have hit := smallM Q M' tot' y6 Y6.out.1.at_
          have HMD := Lib.hid (show ∀ D, markD D ∈ ds → D < y6.heap.size from Y6.out.2.1.lt)
          refine (wpIn_wide (n := 0)).1 (rf_law (gf := 17) (fb := #[.pointer (some ⟨Q.s, 0, none⟩)]) rfl (enters_of Try.func17 (by kernel_rfl) rfl) hit (Below.refl _ _) (fun _ => rfl) KeepB.trans (fun _ _ h => KeepB.turn h)
            (fun pre W' => BdS w W' nb rb mv ab mb N Q M' tot' tot' H' cm' ∧ MarkS w.heap.size W' ds ∧ Blk W' qb 2 #[.int .i64 (sumM pre)] ∧ y6.heap.size ≤ W'.heap.size)
            (fun _ _ _ => False) ?hI ?hIx ?h0 ?round ?done ?stop)
          case hI => exact fun s X Y hs hT => ⟨hs.1.turn hT Y6.out.1.bl.size (by have := Y6.out; omega), hs.2.1.turn hT HMD.out, hs.2.2.1.turn hT, Nat.le_trans hs.2.2.2 hT.size⟩
          case hIx => exact fun _ _ _ _ h _ => h
          case h0 => exact ⟨Y6.out.1, Y6.out.2.1, Y6.out.2.2.1, Nat.le_refl _⟩
          case round =>
            rintro l pre ⟨s, nn, ee⟩ V K hl hpx ⟨hT0, hmd, hq0, hsz⟩ hK
            obtain ⟨hpl, hpa⟩ := nextS_at hpx
            obtain ⟨x1, x2, e1, kr, kw, e2, bl2, kc2⟩ := box3 V 42 (.string ⟨#[]⟩) (.int .i64 0) (.int .i64 0) (.string s) (.int .i64 nn) (.int .i64 ee)
            have HW := Lib.hid (And.intro e2 (And.intro bl2 kc2))
            have HS2 := Lib.hid (And.intro (hT0.keep bl2) (And.intro (hmd.keep bl2) (And.intro (hq0.keep bl2) (show y6.heap.size ≤ x2.heap.size by have := bl2.size; omega))))
            have HK2 := Lib.hid hK
            have HMEM := Lib.hid (show (s, nn, ee) ∈ M' from List.mem_of_getElem? hpa)
            have HXL := Lib.hid hsz
            obtain ⟨sm, hsm⟩ : ∃ sm, sm = sumM pre := ⟨_, rfl⟩
            have hsb : 0 ≤ sm ∧ sm ≤ tot' := by
              have hp : pre <+: M' := (List.prefix_append _ _).trans hpx
              obtain ⟨rest, hrest⟩ := hp
              have hss := HV3.out.ss.sum
              rw [← hrest, sumM_app] at hss
              have h1 := sumM_low (c := 0) (M := pre) (fun t ht => (HV3.out.ss.bd t (by rw [← hrest]; exact List.mem_append_left _ ht)).2.2.2.2)
              have h2 := sumM_low (c := 0) (M := rest) (fun t ht => (HV3.out.ss.bd t (by rw [← hrest]; exact List.mem_append_right _ ht)).2.2.2.2)
              rw [hsm]; omega
            have hbd := HV3.out.ss.bd _ (List.mem_of_getElem? hpa)
            simp only at hbd
            have hnt : nn ≤ tot' := by
              have := HV3.out.ss.sum
              have hmem := List.mem_of_getElem? hpa
              obtain ⟨A1, B1, hAB⟩ := List.append_of_mem hmem
              rw [hAB, sumM_app, sumM_cons] at this
              have h1 := sumM_low (c := 0) (M := A1) (fun t ht => (HV3.out.ss.bd t (by rw [hAB]; exact List.mem_append_left _ ht)).2.2.2.2)
              have h2 := sumM_low (c := 0) (M := B1) (fun t ht => (HV3.out.ss.bd t (by rw [hAB]; exact List.mem_append_right _ (List.mem_cons_of_mem _ ht))).2.2.2.2)
              simp only at this
              omega
            have hNe : ee ≤ tot' := by
              have h1 : ee * 1 ≤ ee * (N : Int) := Int.mul_le_mul_of_nonneg_left t01 hbd.2.2.1
              omega
            have hss : s.size ≤ maxLen := by
              obtain ⟨L0, σ0, g0, e0⟩ := hT0.at_
              obtain ⟨en, hen, hec⟩ := List.mem_map.1 (e0 ▸ List.mem_of_getElem? hpa)
              have h1 := (g0.ix.uni).2.1 _ _ (g0.ok.key en hen)
              have h2 : en.k = s := congrArg Prod.fst hec
              rw [h2] at h1
              unfold maxLen; omega
            obtain ⟨hg, hhg⟩ : ∃ hg, hg = (H' s).getD 0 := ⟨_, rfl⟩
            have hbd2 : hg ≤ nn ∧ nn - ee ≤ hg ∧ 0 ≤ ee ∧ ee * (N : Int) ≤ tot' ∧ 0 ≤ nn := by
              have : hadH H' s = hg := by rw [hhg]; rfl
              rw [← this]; exact hbd
            obtain ⟨ne, hne⟩ : ∃ ne, ne = nn - ee := ⟨_, rfl⟩
            have htb := TB2.out
            have g1 : decide (nn < hg) = false := by rw [decide_eq_false_iff_not]; omega
            have g2 : decide (hg < ne) = false := by rw [decide_eq_false_iff_not]; omega
            have g3 : IntKind.i64.wrap (nn - ee) = ne := by rw [IntKind.wrap_i64]; omega
            obtain ⟨q1, hq1⟩ : ∃ q1, q1 = tot'.tdiv (N : Int) := ⟨_, rfl⟩
            have hq2 : ee ≤ q1 := by
              rw [hq1, Int.tdiv_eq_ediv_of_nonneg htb.1]
              exact (Int.le_ediv_iff_mul_le (by omega)).2 hbd2.2.2.2.1
            have hq3 : 0 ≤ q1 ∧ q1 ≤ tot' := by
              rw [hq1, Int.tdiv_eq_ediv_of_nonneg htb.1]
              exact ⟨Int.ediv_nonneg htb.1 (by omega), Int.ediv_le_self _ htb.1⟩
            have g4 : IntKind.i64.wrap (tot'.tdiv (N : Int)) = q1 := by rw [← hq1, IntKind.wrap_i64]; omega
            have g5 : decide (q1 < ee) = false := by rw [decide_eq_false_iff_not]; omega
            have LKH := Lib.hid (fun (wx : World) (h : Mp.MapS Try.prog 9 wx mb cm' (liftH H')) => show (Instr.lookup 49 (.map (some mb)) (.string s) false).run Try.prog wx = .ok (.int .i64 hg) wx from by
              have := h.look Try.underlying9 Try.underlying49 (z := .int .i64 0) (by kernel_rfl) (s := s) hss
              rw [liftH_getD, ← hhg] at this
              exact this)
            have hsn : -9223372036854775808 ≤ sm + nn ∧ sm + nn ≤ 9223372036854775807 := by omega
            have g6 : IntKind.i64.wrap (sm + nn) = sm + nn := by rw [IntKind.wrap_i64]; omega
            have HSM := Lib.hid (show sumM (pre ++ [(s, nn, ee)]) = sm + nn ∧ sm = sumM pre by rw [sumM_app, sumM_cons, ← hsm]; simp [sumM])
            have hN0 : ¬ (N : Int) = 0 := by omega
            have hN1 : ¬ N = 0 := by omega
            clear e2 bl2 kc2 hT0 hmd hq0 hsz hK hpx hl hit hpl hpa hsb hbd hbd2 hnt hNe hss hhg hne hq1 hq2 hq3 htb hsn
            gi_wp2
            rw [HW.out.1]
            refine HK2.out _ _ (keepsFrom_below HW.out.2.1) (KeepB.below HW.out.2.1) ?_
            clear kr kw e1
            intro W2 hT
            have T2 := Lib.hid (show BdS w W2 nb rb mv ab mb N Q M' tot' tot' H' cm' ∧ MarkS w.heap.size W2 ds ∧ Blk W2 qb 2 #[.int .i64 sm] ∧ Blk W2 V.heap.size 42 #[.string s, .int .i64 nn, .int .i64 ee] ∧ y6.heap.size ≤ W2.heap.size from
              ⟨HS2.out.1.turn hT Y6.out.1.bl.size (by have := Y6.out; omega), HS2.out.2.1.turn hT HMD.out, by rw [HSM.out.2]; exact HS2.out.2.2.1.turn hT, HW.out.2.2.turn hT, by have := hT.size; have := HS2.out.2.2.2; omega⟩)
            clear hT HK2 HS2 HW hsm
            have B2 := Lib.hid (show Below W2.heap.size W2 W2.drew from below_draws (Below.refl _ _) 1)
            have hS : (fun wx : World => (∀ x, wx.cell? ⟨V.heap.size, x, none⟩ = (#[.string s, .int .i64 nn, .int .i64 ee] : Array Value)[x]?) ∧ (∀ x, wx.cell? ⟨mv, x, none⟩ = (#[.map (some mb)] : Array Value)[x]?) ∧ (∀ x, wx.cell? ⟨ab, x, none⟩ = (#[.int .i64 tot'] : Array Value)[x]?) ∧ (∀ x, wx.cell? ⟨nb, x, none⟩ = (#[.int .i64 (N : Int)] : Array Value)[x]?) ∧ Mp.MapS Try.prog 9 wx mb cm' (liftH H')) W2.drew := ⟨(T2.out.2.2.2.1.keep B2.out).rd, (T2.out.1.keep B2.out).km.rd, (T2.out.1.keep B2.out).ka.rd, (T2.out.1.keep B2.out).kn.rd, (T2.out.1.keep B2.out).mp⟩
            gi_wp2
            refine round_region_held (S := (fun wx : World => (∀ x, wx.cell? ⟨V.heap.size, x, none⟩ = (#[.string s, .int .i64 nn, .int .i64 ee] : Array Value)[x]?) ∧ (∀ x, wx.cell? ⟨mv, x, none⟩ = (#[.map (some mb)] : Array Value)[x]?) ∧ (∀ x, wx.cell? ⟨ab, x, none⟩ = (#[.int .i64 tot'] : Array Value)[x]?) ∧ (∀ x, wx.cell? ⟨nb, x, none⟩ = (#[.int .i64 (N : Int)] : Array Value)[x]?) ∧ Mp.MapS Try.prog 9 wx mb cm' (liftH H'))) (by kernel_rfl) (by kernel_rfl) (by rintro ⟨_, _, h⟩; exact h) hS (fun hHeld => ?_)
            refine wpAnyH_take (i := 0) (oi := ?_) (v := ?_) ?_ ?_ ?_ ?_ ?_ ?_ ?_ ?_
            rotate_left 2
            · simp only [List.getElem?_toArray, List.getElem?_cons_succ, List.getElem?_cons_zero]; rfl
            · kernel_rfl
            · kernel_rfl
            · kernel_rfl
            · exact fun _ _ _ h => h
            · refine Or.inl ⟨by rfl, ?_⟩
              intro w' hSw
              (try dsimp only at hSw)
              go_simp
              all_goals (with_reducible rfl)
            · assumption
            try simp only [Act.put, List.setIfInBounds_toArray, List.set_cons_zero, List.set_cons_succ]
            refine wpAnyH_take (i := 1) (oi := ?_) (v := ?_) ?_ ?_ ?_ ?_ ?_ ?_ ?_ ?_
            rotate_left 2
            · simp only [List.getElem?_toArray, List.getElem?_cons_succ, List.getElem?_cons_zero]; rfl
            · kernel_rfl
            · kernel_rfl
            · kernel_rfl
            · exact fun _ _ _ h => h
            · refine Or.inl ⟨by rfl, ?_⟩
              intro w' hSw
              (try dsimp only at hSw)
              go_simp
              all_goals (with_reducible rfl)
            · assumption
            try simp only [Act.put, List.setIfInBounds_toArray, List.set_cons_zero, List.set_cons_succ]
            refine wpAnyH_take (i := 2) (oi := ?_) (v := ?_) ?_ ?_ ?_ ?_ ?_ ?_ ?_ ?_
            rotate_left 2
            · simp only [List.getElem?_toArray, List.getElem?_cons_succ, List.getElem?_cons_zero]; rfl
            · kernel_rfl
            · kernel_rfl
            · kernel_rfl
            · exact fun _ _ _ h => h
            · refine Or.inl ⟨by rfl, ?_⟩
              intro w' hSw
              (try dsimp only at hSw)
              go_simp
              all_goals (with_reducible rfl)
            · assumption
            try simp only [Act.put, List.setIfInBounds_toArray, List.set_cons_zero, List.set_cons_succ]
            refine wpAnyH_take (i := 3) (oi := ?_) (v := ?_) ?_ ?_ ?_ ?_ ?_ ?_ ?_ ?_
            rotate_left 2
            · simp only [List.getElem?_toArray, List.getElem?_cons_succ, List.getElem?_cons_zero]; rfl
            · kernel_rfl
            · kernel_rfl
            · kernel_rfl
            · exact fun _ _ _ h => h
            · refine Or.inl ⟨by rfl, ?_⟩
              intro w' hSw
              (try dsimp only at hSw)
              have hlk := LKH.out w' hSw.2.2.2.2
              go_simp
              all_goals (with_reducible rfl)
            · assumption
            try simp only [Act.put, List.setIfInBounds_toArray, List.set_cons_zero, List.set_cons_succ]
            refine wpAnyH_take (i := 4) (oi := ?_) (v := ?_) ?_ ?_ ?_ ?_ ?_ ?_ ?_ ?_
            rotate_left 2
            · simp only [List.getElem?_toArray, List.getElem?_cons_succ, List.getElem?_cons_zero]; rfl
            · kernel_rfl
            · kernel_rfl
            · kernel_rfl
            · exact fun _ _ _ h => h
            · refine Or.inl ⟨by rfl, ?_⟩
              intro w' hSw
              (try dsimp only at hSw)
              go_simp
              all_goals (with_reducible rfl)
            · assumption
            try simp only [Act.put, List.setIfInBounds_toArray, List.set_cons_zero, List.set_cons_succ]
            refine wpAnyH_take (i := 5) (oi := ?_) (v := ?_) ?_ ?_ ?_ ?_ ?_ ?_ ?_ ?_
            rotate_left 2
            · simp only [List.getElem?_toArray, List.getElem?_cons_succ, List.getElem?_cons_zero]; rfl
            · kernel_rfl
            · kernel_rfl
            · kernel_rfl
            · exact fun _ _ _ h => h
            · refine Or.inl ⟨by rfl, ?_⟩
              intro w' hSw
              (try dsimp only at hSw)
              go_simp
              all_goals (with_reducible rfl)
            · assumption
            try simp only [Act.put, List.setIfInBounds_toArray, List.set_cons_zero, List.set_cons_succ]
            refine wpAnyH_take (i := 6) (oi := ?_) (v := ?_) ?_ ?_ ?_ ?_ ?_ ?_ ?_ ?_
            rotate_left 2
            · simp only [List.getElem?_toArray, List.getElem?_cons_succ, List.getElem?_cons_zero]; rfl
            · kernel_rfl
            · kernel_rfl
            · kernel_rfl
            · exact fun _ _ _ h => h
            · refine Or.inl ⟨by rfl, ?_⟩
              intro w' hSw
              (try dsimp only at hSw)
              go_simp
              all_goals (with_reducible rfl)
            · assumption
            try simp only [Act.put, List.setIfInBounds_toArray, List.set_cons_zero, List.set_cons_succ]
            refine wpAnyH_take (i := 7) (oi := ?_) (v := ?_) ?_ ?_ ?_ ?_ ?_ ?_ ?_ ?_
            rotate_left 2
            · simp only [List.getElem?_toArray, List.getElem?_cons_succ, List.getElem?_cons_zero]; rfl
            · kernel_rfl
            · kernel_rfl
            · kernel_rfl
            · exact fun _ _ _ h => h
            · refine Or.inl ⟨by rfl, ?_⟩
              intro w' hSw
              (try dsimp only at hSw)
              go_simp
              all_goals (with_reducible rfl)
            · assumption
            try simp only [Act.put, List.setIfInBounds_toArray, List.set_cons_zero, List.set_cons_succ]
            refine wpAnyH_take (i := 8) (oi := ?_) (v := ?_) ?_ ?_ ?_ ?_ ?_ ?_ ?_ ?_
            rotate_left 2
            · simp only [List.getElem?_toArray, List.getElem?_cons_succ, List.getElem?_cons_zero]; rfl
            · kernel_rfl
            · kernel_rfl
            · kernel_rfl
            · exact fun _ _ _ h => h
            · refine Or.inl ⟨by rfl, ?_⟩
              intro w' hSw
              (try dsimp only at hSw)
              go_simp
              all_goals (with_reducible rfl)
            · assumption
            try simp only [Act.put, List.setIfInBounds_toArray, List.set_cons_zero, List.set_cons_succ]
            refine wpAnyH_take (i := 9) (oi := ?_) (v := ?_) ?_ ?_ ?_ ?_ ?_ ?_ ?_ ?_
            rotate_left 2
            · simp only [List.getElem?_toArray, List.getElem?_cons_succ, List.getElem?_cons_zero]; rfl
            · kernel_rfl
            · kernel_rfl
            · kernel_rfl
            · exact fun _ _ _ h => h
            · refine Or.inl ⟨by rfl, ?_⟩
              intro w' hSw
              (try dsimp only at hSw)
              go_simp
              all_goals (with_reducible rfl)
            · assumption
            try simp only [Act.put, List.setIfInBounds_toArray, List.set_cons_zero, List.set_cons_succ]
            refine wpAnyH_take (i := 10) (oi := ?_) (v := ?_) ?_ ?_ ?_ ?_ ?_ ?_ ?_ ?_
            rotate_left 2
            · simp only [List.getElem?_toArray, List.getElem?_cons_succ, List.getElem?_cons_zero]; rfl
            · kernel_rfl
            · kernel_rfl
            · kernel_rfl
            · exact fun _ _ _ h => h
            · refine Or.inl ⟨by rfl, ?_⟩
              intro w' hSw
              (try dsimp only at hSw)
              go_simp
              all_goals (with_reducible rfl)
            · assumption
            try simp only [Act.put, List.setIfInBounds_toArray, List.set_cons_zero, List.set_cons_succ]
            refine wpAnyH_take (i := 11) (oi := ?_) (v := ?_) ?_ ?_ ?_ ?_ ?_ ?_ ?_ ?_
            rotate_left 2
            · simp only [List.getElem?_toArray, List.getElem?_cons_succ, List.getElem?_cons_zero]; rfl
            · kernel_rfl
            · kernel_rfl
            · kernel_rfl
            · exact fun _ _ _ h => h
            · refine Or.inl ⟨by rfl, ?_⟩
              intro w' hSw
              (try dsimp only at hSw)
              have hlk := LKH.out w' hSw.2.2.2.2
              go_simp
              all_goals (with_reducible rfl)
            · assumption
            try simp only [Act.put, List.setIfInBounds_toArray, List.set_cons_zero, List.set_cons_succ]
            refine wpAnyH_take (i := 12) (oi := ?_) (v := ?_) ?_ ?_ ?_ ?_ ?_ ?_ ?_ ?_
            rotate_left 2
            · simp only [List.getElem?_toArray, List.getElem?_cons_succ, List.getElem?_cons_zero]; rfl
            · kernel_rfl
            · kernel_rfl
            · kernel_rfl
            · exact fun _ _ _ h => h
            · refine Or.inl ⟨by rfl, ?_⟩
              intro w' hSw
              (try dsimp only at hSw)
              go_simp
              all_goals (with_reducible rfl)
            · assumption
            try simp only [Act.put, List.setIfInBounds_toArray, List.set_cons_zero, List.set_cons_succ]
            refine wpAnyH_take (i := 13) (oi := ?_) (v := ?_) ?_ ?_ ?_ ?_ ?_ ?_ ?_ ?_
            rotate_left 2
            · simp only [List.getElem?_toArray, List.getElem?_cons_succ, List.getElem?_cons_zero]; rfl
            · kernel_rfl
            · kernel_rfl
            · kernel_rfl
            · exact fun _ _ _ h => h
            · refine Or.inl ⟨by rfl, ?_⟩
              intro w' hSw
              (try dsimp only at hSw)
              go_simp
              all_goals (with_reducible rfl)
            · assumption
            try simp only [Act.put, List.setIfInBounds_toArray, List.set_cons_zero, List.set_cons_succ]
            refine wpAnyH_take (i := 14) (oi := ?_) (v := ?_) ?_ ?_ ?_ ?_ ?_ ?_ ?_ ?_
            rotate_left 2
            · simp only [List.getElem?_toArray, List.getElem?_cons_succ, List.getElem?_cons_zero]; rfl
            · kernel_rfl
            · kernel_rfl
            · kernel_rfl
            · exact fun _ _ _ h => h
            · refine Or.inl ⟨by rfl, ?_⟩
              intro w' hSw
              (try dsimp only at hSw)
              go_simp
              all_goals (with_reducible rfl)
            · assumption
            try simp only [Act.put, List.setIfInBounds_toArray, List.set_cons_zero, List.set_cons_succ]
            refine wpAnyH_take (i := 15) (oi := ?_) (v := ?_) ?_ ?_ ?_ ?_ ?_ ?_ ?_ ?_
            rotate_left 2
            · simp only [List.getElem?_toArray, List.getElem?_cons_succ, List.getElem?_cons_zero]; rfl
            · kernel_rfl
            · kernel_rfl
            · kernel_rfl
            · exact fun _ _ _ h => h
            · refine Or.inl ⟨by rfl, ?_⟩
              intro w' hSw
              (try dsimp only at hSw)
              go_simp
              all_goals (with_reducible rfl)
            · assumption
            try simp only [Act.put, List.setIfInBounds_toArray, List.set_cons_zero, List.set_cons_succ]
            refine wpAnyH_take (i := 16) (oi := ?_) (v := ?_) ?_ ?_ ?_ ?_ ?_ ?_ ?_ ?_
            rotate_left 2
            · simp only [List.getElem?_toArray, List.getElem?_cons_succ, List.getElem?_cons_zero]; rfl
            · kernel_rfl
            · kernel_rfl
            · kernel_rfl
            · exact fun _ _ _ h => h
            · refine Or.inl ⟨by rfl, ?_⟩
              intro w' hSw
              (try dsimp only at hSw)
              go_simp
              all_goals (with_reducible rfl)
            · assumption
            try simp only [Act.put, List.setIfInBounds_toArray, List.set_cons_zero, List.set_cons_succ]
            refine wpAnyH_take (i := 17) (oi := ?_) (v := ?_) ?_ ?_ ?_ ?_ ?_ ?_ ?_ ?_
            rotate_left 2
            · simp only [List.getElem?_toArray, List.getElem?_cons_succ, List.getElem?_cons_zero]; rfl
            · kernel_rfl
            · kernel_rfl
            · kernel_rfl
            · exact fun _ _ _ h => h
            · refine Or.inl ⟨by rfl, ?_⟩
              intro w' hSw
              (try dsimp only at hSw)
              go_simp
              all_goals (with_reducible rfl)
            · assumption
            try simp only [Act.put, List.setIfInBounds_toArray, List.set_cons_zero, List.set_cons_succ]
            refine wpAnyH_take (i := 18) (oi := ?_) (v := ?_) ?_ ?_ ?_ ?_ ?_ ?_ ?_ ?_
            rotate_left 2
            · simp only [List.getElem?_toArray, List.getElem?_cons_succ, List.getElem?_cons_zero]; rfl
            · kernel_rfl
            · kernel_rfl
            · kernel_rfl
            · exact fun _ _ _ h => h
            · refine Or.inl ⟨by rfl, ?_⟩
              intro w' hSw
              (try dsimp only at hSw)
              go_simp
              all_goals (with_reducible rfl)
            · assumption
            try simp only [Act.put, List.setIfInBounds_toArray, List.set_cons_zero, List.set_cons_succ]
            refine wpAnyH_take (i := 19) (oi := ?_) (v := ?_) ?_ ?_ ?_ ?_ ?_ ?_ ?_ ?_
            rotate_left 2
            · simp only [List.getElem?_toArray, List.getElem?_cons_succ, List.getElem?_cons_zero]; rfl
            · kernel_rfl
            · kernel_rfl
            · kernel_rfl
            · exact fun _ _ _ h => h
            · refine Or.inl ⟨by rfl, ?_⟩
              intro w' hSw
              (try dsimp only at hSw)
              go_simp
              all_goals (with_reducible rfl)
            · assumption
            try simp only [Act.put, List.setIfInBounds_toArray, List.set_cons_zero, List.set_cons_succ]
            refine wpAnyH_take (i := 20) (oi := ?_) (v := ?_) ?_ ?_ ?_ ?_ ?_ ?_ ?_ ?_
            rotate_left 2
            · simp only [List.getElem?_toArray, List.getElem?_cons_succ, List.getElem?_cons_zero]; rfl
            · kernel_rfl
            · kernel_rfl
            · kernel_rfl
            · exact fun _ _ _ h => h
            · refine Or.inl ⟨by rfl, ?_⟩
              intro w' hSw
              (try dsimp only at hSw)
              go_simp
              all_goals (with_reducible rfl)
            · assumption
            try simp only [Act.put, List.setIfInBounds_toArray, List.set_cons_zero, List.set_cons_succ]
            refine wpAnyH_take (i := 21) (oi := ?_) (v := ?_) ?_ ?_ ?_ ?_ ?_ ?_ ?_ ?_
            rotate_left 2
            · simp only [List.getElem?_toArray, List.getElem?_cons_succ, List.getElem?_cons_zero]; rfl
            · kernel_rfl
            · kernel_rfl
            · kernel_rfl
            · exact fun _ _ _ h => h
            · refine Or.inl ⟨by rfl, ?_⟩
              intro w' hSw
              (try dsimp only at hSw)
              go_simp
              all_goals (with_reducible rfl)
            · assumption
            try simp only [Act.put, List.setIfInBounds_toArray, List.set_cons_zero, List.set_cons_succ]
            refine wpAnyH_take (i := 22) (oi := ?_) (v := ?_) ?_ ?_ ?_ ?_ ?_ ?_ ?_ ?_
            rotate_left 2
            · simp only [List.getElem?_toArray, List.getElem?_cons_succ, List.getElem?_cons_zero]; rfl
            · kernel_rfl
            · kernel_rfl
            · kernel_rfl
            · exact fun _ _ _ h => h
            · refine Or.inl ⟨by rfl, ?_⟩
              intro w' hSw
              (try dsimp only at hSw)
              go_simp
              all_goals (with_reducible rfl)
            · assumption
            try simp only [Act.put, List.setIfInBounds_toArray, List.set_cons_zero, List.set_cons_succ]
            refine wpAnyH_take (i := 23) (oi := ?_) (v := ?_) ?_ ?_ ?_ ?_ ?_ ?_ ?_ ?_
            rotate_left 2
            · simp only [List.getElem?_toArray, List.getElem?_cons_succ, List.getElem?_cons_zero]; rfl
            · kernel_rfl
            · kernel_rfl
            · kernel_rfl
            · exact fun _ _ _ h => h
            · refine Or.inl ⟨by rfl, ?_⟩
              intro w' hSw
              (try dsimp only at hSw)
              go_simp
              all_goals (with_reducible rfl)
            · assumption
            try simp only [Act.put, List.setIfInBounds_toArray, List.set_cons_zero, List.set_cons_succ]
            refine wpAnyH_take (i := 24) (oi := ?_) (v := ?_) ?_ ?_ ?_ ?_ ?_ ?_ ?_ ?_
            rotate_left 2
            · simp only [List.getElem?_toArray, List.getElem?_cons_succ, List.getElem?_cons_zero]; rfl
            · kernel_rfl
            · kernel_rfl
            · kernel_rfl
            · exact fun _ _ _ h => h
            · refine Or.inl ⟨by rfl, ?_⟩
              intro w' hSw
              (try dsimp only at hSw)
              go_simp
              all_goals (with_reducible rfl)
            · assumption
            try simp only [Act.put, List.setIfInBounds_toArray, List.set_cons_zero, List.set_cons_succ]
            refine wpAnyH_take (i := 25) (oi := ?_) (v := ?_) ?_ ?_ ?_ ?_ ?_ ?_ ?_ ?_
            rotate_left 2
            · simp only [List.getElem?_toArray, List.getElem?_cons_succ, List.getElem?_cons_zero]; rfl
            · kernel_rfl
            · kernel_rfl
            · kernel_rfl
            · exact fun _ _ _ h => h
            · refine Or.inl ⟨by rfl, ?_⟩
              intro w' hSw
              (try dsimp only at hSw)
              go_simp
              all_goals (with_reducible rfl)
            · assumption
            try simp only [Act.put, List.setIfInBounds_toArray, List.set_cons_zero, List.set_cons_succ]
            refine wpAnyH_take (i := 26) (oi := ?_) (v := ?_) ?_ ?_ ?_ ?_ ?_ ?_ ?_ ?_
            rotate_left 2
            · simp only [List.getElem?_toArray, List.getElem?_cons_succ, List.getElem?_cons_zero]; rfl
            · kernel_rfl
            · kernel_rfl
            · kernel_rfl
            · exact fun _ _ _ h => h
            · refine Or.inl ⟨by rfl, ?_⟩
              intro w' hSw
              (try dsimp only at hSw)
              go_simp
              all_goals (with_reducible rfl)
            · assumption
            try simp only [Act.put, List.setIfInBounds_toArray, List.set_cons_zero, List.set_cons_succ]
            refine wpAnyH_done (by kernel_rfl) ?_ _
            clear hHeld hS g1 g2 g3 g4 g5
            have z7 := (T2.out.2.2.1.keep B2.out).rd
            have z7w := (T2.out.2.2.1.keep B2.out).wr
            have z8 := (T2.out.2.2.2.1.keep B2.out).rd
            gi_wp2
            rw [setCell_obj T2.out.2.2.1]
            have f5 := fr_one W2 qb (.cells ((#[.int .i64 sm] : Array Value).setIfInBounds 0 (.int .i64 (sm + nn))) 2 (0, 0))
            have g7 : Blk (setObj W2 qb (.cells ((#[.int .i64 sm] : Array Value).setIfInBounds 0 (.int .i64 (sm + nn))) 2 (0, 0))) qb 2 #[.int .i64 (sm + nn)] := setObj_at (lt_of_block T2.out.2.2.1) _
            generalize setObj W2 qb (.cells ((#[.int .i64 sm] : Array Value).setIfInBounds 0 (.int .i64 (sm + nn))) 2 (0, 0)) = w5 at f5 g7 ⊢
            have b5 : Below w5.heap.size w5 w5.drew := below_draws (Below.refl _ _) 1
            have h6 := Y6.out
            have hb := HB2.out
            have t2 := T2.out
            refine ⟨(keepsFrom_fr f5 (fun k o hk hB => by omega)).trans (keepsFrom_below b5), (KeepB.fr f5 (fun k hk e => by have := hb.2.2.2.2.1 k hk; omega)).trans (KeepB.below b5), (t2.1.fr f5 (fun k hk e => by have := hb.2.2.2.2.1 k hk; omega) ⟨by omega, by omega, by omega, by omega, by omega⟩ (fun k hk => by omega)).keep b5, (t2.2.1.fr f5 (fun k hk => by rw [hk]; exact no_mark_cells t2.2.2.1)).keep b5, by rw [HSM.out.1]; exact g7.keep b5, by have := f5.size; have := b5.size; omega⟩
          case done =>
            rintro D Xd hD ⟨hT0, hmd, hq0, hsz⟩ hd
            have hss := HV3.out.ss.sum
            rw [hss] at hq0
            have hnd : markD D ∉ ds := fun h => by have := HMD.out D h; omega
            have HX := Lib.hid (And.intro hT0 (And.intro (hmd.more hd (by have := Y6.out; have := HB2.out; omega) hnd) (And.intro hq0 hsz)))
            clear hT0 hmd hq0 hsz hd hD hit hss hnd
            have b0 : (tot' != tot') = false := by simp
            have CTo := Lib.hid (fun wx (h : SmM wx Q M' tot') => smtotalM wx h)
            go_upto_region 23 with (fail)
            have B2 := Lib.hid (show Below Xd.heap.size Xd Xd.drew from below_draws (Below.refl _ _) 1)
            have hS : (fun wx : World => (∀ x, wx.cell? ⟨ab, x, none⟩ = (#[.int .i64 tot'] : Array Value)[x]?) ∧ (∀ x, wx.cell? ⟨qb, x, none⟩ = (#[.int .i64 tot'] : Array Value)[x]?)) Xd.drew := ⟨(HX.out.1.keep B2.out).ka.rd, (HX.out.2.2.1.keep B2.out).rd⟩
            refine wp_region_held_drew (S := (fun wx : World => (∀ x, wx.cell? ⟨ab, x, none⟩ = (#[.int .i64 tot'] : Array Value)[x]?) ∧ (∀ x, wx.cell? ⟨qb, x, none⟩ = (#[.int .i64 tot'] : Array Value)[x]?))) (by kernel_rfl) hS (fun hHeld => ?_)
            refine wpAnyH_take (i := 0) (oi := ?_) (v := ?_) ?_ ?_ ?_ ?_ ?_ ?_ ?_ ?_
            rotate_left 2
            · simp only [List.getElem?_toArray, List.getElem?_cons_succ, List.getElem?_cons_zero]; rfl
            · kernel_rfl
            · kernel_rfl
            · kernel_rfl
            · exact fun _ _ _ h => h
            · refine Or.inl ⟨by rfl, ?_⟩
              intro w' hSw
              (try dsimp only at hSw)
              go_simp
              all_goals (with_reducible rfl)
            · assumption
            try simp only [Act.put, List.setIfInBounds_toArray, List.set_cons_zero, List.set_cons_succ]
            refine wpAnyH_take (i := 2) (oi := ?_) (v := ?_) ?_ ?_ ?_ ?_ ?_ ?_ ?_ ?_
            rotate_left 2
            · simp only [List.getElem?_toArray, List.getElem?_cons_succ, List.getElem?_cons_zero]; rfl
            · kernel_rfl
            · kernel_rfl
            · kernel_rfl
            · exact fun _ _ _ h => h
            · refine Or.inl ⟨by rfl, ?_⟩
              intro w' hSw
              (try dsimp only at hSw)
              go_simp
              all_goals (with_reducible rfl)
            · assumption
            try simp only [Act.put, List.setIfInBounds_toArray, List.set_cons_zero, List.set_cons_succ]
            refine wpAnyH_ready (rs := [1]) (by kernel_rfl) (by simp) ?_
            refine AllReadyH.cons (o := ?_) ?_ ?_ ?_
            rotate_left 1
            · simp only [List.getElem?_toArray, List.getElem?_cons_succ, List.getElem?_cons_zero]; rfl
            rotate_left 1
            · exact AllReadyH.nil
            intro K hK
            go_simp
            ((with_reducible refine (CTo.out _ (HX.out.1.keep B2.out).at_).mono ?_); rintro e wx ⟨rfl, rfl⟩)
            refine hK.out _ _ hHeld (fun hHeld => ?_)
            clear hK K
            try simp only [Act.put, List.setIfInBounds_toArray, List.set_cons_zero, List.set_cons_succ]
            refine wpAnyH_take (i := 3) (oi := ?_) (v := ?_) ?_ ?_ ?_ ?_ ?_ ?_ ?_ ?_
            rotate_left 2
            · simp only [List.getElem?_toArray, List.getElem?_cons_succ, List.getElem?_cons_zero]; rfl
            · kernel_rfl
            · kernel_rfl
            · kernel_rfl
            · exact fun _ _ _ h => h
            · refine Or.inl ⟨by rfl, ?_⟩
              intro w' hSw
              (try dsimp only at hSw)
              go_simp
              all_goals (with_reducible rfl)
            · assumption
            try simp only [Act.put, List.setIfInBounds_toArray, List.set_cons_zero, List.set_cons_succ]
            refine wpAnyH_take (i := 4) (oi := ?_) (v := ?_) ?_ ?_ ?_ ?_ ?_ ?_ ?_ ?_
            rotate_left 2
            · simp only [List.getElem?_toArray, List.getElem?_cons_succ, List.getElem?_cons_zero]; rfl
            · kernel_rfl
            · kernel_rfl
            · kernel_rfl
            · exact fun _ _ _ h => h
            · refine Or.inl ⟨by rfl, ?_⟩
              intro w' hSw
              (try dsimp only at hSw)
              go_simp
              all_goals (with_reducible rfl)
            · assumption
            try simp only [Act.put, List.setIfInBounds_toArray, List.set_cons_zero, List.set_cons_succ]
            refine wpAnyH_take (i := 5) (oi := ?_) (v := ?_) ?_ ?_ ?_ ?_ ?_ ?_ ?_ ?_
            rotate_left 2
            · simp only [List.getElem?_toArray, List.getElem?_cons_succ, List.getElem?_cons_zero]; rfl
            · kernel_rfl
            · kernel_rfl
            · kernel_rfl
            · exact fun _ _ _ h => h
            · refine Or.inl ⟨by rfl, ?_⟩
              intro w' hSw
              (try dsimp only at hSw)
              go_simp
              all_goals (with_reducible rfl)
            · assumption
            try simp only [Act.put, List.setIfInBounds_toArray, List.set_cons_zero, List.set_cons_succ]
            refine wpAnyH_take (i := 6) (oi := ?_) (v := ?_) ?_ ?_ ?_ ?_ ?_ ?_ ?_ ?_
            rotate_left 2
            · simp only [List.getElem?_toArray, List.getElem?_cons_succ, List.getElem?_cons_zero]; rfl
            · kernel_rfl
            · kernel_rfl
            · kernel_rfl
            · exact fun _ _ _ h => h
            · refine Or.inl ⟨by rfl, ?_⟩
              intro w' hSw
              (try dsimp only at hSw)
              go_simp
              all_goals (with_reducible rfl)
            · assumption
            try simp only [Act.put, List.setIfInBounds_toArray, List.set_cons_zero, List.set_cons_succ]
            refine wpAnyH_take (i := 7) (oi := ?_) (v := ?_) ?_ ?_ ?_ ?_ ?_ ?_ ?_ ?_
            rotate_left 2
            · simp only [List.getElem?_toArray, List.getElem?_cons_succ, List.getElem?_cons_zero]; rfl
            · kernel_rfl
            · kernel_rfl
            · kernel_rfl
            · exact fun _ _ _ h => h
            · refine Or.inl ⟨by rfl, ?_⟩
              intro w' hSw
              (try dsimp only at hSw)
              go_simp
              all_goals (with_reducible rfl)
            · assumption
            try simp only [Act.put, List.setIfInBounds_toArray, List.set_cons_zero, List.set_cons_succ]
            refine wpAnyH_take (i := 8) (oi := ?_) (v := ?_) ?_ ?_ ?_ ?_ ?_ ?_ ?_ ?_
            rotate_left 2
            · simp only [List.getElem?_toArray, List.getElem?_cons_succ, List.getElem?_cons_zero]; rfl
            · kernel_rfl
            · kernel_rfl
            · kernel_rfl
            · exact fun _ _ _ h => h
            · refine Or.inl ⟨by rfl, ?_⟩
              intro w' hSw
              (try dsimp only at hSw)
              go_simp
              all_goals (with_reducible rfl)
            · assumption
            try simp only [Act.put, List.setIfInBounds_toArray, List.set_cons_zero, List.set_cons_succ]
            refine wpAnyH_done (by kernel_rfl) ?_ _
            clear hHeld hS b0
            go_wp2
            go_roundg (n - (i + 1))
            case measure => have := HKK.out; have := HIN.out; omega
            case rel => exact ⟨i + 1, cm', H', M', tot', HIN.out, Lib.hid rfl, rfl, Lib.hid (HX.out.1.keep B2.out), HV3, Lib.hid ⟨HX.out.2.1.keep B2.out, by have := HX.out.2.2.2; have := B2.out.size; have := Y6.out; omega⟩⟩
          case stop =>
            rintro D c pre X hD hpre h hd
            exact h.elim
    · as_aux_lemma =>
        have hie : i = n := by omega
        subst hie
        clear hin hi HKK
        obtain ⟨wz, hwz⟩ : ∃ wz, wz = wr := ⟨_, rfl⟩
        rw [← hwz] at HS HD ⊢
        clear hwz
        have km3 := HS.out.km.rd
        have HMD := Lib.hid (show ∀ D, markD D ∈ ds → D < wz.heap.size from HD.out.1.lt)
        go_upto_region 26 with (fail)
        go_wp2_with (at_range; refine Mp.wpList_rangeS Try.underlying9 Try.underlying49 (by rfl) _ (by rfl) (by rfl) HS.out.mp ?_; intro wr0 hr0 hb0 hs0; have R0 := Lib.hid hr0; have HB0 := Lib.hid hb0; clear hr0 hb0)
        go_frame
        obtain ⟨rr, hrr⟩ : ∃ rr, rr = wz.heap.size := ⟨_, rfl⟩
        rw [← hrr] at R0 ⊢
        have RR := Lib.hid (show mb + 3 ≤ rr ∧ (∀ D, markD D ∈ ds → D ≠ rr) from ⟨by have := HD.out.2; omega, fun D hD => by have := HMD.out D hD; omega⟩)
        have A0 := Lib.hid (show BdS w wr0 nb rb mv ab mb N Q M tot tot H cm ∧ MarkS w.heap.size wr0 ds from ⟨HS.out.keep HB0.out, HD.out.1.keep HB0.out⟩)
        clear hrr hs0 km3
        go_loopg [] cm (fun kq wq => ∃ left, Hid (Mp.RangeS Try.prog 9 wq mb rr cm (liftH H) left kq) ∧ Hid (SmM wq Q M tot) ∧ Hid (Blk wq rb 4 #[.bool false]) ∧ Hid (Below w.heap.size w wq) ∧ Hid (MarkS w.heap.size wq ds))
        case atStart => exact ⟨_, R0, Lib.hid A0.out.1.at_, Lib.hid A0.out.1.kr, Lib.hid A0.out.1.bl, Lib.hid A0.out.2⟩
        case round =>
          obtain ⟨left, RS, SQ, RQ, BQ, MQ⟩ := hrel
          go_wp2_with (at_next; refine Mp.wpList_nextS Try.underlying9 (by rfl) _ (by rfl) (by rfl) RS.out ?_ ?_)
          · intro _ _
            (try go_frame)
            have z1 := RQ.out.rd
            have z1w := RQ.out.wr
            go_wp2
            exact bodyM_laws rfl Try.underlying4 rfl MQ.out rfl RQ.out BQ.out (by have := BB.out; omega)
          · intro t u w4 nr hts hlf hMt hrs hlt hfr hsz hen
            obtain ⟨x, hHx, rfl⟩ := liftH_some hMt
            have HLT2 := Lib.hid hlt
            have hb := HB2.out
            have hrr2 := RR.out
            have RS2 := Lib.hid hrs
            have SQ2 := Lib.hid (show SmM w4 Q M tot ∧ Blk w4 rb 4 #[.bool false] ∧ Below w.heap.size w w4 ∧ MarkS w.heap.size w4 ds from ⟨SQ.out.fr hfr (fun k hk e => by have := hb.2.2.2.2.1 k hk; omega), RQ.out.fr hfr (by omega), BQ.out.trans (hfr.below BQ.out.size (fun k hk => by omega)), by
              obtain ⟨Ds, e, h1⟩ := MQ.out
              exact ⟨Ds, e, h1.nd, fun D hD => ⟨(h1.at_ D hD).1, (hfr.block D (Array.getElem?_eq_some_iff.1 (h1.at_ D hD).2).1 (hrr2.2 D (by rw [e]; exact List.mem_map.2 ⟨D, hD, rfl⟩))).trans (h1.at_ D hD).2⟩⟩⟩)
            obtain ⟨ok, hok⟩ : ∃ ok, ok = (tellM M t).2.2 := ⟨_, rfl⟩
            obtain ⟨t1, ht1⟩ : ∃ t1, t1 = (tellM M t).1 := ⟨_, rfl⟩
            obtain ⟨t2, ht2⟩ : ∃ t2, t2 = (tellM M t).2.1 := ⟨_, rfl⟩
            have hcm := smcountM_any t hts w4 SQ2.out.1
            rw [← hok, ← ht1, ← ht2] at hcm
            have CM := Lib.hid hcm
            have CLe := Lib.hid (fun wx (h : SmM wx Q M tot) => smleastM wx h rfl)
            rw [HQN.out] at CLe
            obtain ⟨le, hle⟩ : ∃ le, le = leastM N M := ⟨_, rfl⟩
            rw [← hle] at CLe
            have hno : ok = false → x ≤ le := fun h => by
              have h1 := HV.out.ss.no t (fun u hu e => by
                have := tell_mem HV.out.ss.uni (s := t) (n := u.2.1) (e := u.2.2) (by rw [← e]; exact hu)
                rw [hok, this] at h
                cases h)
              unfold hadH at h1
              rw [hHx] at h1
              rw [hle]; exact h1
            clear hMt hrs hlt hfr hsz hlf hHx hcm hok ht1 ht2 hle hb hrr2
            (try go_frame)
            cases ok with
            | true =>
              clear hno
              go_wp2_with (go_at_call 21; ((with_reducible refine CM.out.mono ?_); rintro e w5 ⟨rfl, b5⟩; have RS5 := Lib.hid (RS2.out.keep b5); have SQ5 := Lib.hid (show SmM w5 Q M tot ∧ Blk w5 rb 4 #[.bool false] ∧ Below w.heap.size w w5 ∧ MarkS w.heap.size w5 ds from ⟨SQ2.out.1.keep b5, SQ2.out.2.1.keep b5, below_in SQ2.out.2.2.1 b5, SQ2.out.2.2.2.keep b5⟩); clear b5))
              go_roundg nr
              case measure => exact HLT2.out
              case rel => exact ⟨_, RS5, Lib.hid SQ5.out.1, Lib.hid SQ5.out.2.1, Lib.hid SQ5.out.2.2.1, Lib.hid SQ5.out.2.2.2⟩
            | false =>
              have hno := hno rfl
              have hnd : decide (le < x) = false := by rw [decide_eq_false_iff_not]; omega
              clear hno
              go_wp2_with (first
                | (go_at_call 21; ((with_reducible refine CM.out.mono ?_); rintro e w5 ⟨rfl, b5⟩; have RS5 := Lib.hid (RS2.out.keep b5); have SQ5 := Lib.hid (show SmM w5 Q M tot ∧ Blk w5 rb 4 #[.bool false] ∧ Below w.heap.size w w5 ∧ MarkS w.heap.size w5 ds from ⟨SQ2.out.1.keep b5, SQ2.out.2.1.keep b5, below_in SQ2.out.2.2.1 b5, SQ2.out.2.2.2.keep b5⟩); clear b5))
                | (go_at_call 20; ((with_reducible refine (CLe.out _ SQ5.out.1).mono ?_); rintro e w6 ⟨rfl, b6⟩; have RS6 := Lib.hid (RS5.out.keep b6); have SQ6 := Lib.hid (show SmM w6 Q M tot ∧ Blk w6 rb 4 #[.bool false] ∧ Below w.heap.size w w6 ∧ MarkS w.heap.size w6 ds from ⟨SQ5.out.1.keep b6, SQ5.out.2.1.keep b6, below_in SQ5.out.2.2.1 b6, SQ5.out.2.2.2.keep b6⟩); clear b6)))
              go_roundg nr
              case measure => exact HLT2.out
              case rel => exact ⟨_, RS6, Lib.hid SQ6.out.1, Lib.hid SQ6.out.2.1, Lib.hid SQ6.out.2.2.1, Lib.hid SQ6.out.2.2.2⟩
end Go.Proofs.Ytnpiimaapholiaa
