/- The laws of layer 17 (config), walked: no answer is larger than outputs are. -/
import Derived.Test.YtfpknklnbgmflaaCfK
import Derived.Test.YtfpknklnbgmflaaLrg
import Derived.Test.YtfpknklnbgmflaaCfL
import Derived.Test.YtfpknklnbgmflaaConf
namespace Go.Proofs.Ytfpknklnbgmflaa
set_option linter.unusedSimpArgs false
set_option linter.unusedVariables false
open Go.ChangeShapes Go.WideShapes Go.ChangeAt Go.RowKit
open Ar (inR)
abbrev cfC (Bu Co Ou : Int) (A : Option Addr) (n c : Nat) : Array Value := #[.int .i64 Bu, .int .i64 Co, .int .i64 Ou, .slice A n c]
set_option maxHeartbeats 8000000 in
set_option maxRecDepth 100000 in
theorem answers_law (w : World) (Bu Co Ou : Int) (A : Option Addr) (n c : Nat) (rs : List RuZ) (op ru co k : Int) (s : ByteArray) (_hb3 : i64In Bu ∧ i64In Co ∧ i64In Ou) (hr : RdRu w A n c rs) (hq : ReqOK op ru co k s) :
    Calls Try.prog 6 #[.agg (cfC Bu Co Ou A n c), reqV op ru co s k] w fun e w' => e = .returned (.bool true) ∧ Below w.heap.size w w' := by
  obtain ⟨_, _, _, _, hs⟩ := hq
  have hcp := hr.cap
  have hmx := hr.max
  unfold maxLen at hmx
  have HR := Lib.hid hr
  have HLEN := Lib.hid hr.len
  clear hr
  obtain ⟨v, hv⟩ : ∃ v : Bool, v = true ↔ rightZ Bu Co Ou rs := by
    by_cases h : rightZ Bu Co Ou rs
    · exact ⟨true, fun _ => h, fun _ => rfl⟩
    · exact ⟨false, fun e => absurd e (by simp), fun e => absurd e h⟩
  have HV := Lib.hid hv
  have CFR := Lib.hid (fun w => fright_any op ru co k (n : Int) s w hs)
  clear hv
  go_enter Try.func6, Try.ntmps6
  go_upto_region 1 with (fail)
  obtain ⟨w1, hw1, hbk, hbl, hsz⟩ := box_new w (cfC Bu Co Ou A n c) 29
  obtain ⟨w2, hw2, hbk2, hbl2, hsz2⟩ := box_new w1 (reqC op ru co s k) 41
  change Code.wp _ _ _ _ ((w.alloc (.cells (cfC Bu Co Ou A n c) 29)).alloc (.cells (reqC op ru co s k) 41))
  rw [hw1, hw2]
  obtain ⟨b1, hb1⟩ : ∃ b1, b1 = w.heap.size := ⟨_, rfl⟩
  rw [← hb1] at hbk hsz ⊢
  rw [hsz] at hbk2
  have P2 := Lib.hid (hbk.keep hbl2)
  have Q2 := Lib.hid hbk2
  have BL2 := Lib.hid (hbl.trans (hbl2.mono hbl.size))
  clear hbk hbl hsz hw1 hb1 hbk2 hbl2 hsz2 hw2
  go_upto_region 3 with (go_at_call 9; ((with_reducible refine (fit_any _).mono ?_); rintro e w3 ⟨rfl, b3⟩; have P3 := Lib.hid (P2.out.keep b3); have Q3 := Lib.hid (Q2.out.keep b3); have BL3 := Lib.hid (BL2.out.trans (b3.mono BL2.out.size)); clear b3))
  have HR3 := Lib.hid (HR.out.below BL3.out)
  have k3 := P3.out.rd
  have q3 := Q3.out.rd
  by_cases hn : (100 : Int) < (n : Int)
  · have dn : decide ((100 : Int) < (n : Int)) = true := decide_eq_true hn
    go_wp2
    go_ret
    exact ⟨rfl, BL3.out⟩
  have dn : decide ((100 : Int) < (n : Int)) = false := decide_eq_false hn
  have CR := Lib.hid (lright_any Bu Co Ou A n c rs v HV.out w3 HR3.out)
  cases v
  · go_wp2_with (go_at_call 15; ((with_reducible refine CR.out.mono ?_); rintro e w5 ⟨rfl, b5⟩; have BL5 := Lib.hid (BL3.out.trans (b5.mono BL3.out.size)); have k5 := (P3.out.keep b5).rd; have q5 := (Q3.out.keep b5).rd; clear b5))
    go_ret
    exact ⟨rfl, BL5.out⟩
  by_cases hl : (300 : Int) < (s.size : Int)
  · have dl : decide ((300 : Int) < (s.size : Int)) = true := decide_eq_true hl
    go_wp2_with (go_at_call 15; ((with_reducible refine CR.out.mono ?_); rintro e w5 ⟨rfl, b5⟩; have BL5 := Lib.hid (BL3.out.trans (b5.mono BL3.out.size)); have k5 := (P3.out.keep b5).rd; have q5 := (Q3.out.keep b5).rd; clear b5))
    go_ret
    exact ⟨rfl, BL5.out⟩
  have dl : decide ((300 : Int) < (s.size : Int)) = false := decide_eq_false hl
  by_cases hp : ¬ rightP (mkR op ru co s k) (n : Int)
  · have CF := Lib.hid (fun w => (CFR.out w).2 hp)
    clear hp
    go_wp2_with (first
      | (go_at_call 15; ((with_reducible refine CR.out.mono ?_); rintro e w5 ⟨rfl, b5⟩; have BL5 := Lib.hid (BL3.out.trans (b5.mono BL3.out.size)); have k5 := (P3.out.keep b5).rd; have q5 := (Q3.out.keep b5).rd; clear b5))
      | (go_at_call 20; ((with_reducible refine (CF.out _).mono ?_); rintro e w6 ⟨rfl, b6⟩; have BL6 := Lib.hid (BL5.out.trans (b6.mono BL5.out.size)); clear b6)))
    go_ret
    exact ⟨rfl, BL6.out⟩
  have hpp : rightP (mkR op ru co s k) (n : Int) := Classical.not_not.1 hp
  have CF := Lib.hid (fun w => (CFR.out w).1 hpp)
  have hrz := HV.out.1 rfl
  have hru : 0 ≤ ru ∧ ru < (n : Int) := ⟨hpp.1.1, hpp.1.2.1⟩
  obtain ⟨j, hj⟩ : ∃ j : Nat, ru = (j : Int) := ⟨ru.toNat, by omega⟩
  subst hj
  have hjn : j < rs.length := by rw [HLEN.out]; omega
  have hjr : j < n := by rw [← HLEN.out]; exact hjn
  obtain ⟨t, ht⟩ : ∃ t, t = (rs[j]).Tr := ⟨_, rfl⟩
  have hrp := hrz.2.2.2.1 _ (List.getElem_mem hjn)
  have htb : 1 ≤ t ∧ t ≤ 64 := by rw [ht]; exact hrp.2.2.2.2.2.2.2.2.1
  obtain ⟨M, hM⟩ : ∃ M, M = mostZ rs := ⟨_, rfl⟩
  have hml := (most_le (show 0 < rs.length by omega) (mostZ rs)).1 (Int.le_refl _)
  have hmt := hml.2 _ (List.getElem_mem hjn)
  rw [← hM, ← ht] at hmt
  have hm46 := hml.1
  rw [← hM] at hm46
  have hMO : M ≤ Ou := by rw [hM]; exact hrz.2.2.2.2.1
  have hops : op = 1 ∨ op = 2 ∨ op = 3 ∨ op = 4 := by
    rcases hpp.2 with h | h | h
    · rcases h.1 with h | h
      · exact .inl h
      · exact .inr (.inl h)
    · exact .inr (.inr (.inl h.1))
    · exact .inr (.inr (.inr h.1))
  have hkb : 0 ≤ k ∧ k ≤ 255 := by
    rcases hpp.2 with h | h | h
    · have : k = 0 := h.2.2; omega
    · have : k = 0 := h.2.2.2; omega
    · exact h.2.2.2
  obtain ⟨lg, hlg⟩ : ∃ z, z = largeZ op k t := ⟨_, rfl⟩
  have hlgM : lg ≤ M := by
    rw [hlg]; unfold largeZ
    split
    · omega
    · split
      · omega
      · split <;> omega
  have CLG := Lib.hid (fun wx => show Calls Try.prog 21 #[reqV op (j : Int) co s k, .int .i64 t] wx (fun e w' => e = .returned (.int .i64 lg) ∧ Below wx.heap.size wx w') from by rw [hlg]; exact large_req op j co k t s hops hkb htb wx)
  have CM := Lib.hid (fun (wx : World) (h : RdRu wx A n c rs) => show Calls Try.prog 16 #[.agg (cfC Bu Co Ou A n c)] wx (fun e w' => e = .returned (.int .i64 M) ∧ Below wx.heap.size wx w') from by rw [hM]; exact most_any Bu Co Ou A n c rs wx h hrz.2.2.2.1)
  have hm6 : (6 : Int) ≤ M := by omega
  obtain ⟨g, off, rfl, hlt, hc⟩ := HR.out.at_ (by omega)
  have KT := Lib.hid (fun (wx : World) (hx : Below w.heap.size w wx) => show wx.cell? ⟨g, off + j * 9 + 7, none⟩ = some (.int .i64 t) from by
    rw [hx.cell (p := ⟨g, off + j * 9 + 7, none⟩) hlt, hc j hjn 7 (by omega), ht]; rfl)
  have hji : (j : Int) < (n : Int) := by omega
  clear hp hpp hrz hru hrp ht hml hlg hM hops hkb hc hlt hs hjn
  go_upto_region 5 with (first
    | (go_at_call 15; ((with_reducible refine CR.out.mono ?_); rintro e w5 ⟨rfl, b5⟩; have BL5 := Lib.hid (BL3.out.trans (b5.mono BL3.out.size)); have P5 := Lib.hid (P3.out.keep b5); have Q5 := Lib.hid (Q3.out.keep b5); have k5 := P5.out.rd; have q5 := Q5.out.rd; clear b5))
    | (go_at_call 20; ((with_reducible refine (CF.out _).mono ?_); rintro e w6 ⟨rfl, b6⟩; have BL6 := Lib.hid (BL5.out.trans (b6.mono BL5.out.size)); have P6 := Lib.hid (P5.out.keep b6); have Q6 := Lib.hid (Q5.out.keep b6); clear b6)))
  clear k3 q3 k5 q5
  have SS := Lib.hid (fun (wx : World) (hx : Below w6.heap.size w6 wx) => show (∀ i, wx.cell? ⟨b1, i, none⟩ = (cfC Bu Co Ou (some ⟨g, off, none⟩) n c)[i]?) ∧ (∀ i, wx.cell? ⟨b1 + 1, i, none⟩ = (reqC op (j : Int) co s k)[i]?) ∧ wx.cell? ⟨g, off + j * 9 + 7, none⟩ = some (.int .i64 t) from ⟨(P6.out.keep hx).rd, (Q6.out.keep hx).rd, KT.out wx (BL6.out.trans (hx.mono BL6.out.size))⟩)
  have RR := Lib.hid (fun (wx : World) (hx : Below w6.heap.size w6 wx) => HR.out.below (BL6.out.trans (hx.mono BL6.out.size)))
  have BD := Lib.hid (show Below w6.heap.size w6 w6.drew from below_draws (Below.refl _ _) 1)
  have y0 := SS.out w6.drew BD.out
  refine wp_region_held_drew (S := fun w' => (∀ i, w'.cell? ⟨b1, i, none⟩ = (cfC Bu Co Ou (some ⟨g, off, none⟩) n c)[i]?) ∧ (∀ i, w'.cell? ⟨b1 + 1, i, none⟩ = (reqC op (j : Int) co s k)[i]?) ∧ w'.cell? ⟨g, off + j * 9 + 7, none⟩ = some (.int .i64 t)) (by kernel_rfl) y0 (fun hHeld => ?_)
  clear y0
  refine wpAnyH_take (i := 0) (oi := ?_) (v := ?_) ?_ ?_ ?_ ?_ ?_ ?_ ?_ ?_
  rotate_left 2
  · simp only [List.getElem?_toArray, List.getElem?_cons_succ, List.getElem?_cons_zero]; rfl
  · kernel_rfl
  · kernel_rfl
  · kernel_rfl
  · exact fun _ _ _ h => h
  · refine Or.inl ⟨by rfl, ?_⟩
    intro w' hSw
    (try dsimp only at hSw)
    go_simp
    all_goals (with_reducible rfl)
  · assumption
  try simp only [Act.put, List.setIfInBounds_toArray, List.set_cons_zero, List.set_cons_succ]
  refine wpAnyH_take (i := 1) (oi := ?_) (v := ?_) ?_ ?_ ?_ ?_ ?_ ?_ ?_ ?_
  rotate_left 2
  · simp only [List.getElem?_toArray, List.getElem?_cons_succ, List.getElem?_cons_zero]; rfl
  · kernel_rfl
  · kernel_rfl
  · kernel_rfl
  · exact fun _ _ _ h => h
  · refine Or.inl ⟨by rfl, ?_⟩
    intro w' hSw
    (try dsimp only at hSw)
    go_simp
    all_goals (with_reducible rfl)
  · assumption
  try simp only [Act.put, List.setIfInBounds_toArray, List.set_cons_zero, List.set_cons_succ]
  refine wpAnyH_take (i := 2) (oi := ?_) (v := ?_) ?_ ?_ ?_ ?_ ?_ ?_ ?_ ?_
  rotate_left 2
  · simp only [List.getElem?_toArray, List.getElem?_cons_succ, List.getElem?_cons_zero]; rfl
  · kernel_rfl
  · kernel_rfl
  · kernel_rfl
  · exact fun _ _ _ h => h
  · refine Or.inl ⟨by rfl, ?_⟩
    intro w' hSw
    (try dsimp only at hSw)
    go_simp
    all_goals (with_reducible rfl)
  · assumption
  try simp only [Act.put, List.setIfInBounds_toArray, List.set_cons_zero, List.set_cons_succ]
  refine wpAnyH_take (i := 3) (oi := ?_) (v := ?_) ?_ ?_ ?_ ?_ ?_ ?_ ?_ ?_
  rotate_left 2
  · simp only [List.getElem?_toArray, List.getElem?_cons_succ, List.getElem?_cons_zero]; rfl
  · kernel_rfl
  · kernel_rfl
  · kernel_rfl
  · exact fun _ _ _ h => h
  · refine Or.inl ⟨by rfl, ?_⟩
    intro w' hSw
    (try dsimp only at hSw)
    go_simp
    all_goals (with_reducible rfl)
  · assumption
  try simp only [Act.put, List.setIfInBounds_toArray, List.set_cons_zero, List.set_cons_succ]
  refine wpAnyH_take (i := 4) (oi := ?_) (v := ?_) ?_ ?_ ?_ ?_ ?_ ?_ ?_ ?_
  rotate_left 2
  · simp only [List.getElem?_toArray, List.getElem?_cons_succ, List.getElem?_cons_zero]; rfl
  · kernel_rfl
  · kernel_rfl
  · kernel_rfl
  · exact fun _ _ _ h => h
  · refine Or.inl ⟨by rfl, ?_⟩
    intro w' hSw
    (try dsimp only at hSw)
    go_simp
    all_goals (with_reducible rfl)
  · assumption
  try simp only [Act.put, List.setIfInBounds_toArray, List.set_cons_zero, List.set_cons_succ]
  refine wpAnyH_take (i := 5) (oi := ?_) (v := ?_) ?_ ?_ ?_ ?_ ?_ ?_ ?_ ?_
  rotate_left 2
  · simp only [List.getElem?_toArray, List.getElem?_cons_succ, List.getElem?_cons_zero]; rfl
  · kernel_rfl
  · kernel_rfl
  · kernel_rfl
  · exact fun _ _ _ h => h
  · refine Or.inl ⟨by rfl, ?_⟩
    intro w' hSw
    (try dsimp only at hSw)
    go_simp
    all_goals (with_reducible rfl)
  · assumption
  try simp only [Act.put, List.setIfInBounds_toArray, List.set_cons_zero, List.set_cons_succ]
  refine wpAnyH_take (i := 6) (oi := ?_) (v := ?_) ?_ ?_ ?_ ?_ ?_ ?_ ?_ ?_
  rotate_left 2
  · simp only [List.getElem?_toArray, List.getElem?_cons_succ, List.getElem?_cons_zero]; rfl
  · kernel_rfl
  · kernel_rfl
  · kernel_rfl
  · exact fun _ _ _ h => h
  · refine Or.inl ⟨by rfl, ?_⟩
    intro w' hSw
    (try dsimp only at hSw)
    go_simp
    all_goals (with_reducible rfl)
  · assumption
  try simp only [Act.put, List.setIfInBounds_toArray, List.set_cons_zero, List.set_cons_succ]
  refine wpAnyH_take (i := 7) (oi := ?_) (v := ?_) ?_ ?_ ?_ ?_ ?_ ?_ ?_ ?_
  rotate_left 2
  · simp only [List.getElem?_toArray, List.getElem?_cons_succ, List.getElem?_cons_zero]; rfl
  · kernel_rfl
  · kernel_rfl
  · kernel_rfl
  · exact fun _ _ _ h => h
  · refine Or.inl ⟨by rfl, ?_⟩
    intro w' hSw
    (try dsimp only at hSw)
    go_simp
    all_goals (with_reducible rfl)
  · assumption
  try simp only [Act.put, List.setIfInBounds_toArray, List.set_cons_zero, List.set_cons_succ]
  refine wpAnyH_take (i := 9) (oi := ?_) (v := ?_) ?_ ?_ ?_ ?_ ?_ ?_ ?_ ?_
  rotate_left 2
  · simp only [List.getElem?_toArray, List.getElem?_cons_succ, List.getElem?_cons_zero]; rfl
  · kernel_rfl
  · kernel_rfl
  · kernel_rfl
  · exact fun _ _ _ h => h
  · refine Or.inl ⟨by rfl, ?_⟩
    intro w' hSw
    (try dsimp only at hSw)
    go_simp
    all_goals (with_reducible rfl)
  · assumption
  try simp only [Act.put, List.setIfInBounds_toArray, List.set_cons_zero, List.set_cons_succ]
  refine wpAnyH_ready (rs := [8]) (by kernel_rfl) (by simp) ?_
  refine AllReadyH.cons (o := ?_) ?_ ?_ ?_
  rotate_left 1
  · simp only [List.getElem?_toArray, List.getElem?_cons_succ, List.getElem?_cons_zero]; rfl
  rotate_left 1
  · exact AllReadyH.nil
  intro K hK
  go_simp
  ((with_reducible refine (CLG.out _).mono ?_); rintro e w7 ⟨rfl, b7⟩; have BN := Lib.hid (BD.out.trans (b7.mono BD.out.size)); clear b7)
  refine hK.out _ _ (SS.out _ BN.out) (fun hHeld => ?_)
  clear hK K
  try simp only [Act.put, List.setIfInBounds_toArray, List.set_cons_zero, List.set_cons_succ]
  refine wpAnyH_ready (rs := [10]) (by kernel_rfl) (by simp) ?_
  refine AllReadyH.cons (o := ?_) ?_ ?_ ?_
  rotate_left 1
  · simp only [List.getElem?_toArray, List.getElem?_cons_succ, List.getElem?_cons_zero]; rfl
  rotate_left 1
  · exact AllReadyH.nil
  intro K hK
  go_simp
  ((with_reducible refine (CM.out _ (RR.out _ BN.out)).mono ?_); rintro e w8 ⟨rfl, b8⟩; have BM := Lib.hid (BN.out.trans (b8.mono BN.out.size)); clear b8)
  refine hK.out _ _ (SS.out _ BM.out) (fun hHeld => ?_)
  clear hK K
  try simp only [Act.put, List.setIfInBounds_toArray, List.set_cons_zero, List.set_cons_succ]
  refine wpAnyH_take (i := 11) (oi := ?_) (v := ?_) ?_ ?_ ?_ ?_ ?_ ?_ ?_ ?_
  rotate_left 2
  · simp only [List.getElem?_toArray, List.getElem?_cons_succ, List.getElem?_cons_zero]; rfl
  · kernel_rfl
  · kernel_rfl
  · kernel_rfl
  · exact fun _ _ _ h => h
  · refine Or.inl ⟨by rfl, ?_⟩
    intro w' hSw
    (try dsimp only at hSw)
    go_simp
    all_goals (with_reducible rfl)
  · assumption
  try simp only [Act.put, List.setIfInBounds_toArray, List.set_cons_zero, List.set_cons_succ]
  refine wpAnyH_take (i := 12) (oi := ?_) (v := ?_) ?_ ?_ ?_ ?_ ?_ ?_ ?_ ?_
  rotate_left 2
  · simp only [List.getElem?_toArray, List.getElem?_cons_succ, List.getElem?_cons_zero]; rfl
  · kernel_rfl
  · kernel_rfl
  · kernel_rfl
  · exact fun _ _ _ h => h
  · refine Or.inl ⟨by rfl, ?_⟩
    intro w' hSw
    (try dsimp only at hSw)
    go_simp
    all_goals (with_reducible rfl)
  · assumption
  try simp only [Act.put, List.setIfInBounds_toArray, List.set_cons_zero, List.set_cons_succ]
  refine wpAnyH_take (i := 13) (oi := ?_) (v := ?_) ?_ ?_ ?_ ?_ ?_ ?_ ?_ ?_
  rotate_left 2
  · simp only [List.getElem?_toArray, List.getElem?_cons_succ, List.getElem?_cons_zero]; rfl
  · kernel_rfl
  · kernel_rfl
  · kernel_rfl
  · exact fun _ _ _ h => h
  · refine Or.inl ⟨by rfl, ?_⟩
    intro w' hSw
    (try dsimp only at hSw)
    go_simp
    all_goals (with_reducible rfl)
  · assumption
  try simp only [Act.put, List.setIfInBounds_toArray, List.set_cons_zero, List.set_cons_succ]
  refine wpAnyH_ready (rs := [14]) (by kernel_rfl) (by simp) ?_
  refine AllReadyH.cons (o := ?_) ?_ ?_ ?_
  rotate_left 1
  · simp only [List.getElem?_toArray, List.getElem?_cons_succ, List.getElem?_cons_zero]; rfl
  rotate_left 1
  · exact AllReadyH.nil
  intro K hK
  go_simp
  ((with_reducible refine (CM.out _ (RR.out _ BM.out)).mono ?_); rintro e w9 ⟨rfl, b9⟩; have BO := Lib.hid (BM.out.trans (b9.mono BM.out.size)); clear b9)
  refine hK.out _ _ (SS.out _ BO.out) (fun hHeld => ?_)
  clear hK K
  try simp only [Act.put, List.setIfInBounds_toArray, List.set_cons_zero, List.set_cons_succ]
  refine wpAnyH_take (i := 15) (oi := ?_) (v := ?_) ?_ ?_ ?_ ?_ ?_ ?_ ?_ ?_
  rotate_left 2
  · simp only [List.getElem?_toArray, List.getElem?_cons_succ, List.getElem?_cons_zero]; rfl
  · kernel_rfl
  · kernel_rfl
  · kernel_rfl
  · exact fun _ _ _ h => h
  · refine Or.inl ⟨by rfl, ?_⟩
    intro w' hSw
    (try dsimp only at hSw)
    go_simp
    all_goals (with_reducible rfl)
  · assumption
  try simp only [Act.put, List.setIfInBounds_toArray, List.set_cons_zero, List.set_cons_succ]
  refine wpAnyH_take (i := 16) (oi := ?_) (v := ?_) ?_ ?_ ?_ ?_ ?_ ?_ ?_ ?_
  rotate_left 2
  · simp only [List.getElem?_toArray, List.getElem?_cons_succ, List.getElem?_cons_zero]; rfl
  · kernel_rfl
  · kernel_rfl
  · kernel_rfl
  · exact fun _ _ _ h => h
  · refine Or.inl ⟨by rfl, ?_⟩
    intro w' hSw
    (try dsimp only at hSw)
    go_simp
    all_goals (with_reducible rfl)
  · assumption
  try simp only [Act.put, List.setIfInBounds_toArray, List.set_cons_zero, List.set_cons_succ]
  refine wpAnyH_take (i := 17) (oi := ?_) (v := ?_) ?_ ?_ ?_ ?_ ?_ ?_ ?_ ?_
  rotate_left 2
  · simp only [List.getElem?_toArray, List.getElem?_cons_succ, List.getElem?_cons_zero]; rfl
  · kernel_rfl
  · kernel_rfl
  · kernel_rfl
  · exact fun _ _ _ h => h
  · refine Or.inl ⟨by rfl, ?_⟩
    intro w' hSw
    (try dsimp only at hSw)
    go_simp
    all_goals (with_reducible rfl)
  · assumption
  try simp only [Act.put, List.setIfInBounds_toArray, List.set_cons_zero, List.set_cons_succ]
  refine wpAnyH_take (i := 18) (oi := ?_) (v := ?_) ?_ ?_ ?_ ?_ ?_ ?_ ?_ ?_
  rotate_left 2
  · simp only [List.getElem?_toArray, List.getElem?_cons_succ, List.getElem?_cons_zero]; rfl
  · kernel_rfl
  · kernel_rfl
  · kernel_rfl
  · exact fun _ _ _ h => h
  · refine Or.inl ⟨by rfl, ?_⟩
    intro w' hSw
    (try dsimp only at hSw)
    go_simp
    all_goals (with_reducible rfl)
  · assumption
  try simp only [Act.put, List.setIfInBounds_toArray, List.set_cons_zero, List.set_cons_succ]
  refine wpAnyH_take (i := 20) (oi := ?_) (v := ?_) ?_ ?_ ?_ ?_ ?_ ?_ ?_ ?_
  rotate_left 2
  · simp only [List.getElem?_toArray, List.getElem?_cons_succ, List.getElem?_cons_zero]; rfl
  · kernel_rfl
  · kernel_rfl
  · kernel_rfl
  · exact fun _ _ _ h => h
  · refine Or.inl ⟨by rfl, ?_⟩
    intro w' hSw
    (try dsimp only at hSw)
    go_simp
    all_goals (with_reducible rfl)
  · assumption
  try simp only [Act.put, List.setIfInBounds_toArray, List.set_cons_zero, List.set_cons_succ]
  refine wpAnyH_take (i := 21) (oi := ?_) (v := ?_) ?_ ?_ ?_ ?_ ?_ ?_ ?_ ?_
  rotate_left 2
  · simp only [List.getElem?_toArray, List.getElem?_cons_succ, List.getElem?_cons_zero]; rfl
  · kernel_rfl
  · kernel_rfl
  · kernel_rfl
  · exact fun _ _ _ h => h
  · refine Or.inl ⟨by rfl, ?_⟩
    intro w' hSw
    (try dsimp only at hSw)
    go_simp
    all_goals (with_reducible rfl)
  · assumption
  try simp only [Act.put, List.setIfInBounds_toArray, List.set_cons_zero, List.set_cons_succ]
  refine wpAnyH_ready (rs := [19]) (by kernel_rfl) (by simp) ?_
  refine AllReadyH.cons (o := ?_) ?_ ?_ ?_
  rotate_left 1
  · simp only [List.getElem?_toArray, List.getElem?_cons_succ, List.getElem?_cons_zero]; rfl
  rotate_left 1
  · exact AllReadyH.nil
  intro K hK
  go_simp
  ((with_reducible refine (CM.out _ (RR.out _ BO.out)).mono ?_); rintro e wa ⟨rfl, ba⟩; have BP := Lib.hid (BO.out.trans (ba.mono BO.out.size)); clear ba)
  refine hK.out _ _ (SS.out _ BP.out) (fun hHeld => ?_)
  clear hK K
  try simp only [Act.put, List.setIfInBounds_toArray, List.set_cons_zero, List.set_cons_succ]
  refine wpAnyH_take (i := 22) (oi := ?_) (v := ?_) ?_ ?_ ?_ ?_ ?_ ?_ ?_ ?_
  rotate_left 2
  · simp only [List.getElem?_toArray, List.getElem?_cons_succ, List.getElem?_cons_zero]; rfl
  · kernel_rfl
  · kernel_rfl
  · kernel_rfl
  · exact fun _ _ _ h => h
  · refine Or.inl ⟨by rfl, ?_⟩
    intro w' hSw
    (try dsimp only at hSw)
    go_simp
    all_goals (with_reducible rfl)
  · assumption
  try simp only [Act.put, List.setIfInBounds_toArray, List.set_cons_zero, List.set_cons_succ]
  refine wpAnyH_take (i := 23) (oi := ?_) (v := ?_) ?_ ?_ ?_ ?_ ?_ ?_ ?_ ?_
  rotate_left 2
  · simp only [List.getElem?_toArray, List.getElem?_cons_succ, List.getElem?_cons_zero]; rfl
  · kernel_rfl
  · kernel_rfl
  · kernel_rfl
  · exact fun _ _ _ h => h
  · refine Or.inl ⟨by rfl, ?_⟩
    intro w' hSw
    (try dsimp only at hSw)
    go_simp
    all_goals (with_reducible rfl)
  · assumption
  try simp only [Act.put, List.setIfInBounds_toArray, List.set_cons_zero, List.set_cons_succ]
  refine wpAnyH_take (i := 24) (oi := ?_) (v := ?_) ?_ ?_ ?_ ?_ ?_ ?_ ?_ ?_
  rotate_left 2
  · simp only [List.getElem?_toArray, List.getElem?_cons_succ, List.getElem?_cons_zero]; rfl
  · kernel_rfl
  · kernel_rfl
  · kernel_rfl
  · exact fun _ _ _ h => h
  · refine Or.inl ⟨by rfl, ?_⟩
    intro w' hSw
    (try dsimp only at hSw)
    go_simp
    all_goals (with_reducible rfl)
  · assumption
  try simp only [Act.put, List.setIfInBounds_toArray, List.set_cons_zero, List.set_cons_succ]
  refine wpAnyH_done (by kernel_rfl) ?_ _
  clear hHeld
  go_wp2
  go_ret
  exact ⟨rfl, BL6.out.trans (BP.out.mono BL6.out.size)⟩
end Go.Proofs.Ytfpknklnbgmflaa
