/- The contracts of layer 17 (config): may a configuration be. -/
import Derived.Test.YtfpknklnbgmflaaRuE
import Derived.Test.YtfpknklnbgmflaaCfI
import Derived.Test.YtfpknklnbgmflaaCfB
namespace Go.Proofs.Ytfpknklnbgmflaa
set_option linter.unusedSimpArgs false
set_option linter.unusedVariables false
open Go.ChangeShapes Go.WideShapes Go.ChangeAt Go.RowKit
open Ar (inR)
/-- may a configuration be? -/
def rightZ (Bu Co Ou : Int) (rs : List RuZ) : Prop :=
  (1 ≤ Co ∧ Co ≤ 16) ∧ (1 ≤ (rs.length : Int) ∧ (rs.length : Int) ≤ 8) ∧ (1 ≤ Bu ∧ Bu ≤ 4294967296) ∧ (∀ r ∈ rs, r.p) ∧ mostZ rs ≤ Ou ∧ Ou ≤ 65536 ∧ Co * Ou + sumB rs ≤ Bu
set_option maxHeartbeats 8000000 in
set_option maxRecDepth 100000 in
theorem right_any (Bu Co Ou : Int) (A : Option Addr) (n c : Nat) (rs : List RuZ) (v : Bool) (hv : v = true ↔ rightZ Bu Co Ou rs) (w : World) (hr : RdRu w A n c rs) :
    Calls Try.prog 14 #[.agg #[.int .i64 Bu, .int .i64 Co, .int .i64 Ou, .slice A n c]] w fun e w' => e = .returned (.bool v) ∧ Below w.heap.size w w' := by
  have hcp := hr.cap
  have hmx := hr.max
  unfold maxLen at hmx
  have HR := Lib.hid hr
  have HV := Lib.hid hv
  have HF := Lib.hid (fun (h : ¬ rightZ Bu Co Ou rs) => show v = false from Bool.eq_false_iff.2 (fun e => h (hv.1 e)))
  have hlen := hr.len
  clear hr hv
  by_cases hC : ¬ (1 ≤ Co ∧ Co ≤ 16)
  · have C0 := Lib.hid (fun w => within_no Co 16 hC w)
    have HN := Lib.hid (HF.out (fun rz => hC (by have := rz.1; omega)))
    clear hC
    go_enter Try.func14, Try.ntmps14
    go_upto_region 1 with (fail)
    obtain ⟨w1, hw1, hbk, hbl, hsz⟩ := box_new w (#[.int .i64 Bu, .int .i64 Co, .int .i64 Ou, .slice A n c]) 29
    change Code.wp _ _ _ _ (w.alloc (.cells (#[.int .i64 Bu, .int .i64 Co, .int .i64 Ou, .slice A n c]) 29))
    rw [hw1]
    obtain ⟨b1, hb1⟩ : ∃ b1, b1 = w.heap.size := ⟨_, rfl⟩
    rw [← hb1] at hbk ⊢
    have k0 := hbk.rd
    have BK1 := Lib.hid hbk
    have BL1 := Lib.hid hbl
    have HR1 := Lib.hid (HR.out.below hbl)
    clear hbk hbl hsz hw1 hb1
    go_wp2_with (first
      | (go_at_call 23; ((with_reducible refine (C0.out _).mono ?_); rintro e w9 ⟨rfl, rfl⟩)))
    go_ret
    exact ⟨congrArg (fun z => Ending.returned (.bool z)) HN.out.symm, BL1.out⟩
  replace hC := Classical.not_not.1 hC
  have C0 := Lib.hid (fun w => within_yes Co 16 hC w)
  by_cases hN : ¬ (1 ≤ (n : Int) ∧ (n : Int) ≤ 8)
  · have C1 := Lib.hid (fun w => within_no (n : Int) 8 hN w)
    have HN := Lib.hid (HF.out (fun rz => hN (by have := rz.2.1; omega)))
    clear hN
    go_enter Try.func14, Try.ntmps14
    go_upto_region 1 with (fail)
    obtain ⟨w1, hw1, hbk, hbl, hsz⟩ := box_new w (#[.int .i64 Bu, .int .i64 Co, .int .i64 Ou, .slice A n c]) 29
    change Code.wp _ _ _ _ (w.alloc (.cells (#[.int .i64 Bu, .int .i64 Co, .int .i64 Ou, .slice A n c]) 29))
    rw [hw1]
    obtain ⟨b1, hb1⟩ : ∃ b1, b1 = w.heap.size := ⟨_, rfl⟩
    rw [← hb1] at hbk ⊢
    have k0 := hbk.rd
    have BK1 := Lib.hid hbk
    have BL1 := Lib.hid hbl
    have HR1 := Lib.hid (HR.out.below hbl)
    clear hbk hbl hsz hw1 hb1
    go_wp2_with (first
      | (go_at_call 23; ((with_reducible refine (C0.out _).mono ?_); rintro e w9 ⟨rfl, rfl⟩))
      | (go_at_call 23; ((with_reducible refine (C1.out _).mono ?_); rintro e w9 ⟨rfl, rfl⟩)))
    go_ret
    exact ⟨congrArg (fun z => Ending.returned (.bool z)) HN.out.symm, BL1.out⟩
  replace hN := Classical.not_not.1 hN
  have C1 := Lib.hid (fun w => within_yes (n : Int) 8 hN w)
  by_cases hB : ¬ (1 ≤ Bu ∧ Bu ≤ 4294967296)
  · have C2 := Lib.hid (fun w => within_no Bu 4294967296 hB w)
    have HN := Lib.hid (HF.out (fun rz => hB (by have := rz.2.2.1; omega)))
    clear hB
    go_enter Try.func14, Try.ntmps14
    go_upto_region 1 with (fail)
    obtain ⟨w1, hw1, hbk, hbl, hsz⟩ := box_new w (#[.int .i64 Bu, .int .i64 Co, .int .i64 Ou, .slice A n c]) 29
    change Code.wp _ _ _ _ (w.alloc (.cells (#[.int .i64 Bu, .int .i64 Co, .int .i64 Ou, .slice A n c]) 29))
    rw [hw1]
    obtain ⟨b1, hb1⟩ : ∃ b1, b1 = w.heap.size := ⟨_, rfl⟩
    rw [← hb1] at hbk ⊢
    have k0 := hbk.rd
    have BK1 := Lib.hid hbk
    have BL1 := Lib.hid hbl
    have HR1 := Lib.hid (HR.out.below hbl)
    clear hbk hbl hsz hw1 hb1
    go_wp2_with (first
      | (go_at_call 23; ((with_reducible refine (C0.out _).mono ?_); rintro e w9 ⟨rfl, rfl⟩))
      | (go_at_call 23; ((with_reducible refine (C1.out _).mono ?_); rintro e w9 ⟨rfl, rfl⟩))
      | (go_at_call 23; ((with_reducible refine (C2.out _).mono ?_); rintro e w9 ⟨rfl, rfl⟩)))
    go_ret
    exact ⟨congrArg (fun z => Ending.returned (.bool z)) HN.out.symm, BL1.out⟩
  replace hB := Classical.not_not.1 hB
  have C2 := Lib.hid (fun w => within_yes Bu 4294967296 hB w)
  go_enter Try.func14, Try.ntmps14
  go_upto_region 1 with (fail)
  obtain ⟨w1, hw1, hbk, hbl, hsz⟩ := box_new w (#[.int .i64 Bu, .int .i64 Co, .int .i64 Ou, .slice A n c]) 29
  change Code.wp _ _ _ _ (w.alloc (.cells (#[.int .i64 Bu, .int .i64 Co, .int .i64 Ou, .slice A n c]) 29))
  rw [hw1]
  obtain ⟨b1, hb1⟩ : ∃ b1, b1 = w.heap.size := ⟨_, rfl⟩
  rw [← hb1] at hbk ⊢
  have k0 := hbk.rd
  have BK1 := Lib.hid hbk
  have BL1 := Lib.hid hbl
  have HR1 := Lib.hid (HR.out.below hbl)
  clear hbk hbl hsz hw1 hb1
  go_upto_region 4 with (first
    | (go_at_call 23; ((with_reducible refine (C0.out _).mono ?_); rintro e w9 ⟨rfl, rfl⟩))
    | (go_at_call 23; ((with_reducible refine (C1.out _).mono ?_); rintro e w9 ⟨rfl, rfl⟩))
    | (go_at_call 23; ((with_reducible refine (C2.out _).mono ?_); rintro e w9 ⟨rfl, rfl⟩)))
  clear k0 C0 C1 C2
  go_loopg [25] n (fun k s25 wr => ∃ i : Nat, i ≤ n ∧ k = n - i ∧ s25 = .int .i64 (i : Int) ∧ Hid (∀ r ∈ rs.take i, r.p) ∧ Below w1.heap.size w1 wr)
  case atStart => exact ⟨0, by omega, by omega, rfl, Lib.hid (by simp), Below.refl _ _⟩
  case round =>
    obtain ⟨i, hi, hkk, rfl, hall, hb⟩ := hrel
    have HK := Lib.hid hkk
    have HBR := Lib.hid hb
    have k1 := (BK1.out.keep hb).rd
    clear hkk
    by_cases hin : i < n
    · have hir : i < rs.length := by omega
      have HRR := Lib.hid (HR1.out.below hb)
      obtain ⟨gb, off, rfl, hlt, hc⟩ := (HR1.out.below hb).at_ (by omega)
      have hcc := hc i hir
      have HT := Lib.hid (List.take_succ_eq_append_getElem hir)
      have HM := Lib.hid (List.getElem_mem hir)
      obtain ⟨r, hrr⟩ : ∃ r, r = rs[i] := ⟨_, rfl⟩
      rw [← hrr] at hcc HT HM
      obtain ⟨L, W, B, Sl, Ce, Ro, Wi, Tr, sm⟩ := r
      have c0 := hcc 0 (by omega)
      have c1 := hcc 1 (by omega)
      have c2 := hcc 2 (by omega)
      have c3 := hcc 3 (by omega)
      have c4 := hcc 4 (by omega)
      have c5 := hcc 5 (by omega)
      have c6 := hcc 6 (by omega)
      have c7 := hcc 7 (by omega)
      have c8 := hcc 8 (by omega)
      simp [RuZ.c] at c0 c1 c2 c3 c4 c5 c6 c7 c8
      clear hrr hc hcc hb
      go_upto_region 6 with (fail)
      clear c0 c1 c2 c3 c4 c5 c6 c7 c8 k1
      obtain ⟨w3, hw3, hbk, hbl, hsz⟩ := box_new wr (ruC L W B Sl Ce Ro Wi Tr sm) 23
      change Code.wp _ _ _ _ (wr.alloc (.cells (ruC L W B Sl Ce Ro Wi Tr sm) 23))
      rw [hw3]
      obtain ⟨b3, hb3⟩ : ∃ b3, b3 = wr.heap.size := ⟨_, rfl⟩
      rw [← hb3] at hbk ⊢
      have k3 := hbk.rd
      have B3 := Lib.hid (HBR.out.trans (hbl.mono HBR.out.size))
      have BK3 := Lib.hid hbk
      have BK5 := Lib.hid (BK1.out.keep B3.out)
      have HR3 := Lib.hid (HRR.out.below hbl)
      have k1 := BK5.out.rd
      clear hbk hbl hsz hw3 hb3 hlt k3 k1
      have y1 : ∀ i, w3.drew.cell? ⟨b1, i, none⟩ = (#[.int .i64 Bu, .int .i64 Co, .int .i64 Ou, .slice (some ⟨gb, off, none⟩) n c] : Array Value)[i]? := (Blk.drew BK5.out).rd
      have y2 : ∀ i, w3.drew.cell? ⟨b3, i, none⟩ = (ruC L W B Sl Ce Ro Wi Tr sm)[i]? := (Blk.drew BK3.out).rd
      have y3 : Below w3.heap.size w3 w3.drew := below_draws (Below.refl _ _) 1
      have sb1 : (0 : Int) ≤ (i : Int) := by omega
      have sb2 : (i : Int) ≤ (c : Int) := by omega
      have sb3 : (n : Int) ≤ (c : Int) := by omega
      by_cases hin2 : RuZ.mk L W B Sl Ce Ro Wi Tr sm ∈ rs.take i
      · have HIN := Lib.hid hin2
        have GA := Lib.hid (fun (wx : World) (hx : Below w3.heap.size w3 wx) => show Calls Try.prog 28 #[.slice (some ⟨gb, off, none⟩) i c, ruV L W B Sl Ce Ro Wi Tr sm] wx (fun e w' => e = .returned (.bool true) ∧ (∀ i, w'.cell? ⟨b1, i, none⟩ = (#[.int .i64 Bu, .int .i64 Co, .int .i64 Ou, .slice (some ⟨gb, off, none⟩) n c] : Array Value)[i]?) ∧ (∀ i, w'.cell? ⟨b3, i, none⟩ = (ruC L W B Sl Ce Ro Wi Tr sm)[i]?) ∧ Below w3.heap.size w3 w') from (asked_any (some ⟨gb, off, none⟩) i c (rs.take i) ⟨L, W, B, Sl, Ce, Ro, Wi, Tr, sm⟩ true ⟨fun _ => hin2, fun _ => rfl⟩ wx ((HR3.out.below hx).take hi)).mono (fun e w' hh => ⟨hh.1, (BK5.out.keep (hx.trans (hh.2.mono hx.size))).rd, (BK3.out.keep (hx.trans (hh.2.mono hx.size))).rd, hx.trans (hh.2.mono hx.size)⟩))
        clear hin2
        have y0 := And.intro y1 (And.intro y2 y3)
        refine wp_region_held_drew (S := (fun w' => (∀ i, w'.cell? ⟨b1, i, none⟩ = (#[.int .i64 Bu, .int .i64 Co, .int .i64 Ou, .slice (some ⟨gb, off, none⟩) n c] : Array Value)[i]?) ∧ (∀ i, w'.cell? ⟨b3, i, none⟩ = (ruC L W B Sl Ce Ro Wi Tr sm)[i]?) ∧ Below w3.heap.size w3 w')) (by kernel_rfl) y0 (fun hHeld => ?_)
        clear y0 y1 y2 y3
        refine wpAnyH_take (i := 0) (oi := ?_) (v := ?_) ?_ ?_ ?_ ?_ ?_ ?_ ?_ ?_
        rotate_left 2
        · simp only [List.getElem?_toArray, List.getElem?_cons_succ, List.getElem?_cons_zero]; rfl
        · kernel_rfl
        · kernel_rfl
        · kernel_rfl
        · exact fun _ _ _ h => h
        · refine Or.inl ⟨by rfl, ?_⟩
          intro w' hSw
          (try dsimp only at hSw)
          go_simp
          all_goals (with_reducible rfl)
        · assumption
        try simp only [Act.put, List.setIfInBounds_toArray, List.set_cons_zero, List.set_cons_succ]
        refine wpAnyH_take (i := 1) (oi := ?_) (v := ?_) ?_ ?_ ?_ ?_ ?_ ?_ ?_ ?_
        rotate_left 2
        · simp only [List.getElem?_toArray, List.getElem?_cons_succ, List.getElem?_cons_zero]; rfl
        · kernel_rfl
        · kernel_rfl
        · kernel_rfl
        · exact fun _ _ _ h => h
        · refine Or.inl ⟨by rfl, ?_⟩
          intro w' hSw
          (try dsimp only at hSw)
          go_simp
          all_goals (with_reducible rfl)
        · assumption
        try simp only [Act.put, List.setIfInBounds_toArray, List.set_cons_zero, List.set_cons_succ]
        refine wpAnyH_take (i := 2) (oi := ?_) (v := ?_) ?_ ?_ ?_ ?_ ?_ ?_ ?_ ?_
        rotate_left 2
        · simp only [List.getElem?_toArray, List.getElem?_cons_succ, List.getElem?_cons_zero]; rfl
        · kernel_rfl
        · kernel_rfl
        · kernel_rfl
        · exact fun _ _ _ h => h
        · refine Or.inl ⟨by rfl, ?_⟩
          intro w' hSw
          (try dsimp only at hSw)
          go_simp
          all_goals (with_reducible rfl)
        · assumption
        try simp only [Act.put, List.setIfInBounds_toArray, List.set_cons_zero, List.set_cons_succ]
        refine wpAnyH_take (i := 3) (oi := ?_) (v := ?_) ?_ ?_ ?_ ?_ ?_ ?_ ?_ ?_
        rotate_left 2
        · simp only [List.getElem?_toArray, List.getElem?_cons_succ, List.getElem?_cons_zero]; rfl
        · kernel_rfl
        · kernel_rfl
        · kernel_rfl
        · exact fun _ _ _ h => h
        · refine Or.inl ⟨by rfl, ?_⟩
          intro w' hSw
          (try dsimp only at hSw)
          go_simp
          all_goals (with_reducible rfl)
        · assumption
        try simp only [Act.put, List.setIfInBounds_toArray, List.set_cons_zero, List.set_cons_succ]
        refine wpAnyH_take (i := 4) (oi := ?_) (v := ?_) ?_ ?_ ?_ ?_ ?_ ?_ ?_ ?_
        rotate_left 2
        · simp only [List.getElem?_toArray, List.getElem?_cons_succ, List.getElem?_cons_zero]; rfl
        · kernel_rfl
        · kernel_rfl
        · kernel_rfl
        · exact fun _ _ _ h => h
        · refine Or.inl ⟨by rfl, ?_⟩
          intro w' hSw
          (try dsimp only at hSw)
          go_simp
          all_goals (with_reducible rfl)
        · assumption
        try simp only [Act.put, List.setIfInBounds_toArray, List.set_cons_zero, List.set_cons_succ]
        refine wpAnyH_ready (rs := [5]) (by kernel_rfl) (by simp) ?_
        refine AllReadyH.cons (o := ?_) ?_ ?_ ?_
        rotate_left 1
        · simp only [List.getElem?_toArray, List.getElem?_cons_succ, List.getElem?_cons_zero]; rfl
        rotate_left 1
        · exact AllReadyH.nil
        intro K hK
        go_simp
        go_at_call 28; ((with_reducible refine (GA.out _ hHeld.2.2).mono ?_); rintro e w4 ⟨rfl, z1, z2, z3⟩)
        refine hK.out _ _ ⟨z1, z2, z3⟩ (fun hHeld => ?_)
        clear hK K
        try simp only [Act.put, List.setIfInBounds_toArray, List.set_cons_zero, List.set_cons_succ]
        refine wpAnyH_take (i := 6) (oi := ?_) (v := ?_) ?_ ?_ ?_ ?_ ?_ ?_ ?_ ?_
        rotate_left 2
        · simp only [List.getElem?_toArray, List.getElem?_cons_succ, List.getElem?_cons_zero]; rfl
        · kernel_rfl
        · kernel_rfl
        · kernel_rfl
        · exact fun _ _ _ h => h
        · refine Or.inl ⟨by rfl, ?_⟩
          intro w' hSw
          (try dsimp only at hSw)
          go_simp
          all_goals (with_reducible rfl)
        · assumption
        try simp only [Act.put, List.setIfInBounds_toArray, List.set_cons_zero, List.set_cons_succ]
        refine wpAnyH_take (i := 7) (oi := ?_) (v := ?_) ?_ ?_ ?_ ?_ ?_ ?_ ?_ ?_
        rotate_left 2
        · simp only [List.getElem?_toArray, List.getElem?_cons_succ, List.getElem?_cons_zero]; rfl
        · kernel_rfl
        · kernel_rfl
        · kernel_rfl
        · exact fun _ _ _ h => h
        · refine Or.inl ⟨by rfl, ?_⟩
          intro w' hSw
          (try dsimp only at hSw)
          go_simp
          all_goals (with_reducible rfl)
        · assumption
        try simp only [Act.put, List.setIfInBounds_toArray, List.set_cons_zero, List.set_cons_succ]
        refine wpAnyH_take (i := 8) (oi := ?_) (v := undef) ?_ ?_ ?_ ?_ ?_ ?_ ?_ ?_
        rotate_left 1
        · simp only [List.getElem?_toArray, List.getElem?_cons_succ, List.getElem?_cons_zero]; rfl
        · kernel_rfl
        · kernel_rfl
        · kernel_rfl
        · exact fun _ _ _ h => h
        · exact Or.inr ⟨by kernel_rfl, rfl⟩
        · assumption
        try simp only [Act.put, List.setIfInBounds_toArray, List.set_cons_zero, List.set_cons_succ]
        refine wpAnyH_take (i := 9) (oi := ?_) (v := undef) ?_ ?_ ?_ ?_ ?_ ?_ ?_ ?_
        rotate_left 1
        · simp only [List.getElem?_toArray, List.getElem?_cons_succ, List.getElem?_cons_zero]; rfl
        · kernel_rfl
        · kernel_rfl
        · kernel_rfl
        · exact fun _ _ _ h => h
        · exact Or.inr ⟨by kernel_rfl, rfl⟩
        · assumption
        try simp only [Act.put, List.setIfInBounds_toArray, List.set_cons_zero, List.set_cons_succ]
        refine wpAnyH_take (i := 10) (oi := ?_) (v := undef) ?_ ?_ ?_ ?_ ?_ ?_ ?_ ?_
        rotate_left 1
        · simp only [List.getElem?_toArray, List.getElem?_cons_succ, List.getElem?_cons_zero]; rfl
        · kernel_rfl
        · kernel_rfl
        · kernel_rfl
        · exact fun _ _ _ h => h
        · exact Or.inr ⟨by kernel_rfl, rfl⟩
        · assumption
        try simp only [Act.put, List.setIfInBounds_toArray, List.set_cons_zero, List.set_cons_succ]
        refine wpAnyH_take (i := 11) (oi := ?_) (v := ?_) ?_ ?_ ?_ ?_ ?_ ?_ ?_ ?_
        rotate_left 2
        · simp only [List.getElem?_toArray, List.getElem?_cons_succ, List.getElem?_cons_zero]; rfl
        · kernel_rfl
        · kernel_rfl
        · kernel_rfl
        · exact fun _ _ _ h => h
        · refine Or.inl ⟨by rfl, ?_⟩
          intro w' hSw
          (try dsimp only at hSw)
          go_simp
          all_goals (with_reducible rfl)
        · assumption
        try simp only [Act.put, List.setIfInBounds_toArray, List.set_cons_zero, List.set_cons_succ]
        refine wpAnyH_done (by kernel_rfl) ?_ _
        go_wp2
        go_roundg (n - (i + 1))
        case measure => have := HK.out; omega
        case rel =>
          refine ⟨i + 1, by omega, by omega, by go_num, Lib.hid ?_, B3.out.trans (z3.mono B3.out.size)⟩
          intro r hr
          rw [HT.out, List.mem_append] at hr
          rcases hr with h | h
          · exact hall.out r h
          · rw [List.mem_singleton] at h
            subst h
            exact hall.out _ HIN.out
      · have GA := Lib.hid (fun (wx : World) (hx : Below w3.heap.size w3 wx) => show Calls Try.prog 28 #[.slice (some ⟨gb, off, none⟩) i c, ruV L W B Sl Ce Ro Wi Tr sm] wx (fun e w' => e = .returned (.bool false) ∧ (∀ i, w'.cell? ⟨b1, i, none⟩ = (#[.int .i64 Bu, .int .i64 Co, .int .i64 Ou, .slice (some ⟨gb, off, none⟩) n c] : Array Value)[i]?) ∧ (∀ i, w'.cell? ⟨b3, i, none⟩ = (ruC L W B Sl Ce Ro Wi Tr sm)[i]?) ∧ Below w3.heap.size w3 w') from (asked_any (some ⟨gb, off, none⟩) i c (rs.take i) ⟨L, W, B, Sl, Ce, Ro, Wi, Tr, sm⟩ false ⟨fun h => absurd h (by simp), fun h => absurd h hin2⟩ wx ((HR3.out.below hx).take hi)).mono (fun e w' hh => ⟨hh.1, (BK5.out.keep (hx.trans (hh.2.mono hx.size))).rd, (BK3.out.keep (hx.trans (hh.2.mono hx.size))).rd, hx.trans (hh.2.mono hx.size)⟩))
        clear hin2
        by_cases hpr : (RuZ.mk L W B Sl Ce Ro Wi Tr sm).p
        · have HPR := Lib.hid hpr
          have GR := Lib.hid (fun (wx : World) (hx : Below w3.heap.size w3 wx) => show Calls Try.prog 10 #[ruV L W B Sl Ce Ro Wi Tr sm] wx (fun e w' => e = .returned (.bool true) ∧ (∀ i, w'.cell? ⟨b1, i, none⟩ = (#[.int .i64 Bu, .int .i64 Co, .int .i64 Ou, .slice (some ⟨gb, off, none⟩) n c] : Array Value)[i]?) ∧ (∀ i, w'.cell? ⟨b3, i, none⟩ = (ruC L W B Sl Ce Ro Wi Tr sm)[i]?) ∧ Below w3.heap.size w3 w') from ((rr_any L W B Sl Ce Ro Wi Tr sm wx).1 hpr).mono (fun e w' hh => ⟨hh.1, (BK5.out.keep (hx.trans (hh.2.mono hx.size))).rd, (BK3.out.keep (hx.trans (hh.2.mono hx.size))).rd, hx.trans (hh.2.mono hx.size)⟩))
          clear hpr
          go_region_held3 (fun w' => (∀ i, w'.cell? ⟨b1, i, none⟩ = (#[.int .i64 Bu, .int .i64 Co, .int .i64 Ou, .slice (some ⟨gb, off, none⟩) n c] : Array Value)[i]?) ∧ (∀ i, w'.cell? ⟨b3, i, none⟩ = (ruC L W B Sl Ce Ro Wi Tr sm)[i]?) ∧ Below w3.heap.size w3 w') (first | (refine ⟨?_, ?_, ?_⟩ <;> assumption) | go_keep)
            (first
              | (go_at_call 28; ((with_reducible refine (GA.out _ (by assumption)).mono ?_); rintro e w4 ⟨rfl, z1, z2, z3⟩))
              | (go_at_call 10; ((with_reducible refine (GR.out _ (by assumption)).mono ?_); rintro e w4 ⟨rfl, z1, z2, z3⟩)))
          go_wp2
          go_roundg (n - (i + 1))
          case measure => have := HK.out; omega
          case rel =>
            refine ⟨i + 1, by omega, by omega, by go_num, Lib.hid ?_, B3.out.trans (z3.mono B3.out.size)⟩
            intro r hr
            rw [HT.out, List.mem_append] at hr
            rcases hr with h | h
            · exact hall.out r h
            · rw [List.mem_singleton] at h
              subst h
              exact HPR.out
        · have HN := Lib.hid (HF.out (fun rz => hpr (rz.2.2.2.1 _ HM.out)))
          have GR := Lib.hid (fun (wx : World) (hx : Below w3.heap.size w3 wx) => show Calls Try.prog 10 #[ruV L W B Sl Ce Ro Wi Tr sm] wx (fun e w' => e = .returned (.bool false) ∧ (∀ i, w'.cell? ⟨b1, i, none⟩ = (#[.int .i64 Bu, .int .i64 Co, .int .i64 Ou, .slice (some ⟨gb, off, none⟩) n c] : Array Value)[i]?) ∧ (∀ i, w'.cell? ⟨b3, i, none⟩ = (ruC L W B Sl Ce Ro Wi Tr sm)[i]?) ∧ Below w3.heap.size w3 w') from ((rr_any L W B Sl Ce Ro Wi Tr sm wx).2 hpr).mono (fun e w' hh => ⟨hh.1, (BK5.out.keep (hx.trans (hh.2.mono hx.size))).rd, (BK3.out.keep (hx.trans (hh.2.mono hx.size))).rd, hx.trans (hh.2.mono hx.size)⟩))
          clear hpr
          go_region_held3 (fun w' => (∀ i, w'.cell? ⟨b1, i, none⟩ = (#[.int .i64 Bu, .int .i64 Co, .int .i64 Ou, .slice (some ⟨gb, off, none⟩) n c] : Array Value)[i]?) ∧ (∀ i, w'.cell? ⟨b3, i, none⟩ = (ruC L W B Sl Ce Ro Wi Tr sm)[i]?) ∧ Below w3.heap.size w3 w') (first | (refine ⟨?_, ?_, ?_⟩ <;> assumption) | go_keep)
            (first
              | (go_at_call 28; ((with_reducible refine (GA.out _ (by assumption)).mono ?_); rintro e w4 ⟨rfl, z1, z2, z3⟩))
              | (go_at_call 10; ((with_reducible refine (GR.out _ (by assumption)).mono ?_); rintro e w4 ⟨rfl, z1, z2, z3⟩)))
          go_wp2
          go_ret
          exact ⟨congrArg (fun z => Ending.returned (.bool z)) HN.out.symm, BL1.out.trans ((B3.out.trans (z3.mono B3.out.size)).mono BL1.out.size)⟩
    · have hie : i = n := by omega
      subst hie
      have HALL := Lib.hid (show ∀ r ∈ rs, r.p from fun r hr => hall.out r (by rw [List.take_of_length_le (by omega)]; exact hr))
      go_upto_region 9 with (fail)
      have BKR := Lib.hid (BK1.out.keep HBR.out)
      have HRW := Lib.hid (HR1.out.below HBR.out)
      have y1 : ∀ k, wr.drew.cell? ⟨b1, k, none⟩ = (#[.int .i64 Bu, .int .i64 Co, .int .i64 Ou, .slice A i c] : Array Value)[k]? := (Blk.drew BKR.out).rd
      have y3 : Below wr.heap.size wr wr.drew := below_draws (Below.refl _ _) 1
      obtain ⟨M, hM⟩ : ∃ M, mostZ rs = M := ⟨_, rfl⟩
      have hMb : 6 ≤ M ∧ M ≤ 5191 := by rw [← hM]; exact most_bd rs 6 (by omega) HALL.out
      have hm0 := Lib.hid (fun (wx : World) (hx : Below wr.heap.size wr wx) => most_any Bu Co Ou A i c rs wx (HRW.out.below hx) HALL.out)
      rw [hM] at hm0
      have GM := Lib.hid (fun (wx : World) (hx : Below wr.heap.size wr wx) => show Calls Try.prog 16 #[.agg #[.int .i64 Bu, .int .i64 Co, .int .i64 Ou, .slice A i c]] wx (fun e w' => e = .returned (.int .i64 M) ∧ (∀ k, w'.cell? ⟨b1, k, none⟩ = (#[.int .i64 Bu, .int .i64 Co, .int .i64 Ou, .slice A i c] : Array Value)[k]?) ∧ Below wr.heap.size wr w') from (hm0.out wx hx).mono (fun e w' hh => ⟨hh.1, (BKR.out.keep (hx.trans (hh.2.mono hx.size))).rd, hx.trans (hh.2.mono hx.size)⟩))
      by_cases hA : ¬ M ≤ Ou
      · have HN := Lib.hid (HF.out (fun rz => hA (by rw [← hM]; exact rz.2.2.2.2.1)))
        clear hM
        have y0 := And.intro y1 y3
        refine wp_region_held_drew (S := (fun w' => (∀ k, w'.cell? ⟨b1, k, none⟩ = (#[.int .i64 Bu, .int .i64 Co, .int .i64 Ou, .slice A i c] : Array Value)[k]?) ∧ Below wr.heap.size wr w')) (by kernel_rfl) y0 (fun hHeld => ?_)
        clear y0 y1 y3
        refine wpAnyH_take (i := 0) (oi := ?_) (v := ?_) ?_ ?_ ?_ ?_ ?_ ?_ ?_ ?_
        rotate_left 2
        · simp only [List.getElem?_toArray, List.getElem?_cons_succ, List.getElem?_cons_zero]; rfl
        · kernel_rfl
        · kernel_rfl
        · kernel_rfl
        · exact fun _ _ _ h => h
        · refine Or.inl ⟨by rfl, ?_⟩
          intro w' hSw
          (try dsimp only at hSw)
          go_simp
          all_goals (with_reducible rfl)
        · assumption
        try simp only [Act.put, List.setIfInBounds_toArray, List.set_cons_zero, List.set_cons_succ]
        refine wpAnyH_take (i := 1) (oi := ?_) (v := ?_) ?_ ?_ ?_ ?_ ?_ ?_ ?_ ?_
        rotate_left 2
        · simp only [List.getElem?_toArray, List.getElem?_cons_succ, List.getElem?_cons_zero]; rfl
        · kernel_rfl
        · kernel_rfl
        · kernel_rfl
        · exact fun _ _ _ h => h
        · refine Or.inl ⟨by rfl, ?_⟩
          intro w' hSw
          (try dsimp only at hSw)
          go_simp
          all_goals (with_reducible rfl)
        · assumption
        try simp only [Act.put, List.setIfInBounds_toArray, List.set_cons_zero, List.set_cons_succ]
        refine wpAnyH_take (i := 2) (oi := ?_) (v := ?_) ?_ ?_ ?_ ?_ ?_ ?_ ?_ ?_
        rotate_left 2
        · simp only [List.getElem?_toArray, List.getElem?_cons_succ, List.getElem?_cons_zero]; rfl
        · kernel_rfl
        · kernel_rfl
        · kernel_rfl
        · exact fun _ _ _ h => h
        · refine Or.inl ⟨by rfl, ?_⟩
          intro w' hSw
          (try dsimp only at hSw)
          go_simp
          all_goals (with_reducible rfl)
        · assumption
        try simp only [Act.put, List.setIfInBounds_toArray, List.set_cons_zero, List.set_cons_succ]
        refine wpAnyH_ready (rs := [3]) (by kernel_rfl) (by simp) ?_
        refine AllReadyH.cons (o := ?_) ?_ ?_ ?_
        rotate_left 1
        · simp only [List.getElem?_toArray, List.getElem?_cons_succ, List.getElem?_cons_zero]; rfl
        rotate_left 1
        · exact AllReadyH.nil
        intro K hK
        go_simp
        go_at_call 16; ((with_reducible refine (GM.out _ hHeld.2).mono ?_); rintro e w4 ⟨rfl, z1, z3⟩)
        refine hK.out _ _ ⟨z1, z3⟩ (fun hHeld => ?_)
        clear hK K
        try simp only [Act.put, List.setIfInBounds_toArray, List.set_cons_zero, List.set_cons_succ]
        refine wpAnyH_take (i := 4) (oi := ?_) (v := ?_) ?_ ?_ ?_ ?_ ?_ ?_ ?_ ?_
        rotate_left 2
        · simp only [List.getElem?_toArray, List.getElem?_cons_succ, List.getElem?_cons_zero]; rfl
        · kernel_rfl
        · kernel_rfl
        · kernel_rfl
        · exact fun _ _ _ h => h
        · refine Or.inl ⟨by rfl, ?_⟩
          intro w' hSw
          (try dsimp only at hSw)
          go_simp
          all_goals (with_reducible rfl)
        · assumption
        try simp only [Act.put, List.setIfInBounds_toArray, List.set_cons_zero, List.set_cons_succ]
        refine wpAnyH_take (i := 5) (oi := ?_) (v := ?_) ?_ ?_ ?_ ?_ ?_ ?_ ?_ ?_
        rotate_left 2
        · simp only [List.getElem?_toArray, List.getElem?_cons_succ, List.getElem?_cons_zero]; rfl
        · kernel_rfl
        · kernel_rfl
        · kernel_rfl
        · exact fun _ _ _ h => h
        · refine Or.inl ⟨by rfl, ?_⟩
          intro w' hSw
          (try dsimp only at hSw)
          go_simp
          all_goals (with_reducible rfl)
        · assumption
        try simp only [Act.put, List.setIfInBounds_toArray, List.set_cons_zero, List.set_cons_succ]
        refine wpAnyH_take (i := 6) (oi := ?_) (v := undef) ?_ ?_ ?_ ?_ ?_ ?_ ?_ ?_
        rotate_left 1
        · simp only [List.getElem?_toArray, List.getElem?_cons_succ, List.getElem?_cons_zero]; rfl
        · kernel_rfl
        · kernel_rfl
        · kernel_rfl
        · exact fun _ _ _ h => h
        · exact Or.inr ⟨by kernel_rfl, rfl⟩
        · assumption
        try simp only [Act.put, List.setIfInBounds_toArray, List.set_cons_zero, List.set_cons_succ]
        refine wpAnyH_take (i := 7) (oi := ?_) (v := undef) ?_ ?_ ?_ ?_ ?_ ?_ ?_ ?_
        rotate_left 1
        · simp only [List.getElem?_toArray, List.getElem?_cons_succ, List.getElem?_cons_zero]; rfl
        · kernel_rfl
        · kernel_rfl
        · kernel_rfl
        · exact fun _ _ _ h => h
        · exact Or.inr ⟨by kernel_rfl, rfl⟩
        · assumption
        try simp only [Act.put, List.setIfInBounds_toArray, List.set_cons_zero, List.set_cons_succ]
        refine wpAnyH_take (i := 8) (oi := ?_) (v := undef) ?_ ?_ ?_ ?_ ?_ ?_ ?_ ?_
        rotate_left 1
        · simp only [List.getElem?_toArray, List.getElem?_cons_succ, List.getElem?_cons_zero]; rfl
        · kernel_rfl
        · kernel_rfl
        · kernel_rfl
        · exact fun _ _ _ h => h
        · exact Or.inr ⟨by kernel_rfl, rfl⟩
        · assumption
        try simp only [Act.put, List.setIfInBounds_toArray, List.set_cons_zero, List.set_cons_succ]
        refine wpAnyH_take (i := 9) (oi := ?_) (v := ?_) ?_ ?_ ?_ ?_ ?_ ?_ ?_ ?_
        rotate_left 2
        · simp only [List.getElem?_toArray, List.getElem?_cons_succ, List.getElem?_cons_zero]; rfl
        · kernel_rfl
        · kernel_rfl
        · kernel_rfl
        · exact fun _ _ _ h => h
        · refine Or.inl ⟨by rfl, ?_⟩
          intro w' hSw
          (try dsimp only at hSw)
          go_simp
          all_goals (with_reducible rfl)
        · assumption
        try simp only [Act.put, List.setIfInBounds_toArray, List.set_cons_zero, List.set_cons_succ]
        refine wpAnyH_take (i := 10) (oi := ?_) (v := ?_) ?_ ?_ ?_ ?_ ?_ ?_ ?_ ?_
        rotate_left 2
        · simp only [List.getElem?_toArray, List.getElem?_cons_succ, List.getElem?_cons_zero]; rfl
        · kernel_rfl
        · kernel_rfl
        · kernel_rfl
        · exact fun _ _ _ h => h
        · refine Or.inl ⟨by rfl, ?_⟩
          intro w' hSw
          (try dsimp only at hSw)
          go_simp
          all_goals (with_reducible rfl)
        · assumption
        try simp only [Act.put, List.setIfInBounds_toArray, List.set_cons_zero, List.set_cons_succ]
        refine wpAnyH_take (i := 11) (oi := ?_) (v := undef) ?_ ?_ ?_ ?_ ?_ ?_ ?_ ?_
        rotate_left 1
        · simp only [List.getElem?_toArray, List.getElem?_cons_succ, List.getElem?_cons_zero]; rfl
        · kernel_rfl
        · kernel_rfl
        · kernel_rfl
        · exact fun _ _ _ h => h
        · exact Or.inr ⟨by kernel_rfl, rfl⟩
        · assumption
        try simp only [Act.put, List.setIfInBounds_toArray, List.set_cons_zero, List.set_cons_succ]
        refine wpAnyH_take (i := 12) (oi := ?_) (v := undef) ?_ ?_ ?_ ?_ ?_ ?_ ?_ ?_
        rotate_left 1
        · simp only [List.getElem?_toArray, List.getElem?_cons_succ, List.getElem?_cons_zero]; rfl
        · kernel_rfl
        · kernel_rfl
        · kernel_rfl
        · exact fun _ _ _ h => h
        · exact Or.inr ⟨by kernel_rfl, rfl⟩
        · assumption
        try simp only [Act.put, List.setIfInBounds_toArray, List.set_cons_zero, List.set_cons_succ]
        refine wpAnyH_take (i := 13) (oi := ?_) (v := undef) ?_ ?_ ?_ ?_ ?_ ?_ ?_ ?_
        rotate_left 1
        · simp only [List.getElem?_toArray, List.getElem?_cons_succ, List.getElem?_cons_zero]; rfl
        · kernel_rfl
        · kernel_rfl
        · kernel_rfl
        · exact fun _ _ _ h => h
        · exact Or.inr ⟨by kernel_rfl, rfl⟩
        · assumption
        try simp only [Act.put, List.setIfInBounds_toArray, List.set_cons_zero, List.set_cons_succ]
        refine wpAnyH_take (i := 14) (oi := ?_) (v := undef) ?_ ?_ ?_ ?_ ?_ ?_ ?_ ?_
        rotate_left 1
        · simp only [List.getElem?_toArray, List.getElem?_cons_succ, List.getElem?_cons_zero]; rfl
        · kernel_rfl
        · kernel_rfl
        · kernel_rfl
        · exact fun _ _ _ h => h
        · exact Or.inr ⟨by kernel_rfl, rfl⟩
        · assumption
        try simp only [Act.put, List.setIfInBounds_toArray, List.set_cons_zero, List.set_cons_succ]
        refine wpAnyH_take (i := 15) (oi := ?_) (v := undef) ?_ ?_ ?_ ?_ ?_ ?_ ?_ ?_
        rotate_left 1
        · simp only [List.getElem?_toArray, List.getElem?_cons_succ, List.getElem?_cons_zero]; rfl
        · kernel_rfl
        · kernel_rfl
        · kernel_rfl
        · exact fun _ _ _ h => h
        · exact Or.inr ⟨by kernel_rfl, rfl⟩
        · assumption
        try simp only [Act.put, List.setIfInBounds_toArray, List.set_cons_zero, List.set_cons_succ]
        refine wpAnyH_take (i := 16) (oi := ?_) (v := ?_) ?_ ?_ ?_ ?_ ?_ ?_ ?_ ?_
        rotate_left 2
        · simp only [List.getElem?_toArray, List.getElem?_cons_succ, List.getElem?_cons_zero]; rfl
        · kernel_rfl
        · kernel_rfl
        · kernel_rfl
        · exact fun _ _ _ h => h
        · refine Or.inl ⟨by rfl, ?_⟩
          intro w' hSw
          (try dsimp only at hSw)
          go_simp
          all_goals (with_reducible rfl)
        · assumption
        try simp only [Act.put, List.setIfInBounds_toArray, List.set_cons_zero, List.set_cons_succ]
        refine wpAnyH_take (i := 17) (oi := ?_) (v := ?_) ?_ ?_ ?_ ?_ ?_ ?_ ?_ ?_
        rotate_left 2
        · simp only [List.getElem?_toArray, List.getElem?_cons_succ, List.getElem?_cons_zero]; rfl
        · kernel_rfl
        · kernel_rfl
        · kernel_rfl
        · exact fun _ _ _ h => h
        · refine Or.inl ⟨by rfl, ?_⟩
          intro w' hSw
          (try dsimp only at hSw)
          go_simp
          all_goals (with_reducible rfl)
        · assumption
        try simp only [Act.put, List.setIfInBounds_toArray, List.set_cons_zero, List.set_cons_succ]
        refine wpAnyH_done (by kernel_rfl) ?_ _
        go_wp2
        go_ret
        exact ⟨congrArg (fun z => Ending.returned (.bool z)) HN.out.symm, BL1.out.trans ((HBR.out.trans (z3.mono HBR.out.size)).mono BL1.out.size)⟩
      have hA2 : M ≤ Ou := Classical.not_not.1 hA
      clear hA
      by_cases hO : ¬ Ou ≤ 65536
      · have HN := Lib.hid (HF.out (fun rz => hO rz.2.2.2.2.2.1))
        clear hM
        have y0 := And.intro y1 y3
        refine wp_region_held_drew (S := (fun w' => (∀ k, w'.cell? ⟨b1, k, none⟩ = (#[.int .i64 Bu, .int .i64 Co, .int .i64 Ou, .slice A i c] : Array Value)[k]?) ∧ Below wr.heap.size wr w')) (by kernel_rfl) y0 (fun hHeld => ?_)
        clear y0 y1 y3
        refine wpAnyH_take (i := 0) (oi := ?_) (v := ?_) ?_ ?_ ?_ ?_ ?_ ?_ ?_ ?_
        rotate_left 2
        · simp only [List.getElem?_toArray, List.getElem?_cons_succ, List.getElem?_cons_zero]; rfl
        · kernel_rfl
        · kernel_rfl
        · kernel_rfl
        · exact fun _ _ _ h => h
        · refine Or.inl ⟨by rfl, ?_⟩
          intro w' hSw
          (try dsimp only at hSw)
          go_simp
          all_goals (with_reducible rfl)
        · assumption
        try simp only [Act.put, List.setIfInBounds_toArray, List.set_cons_zero, List.set_cons_succ]
        refine wpAnyH_take (i := 1) (oi := ?_) (v := ?_) ?_ ?_ ?_ ?_ ?_ ?_ ?_ ?_
        rotate_left 2
        · simp only [List.getElem?_toArray, List.getElem?_cons_succ, List.getElem?_cons_zero]; rfl
        · kernel_rfl
        · kernel_rfl
        · kernel_rfl
        · exact fun _ _ _ h => h
        · refine Or.inl ⟨by rfl, ?_⟩
          intro w' hSw
          (try dsimp only at hSw)
          go_simp
          all_goals (with_reducible rfl)
        · assumption
        try simp only [Act.put, List.setIfInBounds_toArray, List.set_cons_zero, List.set_cons_succ]
        refine wpAnyH_take (i := 2) (oi := ?_) (v := ?_) ?_ ?_ ?_ ?_ ?_ ?_ ?_ ?_
        rotate_left 2
        · simp only [List.getElem?_toArray, List.getElem?_cons_succ, List.getElem?_cons_zero]; rfl
        · kernel_rfl
        · kernel_rfl
        · kernel_rfl
        · exact fun _ _ _ h => h
        · refine Or.inl ⟨by rfl, ?_⟩
          intro w' hSw
          (try dsimp only at hSw)
          go_simp
          all_goals (with_reducible rfl)
        · assumption
        try simp only [Act.put, List.setIfInBounds_toArray, List.set_cons_zero, List.set_cons_succ]
        refine wpAnyH_ready (rs := [3]) (by kernel_rfl) (by simp) ?_
        refine AllReadyH.cons (o := ?_) ?_ ?_ ?_
        rotate_left 1
        · simp only [List.getElem?_toArray, List.getElem?_cons_succ, List.getElem?_cons_zero]; rfl
        rotate_left 1
        · exact AllReadyH.nil
        intro K hK
        go_simp
        go_at_call 16; ((with_reducible refine (GM.out _ hHeld.2).mono ?_); rintro e w4 ⟨rfl, z1, z3⟩)
        refine hK.out _ _ ⟨z1, z3⟩ (fun hHeld => ?_)
        clear hK K
        try simp only [Act.put, List.setIfInBounds_toArray, List.set_cons_zero, List.set_cons_succ]
        refine wpAnyH_take (i := 4) (oi := ?_) (v := ?_) ?_ ?_ ?_ ?_ ?_ ?_ ?_ ?_
        rotate_left 2
        · simp only [List.getElem?_toArray, List.getElem?_cons_succ, List.getElem?_cons_zero]; rfl
        · kernel_rfl
        · kernel_rfl
        · kernel_rfl
        · exact fun _ _ _ h => h
        · refine Or.inl ⟨by rfl, ?_⟩
          intro w' hSw
          (try dsimp only at hSw)
          go_simp
          all_goals (with_reducible rfl)
        · assumption
        try simp only [Act.put, List.setIfInBounds_toArray, List.set_cons_zero, List.set_cons_succ]
        refine wpAnyH_take (i := 5) (oi := ?_) (v := ?_) ?_ ?_ ?_ ?_ ?_ ?_ ?_ ?_
        rotate_left 2
        · simp only [List.getElem?_toArray, List.getElem?_cons_succ, List.getElem?_cons_zero]; rfl
        · kernel_rfl
        · kernel_rfl
        · kernel_rfl
        · exact fun _ _ _ h => h
        · refine Or.inl ⟨by rfl, ?_⟩
          intro w' hSw
          (try dsimp only at hSw)
          go_simp
          all_goals (with_reducible rfl)
        · assumption
        try simp only [Act.put, List.setIfInBounds_toArray, List.set_cons_zero, List.set_cons_succ]
        refine wpAnyH_take (i := 6) (oi := ?_) (v := ?_) ?_ ?_ ?_ ?_ ?_ ?_ ?_ ?_
        rotate_left 2
        · simp only [List.getElem?_toArray, List.getElem?_cons_succ, List.getElem?_cons_zero]; rfl
        · kernel_rfl
        · kernel_rfl
        · kernel_rfl
        · exact fun _ _ _ h => h
        · refine Or.inl ⟨by rfl, ?_⟩
          intro w' hSw
          (try dsimp only at hSw)
          go_simp
          all_goals (with_reducible rfl)
        · assumption
        try simp only [Act.put, List.setIfInBounds_toArray, List.set_cons_zero, List.set_cons_succ]
        refine wpAnyH_take (i := 7) (oi := ?_) (v := ?_) ?_ ?_ ?_ ?_ ?_ ?_ ?_ ?_
        rotate_left 2
        · simp only [List.getElem?_toArray, List.getElem?_cons_succ, List.getElem?_cons_zero]; rfl
        · kernel_rfl
        · kernel_rfl
        · kernel_rfl
        · exact fun _ _ _ h => h
        · refine Or.inl ⟨by rfl, ?_⟩
          intro w' hSw
          (try dsimp only at hSw)
          go_simp
          all_goals (with_reducible rfl)
        · assumption
        try simp only [Act.put, List.setIfInBounds_toArray, List.set_cons_zero, List.set_cons_succ]
        refine wpAnyH_take (i := 8) (oi := ?_) (v := ?_) ?_ ?_ ?_ ?_ ?_ ?_ ?_ ?_
        rotate_left 2
        · simp only [List.getElem?_toArray, List.getElem?_cons_succ, List.getElem?_cons_zero]; rfl
        · kernel_rfl
        · kernel_rfl
        · kernel_rfl
        · exact fun _ _ _ h => h
        · refine Or.inl ⟨by rfl, ?_⟩
          intro w' hSw
          (try dsimp only at hSw)
          go_simp
          all_goals (with_reducible rfl)
        · assumption
        try simp only [Act.put, List.setIfInBounds_toArray, List.set_cons_zero, List.set_cons_succ]
        refine wpAnyH_take (i := 9) (oi := ?_) (v := ?_) ?_ ?_ ?_ ?_ ?_ ?_ ?_ ?_
        rotate_left 2
        · simp only [List.getElem?_toArray, List.getElem?_cons_succ, List.getElem?_cons_zero]; rfl
        · kernel_rfl
        · kernel_rfl
        · kernel_rfl
        · exact fun _ _ _ h => h
        · refine Or.inl ⟨by rfl, ?_⟩
          intro w' hSw
          (try dsimp only at hSw)
          go_simp
          all_goals (with_reducible rfl)
        · assumption
        try simp only [Act.put, List.setIfInBounds_toArray, List.set_cons_zero, List.set_cons_succ]
        refine wpAnyH_take (i := 10) (oi := ?_) (v := ?_) ?_ ?_ ?_ ?_ ?_ ?_ ?_ ?_
        rotate_left 2
        · simp only [List.getElem?_toArray, List.getElem?_cons_succ, List.getElem?_cons_zero]; rfl
        · kernel_rfl
        · kernel_rfl
        · kernel_rfl
        · exact fun _ _ _ h => h
        · refine Or.inl ⟨by rfl, ?_⟩
          intro w' hSw
          (try dsimp only at hSw)
          go_simp
          all_goals (with_reducible rfl)
        · assumption
        try simp only [Act.put, List.setIfInBounds_toArray, List.set_cons_zero, List.set_cons_succ]
        refine wpAnyH_take (i := 11) (oi := ?_) (v := undef) ?_ ?_ ?_ ?_ ?_ ?_ ?_ ?_
        rotate_left 1
        · simp only [List.getElem?_toArray, List.getElem?_cons_succ, List.getElem?_cons_zero]; rfl
        · kernel_rfl
        · kernel_rfl
        · kernel_rfl
        · exact fun _ _ _ h => h
        · exact Or.inr ⟨by kernel_rfl, rfl⟩
        · assumption
        try simp only [Act.put, List.setIfInBounds_toArray, List.set_cons_zero, List.set_cons_succ]
        refine wpAnyH_take (i := 12) (oi := ?_) (v := undef) ?_ ?_ ?_ ?_ ?_ ?_ ?_ ?_
        rotate_left 1
        · simp only [List.getElem?_toArray, List.getElem?_cons_succ, List.getElem?_cons_zero]; rfl
        · kernel_rfl
        · kernel_rfl
        · kernel_rfl
        · exact fun _ _ _ h => h
        · exact Or.inr ⟨by kernel_rfl, rfl⟩
        · assumption
        try simp only [Act.put, List.setIfInBounds_toArray, List.set_cons_zero, List.set_cons_succ]
        refine wpAnyH_take (i := 13) (oi := ?_) (v := undef) ?_ ?_ ?_ ?_ ?_ ?_ ?_ ?_
        rotate_left 1
        · simp only [List.getElem?_toArray, List.getElem?_cons_succ, List.getElem?_cons_zero]; rfl
        · kernel_rfl
        · kernel_rfl
        · kernel_rfl
        · exact fun _ _ _ h => h
        · exact Or.inr ⟨by kernel_rfl, rfl⟩
        · assumption
        try simp only [Act.put, List.setIfInBounds_toArray, List.set_cons_zero, List.set_cons_succ]
        refine wpAnyH_take (i := 14) (oi := ?_) (v := undef) ?_ ?_ ?_ ?_ ?_ ?_ ?_ ?_
        rotate_left 1
        · simp only [List.getElem?_toArray, List.getElem?_cons_succ, List.getElem?_cons_zero]; rfl
        · kernel_rfl
        · kernel_rfl
        · kernel_rfl
        · exact fun _ _ _ h => h
        · exact Or.inr ⟨by kernel_rfl, rfl⟩
        · assumption
        try simp only [Act.put, List.setIfInBounds_toArray, List.set_cons_zero, List.set_cons_succ]
        refine wpAnyH_take (i := 15) (oi := ?_) (v := undef) ?_ ?_ ?_ ?_ ?_ ?_ ?_ ?_
        rotate_left 1
        · simp only [List.getElem?_toArray, List.getElem?_cons_succ, List.getElem?_cons_zero]; rfl
        · kernel_rfl
        · kernel_rfl
        · kernel_rfl
        · exact fun _ _ _ h => h
        · exact Or.inr ⟨by kernel_rfl, rfl⟩
        · assumption
        try simp only [Act.put, List.setIfInBounds_toArray, List.set_cons_zero, List.set_cons_succ]
        refine wpAnyH_take (i := 16) (oi := ?_) (v := ?_) ?_ ?_ ?_ ?_ ?_ ?_ ?_ ?_
        rotate_left 2
        · simp only [List.getElem?_toArray, List.getElem?_cons_succ, List.getElem?_cons_zero]; rfl
        · kernel_rfl
        · kernel_rfl
        · kernel_rfl
        · exact fun _ _ _ h => h
        · refine Or.inl ⟨by rfl, ?_⟩
          intro w' hSw
          (try dsimp only at hSw)
          go_simp
          all_goals (with_reducible rfl)
        · assumption
        try simp only [Act.put, List.setIfInBounds_toArray, List.set_cons_zero, List.set_cons_succ]
        refine wpAnyH_take (i := 17) (oi := ?_) (v := ?_) ?_ ?_ ?_ ?_ ?_ ?_ ?_ ?_
        rotate_left 2
        · simp only [List.getElem?_toArray, List.getElem?_cons_succ, List.getElem?_cons_zero]; rfl
        · kernel_rfl
        · kernel_rfl
        · kernel_rfl
        · exact fun _ _ _ h => h
        · refine Or.inl ⟨by rfl, ?_⟩
          intro w' hSw
          (try dsimp only at hSw)
          go_simp
          all_goals (with_reducible rfl)
        · assumption
        try simp only [Act.put, List.setIfInBounds_toArray, List.set_cons_zero, List.set_cons_succ]
        refine wpAnyH_done (by kernel_rfl) ?_ _
        go_wp2
        go_ret
        exact ⟨congrArg (fun z => Ending.returned (.bool z)) HN.out.symm, BL1.out.trans ((HBR.out.trans (z3.mono HBR.out.size)).mono BL1.out.size)⟩
      have hO2 : Ou ≤ 65536 := Classical.not_not.1 hO
      clear hO
      obtain ⟨F, hF⟩ : ∃ F, Co * Ou + sumB rs = F := ⟨_, rfl⟩
      have hdv : decide (F ≤ Bu) = v := by
        by_cases h : F ≤ Bu
        · rw [decide_eq_true h]
          exact (HV.out.2 ⟨hC, by omega, hB, HALL.out, by omega, hO2, by omega⟩).symm
        · rw [decide_eq_false h]
          exact (HF.out (fun rz => h (by rw [← hF]; exact rz.2.2.2.2.2.2))).symm
      have hf0 := Lib.hid (fun (wx : World) (hx : Below wr.heap.size wr wx) => foot_any Bu Co Ou A i c rs wx (HRW.out.below hx) (by omega) HALL.out hC (by omega))
      rw [hF] at hf0
      have GF := Lib.hid (fun (wx : World) (hx : Below wr.heap.size wr wx) => show Calls Try.prog 17 #[.agg #[.int .i64 Bu, .int .i64 Co, .int .i64 Ou, .slice A i c]] wx (fun e w' => e = .returned (.int .i64 F) ∧ (∀ k, w'.cell? ⟨b1, k, none⟩ = (#[.int .i64 Bu, .int .i64 Co, .int .i64 Ou, .slice A i c] : Array Value)[k]?) ∧ Below wr.heap.size wr w') from (hf0.out wx hx).mono (fun e w' hh => ⟨hh.1, (BKR.out.keep (hx.trans (hh.2.mono hx.size))).rd, hx.trans (hh.2.mono hx.size)⟩))
      clear hM hF
      go_region_held3 (fun w' => (∀ k, w'.cell? ⟨b1, k, none⟩ = (#[.int .i64 Bu, .int .i64 Co, .int .i64 Ou, .slice A i c] : Array Value)[k]?) ∧ Below wr.heap.size wr w') (first | (refine ⟨?_, ?_⟩ <;> assumption) | go_keep)
        (first
          | (go_at_call 16; ((with_reducible refine (GM.out _ (by assumption)).mono ?_); rintro e w4 ⟨rfl, z1, z3⟩))
          | (go_at_call 17; ((with_reducible refine (GF.out _ (by assumption)).mono ?_); rintro e w4 ⟨rfl, z1, z3⟩)))
      go_wp2
      go_ret
      exact ⟨by first | rfl | exact congrArg (fun z => Ending.returned (.bool z)) hdv, BL1.out.trans ((HBR.out.trans (z3.mono HBR.out.size)).mono BL1.out.size)⟩
end Go.Proofs.Ytfpknklnbgmflaa
