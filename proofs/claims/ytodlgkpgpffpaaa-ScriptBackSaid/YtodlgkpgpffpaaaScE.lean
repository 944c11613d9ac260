/- The contracts of layer 19 (script) with contents: bytes. -/
import Derived.Test.YtodlgkpgpffpaaaScD
import Derived.Test.YtodlgkpgpffpaaaScR
namespace Go.Proofs.Ytodlgkpgpffpaaa
open Go.ChangeShapes Go.WideShapes Go.ChangeAt Go.RowKit
/-- a row of numbers that the call owns, as a slice that is read. -/
theorem rdI_row {w : World} {base m : Nat} {e : TypeId} {k : IntKind} {A : Option Addr} {c : Nat} {zs : List Int} (h : w.ownsRow base e 1 (.slice A m c) m (zs.map (Value.int k))) (hw : ∀ z ∈ zs, (Lit.int k z).wf = true) : RdI w k A m c zs := by
  have hl : zs.length = m := by have := h.1; rw [List.length_map] at this; omega
  rcases h.2 with ⟨hv, h0⟩ | ⟨g, cap, cur, hv, hbg, hg, hnc, hcm, hcs, htake⟩
  · injection hv with h1 h2 h3
    subst h1 h3 h0
    exact ⟨hl, Nat.le_refl _, by unfold maxLen; omega, fun h => absurd h (by omega), hw⟩
  · injection hv with h1 h2 h3
    subst h1 h3
    refine ⟨hl, hnc, hcm, fun h0 => ⟨g, 0, rfl, lt_of_block hg, fun i hi => ?_⟩, hw⟩
    rw [Nat.zero_add, h.cellAt i (by omega)]
    simp [List.getD, show i < zs.length by omega]
theorem run_app0c {w : World} {A : Option Addr} {m n c c' : Nat} {ty : TypeId} {zs : List Int} (h : RdI w .u8 A n c zs) (hm : m ≤ n) (hb : m ≤ 140737488355328) :
    ∃ A' cc w', (Builtin.append_ #[28, 28] ty #[.slice none 0 0, .slice A m c']).run Try.prog w = .ok (.slice A' m cc) w' ∧ w.grownBy w' none ∧ RdI w' .u8 A' m cc (zs.take m) ∧ (0 < m → A' = some ⟨w.heap.size, 0, none⟩) := by
  obtain ⟨i0, hi0, hz0, hz1, hz2⟩ := info_parts info_u8
  have ht : Try.prog.underlying 28 = some (.slice 5) := by rfl
  rcases Nat.eq_zero_or_pos m with h0 | h0
  · subst h0
    refine ⟨none, 0, w, ?_, ⟨rfl, rfl, rfl, Nat.le_refl _, fun _ _ _ => rfl⟩, rdI_none (by unfold maxLen; omega), fun h => absurd h (by omega)⟩
    cases A <;> simp [Builtin.append_, run_underlying ht, sizeOf, typeInfo, hi0, Builtin.lenOf, Builtin.firstCells, loadCells, loadCellsFrom]
  · obtain ⟨b, off, rfl, hlt, hcs⟩ := h.at_ (by omega)
    have hl := h.len
    obtain ⟨g, cap, w', hr, h2, h3, h4, h5⟩ := run_append_lies (P := Try.prog) w 28 ty w.heap.size 5 i0 (.int .u8 0) 1 1 ht hi0 hz0 hz1 hz2 rfl (by omega) (.slice none 0 0) 0 [] (World.ownsRow_nil _ _ _ _) ⟨b, off, none⟩ m c' ((zs.take m).map (Value.int .u8)) (by rw [List.length_map, List.length_take]; omega)
      (fun j u hj => by
        have hjm : j < m := by
          rcases Nat.lt_or_ge j m with h | h
          · exact h
          · rw [List.getElem?_eq_none (by rw [List.length_map, List.length_take]; omega)] at hj; cases hj
        rw [List.getElem?_map, List.getElem?_take_of_lt hjm] at hj
        have e : ((⟨b, off, none⟩ : Addr).add j) = ⟨b, off + j, none⟩ := by simp [Addr.add]
        rw [e, hcs j (by omega), ← hj]
        simp [List.getD, show j < zs.length by omega]) (fun u hu => by
        obtain ⟨z, _, rfl⟩ := List.mem_map.1 hu
        rfl) h0 (by unfold maxLen; omega) (by omega) (Nat.le_refl _) w.heap.size rfl
    have hg : g = w.heap.size := by
      rcases h4 with h4 | h4
      · cases h4
      · exact h4
    subst hg
    rw [Nat.zero_add, List.nil_append] at h2
    exact ⟨some ⟨w.heap.size, 0, none⟩, cap, w', by rw [hr, Nat.zero_add], h3, rdI_row h2 (fun z hz => h.wf z (List.mem_of_mem_take hz)), fun _ => rfl⟩
theorem wpList_app0c {w : World} {ops : Array Oper} {rest : List Oper} {o : Oper} {a : Act} {Q : Exit → Act → World → Prop} (hgd : o.guard = none) (s x : Operand)
    (ho : o.op = .call { callee := .builtin .append, args := #[s, x], argTypes := #[28, 28] }) (hs : a.eval s = .slice none 0 0) {A : Option Addr} {m n c c' : Nat} {zs : List Int} (hx : a.eval x = .slice A m c')
    (hr : RdI w .u8 A n c zs) (hm : m ≤ n) (hb : m ≤ 140737488355328)
    (h : ∀ A' cc w', w.grownBy w' none → RdI w' .u8 A' m cc (zs.take m) → (0 < m → A' = some ⟨w.heap.size, 0, none⟩) → wpList Try.prog ops Q rest (a.put o.dst (.slice A' m cc)) w') : wpList Try.prog ops Q (o :: rest) a w := by
  refine wpList_plain hgd fun K hK => ?_
  obtain ⟨A', cc, w', hrun, hg, h1, h2⟩ := run_app0c (ty := o.type) (c' := c') hr hm hb
  unfold Oper.wp execOp
  simp only [ho, resolve, invoke, builtin, Sem.run_bind, Sem.run_pure, Result.andThen_ok, List.map_toArray, List.map_cons, List.map_nil, hs, hx, hrun]
  exact hK _ _ (h A' cc w' hg h1 h2)
theorem bytes_c (b d : Nat) (q : List Int) (nn : Nat) (hnn : nn ≤ 255) (w : World) (h : SrcAt w b d q) (hdb : d ≠ b) :
    Calls Try.prog 15 #[.pointer (some ⟨b, 0, none⟩), .int .i64 (nn : Int)] w fun e w' => (∃ A c, e = .returned (.slice A (min nn q.length) c) ∧ RdI w' .u8 A (min nn q.length) c (q.take (min nn q.length)) ∧ (0 < min nn q.length → A = some ⟨w.heap.size, 0, none⟩)) ∧ SrcAt w' b d (q.drop (min nn q.length)) ∧ Fr (fun k => k = b) w w' := by
  obtain ⟨A, n, c, h1, h2, h3⟩ := h
  have hl := h2.len
  obtain ⟨m, hm⟩ : ∃ m, m = min nn q.length := ⟨_, rfl⟩
  rw [← hm]
  have k := h1.rd
  have hmx := h2.max
  unfold maxLen at hmx
  have hcp := h2.cap
  have H1 := Lib.hid h1
  have H2 := Lib.hid h2
  have HD := Lib.hid hdb
  have HBL := Lib.hid (lt_of_block h1)
  have HM : m ≤ n := by omega
  have HB : m ≤ 255 := by omega
  have hcase : (n < nn ∧ n = m) ∨ (nn ≤ n ∧ nn = m) := by omega
  have hdr : m = n → q.drop m = [] := fun h => List.drop_eq_nil_of_le (by omega)
  have HDR := Lib.hid hdr
  clear h1 hl hm hdb hdr
  have H3 := Lib.hid h3
  clear h2 h3
  rcases hcase with ⟨hlt, rfl⟩ | ⟨hge, rfl⟩
  · go_enter Try.func15, Try.ntmps15
    go_wp2_with (at_builtin; refine wpList_app0c (by rfl) _ _ (by rfl) (by rfl) (by rfl) H2.out (by omega) (by omega) ?_; intro A' cc w1 hg hra hna; have RA := Lib.hid hra; have NA := Lib.hid hna; have F1 := Lib.hid (fr_grown (F := fun k => k = b) (Fr.refl _ w) hg (v := .slice none 0 0) (fun g e => by cases e)); have B1 := Lib.hid (H1.out.fr (F := fun _ => False) (fr_grow (Fr.refl _ w) hg) id); have k1 := B1.out.rd; have k0 := B1.out.wr; clear hg hra hna)
    all_goals
      go_ret
      have hl := lt_of_block B1.out
      rw [setCell_obj B1.out]
      refine ⟨⟨A', cc, rfl, rdI_fr RA.out (fun h => ⟨0, NA.out h⟩) (Fr.setObj (F := fun k => k = b) (Fr.refl _ _) rfl _) (by have := HBL.out; omega), NA.out⟩, ?_, F1.out.trans (Fr.setObj (F := fun k => k = b) (Fr.refl _ _) rfl _)⟩
      exact ⟨_, 0, _, setObj_at hl _, by rw [HDR.out (by first | exact trivial | rfl)]; exact rdI_none (by unfold maxLen; omega), fun h => absurd h (by omega)⟩
  · go_enter Try.func15, Try.ntmps15
    by_cases hcn : c = nn
    · subst hcn
      have hnc : n = c := by omega
      subst hnc
      go_wp2_with (at_builtin; refine wpList_app0c (by rfl) _ _ (by rfl) (by rfl) (by rfl) H2.out (by omega) (by omega) ?_; intro A' cc w1 hg hra hna; have RA := Lib.hid hra; have NA := Lib.hid hna; have F1 := Lib.hid (fr_grown (F := fun k => k = b) (Fr.refl _ w) hg (v := .slice none 0 0) (fun g e => by cases e)); have B1 := Lib.hid (H1.out.fr (F := fun _ => False) (fr_grow (Fr.refl _ w) hg) id); have k1 := B1.out.rd; have k0 := B1.out.wr; clear hg hra hna)
      go_ret
      have hl := lt_of_block B1.out
      rw [setCell_obj B1.out]
      refine ⟨⟨A', cc, rfl, rdI_fr RA.out (fun h => ⟨0, NA.out h⟩) (Fr.setObj (F := fun k => k = b) (Fr.refl _ _) rfl _) (by have := HBL.out; omega), NA.out⟩, ?_, F1.out.trans (Fr.setObj (F := fun k => k = b) (Fr.refl _ _) rfl _)⟩
      exact ⟨_, 0, _, setObj_at hl _, by rw [HDR.out (by first | exact trivial | rfl)]; exact rdI_none (by unfold maxLen; omega), fun h => absurd h (by omega)⟩
    · go_wp2_with (at_builtin; refine wpList_app0c (by rfl) _ _ (by rfl) (by rfl) (by rfl) H2.out (by omega) (by omega) ?_; intro A' cc w1 hg hra hna; have RA := Lib.hid hra; have NA := Lib.hid hna; have F1 := Lib.hid (fr_grown (F := fun k => k = b) (Fr.refl _ w) hg (v := .slice none 0 0) (fun g e => by cases e)); have B1 := Lib.hid (H1.out.fr (F := fun _ => False) (fr_grow (Fr.refl _ w) hg) id); have k1 := B1.out.rd; have k0 := B1.out.wr; clear hg hra hna)
      go_ret
      have hl := lt_of_block B1.out
      rw [setCell_obj B1.out]
      refine ⟨⟨A', cc, rfl, rdI_fr RA.out (fun h => ⟨0, NA.out h⟩) (Fr.setObj (F := fun k => k = b) (Fr.refl _ _) rfl _) (by have := HBL.out; omega), NA.out⟩, ?_, F1.out.trans (Fr.setObj (F := fun k => k = b) (Fr.refl _ _) rfl _)⟩
      rcases Nat.eq_zero_or_pos (n - nn) with h0 | h0
      · refine ⟨_, _, _, setObj_at hl _, ?_, fun h => absurd h (by omega)⟩
        rw [HDR.out (by omega), h0]
        exact rdI_none (by unfold maxLen; omega)
      · obtain ⟨off, rfl⟩ := H3.out (by omega)
        have E := rdI_end H2.out HM
        have e : Option.map (fun x : Addr => x.add nn) (some ⟨d, off, none⟩) = some ⟨d, off + nn, none⟩ := by simp [Addr.add]
        rw [e]
        refine ⟨some ⟨d, off + nn, none⟩, _, _, setObj_at hl _, rdI_fr (rdI_fr E (fun _ => ⟨_, rfl⟩) F1.out HD.out) (fun _ => ⟨_, rfl⟩) (Fr.setObj (F := fun k => k = b) (Fr.refl _ _) rfl _) HD.out, fun _ => ⟨_, rfl⟩⟩
end Go.Proofs.Ytodlgkpgpffpaaa
