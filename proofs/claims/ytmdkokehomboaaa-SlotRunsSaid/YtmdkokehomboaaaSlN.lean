/- The contracts of layer 6 (slot): New. -/
import Derived.Test.YtmdkokehomboaaaSl
import Derived.Test.YtmdkokehomboaaaGen
import Derived.Laws.CopyRow
namespace Go.Proofs.Ytmdkokehomboaaa
set_option linter.unusedSimpArgs false
set_option linter.unusedVariables false
set_option maxRecDepth 100000
open Go.ChangeShapes Go.WideShapes Go.ChangeAt Go.RowKit
open Ar (inR)
/-- a copy of elements of several cells. -/
theorem run_copy_many {P : Program} (w : World) (dT sT ty elem : TypeId) (m g o dLen dCap : Nat) (a : Addr) (sLen sCap : Nat) (cur : Array Value) (t : TypeId) (cs : List Value)
    (hu : P.underlying dT = some (.slice elem)) (hs : (P.info? elem).map (·.size) = some m)
    (hg : w.heap[g]? = some (.cells cur t (0, 0))) (hn : cs.length = Nat.min sLen dLen * m)
    (hsrc : ∀ j v, cs[j]? = some v → w.cell? (a.add j) = some v) (hfit : o + cs.length ≤ cur.size) (h1 : ∀ v ∈ cs, v.oneCell' = true) :
    (Builtin.copy_ #[dT, sT] ty #[.slice (some ⟨g, o, none⟩) dLen dCap, .slice (some a) sLen sCap]).run P w =
      .ok (goInt (Nat.min sLen dLen)) (w.setRow g (cur.toList.take o ++ cs ++ cur.toList.drop (o + cs.length)).toArray) := by
  have hl := run_loadCells_list (P := P) w a cs hsrc
  have hst := run_storeCells_at P g o t cs 0 cur w hg (by simpa using hfit) h1
  cases hq : P.info? elem with
  | none => simp [hq] at hs
  | some i =>
    have hi : i.size = m := by simpa [hq] using hs
    rw [hn] at hl
    simp [Builtin.copy_, run_underlying hu, Builtin.lenOf, Builtin.firstCells, sizeOf, typeInfo, hq, hi, hl, hst]
theorem setRow_obj {w : World} {g : Nat} {cur c : Array Value} {t : TypeId} {f : Nat × Nat} (h : w.heap[g]? = some (.cells cur t f)) : w.setRow g c = setObj w g (.cells c t f) := by
  have := setRow_heap w g cur c t f h
  unfold World.setRow setObj at *
  congr 1
  apply Array.ext_getElem?
  intro k
  by_cases hk : g = k
  · subst hk
    rw [this]; simp [lt_of_block h]
  · simp [Array.getElem?_modify, hk]
theorem row_size : (Try.prog.info? 49).map (·.size) = some 3 := by kernel_rfl
/-- an append of nothing onto nil. -/
theorem run_app_nil (b0 c : Nat) (w : World) : (Builtin.append_ #[29, 29] 29 #[.slice none 0 0, .slice (some ⟨b0, 0, none⟩) 0 c]).run Try.prog w = .ok (.slice none 0 0) w := by
  have hq := row_size
  cases hi : Try.prog.info? 49 with
  | none => rw [hi] at hq; cases hq
  | some i =>
    rw [hi] at hq
    have h3 : i.size = 3 := by simpa using hq
    have hl : ∀ (x : Addr), (loadCells x 0).run Try.prog w = .ok #[] w := fun x => by simpa using run_loadCells_list (P := Try.prog) w x [] (by simp)
    simp [Builtin.append_, run_underlying Try.underlying29, Builtin.lenOf, Builtin.firstCells, sizeOf, typeInfo, hi, h3, hl, storeCells]
theorem sbytes_any (k W : Nat) (h : 8 * (k * W) ≤ 2147483647) (hk : k ≤ 1000000) (hW : W ≤ 2147483647) (w : World) :
    Calls Try.prog 21 #[.int .i64 (k : Int), .int .i64 (W : Int)] w fun e w' => e = .returned (.int .i64 (8 * ((k * W : Nat) : Int))) ∧ Below w.heap.size w w' := by
  obtain ⟨m, hm⟩ : ∃ m, m = k * W := ⟨_, rfl⟩
  rw [← hm] at h ⊢
  have c1 := fun w => product_any (k : Int) (W : Int) (by unfold inR; omega) (by unfold inR; omega) w
  have c2 := fun w => product_any 8 (m : Int) (by unfold inR; omega) (by unfold inR; omega) w
  rw [show (k : Int) * (W : Int) = (m : Int) by rw [hm, Int.natCast_mul], show clamp (m : Int) = (m : Int) by unfold clamp; split; omega; split <;> omega] at c1
  rw [show clamp (8 * (m : Int)) = 8 * (m : Int) by unfold clamp; split; omega; split <;> omega] at c2
  have C1 := Lib.hid c1
  have C2 := Lib.hid c2
  clear c1 c2 hm
  go_enter Try.func21, Try.ntmps21
  go_wp2_with (go_at_call 32; first
    | ((with_reducible refine (C1.out _).mono ?_); rintro e w' ⟨rfl, rfl⟩)
    | ((with_reducible refine (C2.out _).mono ?_); rintro e w' ⟨rfl, rfl⟩))
  go_ret
  exact ⟨rfl, Below.refl _ _⟩
/-- a sketch's block: its functions' cells, then what else it has. -/
abbrev slC (R : List Value) (k W g : Nat) : Array Value := (R ++ [Value.slice none 0 0, Value.int .i64 (k : Int), Value.int .i64 (W : Int), Value.slice (some ⟨g, 0, none⟩) (k * W) (k * W)]).toArray
set_option maxRecDepth 100000 in
set_option maxHeartbeats 2000000 in
theorem snew_any (k W : Nat) (hk : 1 ≤ k ∧ k ≤ 8) (hW : 1 ≤ W ∧ 8 * (k * W) ≤ 2147483647) (b0 : Nat) (X A B : Nat → Nat) (w : World) (hr : RowsAt w b0 k X A B) (hl : ∀ j, j < k → X j < 2305843009213693951 ∧ A j < 2305843009213693951 ∧ B j < 2305843009213693951) :
    Calls Try.prog 11 #[.slice (some ⟨b0, 0, none⟩) k k, .int .i64 (W : Int)] w fun e w' => ∃ N : SlN, e = .returned (.pointer (some ⟨N.b, 0, none⟩)) ∧ SlAt w' N (fun _ _ => 0) ∧ N.k = k ∧ N.W = W ∧ N.X = X ∧ N.A = A ∧ N.B = B ∧ w.heap.size ≤ N.b ∧ w.heap.size ≤ N.g ∧ Below w.heap.size w w' := by
  have hWm : W ≤ k * W := Nat.le_mul_of_pos_left _ (by omega)
  have CB := Lib.hid (sbytes_any k W hW.2 (by omega) (by omega) w)
  obtain ⟨m, hm⟩ : ∃ m, m = k * W := ⟨_, rfl⟩
  rw [← hm] at CB hW hWm
  have em : (k : Int) * (W : Int) = (m : Int) := by rw [hm, Int.natCast_mul]
  have hmk := fun w => G.make_one (P := Try.prog) (t := 54) (e := 2) (z := .int .i64 0) (B := 8) Try.underlying54 (i := (Try.prog.info? 2).get (by kernel_rfl)) (by rfl) (by kernel_rfl) rfl (by kernel_rfl) (by kernel_rfl) m (by omega) (by omega) w
  have t1 : ((k : Int) == 0) = false := by simp; omega
  have t2 : decide ((W : Int) < 1) = false := by rw [decide_eq_false_iff_not]; omega
  have t3 : decide ((2147483647 : Int) < 8 * (m : Int)) = false := by rw [decide_eq_false_iff_not]; omega
  have t4 : (k : Int) ≤ 8 := by omega
  have t5 : (m : Int) ≤ 2147483647 := by omega
  have HR := Lib.hid hr
  have HL := Lib.hid hl
  have HK := Lib.hid (And.intro hk (And.intro hW hm))
  clear hr hl hm hWm
  go_enter Try.func11, Try.ntmps11
  go_upto_region 3 with (go_at_call 21; ((with_reducible refine CB.out.mono ?_); rintro e w1 ⟨rfl, b1⟩; have B1 := Lib.hid b1; clear b1))
  go_upto_region 4 with (fail)
  clear hmk em t1 t2 t3
  obtain ⟨w2, hw2, k2, l2, s2⟩ := box_new w1 (Array.replicate m (.int .i64 0)) 2
  obtain ⟨R0, hR0⟩ : ∃ R0 : List Value, R0 = List.replicate 24 (Value.int .u64 0) := ⟨_, rfl⟩
  obtain ⟨C3, hC3⟩ : ∃ C3 : Array Value, C3 = (R0 ++ [Value.slice none 0 0, Value.int .i64 (k : Int), Value.int .i64 (W : Int), Value.slice (some ⟨w1.heap.size, 0, none⟩) m m]).toArray := ⟨_, rfl⟩
  obtain ⟨w3, hw3, k3, l3, s3⟩ := box_new w2 C3 59
  rw [hw2]
  rw [show w2.alloc (.cells #[Value.int .u64 0, Value.int .u64 0, Value.int .u64 0, Value.int .u64 0, Value.int .u64 0, Value.int .u64 0, Value.int .u64 0, Value.int .u64 0, Value.int .u64 0, Value.int .u64 0, Value.int .u64 0, Value.int .u64 0, Value.int .u64 0, Value.int .u64 0, Value.int .u64 0, Value.int .u64 0, Value.int .u64 0, Value.int .u64 0, Value.int .u64 0, Value.int .u64 0, Value.int .u64 0, Value.int .u64 0, Value.int .u64 0, Value.int .u64 0, Value.slice none 0 0, Value.int .i64 (k : Int), Value.int .i64 (W : Int), Value.slice (some ⟨w1.heap.size, 0, none⟩) m m] 59) = w3 from by rw [← hw3, hC3, hR0]; rfl]
  obtain ⟨bb, hbb⟩ : ∃ bb, bb = w1.heap.size + 1 := ⟨_, rfl⟩
  obtain ⟨g, hg⟩ : ∃ g, g = w1.heap.size := ⟨_, rfl⟩
  rw [s2, ← hbb] at k3
  rw [← hg] at k2 hC3
  rw [← hbb, ← hg]
  have hB3 := (B1.out.trans (l2.mono B1.out.size)).trans (l3.mono (by have := B1.out.size; omega))
  obtain ⟨C, hC, hCs, hCj⟩ := HR.out.blk
  have hC' : Blk w3 b0 49 C := (show Blk w b0 49 C from hC).keep hB3
  have hR0l : R0.length = 24 := by rw [hR0, List.length_replicate]
  have hk := HK.out.1
  have hone : ∀ v ∈ C.toList, v.oneCell' = true := by
    intro v hv
    obtain ⟨n, hn, he⟩ := List.getElem_of_mem hv
    have hn3 : n < 3 * k := by rw [← hCs]; simpa using hn
    have hj := hCj (n / 3) (by omega)
    have hh : C[n]? = some v := by rw [← Array.getElem?_toList]; rw [List.getElem?_eq_getElem hn, he]
    have h3 : n = 3 * (n / 3) ∨ n = 3 * (n / 3) + 1 ∨ n = 3 * (n / 3) + 2 := by omega
    rcases h3 with e | e | e
    · rw [e, hj.1] at hh; injection hh with hh; rw [← hh]; rfl
    · rw [e, hj.2.1] at hh; injection hh with hh; rw [← hh]; rfl
    · rw [e, hj.2.2] at hh; injection hh with hh; rw [← hh]; rfl
  have hcp := run_copy_many (P := Try.prog) w3 29 29 3 49 3 bb 0 8 8 ⟨b0, 0, none⟩ k k C3 59 C.toList Try.underlying29 row_size k3
    (by rw [Array.length_toList, hCs, show Nat.min k 8 = k from Nat.min_eq_left hk.2]; omega)
    (fun j v hv => by rw [show (⟨b0, 0, none⟩ : Addr).add j = ⟨b0, j, none⟩ by (simp [Addr.add]; omega), blk_cell hC', ← Array.getElem?_toList]; exact hv)
    (by rw [Array.length_toList, hCs, hC3]; simp [hR0l]; omega) hone
  rw [show Nat.min k 8 = k from Nat.min_eq_left hk.2, setRow_obj k3] at hcp
  obtain ⟨C4, hC4⟩ : ∃ C4 : Array Value, C4 = (C3.toList.take 0 ++ C.toList ++ C3.toList.drop (0 + C.toList.length)).toArray := ⟨_, rfl⟩
  rw [← hC4] at hcp
  replace hcp : (Builtin.copy_ #[29, 29] 3 #[.slice (some ⟨bb, 0, none⟩) 8 8, .slice (some ⟨b0, 0, none⟩) k k]).run Try.prog w3 = .ok (.int .i64 (k : Int)) (setObj w3 bb (.cells C4 59 (0, 0))) := hcp
  have k4 : Blk (setObj w3 bb (.cells C4 59 (0, 0))) bb 59 C4 := setObj_at (lt_of_block k3) _
  have f4 : Fr (fun i => i = bb) w3 (setObj w3 bb (.cells C4 59 (0, 0))) := Fr.setObj (F := fun i => i = bb) (Fr.refl _ _) rfl _
  generalize (setObj w3 bb (.cells C4 59 (0, 0))) = w4 at hcp k4 f4
  have hne : g ≠ bb := by omega
  have HBB := Lib.hid (And.intro hbb (And.intro hg hne))
  have k24 : w4.cell? ⟨bb, 24, none⟩ = some (.slice none 0 0) := by
    rw [blk_cell k4, hC4, hC3]
    have hl : C.toList.length = 3 * k := by rw [Array.length_toList, hCs]
    simp only [List.take_zero, List.nil_append, List.getElem?_toArray]
    rw [List.getElem?_append_right (by omega), List.getElem?_drop, hl, show 0 + 3 * k + (24 - 3 * k) = 24 by omega, List.getElem?_append_right (by omega), hR0l]; rfl
  have hap := run_app_nil b0
  have k24w := k4.wr
  have H4 := Lib.hid (And.intro k4 (And.intro f4 (And.intro hC4 (And.intro hC3 (And.intro hCs (And.intro hCj (And.intro hR0l hk)))))))
  have H3 := Lib.hid (And.intro k2 (And.intro l3 hB3))
  clear hbb hg hne k4 f4 hC4 hC3 hCs hCj hR0l hR0 hk hone hC hC' k3 k2 l3 l2 hB3 hw2 hw3 s2 s3
  go_upto_region 5 with (fail)
  clear hcp
  have t6 : (0 : Int) ≤ (k : Int) := by omega
  go_region
  rw [setCell_obj H4.out.1]
  obtain ⟨C5, hC5⟩ : ∃ C5 : Array Value, C5 = C4.setIfInBounds 24 (.slice none 0 0) := ⟨_, rfl⟩
  rw [← hC5]
  have k5 : Blk (setObj w4 bb (.cells C5 59 (0, 0))) bb 59 C5 := setObj_at (lt_of_block H4.out.1) _
  have f5 : Fr (fun i => i = bb) w3 (setObj w4 bb (.cells C5 59 (0, 0))) := H4.out.2.1.trans (Fr.setObj (F := fun i => i = bb) (Fr.refl _ _) rfl _)
  have H5 := Lib.hid (And.intro k5 (And.intro f5 hC5))
  clear k5 f5 hC5 k24 k24w hap
  generalize (setObj w4 bb (.cells C5 59 (0, 0))) = w5 at H5 ⊢
  go_wp2
  go_ret
  obtain ⟨k4, f4, hC4, hC3, hCs, hCj, hR0l, hk⟩ := H4.out
  obtain ⟨k5, f5, hC5⟩ := H5.out
  obtain ⟨hbb, hg, hne⟩ := HBB.out
  obtain ⟨k2, l3, hB3⟩ := H3.out
  have hl : C.toList.length = 3 * k := by rw [Array.length_toList, hCs]
  have h4s : C4.size = 28 := by rw [hC4, hC3]; simp [hR0l, hl]; omega
  have hget : ∀ i, 24 ≤ i → C4[i]? = ([Value.slice none 0 0, Value.int .i64 (k : Int), Value.int .i64 (W : Int), Value.slice (some ⟨g, 0, none⟩) m m] : List Value)[i - 24]? := by
    intro i hi
    rw [hC4, hC3]
    simp only [List.take_zero, List.nil_append, List.getElem?_toArray]
    rw [List.getElem?_append_right (by omega), List.getElem?_drop, hl, show 0 + 3 * k + (i - 3 * k) = i by omega, List.getElem?_append_right (by omega), hR0l]
  have hrow : ∀ i, i < 3 * k → C4[i]? = C[i]? := by
    intro i hi
    rw [hC4]
    simp only [List.take_zero, List.nil_append, List.getElem?_toArray]
    rw [List.getElem?_append_left (by omega), Array.getElem?_toList]
  have h5o : ∀ i, i ≠ 24 → C5[i]? = C4[i]? := fun i hi => by rw [hC5, Array.getElem?_setIfInBounds_ne (Ne.symm hi)]
  have hD : Below w5.heap.size w5 w5.drew := below_draws (Below.refl _ _) 1
  refine ⟨⟨bb, g, k, W, X, A, B⟩, rfl, ⟨⟨C5, k5.keep hD, ⟨by rw [hC5]; simpa using h4s, by rw [hC5, Array.getElem?_setIfInBounds_self_of_lt (by omega)], by rw [h5o 25 (by omega), hget 25 (by omega)]; rfl, by rw [h5o 26 (by omega), hget 26 (by omega)]; rfl, by rw [h5o 27 (by omega), hget 27 (by omega), HK.out.2.2]; rfl, fun j hj => ?_⟩⟩, ?_, Ne.symm hne, ⟨hk, HK.out.2.1.1, by show 8 * (k * W) ≤ _; rw [← HK.out.2.2]; exact HK.out.2.1.2⟩, HL.out, fun _ _ => by show (0:Int) ≤ 0 ∧ (0:Int) ≤ 9223372036854775807; omega⟩, rfl, rfl, rfl, rfl, rfl, by show _ ≤ bb; have := B1.out.size; omega, by show _ ≤ g; have := B1.out.size; omega, ?_⟩
  · have hj : j < k := hj
    have h3 := hCj j hj
    rw [Nat.mul_comm 3 j] at h3
    rw [h5o (j * 3) (by omega), h5o (j * 3 + 1) (by omega), h5o (j * 3 + 2) (by omega), hrow _ (by omega), hrow _ (by omega), hrow _ (by omega)]
    exact h3
  · have q : Blk w5 g 2 (Array.replicate m (.int .i64 0)) := (Blk.keep k2 l3).fr f5 hne
    have e : Array.replicate m (Value.int .i64 0) = numC .i64 (Sk.tab (fun _ _ => 0) k W) := by
      unfold numC; rw [Sk.tab_zero, ← HK.out.2.2, List.map_replicate]; rfl
    rw [e] at q
    exact q.keep hD
  · exact (hB3.trans (f5.below hB3.size (fun i hi => by have := B1.out.size; omega))).trans (hD.mono (by have := hB3.size; have := f5.size; omega))
end Go.Proofs.Ytmdkokehomboaaa
