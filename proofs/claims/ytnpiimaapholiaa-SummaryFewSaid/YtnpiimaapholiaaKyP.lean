/- The contracts of layer 4 (keys): Put, Free. -/
import Derived.Test.YtnpiimaapholiaaKyA
namespace Go.Proofs.Ytnpiimaapholiaa
set_option linter.unusedSimpArgs false
set_option linter.unusedVariables false
open Go.ChangeShapes Go.WideShapes Go.ChangeAt Go.RowKit
section
variable {b gb gs gf n : Nat} {fl : List Nat} {K : Nat → Option ByteArray}
set_option maxHeartbeats 400000 in
theorem put_no (s : ByteArray) (w : World) (h : KeysIn w b gb gs gf n fl K) (hs : 64 < s.size ∨ fl = []) : Calls Try.prog 46 #[.pointer (some ⟨b, 0, none⟩), .string s] w fun e w' => e = .returned (.int .i64 (-1)) ∧ w = w' := by
  obtain ⟨bs, ss, fs, h⟩ := h
  have k := h.hb.rd
  by_cases h1 : 64 < s.size
  · have t1 : (64 : Int) < (s.size : Int) := by omega
    clear h hs h1
    go_enter Try.func46, Try.ntmps46
    go_wp2
    go_ret
    exact ⟨rfl, rfl⟩
  · have hf : fl = [] := by rcases hs with h2 | h2; exact absurd h2 h1; exact h2
    subst hf
    have t1 : ¬ (64 : Int) < (s.size : Int) := by omega
    have t2 : decide ((64 : Int) < (s.size : Int)) = false := by simpa using t1
    clear h hs h1
    go_enter Try.func46, Try.ntmps46
    go_wp2
    go_ret
    exact ⟨rfl, rfl⟩
theorem sizeOf_u8 : ∀ w, (Go.sizeOf 5).run Try.prog w = .ok 1 w := by
  intro w
  have h : (Try.prog.info? 5).map (fun i => i.size) = some 1 := by kernel_rfl
  cases hi : Try.prog.info? 5 with
  | none => rw [hi] at h; cases h
  | some i =>
    rw [hi] at h
    have : i.size = 1 := by simpa using h
    simp [Go.sizeOf, typeInfo, hi, this]
set_option maxHeartbeats 2000000 in
theorem put_yes (i : Nat) (s : ByteArray) (w : World) (h : KeysIn w b gb gs gf n (fl ++ [i]) K) (hs : s.size ≤ 64) :
    Calls Try.prog 46 #[.pointer (some ⟨b, 0, none⟩), .string s] w fun e w' => e = .returned (.int .i64 (i : Int)) ∧ KeysIn w' b gb gs gf n fl (fun j => if j = i then some s else K j) ∧ Fr (kyF b gb gs gf) w w' := by
  obtain ⟨bs, ss, fs, h⟩ := h
  have hn := h.n1
  obtain ⟨hin, hki⟩ := h.pl.free (i := i) (by simp)
  have hle := h.pl.le
  rw [List.length_append, List.length_cons, List.length_nil] at hle
  obtain ⟨m, hm⟩ : ∃ m, m = fl.length := ⟨_, rfl⟩
  have hl1 : (fl ++ [i]).length = m + 1 := by simp [hm]
  have hb := h.hb
  rw [hl1] at hb
  have k := hb.rd
  have k0 := hb.wr
  have kf : w.cell? ⟨gf, m, none⟩ = some (.int .u32 (i : Int)) := by
    have e : fs.getD m 0 = (i : Int) := by rw [h.vf m (by rw [hl1]; omega), hm]; simp [List.getD]
    rw [blk_cell h.hgf, ← e]; exact numC_get _ _ _ (by rw [h.lf]; omega)
  obtain ⟨bg, hbg⟩ : ∃ bg, bg = 64 * i := ⟨_, rfl⟩
  obtain ⟨cn, hcn⟩ : ∃ cn, cn = 64 * n := ⟨_, rfl⟩
  unfold storeC at k
  rw [← hcn] at k
  have e1 : ((m + 1 : Nat) : Int) - 1 = (m : Int) := by omega
  have e2 : (i : Int) * 64 = (bg : Int) := by omega
  have t1 : ¬ (64 : Int) < (s.size : Int) := by omega
  have t2 : decide ((64 : Int) < (s.size : Int)) = false := by simpa using t1
  have t3 : (i : Int) < (n : Int) := by omega
  have t4 : (m : Int) < (n : Int) := by omega
  have t5 : (n : Int) ≤ 65536 := by omega
  have t6 : (bg : Int) ≤ (cn : Int) := by omega
  have t7 : (cn : Int) ≤ 4194304 := by omega
  have t8 : ¬ cn = bg := by omega
  have t9 : (s.size : Int) ≤ 64 := by omega
  have t10 : (m : Int) < ((m + 1 : Nat) : Int) := by omega
  have HH := Lib.hid h
  have HM := Lib.hid hm
  have HX := Lib.hid (And.intro hin (And.intro hki (And.intro hbg hcn)))
  have HB := Lib.hid hb
  clear h hn hin hki hle hm hl1 hb hbg hcn hs
  go_enter Try.func46, Try.ntmps46
  go_upto_region 6 with (fail)
  rw [setCell_obj HB.out]
  have hltb := lt_of_block HB.out
  have ne := HH.out.ne
  have x1 : Blk (setObj w b (.cells ((storeC gb gs gf n (m + 1)).setIfInBounds 2 (.slice (some ⟨gf, 0, none⟩) m n)) 81 (0, 0))) b 81 (storeC gb gs gf n m) := setObj_at hltb _
  have x2 : Blk (setObj w b (.cells ((storeC gb gs gf n (m + 1)).setIfInBounds 2 (.slice (some ⟨gf, 0, none⟩) m n)) 81 (0, 0))) gb _ _ := (setObj_other w (Ne.symm ne.1) _).trans HH.out.hgb
  have x3 : Blk (setObj w b (.cells ((storeC gb gs gf n (m + 1)).setIfInBounds 2 (.slice (some ⟨gf, 0, none⟩) m n)) 81 (0, 0))) gs _ _ := (setObj_other w (Ne.symm ne.2.1) _).trans HH.out.hgs
  have x4 : Blk (setObj w b (.cells ((storeC gb gs gf n (m + 1)).setIfInBounds 2 (.slice (some ⟨gf, 0, none⟩) m n)) 81 (0, 0))) gf _ _ := (setObj_other w (Ne.symm ne.2.2.1) _).trans HH.out.hgf
  have x5 : Fr (kyF b gb gs gf) w (setObj w b (.cells ((storeC gb gs gf n (m + 1)).setIfInBounds 2 (.slice (some ⟨gf, 0, none⟩) m n)) 81 (0, 0))) := Fr.setObj (Fr.refl _ _) (Or.inl rfl) _
  clear k k0 kf
  generalize (setObj w b (.cells ((storeC gb gs gf n (m + 1)).setIfInBounds 2 (.slice (some ⟨gf, 0, none⟩) m n)) 81 (0, 0))) = wx at x1 x2 x3 x4 x5 ⊢
  have hx := HX.out
  have k := x1.rd
  unfold storeC at k
  rw [← hx.2.2.2] at k
  have hlb : bs.length = cn := by rw [hx.2.2.2]; exact HH.out.lb
  have hcs : ∀ j, j < s.size → (wx.cell? ⟨gb, bg + j, none⟩).isSome = true := by
    intro j hj
    rw [blk_cell x2, numC_get _ _ _ (by omega)]; rfl
  have hcp : (Builtin.copy_ #[56, 9] 3 #[.slice (some ⟨gb, bg, none⟩) (cn - bg) (cn - bg), .string s]).run Try.prog wx = .ok (.int .i64 (s.size : Int)) (setObj wx gb (.cells (numC .u8 (splice bs bg (nums s))) 5 (0, 0))) := by
    have := run_copy_string (P := Try.prog) wx 56 9 3 5 gb bg (cn - bg) (cn - bg) s Try.underlying56 sizeOf_u8 (by omega) hcs (fun j _ => blk_free x2)
    have e : (s.data.toList.map fun x => Value.int .u8 (x.toNat : Int)) = (nums s).map (Value.int .u8) := by unfold nums; rw [List.map_map]; rfl
    rw [e, setCells_num .u8 (nums s) bs bg x2] at this
    exact this
  have X1 := Lib.hid x1
  have X2 := Lib.hid x2
  have X3 := Lib.hid x3
  have X4 := Lib.hid x4
  have X5 := Lib.hid x5
  have NE := Lib.hid ne
  have HLB := Lib.hid hlb
  clear hcs x1 x2 x3 x4 x5 ne hlb hx
  go_upto_region 7 with (fail)
  have hltg := lt_of_block X2.out
  have y1 : Blk (setObj wx gb (.cells (numC .u8 (splice bs bg (nums s))) 5 (0, 0))) b _ _ := (setObj_other wx NE.out.1 _).trans X1.out
  have y2 : Blk (setObj wx gb (.cells (numC .u8 (splice bs bg (nums s))) 5 (0, 0))) gb _ _ := setObj_at hltg _
  have y3 : Blk (setObj wx gb (.cells (numC .u8 (splice bs bg (nums s))) 5 (0, 0))) gs _ _ := (setObj_other wx (Ne.symm NE.out.2.2.2.1) _).trans X3.out
  have y4 : Blk (setObj wx gb (.cells (numC .u8 (splice bs bg (nums s))) 5 (0, 0))) gf _ _ := (setObj_other wx (Ne.symm NE.out.2.2.2.2.1) _).trans X4.out
  have y5 : Fr (kyF b gb gs gf) w (setObj wx gb (.cells (numC .u8 (splice bs bg (nums s))) 5 (0, 0))) := Fr.setObj X5.out (Or.inr (Or.inl rfl)) _
  clear k hcp
  generalize (setObj wx gb (.cells (numC .u8 (splice bs bg (nums s))) 5 (0, 0))) = wz at y1 y2 y3 y4 y5 ⊢
  have k := y1.rd
  have ks : wz.cell? ⟨gs, i, none⟩ = some (.int .u8 (ss.getD i 0)) := by rw [blk_cell y3]; exact numC_get _ _ _ (by rw [HH.out.ls]; exact HX.out.1)
  have k0 := y3.wr
  have Y1 := Lib.hid y1
  have Y2 := Lib.hid y2
  have Y3 := Lib.hid y3
  have Y4 := Lib.hid y4
  have Y5 := Lib.hid y5
  have eu : IntKind.u8.wrap ((s.size : Int) + 1) = (s.size : Int) + 1 := by rw [IntKind.wrap_u8]; omega
  clear y1 y2 y3 y4 y5
  go_wp2
  go_ret
  refine ⟨rfl, ⟨splice bs bg (nums s), ss.set i ((s.size : Int) + 1), fs, ?_⟩, ?_⟩
  · rw [setCell_obj Y3.out, numC_set]
    have hltz := lt_of_block Y3.out
    have hh := HH.out
    have hx := HX.out
    have hm := HM.out
    have hnn := nums_length s
    refine ⟨?_, (setObj_other wz NE.out.2.2.2.1 _).trans Y2.out, setObj_at hltz _, (setObj_other wz (Ne.symm NE.out.2.2.2.2.2) _).trans Y4.out, by rw [splice_length]; exact hh.lb, by rw [List.length_set]; exact hh.ls, hh.lf, ?_, ?_, ?_, hh.pl.put s, hh.n1, hh.ne⟩
    · rw [← hm]; exact (setObj_other wz NE.out.2.1 _).trans Y1.out
    · intro j hj
      rw [getD_set' _ _ _ _ (by rw [hh.ls]; exact hx.1)]
      by_cases hji : j = i
      · subst hji; rw [if_pos rfl]; show _ = sizeZ (if j = j then some s else K j); rw [if_pos rfl]; rfl
      · rw [if_neg hji, hh.vs j hj]; show _ = sizeZ (if j = i then some s else K j); rw [if_neg hji]
    · intro j hj
      have := hh.vf j (by rw [List.length_append]; omega)
      rw [this]
      simp [List.getD, List.getElem?_append_left hj]
    · intro j t ht
      have hjt : (if j = i then some s else K j) = some t := ht
      have hlb := HLB.out
      by_cases hji : j = i
      · subst hji
        rw [if_pos rfl] at hjt
        injection hjt with hjt
        subst hjt
        refine ⟨by omega, fun q hq => ?_⟩
        rw [splice_getD _ _ _ _ (by omega), if_pos (by omega)]
        congr 1; omega
      · rw [if_neg hji] at hjt
        have hv := hh.vb j t hjt
        have hjn := (hh.pl.lt (i := j) (by rw [hjt]; rfl)).1
        refine ⟨hv.1, fun q hq => ?_⟩
        rw [splice_getD _ _ _ _ (by omega), if_neg (by omega)]
        exact hv.2 q hq
  · rw [setCell_obj Y3.out]
    exact Fr.setObj Y5.out (Or.inr (Or.inr (Or.inl rfl))) _
set_option maxHeartbeats 400000 in
theorem free_no (i : Int) (w : World) (h : KeysIn w b gb gs gf n fl K) (hk : hasB K n i = false) : Calls Try.prog 48 #[.pointer (some ⟨b, 0, none⟩), .int .i64 i] w fun e w' => e = .returned (.tuple #[]) ∧ w = w' := by
  have c1 := has_any i w h
  rw [hk] at c1
  have C1 := Lib.hid c1
  clear c1 h hk
  go_enter Try.func48, Try.ntmps48
  go_wp2_with (go_at_call 42; ((with_reducible refine C1.out.mono ?_); rintro e w' ⟨rfl, rfl⟩))
  (try simp only [Exit.inBlock, Exit.then])
  exact bodyPost_ret (results_none rfl _ _ _) rfl ⟨rfl, rfl⟩
set_option maxHeartbeats 2000000 in
theorem free_yes (i : Nat) (w : World) (h : KeysIn w b gb gs gf n fl K) (hk : (K i).isSome = true) :
    Calls Try.prog 48 #[.pointer (some ⟨b, 0, none⟩), .int .i64 (i : Int)] w fun e w' => e = .returned (.tuple #[]) ∧ KeysIn w' b gb gs gf n (fl ++ [i]) (fun j => if j = i then none else K j) ∧ Fr (kyF b gb gs gf) w w' := by
  have c1 := has_any (i : Int) w h
  have hlt0 := h.lt
  obtain ⟨bs, ss, fs, h⟩ := h
  obtain ⟨hin, hfn⟩ := h.pl.lt hk
  have e : hasB K n (i : Int) = true := by unfold hasB; simp [hk, hin]
  rw [e] at c1
  obtain ⟨m, hm⟩ : ∃ m, m = fl.length := ⟨_, rfl⟩
  have hb := h.hb
  rw [← hm] at hb hfn
  have k := hb.rd
  have k0 := hb.wr
  have ks : w.cell? ⟨gs, i, none⟩ = some (.int .u8 (ss.getD i 0)) := by rw [blk_cell h.hgs]; exact numC_get _ _ _ (by rw [h.ls]; exact hin)
  have ks0 := h.hgs.wr
  have hn := h.n1
  have t1 : (i : Int) < (n : Int) := by omega
  have t2 : (n : Int) ≤ 65536 := by omega
  have eu : IntKind.u32.wrap (i : Int) = (i : Int) := by rw [IntKind.wrap_u32]; omega
  have C1 := Lib.hid c1
  have HH := Lib.hid h
  have HM := Lib.hid hm
  have HB := Lib.hid hb
  have HX := Lib.hid (And.intro hin (And.intro hfn hk))
  have NE := Lib.hid h.ne
  clear c1 h hm hin hfn hk hb e hn
  go_enter Try.func48, Try.ntmps48
  go_upto_region 2 with (go_at_call 42; ((with_reducible refine C1.out.mono ?_); rintro e w' ⟨rfl, rfl⟩))
  rw [setCell_obj HH.out.hgs, numC_set]
  have x1 : Blk (setObj w gs (.cells (numC .u8 (ss.set i 0)) 5 (0, 0))) b _ _ := (setObj_other w NE.out.2.1 _).trans HB.out
  have x2 : Blk (setObj w gs (.cells (numC .u8 (ss.set i 0)) 5 (0, 0))) gb _ _ := (setObj_other w NE.out.2.2.2.1 _).trans HH.out.hgb
  have x3 : Blk (setObj w gs (.cells (numC .u8 (ss.set i 0)) 5 (0, 0))) gs _ _ := setObj_at hlt0.2.2.1 _
  have x4 : Blk (setObj w gs (.cells (numC .u8 (ss.set i 0)) 5 (0, 0))) gf _ _ := (setObj_other w (Ne.symm NE.out.2.2.2.2.2) _).trans HH.out.hgf
  have x5 : Fr (kyF b gb gs gf) w (setObj w gs (.cells (numC .u8 (ss.set i 0)) 5 (0, 0))) := Fr.setObj (Fr.refl _ _) (Or.inr (Or.inr (Or.inl rfl))) _
  have hsz : (setObj w gs (.cells (numC .u8 (ss.set i 0)) 5 (0, 0))).heap.size = w.heap.size := setObj_size _ _ _
  clear k k0 ks ks0
  generalize (setObj w gs (.cells (numC .u8 (ss.set i 0)) 5 (0, 0))) = wx at x1 x2 x3 x4 x5 hsz ⊢
  have k := x1.rd
  have k0 := x1.wr
  have hlx := lt_of_block x1
  have hlf := lt_of_block x4
  have kf : wx.cell? ⟨gf, m, none⟩ = some (.int .u32 (fs.getD m 0)) := by rw [blk_cell x4]; exact numC_get _ _ _ (by rw [HH.out.lf]; exact HX.out.2.1)
  have kf0 := x4.wr
  have t3 : m + 1 ≤ n := HX.out.2.1
  have nb1 : b ≠ gf := NE.out.2.2.1
  have nb2 : gf ≠ b := Ne.symm nb1
  have HSZ := Lib.hid hsz
  clear hsz
  have X1 := Lib.hid x1
  have X2 := Lib.hid x2
  have X3 := Lib.hid x3
  have X4 := Lib.hid x4
  have X5 := Lib.hid x5
  clear x1 x2 x3 x4 x5
  go_wp2
  go_end0
  have l4 := lt_of_block X4.out
  have l1 := lt_of_block X1.out
  have c1 : Blk (setObj wx gf (.cells (numC .u32 (fs.set m (i : Int))) 82 (0, 0))) b _ _ := (setObj_other wx nb1 _).trans X1.out
  have l2 : b < (setObj wx gf (.cells (numC .u32 (fs.set m (i : Int))) 82 (0, 0))).heap.size := by rw [setObj_size]; exact l1
  rw [setCell_obj X4.out, numC_set, setCell_obj c1]
  have hh := HH.out
  have hx := HX.out
  have hm := HM.out
  refine ⟨rfl, ⟨bs, ss.set i 0, fs.set m (i : Int), ?_⟩, Fr.alloc (Fr.setObj (Fr.setObj X5.out (Or.inr (Or.inr (Or.inr rfl))) _) (Or.inl rfl) _) _⟩
  have hl : (fl ++ [i]).length = m + 1 := by rw [List.length_append, hm]; rfl
  refine ⟨?_, Blk.alloc ((setObj_other _ (Ne.symm NE.out.1) _).trans ((setObj_other wx NE.out.2.2.2.2.1 _).trans X2.out)) _, Blk.alloc ((setObj_other _ (Ne.symm NE.out.2.1) _).trans ((setObj_other wx NE.out.2.2.2.2.2 _).trans X3.out)) _, Blk.alloc ((setObj_other _ (Ne.symm NE.out.2.2.1) _).trans (setObj_at l4 _)) _, hh.lb, by rw [List.length_set]; exact hh.ls, by rw [List.length_set]; exact hh.lf, ?_, ?_, ?_, hh.pl.drop hx.2.2, hh.n1, hh.ne⟩
  · rw [hl]; exact Blk.alloc (setObj_at l2 _) _
  · intro j hj
    rw [getD_set' _ _ _ _ (by rw [hh.ls]; exact hx.1)]
    by_cases hji : j = i
    · subst hji; rw [if_pos rfl]; show _ = sizeZ (if j = j then none else K j); rw [if_pos rfl]; rfl
    · rw [if_neg hji, hh.vs j hj]; show _ = sizeZ (if j = i then none else K j); rw [if_neg hji]
  · intro j hj
    rw [hl] at hj
    rw [getD_set' _ _ _ _ (by rw [hh.lf]; exact hx.2.1)]
    by_cases hjm : j = m
    · rw [if_pos hjm, hjm, hm]; simp [List.getD]
    · rw [if_neg hjm, hh.vf j (by omega)]; simp [List.getD, List.getElem?_append_left (show j < fl.length by omega)]
  · intro j t ht
    have hjt : (if j = i then none else K j) = some t := ht
    by_cases hji : j = i
    · rw [if_pos hji] at hjt; cases hjt
    · rw [if_neg hji] at hjt; exact hh.vb j t hjt
end
end Go.Proofs.Ytnpiimaapholiaa
