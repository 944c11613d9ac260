/- The contracts of layer 21 (report): digits of base 16, keys. -/
import Derived.Test.YtghhoofdbmgacaaDoorRpA
import Derived.Laws.RangeString
namespace Go.Proofs.YtghhoofdbmgacaaDoor
set_option linter.unusedSimpArgs false
set_option linter.unusedVariables false
open Go.ChangeShapes Go.WideShapes Go.ChangeAt Go.RowKit Go.Deep
def hexS : ByteArray := ⟨#[48, 49, 50, 51, 52, 53, 54, 55, 56, 57, 97, 98, 99, 100, 101, 102]⟩
theorem hexS_size : hexS.size = 16 := rfl
theorem hexS_all : ∀ i : Fin 16, ((hexS[i.val]'(by rw [hexS_size]; exact i.isLt)).toNat : Int) = hexD (i.val : Int) ∧ (hexS[i.val]'(by rw [hexS_size]; exact i.isLt)).toNat < 128 := by decide
theorem hexS_at (i : Nat) (h : i < hexS.size) : ((hexS[i]'h).toNat : Int) = hexD (i : Int) ∧ (hexS[i]'h).toNat < 128 := hexS_all ⟨i, by rwa [hexS_size] at h⟩
set_option maxHeartbeats 2000000 in
theorem digit_any (n : Nat) (hn : n < 16) (w : World) :
    Calls Tryd.prog 22 #[.int .i64 (n : Int)] w fun e w' => e = .returned (.int .u8 (hexD (n : Int))) ∧ Below w.heap.size w w' := by
  have hb := hexD_bd (n := (n : Int)) (by omega)
  have ew : IntKind.u8.wrap (hexD (n : Int)) = hexD (n : Int) := by rw [IntKind.wrap_u8]; omega
  have HEW := Lib.hid ew
  clear ew hb
  go_enter Tryd.func22, Tryd.ntmps22
  go_upto_region 2 with (fail)
  change Code.wp _ _ _ _ (w.iter hexS 0)
  go_loopg [] 16 (fun k wr => ∃ i : Nat, i ≤ n ∧ k = 16 - i ∧ wr = w.iter hexS i)
  case atStart => exact ⟨0, by omega, by omega, rfl⟩
  case round =>
    obtain ⟨i, hi, hkk, rfl⟩ := hrel
    have HK := Lib.hid hkk
    clear hkk
    have hl : i < hexS.size := by rw [hexS_size]; omega
    obtain ⟨h1, h2⟩ := hexS_at i hl
    obtain ⟨c, hc⟩ : ∃ c : Nat, c = (hexS[i]'hl).toNat := ⟨_, rfl⟩
    have hnx := fun ty => run_next_ascii (P := Tryd.prog) w hexS i ty hl h2
    rw [← hc] at h1 h2
    simp only [← hc] at hnx
    by_cases hin : i = n
    · subst hin
      have ew := HEW.out
      rw [← h1] at ew
      have HH := Lib.hid h1
      clear h1 h2 hc
      go_wp2
      go_ret
      exact ⟨by rw [← HH.out]; rfl, (Below.refl _ _).alloc (Nat.le_refl _) _⟩
    · have t0 : ((i : Int) == (n : Int)) = false := by simp; omega
      clear h1 h2 hc
      go_wp2
      go_roundg (16 - (i + 1))
      case measure => have := HK.out; omega
      case rel => exact ⟨i + 1, by omega, by omega, rfl⟩
theorem nums_e' : nums ⟨#[]⟩ = [] := rfl
theorem u8_and15 (n : Nat) (h : n < 256) : bits .and .u8 (n : Int) 15 = ((n % 16 : Nat) : Int) := by
  have : ∀ m : Fin 256, bits .and .u8 (m.val : Int) 15 = ((m.val % 16 : Nat) : Int) := by decide +kernel
  exact this ⟨n, h⟩
theorem nums_at (s : ByteArray) (i : Nat) (h : i < s.size) : (nums s).take (i + 1) = (nums s).take i ++ [((s[i]'h).toNat : Int)] := by
  have hl : i < (nums s).length := by rw [nums_length]; exact h
  have e : (nums s)[i]? = some ((s[i]'h).toNat : Int) := by
    unfold nums
    rw [List.getElem?_map, List.getElem?_eq_getElem (show i < s.data.toList.length by simpa using h)]
    rfl
  rw [List.take_succ_eq_append_getElem hl, (List.getElem_eq_iff hl).2 e]
theorem str_empty {s : ByteArray} (h : s.size = 0) : (s.toList == (⟨#[]⟩ : ByteArray).toList) = true := by
  rw [size0 h]; exact beq_self_eq_true _
set_option maxHeartbeats 8000000 in
theorem keyed_any (s : ByteArray) (hs : s.size ≤ 64) (w : World) :
    Calls Tryd.prog 16 #[.string s] w fun e w' => e = .returned (.string (strOfNums (keyZ (nums s)))) ∧ Below w.heap.size w w' := by
  by_cases h0 : s.size = 0
  · have he := size0 h0
    subst he
    go_enter Tryd.func16, Tryd.ntmps16
    go_wp2
    go_ret
    have e : (⟨#[45]⟩ : ByteArray) = strOfNums (keyZ (nums ⟨#[]⟩)) := by rw [nums_e', keyZ, if_pos rfl]; exact str_lit1 45
    exact ⟨congrArg (fun z => Ending.returned (.string z)) e, Below.refl _ _⟩
  · have hne := str_ne h0
    have hsz : (s.size : Int) ≤ 64 := by omega
    have HS0 := Lib.hid h0
    clear h0
    go_enter Tryd.func16, Tryd.ntmps16
    go_upto_region 5 with (fail)
    go_loopg [3, 9] s.size (fun k v s9 wr => ∃ i : Nat, i ≤ s.size ∧ k = s.size - i ∧ s9 = .int .i64 (i : Int) ∧ Own wr w.heap.size v (hexL ((nums s).take i)) ∧ Below w.heap.size w wr)
    case atStart => exact ⟨0, by omega, by omega, rfl, own_nil _ _, Below.refl _ _⟩
    case round =>
      obtain ⟨i, hi, hkk, rfl, hown, hb⟩ := hrel
      have HK := Lib.hid hkk
      have HO := Lib.hid hown
      have HB := Lib.hid hb
      clear hkk hown hb
      by_cases hin : i < s.size
      · have HNX := Lib.hid (nums_at s i hin)
        obtain ⟨c, hc⟩ : ∃ c : Nat, c = (s[i]'hin).toNat := ⟨_, rfl⟩
        have hcb : c < 256 := by rw [hc]; exact UInt8.toNat_lt _
        rw [← hc] at HNX
        have ec : (s[i]'hin).toNat = c := hc.symm
        clear hc
        obtain ⟨hi', hhi⟩ : ∃ z : Nat, z = c / 16 := ⟨_, rfl⟩
        obtain ⟨lo, hlo⟩ : ∃ z : Nat, z = c % 16 := ⟨_, rfl⟩
        have e1 : (c : Int) / 16 = (hi' : Int) := by omega
        have ea : bits .and .u8 (c : Int) 15 = (lo : Int) := by rw [hlo]; exact u8_and15 c hcb
        have ep : (2 : Int) ^ 4 = 16 := rfl
        have ew1 : IntKind.i64.wrap (hi' : Int) = (hi' : Int) := by rw [IntKind.wrap_i64]; omega
        have ew2 : IntKind.i64.wrap (lo : Int) = (lo : Int) := by rw [IntKind.wrap_i64]; omega
        have C1 := Lib.hid (fun w => digit_any hi' (by omega) w)
        have C2 := Lib.hid (fun w => digit_any lo (by omega) w)
        have b1 := hexD_bd (n := (hi' : Int)) (by omega)
        have b2 := hexD_bd (n := (lo : Int)) (by omega)
        obtain ⟨x1, hx1⟩ : ∃ x, x = hexD (hi' : Int) := ⟨_, rfl⟩
        obtain ⟨x2, hx2⟩ : ∃ x, x = hexD (lo : Int) := ⟨_, rfl⟩
        rw [← hx1] at C1 b1
        rw [← hx2] at C2 b2
        have HHX := Lib.hid (show hexL ((nums s).take (i + 1)) = hexL ((nums s).take i) ++ [x1, x2] from by
          rw [HNX.out, hexL_app, hx1, hx2, hexL]
          rw [e1, show (c : Int) % 16 = (lo : Int) by omega]
          rfl)
        have HLN := Lib.hid (show (hexL ((nums s).take i)).length ≤ 128 from by rw [hexL_length, List.length_take]; omega)
        have BD := Lib.hid (show Below w.heap.size w wr.drew from below_draws HB.out 1)
        have OD := Lib.hid (show Own wr.drew w.heap.size u3 (hexL ((nums s).take i)) from HO.out.below (below_draws (Below.refl _ _) 1))
        have HZW := Lib.hid (show ∀ z ∈ [x1, x2], (Lit.int .u8 z).wf = true from by intro z hz; apply u8_wf; simp only [List.mem_cons, List.not_mem_nil, or_false] at hz; omega)
        clear hhi hlo hx1 hx2 b1 b2
        go_upto_region 7 with (fail)
        refine wp_region_held_drew (S := fun _ => True) (by kernel_rfl) trivial (fun hHeld => ?_)
        refine wpAnyH_take (i := 0) (oi := ?_) (v := ?_) ?_ ?_ ?_ ?_ ?_ ?_ ?_ ?_
        rotate_left 2
        · simp only [List.getElem?_toArray, List.getElem?_cons_succ, List.getElem?_cons_zero]; rfl
        · kernel_rfl
        · kernel_rfl
        · kernel_rfl
        · exact fun _ _ _ h => h
        · refine Or.inl ⟨by rfl, ?_⟩
          intro w' hSw
          (try dsimp only at hSw)
          go_simp
          all_goals (with_reducible rfl)
        · assumption
        try simp only [Act.put, List.setIfInBounds_toArray, List.set_cons_zero, List.set_cons_succ]
        refine wpAnyH_take (i := 1) (oi := ?_) (v := ?_) ?_ ?_ ?_ ?_ ?_ ?_ ?_ ?_
        rotate_left 2
        · simp only [List.getElem?_toArray, List.getElem?_cons_succ, List.getElem?_cons_zero]; rfl
        · kernel_rfl
        · kernel_rfl
        · kernel_rfl
        · exact fun _ _ _ h => h
        · refine Or.inl ⟨by rfl, ?_⟩
          intro w' hSw
          (try dsimp only at hSw)
          go_simp
          all_goals (with_reducible rfl)
        · assumption
        try simp only [Act.put, List.setIfInBounds_toArray, List.set_cons_zero, List.set_cons_succ]
        refine wpAnyH_take (i := 2) (oi := ?_) (v := ?_) ?_ ?_ ?_ ?_ ?_ ?_ ?_ ?_
        rotate_left 2
        · simp only [List.getElem?_toArray, List.getElem?_cons_succ, List.getElem?_cons_zero]; rfl
        · kernel_rfl
        · kernel_rfl
        · kernel_rfl
        · exact fun _ _ _ h => h
        · refine Or.inl ⟨by rfl, ?_⟩
          intro w' hSw
          (try dsimp only at hSw)
          go_simp
          all_goals (with_reducible rfl)
        · assumption
        try simp only [Act.put, List.setIfInBounds_toArray, List.set_cons_zero, List.set_cons_succ]
        refine wpAnyH_take (i := 3) (oi := ?_) (v := ?_) ?_ ?_ ?_ ?_ ?_ ?_ ?_ ?_
        rotate_left 2
        · simp only [List.getElem?_toArray, List.getElem?_cons_succ, List.getElem?_cons_zero]; rfl
        · kernel_rfl
        · kernel_rfl
        · kernel_rfl
        · exact fun _ _ _ h => h
        · refine Or.inl ⟨by rfl, ?_⟩
          intro w' hSw
          (try dsimp only at hSw)
          go_simp
          all_goals (with_reducible rfl)
        · assumption
        try simp only [Act.put, List.setIfInBounds_toArray, List.set_cons_zero, List.set_cons_succ]
        refine wpAnyH_take (i := 4) (oi := ?_) (v := ?_) ?_ ?_ ?_ ?_ ?_ ?_ ?_ ?_
        rotate_left 2
        · simp only [List.getElem?_toArray, List.getElem?_cons_succ, List.getElem?_cons_zero]; rfl
        · kernel_rfl
        · kernel_rfl
        · kernel_rfl
        · exact fun _ _ _ h => h
        · refine Or.inl ⟨by rfl, ?_⟩
          intro w' hSw
          (try dsimp only at hSw)
          go_simp
          all_goals (with_reducible rfl)
        · assumption
        try simp only [Act.put, List.setIfInBounds_toArray, List.set_cons_zero, List.set_cons_succ]
        refine wpAnyH_take (i := 5) (oi := ?_) (v := ?_) ?_ ?_ ?_ ?_ ?_ ?_ ?_ ?_
        rotate_left 2
        · simp only [List.getElem?_toArray, List.getElem?_cons_succ, List.getElem?_cons_zero]; rfl
        · kernel_rfl
        · kernel_rfl
        · kernel_rfl
        · exact fun _ _ _ h => h
        · refine Or.inl ⟨by rfl, ?_⟩
          intro w' hSw
          (try dsimp only at hSw)
          go_simp
          all_goals (with_reducible rfl)
        · assumption
        try simp only [Act.put, List.setIfInBounds_toArray, List.set_cons_zero, List.set_cons_succ]
        refine wpAnyH_take (i := 7) (oi := ?_) (v := ?_) ?_ ?_ ?_ ?_ ?_ ?_ ?_ ?_
        rotate_left 2
        · simp only [List.getElem?_toArray, List.getElem?_cons_succ, List.getElem?_cons_zero]; rfl
        · kernel_rfl
        · kernel_rfl
        · kernel_rfl
        · exact fun _ _ _ h => h
        · refine Or.inl ⟨by rfl, ?_⟩
          intro w' hSw
          (try dsimp only at hSw)
          go_simp
          all_goals (with_reducible rfl)
        · assumption
        try simp only [Act.put, List.setIfInBounds_toArray, List.set_cons_zero, List.set_cons_succ]
        refine wpAnyH_take (i := 8) (oi := ?_) (v := ?_) ?_ ?_ ?_ ?_ ?_ ?_ ?_ ?_
        rotate_left 2
        · simp only [List.getElem?_toArray, List.getElem?_cons_succ, List.getElem?_cons_zero]; rfl
        · kernel_rfl
        · kernel_rfl
        · kernel_rfl
        · exact fun _ _ _ h => h
        · refine Or.inl ⟨by rfl, ?_⟩
          intro w' hSw
          (try dsimp only at hSw)
          go_simp
          all_goals (with_reducible rfl)
        · assumption
        try simp only [Act.put, List.setIfInBounds_toArray, List.set_cons_zero, List.set_cons_succ]
        refine wpAnyH_take (i := 9) (oi := ?_) (v := ?_) ?_ ?_ ?_ ?_ ?_ ?_ ?_ ?_
        rotate_left 2
        · simp only [List.getElem?_toArray, List.getElem?_cons_succ, List.getElem?_cons_zero]; rfl
        · kernel_rfl
        · kernel_rfl
        · kernel_rfl
        · exact fun _ _ _ h => h
        · refine Or.inl ⟨by rfl, ?_⟩
          intro w' hSw
          (try dsimp only at hSw)
          go_simp
          all_goals (with_reducible rfl)
        · assumption
        try simp only [Act.put, List.setIfInBounds_toArray, List.set_cons_zero, List.set_cons_succ]
        refine wpAnyH_take (i := 10) (oi := ?_) (v := ?_) ?_ ?_ ?_ ?_ ?_ ?_ ?_ ?_
        rotate_left 2
        · simp only [List.getElem?_toArray, List.getElem?_cons_succ, List.getElem?_cons_zero]; rfl
        · kernel_rfl
        · kernel_rfl
        · kernel_rfl
        · exact fun _ _ _ h => h
        · refine Or.inl ⟨by rfl, ?_⟩
          intro w' hSw
          (try dsimp only at hSw)
          go_simp
          all_goals (with_reducible rfl)
        · assumption
        try simp only [Act.put, List.setIfInBounds_toArray, List.set_cons_zero, List.set_cons_succ]
        refine wpAnyH_take (i := 11) (oi := ?_) (v := ?_) ?_ ?_ ?_ ?_ ?_ ?_ ?_ ?_
        rotate_left 2
        · simp only [List.getElem?_toArray, List.getElem?_cons_succ, List.getElem?_cons_zero]; rfl
        · kernel_rfl
        · kernel_rfl
        · kernel_rfl
        · exact fun _ _ _ h => h
        · refine Or.inl ⟨by rfl, ?_⟩
          intro w' hSw
          (try dsimp only at hSw)
          go_simp
          all_goals (with_reducible rfl)
        · assumption
        try simp only [Act.put, List.setIfInBounds_toArray, List.set_cons_zero, List.set_cons_succ]
        refine wpAnyH_ready (rs := [6]) (by kernel_rfl) (by simp) ?_
        refine AllReadyH.cons (o := ?_) ?_ ?_ ?_
        rotate_left 1
        · simp only [List.getElem?_toArray, List.getElem?_cons_succ, List.getElem?_cons_zero]; rfl
        rotate_left 1
        · exact AllReadyH.nil
        intro K hK
        go_simp
        ((with_reducible refine (C1.out _).mono ?_); rintro e w4 ⟨rfl, b4⟩; have O4 := Lib.hid (OD.out.below b4); have B4 := Lib.hid (BD.out.trans (b4.mono BD.out.size)); clear b4)
        refine hK.out _ _ trivial (fun hHeld => ?_)
        clear hK K
        try simp only [Act.put, List.setIfInBounds_toArray, List.set_cons_zero, List.set_cons_succ]
        refine wpAnyH_ready (rs := [12]) (by kernel_rfl) (by simp) ?_
        refine AllReadyH.cons (o := ?_) ?_ ?_ ?_
        rotate_left 1
        · simp only [List.getElem?_toArray, List.getElem?_cons_succ, List.getElem?_cons_zero]; rfl
        rotate_left 1
        · exact AllReadyH.nil
        intro K hK
        go_simp
        ((with_reducible refine (C2.out _).mono ?_); rintro e w5 ⟨rfl, b5⟩; have O5 := Lib.hid (O4.out.below b5); have B5 := Lib.hid (B4.out.trans (b5.mono B4.out.size)); clear b5)
        refine hK.out _ _ trivial (fun hHeld => ?_)
        clear hK K
        try simp only [Act.put, List.setIfInBounds_toArray, List.set_cons_zero, List.set_cons_succ]
        have R6 := Lib.hid (show RdI (w5.alloc (.cells #[.int .u8 x1, .int .u8 x2] 5)) .u8 (some ⟨w5.heap.size, 0, none⟩) 2 2 [x1, x2] from rd_blk (heap_alloc_new w5 _) rfl (by unfold maxLen; omega) HZW.out)
        have O6 := Lib.hid (O5.out.below ((Below.refl _ _).alloc (Nat.le_refl _) (.cells #[.int .u8 x1, .int .u8 x2] 5)))
        have B6 := Lib.hid (B5.out.alloc B5.out.size (.cells #[.int .u8 x1, .int .u8 x2] 5))
        refine wpAnyH_ready (rs := [13]) (by kernel_rfl) (by simp) ?_
        refine AllReadyH.cons (o := ?_) ?_ ?_ ?_
        rotate_left 1
        · simp only [List.getElem?_toArray, List.getElem?_cons_succ, List.getElem?_cons_zero]; rfl
        rotate_left 1
        · exact AllReadyH.nil
        intro K hK
        go_simp
        skip
        refine hK.out _ _ trivial (fun hHeld => ?_)
        clear hK K
        try simp only [Act.put, List.setIfInBounds_toArray, List.set_cons_zero, List.set_cons_succ]
        refine wpAnyH_ready (rs := [14]) (by kernel_rfl) (by simp) ?_
        refine AllReadyH.cons (o := ?_) ?_ ?_ ?_
        rotate_left 1
        · simp only [List.getElem?_toArray, List.getElem?_cons_succ, List.getElem?_cons_zero]; rfl
        rotate_left 1
        · exact AllReadyH.nil
        intro K hK
        refine step_appI (by rfl) _ _ 2 (by rfl) (by rfl) (by rfl) O6.out R6.out (by have := HLN.out; omega) B6.out.size ?_; intro v7 w7 o7 g7; have O7 := Lib.hid o7; have B7 := Lib.hid (B6.out.trans ((fr_row g7).below B6.out.size (fun g hg => (O6.out.lt g hg).1))); clear o7 g7
        refine hK.out _ _ trivial (fun hHeld => ?_)
        clear hK K
        try simp only [Act.put, List.setIfInBounds_toArray, List.set_cons_zero, List.set_cons_succ]
        refine wpAnyH_take (i := 15) (oi := ?_) (v := ?_) ?_ ?_ ?_ ?_ ?_ ?_ ?_ ?_
        rotate_left 2
        · simp only [List.getElem?_toArray, List.getElem?_cons_succ, List.getElem?_cons_zero]; rfl
        · kernel_rfl
        · kernel_rfl
        · kernel_rfl
        · exact fun _ _ _ h => h
        · refine Or.inl ⟨by rfl, ?_⟩
          intro w' hSw
          (try dsimp only at hSw)
          go_simp
          all_goals (with_reducible rfl)
        · assumption
        try simp only [Act.put, List.setIfInBounds_toArray, List.set_cons_zero, List.set_cons_succ]
        refine wpAnyH_done (by kernel_rfl) ?_ _
        clear hHeld
        go_wp2
        go_roundg (s.size - (i + 1))
        case measure => have := HK.out; omega
        case rel => exact ⟨i + 1, by omega, by omega, by go_num, by rw [HHX.out]; exact O7.out, B7.out⟩
      · have hie : i = s.size := by omega
        have hown := HO.out
        rw [List.take_of_length_le (by rw [nums_length]; omega)] at hown
        obtain ⟨A', c', rfl, r', _⟩ := hown.rd (fun z hz => by have := hexL_bd (nums_bd s) z hz; omega)
        have hcv := conv_str (P := Tryd.prog) (src := 39) (dst := 9) (by rfl) (by rfl) (by rfl) r'
        have HKY := Lib.hid (show keyZ (nums s) = hexL (nums s) from by
          unfold keyZ
          rw [if_neg (fun e => HS0.out ((nums_nil s).1 e))])
        clear hown r'
        go_wp2
        go_ret
        exact ⟨by rw [HKY.out]; rfl, HB.out⟩
end Go.Proofs.YtghhoofdbmgacaaDoor
