/- The contracts of layer 13 (frame): lists of keys read. -/
import Derived.Test.YtghhoofdbmgacaaDoorFaL
import Derived.Test.YtghhoofdbmgacaaDoorFrG
import Derived.Deep.AppendLies
namespace Go.Proofs.YtghhoofdbmgacaaDoor
set_option linter.unusedSimpArgs false
set_option linter.unusedVariables false
open Go.ChangeShapes Go.WideShapes Go.ChangeAt Go.RowKit Go.Deep
theorem lst_step {q : List Int} {m k : Nat} {pre : List Cnt} (hk : q.getD 0 0 = (k : Int)) (h1 : 17 ≤ q.length) (h2 : k ≤ 64) (h3 : 17 + k ≤ q.length) :
    (lstZ (m + 1) q).map (pre ++ ·) = (lstZ m (q.drop (17 + k))).map ((pre ++ [⟨(q.drop 1).take k, num8 (q.drop (1 + k)), num8 (q.drop (9 + k))⟩]) ++ ·) := by
  rw [lstZ, hk, if_neg (by omega), Int.toNat_natCast]
  cases lstZ m (q.drop (17 + k)) with
  | none => rfl
  | some l => simp
theorem lst_no {q : List Int} {m : Nat} (h : q.length < 17 ∨ 64 < q.getD 0 0 ∨ q.length < 17 + (q.getD 0 0).toNat) : lstZ (m + 1) q = none := by
  rw [lstZ, if_pos h]
theorem wrap_sg {x : Int} (h : 0 ≤ x ∧ x < 18446744073709551616) : IntKind.i64.wrap x = sg x := by
  rw [IntKind.wrap_i64]
  unfold sg
  split <;> omega
theorem infoCnt : (Tryd.prog.info? 29).map (fun i => (i.zero, i.size, i.bytes)) = some (some (.agg #[.string ⟨#[]⟩, .int .i64 0, .int .i64 0]), 3, 32) := by kernel_rfl
def cells3 : List CV → List Value
  | [] => []
  | x :: r => x.cells ++ cells3 r
theorem cells3_length : ∀ l, (cells3 l).length = l.length * 3
  | [] => rfl
  | x :: r => by rw [cells3, List.length_append, cells3_length r, List.length_cons]; show 3 + _ = _; omega
theorem cells3_app : ∀ l m, cells3 (l ++ m) = cells3 l ++ cells3 m
  | [], _ => rfl
  | x :: r, m => by rw [List.cons_append, cells3, cells3, cells3_app r m, List.append_assoc]
theorem cells3_at : ∀ (l : List CV) (j : Nat) (h : j < l.length) (i : Nat), i < 3 → (cells3 l)[j * 3 + i]? = (l[j]).cells[i]?
  | x :: r, 0, _, i, hi => by
    rw [Nat.zero_mul, Nat.zero_add, cells3, List.getElem?_append_left (by exact hi)]
    rfl
  | x :: r, j + 1, h, i, hi => by
    have := cells3_at r j (by simpa using h) i hi
    rw [cells3, List.getElem?_append_right (by show 3 ≤ _; omega)]
    rw [show (j + 1) * 3 + i - x.cells.length = j * 3 + i by show (j + 1) * 3 + i - 3 = _; omega, this]
    rfl
theorem cv_at {w : World} {base : Nat} {v : Value} {ls : List CV} (h : w.ownsRow base 29 3 v ls.length (cells3 ls)) : ∃ A cap, v = .slice A ls.length cap ∧ CvAt w A cap ls := by
  rcases h.2 with ⟨rfl, h0⟩ | ⟨g, cap, cur, hv, hb, hg, hnc, hcm, hcs, htake⟩
  · exact ⟨none, 0, by rw [h0], by omega, by unfold maxLen; omega, fun h => absurd h (by omega)⟩
  · refine ⟨some ⟨g, 0, none⟩, cap, hv, hnc, hcm, fun h0 => ⟨g, 0, rfl, lt_of_block hg, fun j hj i hi => ?_⟩⟩
    subst hv
    rw [← cells3_at ls j hj i hi, Nat.zero_add]
    exact h.cellAt _ (by omega)
theorem owns_lt {w : World} {base sz n : Nat} {e : TypeId} {v : Value} {xs : List Value} (h : w.ownsRow base e sz v n xs) : ∀ g, v.ownBlock = some g → base ≤ g ∧ g < w.heap.size := by
  intro g hg
  rcases h.2 with ⟨rfl, _⟩ | ⟨g', cap, cur, rfl, hb, hh, _⟩
  · cases hg
  · have : g' = g := by simpa [Value.ownBlock] using hg
    subst this
    exact ⟨hb, lt_of_block hh⟩
theorem owns_fr {w w' : World} {F : Nat → Prop} {base sz n : Nat} {e : TypeId} {v : Value} {xs : List Value} (h : w.ownsRow base e sz v n xs) (hf : Fr F w w') (hF : ∀ g, v.ownBlock = some g → ¬ F g) : w'.ownsRow base e sz v n xs := by
  refine ⟨h.1, ?_⟩
  rcases h.2 with h0 | ⟨g, cap, cur, hv, hb, hg, hr⟩
  · exact .inl h0
  · exact .inr ⟨g, cap, cur, hv, hb, (hf.block g (lt_of_block hg) (hF g (by rw [hv]; rfl))).trans hg, hr⟩
theorem owns_below {w w' : World} {base sz n : Nat} {e : TypeId} {v : Value} {xs : List Value} (h : w.ownsRow base e sz v n xs) (hb : Below w.heap.size w w') : w'.ownsRow base e sz v n xs := owns_fr h (F := fun _ => False) (Fr.of_below hb) (fun _ _ => id)
def isSl (v : Value) : Prop := ∃ LA LN LC, v = .slice LA LN LC
theorem isSl_nil : isSl (.slice none 0 0) := ⟨_, _, _, rfl⟩
theorem owns_sl {w : World} {base sz n : Nat} {e : TypeId} {v : Value} {xs : List Value} (h : w.ownsRow base e sz v n xs) : isSl v := by
  rcases h.2 with ⟨rfl, _⟩ | ⟨g', cap, cur, rfl, _⟩
  · exact isSl_nil
  · exact ⟨_, _, _, rfl⟩
theorem rdI_mid {w : World} {d off n c : Nat} {q : List Int} (h : RdI w .u8 (some ⟨d, off, none⟩) n c q) {m l : Nat} (hm : m + l ≤ n) (hmc : m < n) : RdI w .u8 (some ⟨d, off + m, none⟩) l (c - m) ((q.drop m).take l) := by
  have r1 := rdI_end h (m := m) (by omega)
  have hl := h.len
  have hc := h.cap
  refine ⟨by rw [List.length_take, List.length_drop]; omega, by omega, by have := r1.max; omega, fun h0 => ?_, fun x hx => h.wf x (List.mem_of_mem_drop (List.mem_of_mem_take hx))⟩
  obtain ⟨b', off', e, hlt, hcs⟩ := r1.at_ (by omega)
  refine ⟨b', off', e, hlt, fun i hi => ?_⟩
  rw [hcs i (by omega)]
  simp [List.getD, List.getElem?_take, hi]
set_option maxHeartbeats 8000000 in
set_option maxRecDepth 100000 in
theorem rdlist_any (A : Option Addr) (n c : Nat) (q : List Int) (N : Nat) (r : Option (List Cnt)) (hN : N ≤ 255) (hn : n ≤ 100000) (w : World) (hr : RdI w .u8 A n c q) (h : lstZ N q = r) :
    Calls Tryd.prog 25 #[.slice A n c, .int .i64 (N : Int)] w fun e w' => ∃ v, e = .returned (.tuple #[v, .bool r.isSome]) ∧ isSl v ∧ (∀ l, r = some l → ∃ ls : List CV, zs ls = l ∧ w'.ownsRow w.heap.size 29 3 v ls.length (cells3 ls)) ∧ Below w.heap.size w w' := by
  have HR := Lib.hid hr
  have HH := Lib.hid h
  obtain ⟨rb, hrb⟩ : ∃ rb, rb = r.isSome := ⟨_, rfl⟩
  have HRB := Lib.hid hrb
  rw [← hrb]
  clear hrb
  have hNb : (N : Int) ≤ 255 := by omega
  have HN := Lib.hid hn
  clear hr h hn
  go_enter Tryd.func25, Tryd.ntmps25
  go_wp2
  go_loopg [0, 6, 10] N (fun k s0 s6 s10 wr => ∃ (i : Nat) (A1 : Option Addr) (n1 c1 : Nat) (q1 : List Int) (ls : List CV), i ≤ N ∧ k = N - i ∧ s10 = .int .i64 (i : Int) ∧ s0 = .slice A1 n1 c1 ∧ RdI w .u8 A1 n1 c1 q1 ∧ n1 ≤ n ∧ (lstZ (N - i) q1).map (zs ls ++ ·) = r ∧ ls.length = i ∧ wr.ownsRow w.heap.size 29 3 s6 ls.length (cells3 ls) ∧ Below w.heap.size w wr)
  case atStart => exact ⟨0, A, n, c, q, [], by omega, by omega, rfl, rfl, HR.out, Nat.le_refl _, by rw [Nat.sub_zero, HH.out]; cases r <;> simp [zs], rfl, World.ownsRow_nil _ _ _ _, Below.refl _ _⟩
  case round =>
    obtain ⟨i, A1, n1, c1, q1, ls, hi, hkk, rfl, rfl, hr1, hn1, hlz, hll, hown, hb⟩ := hrel
    have HK := Lib.hid hkk
    have HO := Lib.hid hown
    have HB := Lib.hid hb
    have HR1 := Lib.hid hr1
    have HLZ := Lib.hid hlz
    have HLL := Lib.hid hll
    have hl1 := hr1.len
    have hcp := hr1.cap
    have hmx := hr1.max
    have HBY := Lib.hid (show byt q1 from fun x hx => wf_u8 (hr1.wf x hx))
    unfold maxLen at hmx
    have HL1 := Lib.hid hl1
    have HN1 := Lib.hid hn1
    have hn1c : (n1 : Int) ≤ (c1 : Int) := by omega
    clear hkk hown hb hr1 hlz hll hn1
    by_cases hiN : i < N
    · have hiN' : (i : Int) < (N : Int) := by omega
      obtain ⟨m, hm⟩ : ∃ m, N - i = m + 1 := ⟨N - i - 1, by omega⟩
      have HM := Lib.hid hm
      clear hm
      by_cases h17 : n1 < 17
      · have hnone : r = none := by
          rw [← HLZ.out, HM.out, lst_no (by have := HL1.out; omega)]; rfl
        have HNO := Lib.hid hnone
        have hrf : rb = false := by rw [HRB.out, hnone]; rfl
        subst hrf
        clear hnone
        have t1 : (n1 : Int) < 17 := by omega
        clear hl1
        go_wp2
        go_ret2
        exact ⟨_, rfl, (by first | exact isSl_nil | exact owns_sl HO.out), (fun l hl => by rw [HNO.out] at hl; cases hl), HB.out⟩
      · have t1 : ¬ (n1 : Int) < 17 := by omega
        obtain ⟨d, off, rfl, hlt, hc⟩ := (HR1.out.below HB.out).at_ (by omega)
        have c00 := hc 0 (by omega)
        rw [Nat.add_zero] at c00
        have hb0 := byt_getD HBY.out 0
        obtain ⟨k, hk⟩ : ∃ k : Nat, q1.getD 0 0 = (k : Int) := ⟨(q1.getD 0 0).toNat, by omega⟩
        rw [hk] at c00 hb0
        have HKK := Lib.hid hk
        have HLT := Lib.hid hlt
        have ek : IntKind.i64.wrap (k : Int) = (k : Int) := by rw [IntKind.wrap_i64]; omega
        have t0 : (0 : Int) < (n1 : Int) := by omega
        clear hc hk hlt hl1
        by_cases h64 : 64 < k
        · have hnone : r = none := by
            rw [← HLZ.out, HM.out, lst_no (by have := HKK.out; omega)]; rfl
          have HNO := Lib.hid hnone
          have hrf : rb = false := by rw [HRB.out, hnone]; rfl
          subst hrf
          clear hnone
          have t2 : (64 : Int) < (k : Int) := by omega
          go_wp2
          go_ret2
          exact ⟨_, rfl, (by first | exact isSl_nil | exact owns_sl HO.out), (fun l hl => by rw [HNO.out] at hl; cases hl), HB.out⟩
        · have t2 : ¬ (64 : Int) < (k : Int) := by omega
          by_cases h17k : n1 < 17 + k
          · have hnone : r = none := by
              rw [← HLZ.out, HM.out, lst_no (by have := HKK.out; have := HL1.out; omega)]; rfl
            have HNO := Lib.hid hnone
            have hrf : rb = false := by rw [HRB.out, hnone]; rfl
            subst hrf
            clear hnone
            have t3 : (n1 : Int) < 17 + (k : Int) := by omega
            go_wp2
            go_ret2
            exact ⟨_, rfl, (by first | exact isSl_nil | exact owns_sl HO.out), (fun l hl => by rw [HNO.out] at hl; cases hl), HB.out⟩
          · have t3 : ¬ (n1 : Int) < 17 + (k : Int) := by omega
            obtain ⟨j1, hj1⟩ : ∃ j1 : Nat, j1 = 1 + k := ⟨_, rfl⟩
            obtain ⟨j17, hj17⟩ : ∃ j17 : Nat, j17 = 17 + k := ⟨_, rfl⟩
            have e1 : (1 : Int) + (k : Int) = (j1 : Int) := by omega
            have e17 : (17 : Int) + (k : Int) = (j17 : Int) := by omega
            have HJ1 := Lib.hid hj1
            have HJ17 := Lib.hid hj17
            rw [e17] at t3
            obtain ⟨key, hkey⟩ : ∃ key, key = strOfNums ((q1.drop 1).take k) := ⟨_, rfl⟩
            have HKEY := Lib.hid hkey
            have hks : key.size = k := by rw [hkey, str_size, List.length_take, List.length_drop, HL1.out]; omega
            have hcv : (convert 39 9 (.slice (some ⟨d, off + 1, none⟩) k (c1 - 1))).run Tryd.prog wr = .ok (.string key) wr := by
              rw [conv_str (by rfl) (by rfl) (by rfl) (rdI_mid (HR1.out.below HB.out) (m := 1) (l := k) (by omega) (by omega)), hkey]
            have R1 := Lib.hid (show RdI wr .u8 (some ⟨d, off + j1, none⟩) (n1 - j1) (c1 - j1) (q1.drop j1) from rdI_end (HR1.out.below HB.out) (m := j1) (by omega))
            obtain ⟨s, hs⟩ : ∃ s, s = wr.heap.size := ⟨_, rfl⟩
            have HSE := Lib.hid hs
            have CR := Lib.hid (reader_any (some ⟨d, off + j1, none⟩) (n1 - j1) (c1 - j1) d (q1.drop j1) wr R1.out (fun _ => ⟨_, rfl⟩) HLT.out s hs.symm)
            obtain ⟨X, hX⟩ : ∃ X, X = preZ (q1.drop j1) 8 := ⟨_, rfl⟩
            obtain ⟨Y, hY⟩ : ∃ Y, Y = preZ ((q1.drop j1).drop 8) 8 := ⟨_, rfl⟩
            have hXb := pre8_bd (byt_drop HBY.out j1)
            have hYb := pre8_bd (byt_drop (byt_drop HBY.out j1) 8)
            rw [← hX] at hXb
            rw [← hY] at hYb
            obtain ⟨cn, hcn⟩ : ∃ cn, cn = sg X := ⟨_, rfl⟩
            obtain ⟨ce, hce⟩ : ∃ ce, ce = sg Y := ⟨_, rfl⟩
            have eX : IntKind.i64.wrap X = cn := by rw [hcn]; exact wrap_sg hXb
            have eY : IntKind.i64.wrap Y = ce := by rw [hce]; exact wrap_sg hYb
            have HX := Lib.hid hX
            have HY := Lib.hid hY
            have HA := Lib.hid (show (CV.z ⟨key, cn, ce⟩) = ⟨(q1.drop 1).take k, num8 (q1.drop (1 + k)), num8 (q1.drop (9 + k))⟩ from by
              unfold CV.z num8
              rw [hcn, hce, hX, hY, hkey, nums_str (byt_take (byt_drop HBY.out _) _), hj1, List.drop_drop, show 1 + k + 8 = 9 + k by omega])
            have HLS := Lib.hid (lst_step (m := m) (pre := zs ls) HKK.out (by have := HL1.out; omega) (by omega) (by have := HL1.out; omega))
            have hj1n : (j1 : Int) ≤ (n1 : Int) := by omega
            have hj1c : ¬ c1 = j1 := by omega
            have hc1 : ¬ c1 = 1 := by omega
            have hj1cc : (j1 : Int) ≤ (c1 : Int) := by omega
            have h1j : (1 : Int) ≤ (j1 : Int) := by omega
            have hjk : j1 - 1 = k := by omega
            have HDS := Lib.hid (show d ≠ s from by have := HLT.out; omega)
            obtain ⟨i0, hi0, hz0, hz1, hz2⟩ := info_parts infoCnt
            have CN1 := Lib.hid (fun (wx : World) (hx : SrcAt wx s d (q1.drop j1)) => next_x s d (q1.drop j1) ((q1.drop j1).drop 8) X 8 8 rfl (by omega) (by rw [List.length_drop, HL1.out]; omega) (by omega) wx hx HDS.out HX.out.symm rfl)
            have CN2 := Lib.hid (fun (wx : World) (hx : SrcAt wx s d ((q1.drop j1).drop 8)) => next_x s d ((q1.drop j1).drop 8) (((q1.drop j1).drop 8).drop 8) Y 8 8 rfl (by omega) (by rw [List.length_drop, List.length_drop, HL1.out]; omega) (by omega) wx hx HDS.out HY.out.symm rfl)
            clear hj1 hj17 hkey hs hX hY hXb hYb hcn hce
            go_upto_region 9 with (first
              | (go_at_call 24; ((with_reducible refine CR.out.mono ?_); rintro e w2 ⟨rfl, s2, b2⟩; have S2 := Lib.hid s2; have B2 := Lib.hid b2; clear s2 b2))
              | (go_at_call 27; ((with_reducible refine (CN1.out _ S2.out).mono ?_); rintro e w3 ⟨rfl, s3, f3⟩; have S3 := Lib.hid s3; have F3 := Lib.hid f3; clear s3 f3))
              | (go_at_call 27; ((with_reducible refine (CN2.out _ S3.out).mono ?_); rintro e w4 ⟨rfl, s4, f4⟩; have F4 := Lib.hid (F3.out.trans f4); have O4 := Lib.hid (owns_fr (owns_below HO.out B2.out) F4.out (fun g hg => by have := (owns_lt HO.out g hg).2; have := HSE.out; omega)); have B4 := Lib.hid (HB.out.trans ((B2.out.trans (F4.out.below B2.out.size (fun k hk => by have := HSE.out; omega))).mono HB.out.size)); have NW := Lib.hid (heap_alloc_new w4 (.cells (cvC key cn ce) 29)); clear s4 f4))
              | (at_builtin; refine wpList_append_lies _ (by rfl) _ _ 26 (by rfl) w.heap.size 29 i0 (.agg #[.string ⟨#[]⟩, .int .i64 0, .int .i64 0]) 3 32 Tryd.underlying26 hi0 hz0 hz1 hz2 (by rfl) (by omega) u6 ls.length (cells3 ls) (by rfl) (O4.out.alloc _) ⟨w4.heap.size, 0, none⟩ 1 1 [.string key, .int .i64 cn, .int .i64 ce] (by rfl) (by rfl) (World.news_of_block NW.out) (by simp [Value.oneCell']) (by omega) (by have := HLL.out; unfold maxLen; omega) (by have := HLL.out; omega) (by have := B4.out.size; simp; omega) (w4.heap.size + 1) (by simp) ?_; intro gl cl w9 hown9 hgrow9 hat9 hlt9; have HO9 := Lib.hid hown9; have HG9 := Lib.hid hgrow9; clear hown9 hgrow9 hat9 hlt9))
            have HO9' := Lib.hid (show w9.ownsRow w.heap.size 29 3 (.slice (some ⟨gl, 0, none⟩) (ls.length + 1) cl) (ls ++ [(⟨key, cn, ce⟩ : CV)]).length (cells3 (ls ++ [(⟨key, cn, ce⟩ : CV)])) from by
              rw [cells3_app, List.length_append]
              exact HO9.out)
            have B9 := Lib.hid (show Below w.heap.size w w9 from by
              refine (B4.out.alloc B4.out.size (.cells (cvC key cn ce) 29)).trans ((fr_row HG9.out).below (by have := B4.out.size; simp; omega) (fun g hg => (owns_lt HO.out g hg).1))
              )
            have HZ9 := Lib.hid (show (lstZ (N - (i + 1)) (q1.drop j17)).map (zs (ls ++ [(⟨key, cn, ce⟩ : CV)]) ++ ·) = r from by
              rw [← HLZ.out, HM.out, HLS.out, show N - (i + 1) = m by have := HM.out; omega, HJ17.out]
              unfold zs
              rw [List.map_append, List.map_singleton, HA.out])
            by_cases hcj : c1 = j17
            · have hnj : n1 = j17 := by have := HJ17.out; omega
              subst hnj
              subst hcj
              clear hcv
              go_wp2
              go_roundg (N - (i + 1))
              case measure => have := HK.out; omega
              case rel =>
                refine ⟨i + 1, _, 0, 0, q1.drop c1, ls ++ [(⟨key, cn, ce⟩ : CV)], by omega, by omega, by go_num, rfl, ?_, by omega, HZ9.out, by rw [List.length_append, HLL.out]; rfl, HO9'.out, B9.out⟩
                rw [List.drop_eq_nil_of_le (by rw [HL1.out]; exact Nat.le_refl _)]
                exact rdI_none (by unfold maxLen; omega)
            · clear hcv
              go_wp2
              go_roundg (N - (i + 1))
              case measure => have := HK.out; omega
              case rel =>
                exact ⟨i + 1, _, n1 - j17, c1 - j17, q1.drop j17, ls ++ [(⟨key, cn, ce⟩ : CV)], by omega, by omega, by go_num, rfl, rdI_end HR1.out (m := j17) (by have := HJ17.out; omega), by have := HN1.out; omega, HZ9.out, by rw [List.length_append, HLL.out]; rfl, HO9'.out, B9.out⟩
    · have hie : i = N := by omega
      subst hie
      have hz := HLZ.out
      rw [Nat.sub_self] at hz
      by_cases hq : n1 = 0
      · subst hq
        have hq0 : q1 = [] := List.length_eq_zero_iff.1 HL1.out
        rw [hq0] at hz
        have hrs : r = some (zs ls) := by rw [← hz]; simp [lstZ]
        have HNO := Lib.hid hrs
        have hrf : rb = true := by rw [HRB.out, hrs]; rfl
        subst hrf
        clear hz hl1 hrs
        go_wp2
        go_ret2
        exact ⟨_, rfl, owns_sl HO.out, (fun l hl => by rw [HNO.out] at hl; injection hl with hl; subst hl; exact ⟨ls, rfl, HO.out⟩), HB.out⟩
      · have hq0 : q1 ≠ [] := fun e => hq (by rw [← HL1.out, e]; rfl)
        have hrs : r = none := by rw [← hz, lstZ, if_neg hq0]; rfl
        have HNO := Lib.hid hrs
        have hrf : rb = false := by rw [HRB.out, hrs]; rfl
        subst hrf
        clear hrs
        have t0 : ((n1 : Int) == 0) = false := by simp; omega
        clear hz hl1
        go_wp2
        go_ret2
        exact ⟨_, rfl, (by first | exact isSl_nil | exact owns_sl HO.out), (fun l hl => by rw [HNO.out] at hl; cases hl), HB.out⟩
end Go.Proofs.YtghhoofdbmgacaaDoor
