/- The laws of layer 14 (decode), walked: byte by byte. -/
import Derived.Test.YtkcoofpoipgiaaaDcF
namespace Go.Proofs.Ytkcoofpoipgiaaa
set_option linter.unusedSimpArgs false
set_option linter.unusedVariables false
open Go.ChangeShapes Go.WideShapes Go.ChangeAt Go.RowKit
/-- a piece of a list grows by one. -/
theorem piece_next {zs : List Int} {a j : Nat} (ha : a ≤ j) (hj : j < zs.length) : (zs.drop a).take (j + 1 - a) = (zs.drop a).take (j - a) ++ [zs.getD j 0] := by
  have h : j - a < (zs.drop a).length := by rw [List.length_drop]; omega
  rw [show j + 1 - a = (j - a) + 1 by omega, List.take_succ_eq_append_getElem h, List.getElem_drop]
  have e : a + (j - a) = j := by omega
  simp only [e]
  simp [List.getD, hj]
set_option maxHeartbeats 8000000 in
set_option maxRecDepth 100000 in
theorem bytes_law (w : World) (A : Option Addr) (n c : Nat) (zs : List Int) (rules0 : Int) (hr : RdI w .u8 A n c zs) (_ : -9223372036854775808 ≤ rules0 ∧ rules0 ≤ 9223372036854775807) :
    Calls Try.prog 4 #[.slice A n c, .int .i64 rules0] w fun e w' => e = .returned (.bool true) ∧ Below w.heap.size w w' := by
  have hmx := hr.max
  have hcp := hr.cap
  have hlen := hr.len
  unfold maxLen at hmx
  have HR := Lib.hid hr
  clear hr
  by_cases hn : (500 : Int) < (n : Int)
  · have t1 : decide ((500 : Int) < (n : Int)) = true := by rw [decide_eq_true_eq]; exact hn
    go_enter Try.func4, Try.ntmps4
    go_wp2_with (go_at_call 9; refine (fit_any _).mono ?_; rintro e w1 ⟨rfl, b1⟩; have B1 := Lib.hid b1; clear b1)
    go_ret
    exact ⟨rfl, B1.out⟩
  have t1 : decide ((500 : Int) < (n : Int)) = false := by rw [decide_eq_false_iff_not]; exact hn
  obtain ⟨rules, hru⟩ : ∃ r, bits .and .i64 rules0 15 = r := ⟨_, rfl⟩
  have HL := Lib.hid hlen
  have hni : (n : Int) ≤ 500 := by omega
  have hz := zero_dec
  have hs1 := decC_size zero75 0 0 0 zero75_len
  have hs2 := decC_size zero75 0 rules 0 zero75_len
  have hst := fun w => store_dec w zero75 zero75 0 0 0 rules 0 0 zero75_len zero75_len
  clear hn hlen
  go_enter Try.func4, Try.ntmps4
  go_upto_region 7 with (first
    | (go_at_call 9; refine (fit_any _).mono ?_; rintro e w1 ⟨rfl, b1⟩; have B1 := Lib.hid b1; clear b1)
    | (go_at_call 12; ((with_reducible refine (new_any _ _).mono ?_); rintro e w2 ⟨rfl, b2⟩; have B2 := Lib.hid (G.below_on B1.out b2); clear b2)))
  obtain ⟨w3, hw3, hbk, hbl, hsz⟩ := box_new w2 (decC zero75 0 rules 0) 36
  rw [hw3]
  obtain ⟨b, hb⟩ : ∃ x, x = w2.heap.size := ⟨_, rfl⟩
  rw [← hb] at hbk ⊢
  have D3 := Lib.hid (dec_new hbk)
  have B3 := Lib.hid (G.below_on B2.out hbl)
  have NW := Lib.hid (show w.heap.size ≤ b from by have := B2.out.size; omega)
  clear hw3 hbk hbl hsz hb hz hs1 hs2 hst hru t1
  go_wp2
  go_loopg [6, 33] n (fun k0 s6 sj wr => ∃ (j a : Nat) (z : List Int), j ≤ n ∧ k0 = n - j ∧ sj = .int .i64 (j : Int) ∧ s6 = .int .i64 (a : Int) ∧ a ≤ j ∧ z = (zs.drop a).take (j - a) ∧ DecAt wr b z rules 0 ∧ Below w.heap.size w wr)
  case atStart => exact ⟨0, 0, [], by omega, by omega, rfl, rfl, by omega, by simp, D3.out, B3.out⟩
  case round =>
    obtain ⟨j, a, z, hj, hkk, rfl, rfl, haj, hze, hd, hb⟩ := hrel
    have HK := Lib.hid hkk
    have HD := Lib.hid hd
    have HB := Lib.hid hb
    clear hkk hd
    by_cases hjn : j < n
    · have hjl : j < zs.length := by rw [HL.out]; exact hjn
      have hzl : (z.length : Int) = (j : Int) - (a : Int) := by rw [hze, List.length_take, List.length_drop]; omega
      obtain ⟨g, off, rfl, hlt, hc⟩ := (HR.out.below hb).at_ (by omega)
      have c0 := hc j hjn
      have cb := wf_u8 (HR.out.wf_at hjn)
      obtain ⟨x, hx⟩ : ∃ x, x = zs.getD j 0 := ⟨_, rfl⟩
      have hnx : (zs.drop a).take (j + 1 - a) = z ++ [x] := by rw [piece_next haj hjl, hze, hx]
      rw [← hx] at c0 cb
      have CBX := Lib.hid cb
      obtain ⟨q, m, e, hp⟩ : ∃ q m e, parseZ (z ++ [x]) rules = (q, m, e) := ⟨_, _, _, rfl⟩
      have HP := Lib.hid hp
      have RM := Lib.hid (fun W (hW : Below w.heap.size w W) => show RdI W .u8 (some ⟨g, off + a, none⟩) (j + 1 - a) (c - a) (z ++ [x]) from by rw [← hnx]; exact rdI_mid (HR.out.below hW) (by omega))
      have CP := Lib.hid (fun W hW => rparse_x _ _ _ (z ++ [x]) rules q m e W (RM.out W hW) hp)
      have CF := Lib.hid (fun W b' (hW : DecAt W b' z rules 0) => feed_ok b' z rules x W hW CBX.out q m e hp)
      have CT := Lib.hid (fun W (hW : DecAt W b z rules 0) => try_any b z rules x 0 W hW _ (fun w' b' hd => (CF.out w' b' hd).mono (fun e' w'' h => ⟨h.1, h.2.2⟩)) q.op q.rule q.cost q.k (strOfNums q.key) (decide (0 < m)) e rfl)
      obtain ⟨B, hB⟩ : ∃ B, decide (0 < m) = B := ⟨_, rfl⟩
      have HBB := Lib.hid hB
      rw [hB] at CF CT
      have CL0 := Lib.hid (fun W (hW : DecAt W b z rules 0) => by have := len_c b z rules 0 W hW; rw [hzl] at this; exact this)
      have CE0 := Lib.hid (fun W (hW : DecAt W b z rules 0) => err_c b z rules 0 W hW)
      have HZL := Lib.hid hzl
      have HJN := Lib.hid hjn
      have HNX := Lib.hid hnx
      have heq : ∀ w, (Op.equalIn 10000 32 (.agg (reqC q.op q.rule q.cost (strOfNums q.key) q.k)) (.agg (reqC q.op q.rule q.cost (strOfNums q.key) q.k))).run Try.prog w = .ok true w := fun w => by rw [req_equal]; simp
      have z1 : (0 : Int) ≤ (a : Int) := by omega
      have z2 : (a : Int) ≤ (j : Int) + 1 := by omega
      have z3 : (j : Int) + 1 ≤ (c : Int) := by omega
      have z4 : ¬ c = a := by omega
      have z5 : a ≤ j + 1 := by omega
      have z6 : (j : Int) ≤ 500 := by omega
      have HAJ := Lib.hid haj
      clear hc hx hb cb hlt hp hnx hjl hzl hze
      go_upto_region 13 with (first
        | (go_at_call 13; ((with_reducible refine (CL0.out _ HD.out).mono ?_); rintro e' w4 ⟨rfl, rfl⟩))
        | (go_at_call 14; ((with_reducible refine (CT.out _ HD.out).mono ?_); rintro e' w5 ⟨rfl, b5⟩; have D5 := Lib.hid (HD.out.keep b5); have B5 := Lib.hid (G.below_on HB.out b5); clear b5)))
      obtain ⟨w6, hw6, hq6, hbl, _⟩ := box_new w5 (reqC q.op q.rule q.cost (strOfNums q.key) q.k) 32
      change Code.wp _ _ _ _ (w5.alloc (.cells (reqC q.op q.rule q.cost (strOfNums q.key) q.k) 32))
      rw [hw6]
      have hbb : w5.heap.size ≠ b := by obtain ⟨bs, _, h⟩ := D5.out; have := lt_of_block h; omega
      generalize w5.heap.size = b6 at hq6 hbb ⊢
      have HNE := Lib.hid hbb
      have D6 := Lib.hid (D5.out.keep hbl)
      have B6 := Lib.hid (G.below_on B5.out hbl)
      have Q6 := Lib.hid hq6
      clear hw6 hbl hq6 c0 hbb
      go_upto_region 15 with (first
        | (go_at_call 13; ((with_reducible refine (CL0.out _ D6.out).mono ?_); rintro e' w7 ⟨rfl, rfl⟩))
        | (go_at_call 15; ((with_reducible refine (CE0.out _ D6.out).mono ?_); rintro e' w7 ⟨rfl, rfl⟩)))
      go_upto_region 16 with (go_at_call 16; ((with_reducible refine (CP.out _ B6.out).mono ?_); rintro e' w8 ⟨rfl, b8⟩; have D8 := Lib.hid (D6.out.keep b8); have B8 := Lib.hid (G.below_on B6.out b8); have Q8 := Lib.hid (Q6.out.keep b8); clear b8))
      obtain ⟨w9, hw9, hq9, hbl, _⟩ := box_new w8 (reqC q.op q.rule q.cost (strOfNums q.key) q.k) 32
      change Code.wp _ _ _ _ (w8.alloc (.cells (reqC q.op q.rule q.cost (strOfNums q.key) q.k) 32))
      rw [hw9]
      have hbb : w8.heap.size ≠ b := by obtain ⟨bs, _, h⟩ := D8.out; have := lt_of_block h; omega
      generalize w8.heap.size = b9 at hq9 hbb ⊢
      have HNE2 := Lib.hid hbb
      have D9 := Lib.hid (D8.out.keep hbl)
      have B9 := Lib.hid (G.below_on B8.out hbl)
      have Q9 := Lib.hid hq9
      have Q69 := Lib.hid (Q8.out.keep hbl)
      clear hw9 hbl hq9 hbb z1 z2 z3 z4 z5
      go_upto_region 17 with (go_at_call 17; ((with_reducible refine (CF.out _ _ D9.out).mono ?_); rintro e' w10 ⟨rfl, d10, f10⟩; have D10 := Lib.hid d10; have B10 := Lib.hid (B9.out.trans (f10.below B9.out.size (fun k hk => by have := NW.out; omega))); have Q10 := Lib.hid (Q9.out.fr f10 HNE2.out); have Q610 := Lib.hid (Q69.out.fr f10 HNE.out); clear d10 f10))
      obtain ⟨w11, hw11, hq11, hbl, _⟩ := box_new w10 (reqC q.op q.rule q.cost (strOfNums q.key) q.k) 32
      change Code.wp _ _ _ _ (w10.alloc (.cells (reqC q.op q.rule q.cost (strOfNums q.key) q.k) 32))
      rw [hw11]
      generalize w10.heap.size = b11 at hq11 ⊢
      have D11 := Lib.hid (D10.out.keep hbl)
      have B11 := Lib.hid (G.below_on B10.out hbl)
      have k11 := hq11.rd
      have k9 := (Q10.out.keep hbl).rd
      have k6 := (Q610.out.keep hbl).rd
      clear hw11 hbl hq11
      have hund : undef = Value.tuple #[] := rfl
      go_upto_region 19 with (fail)
      clear k11 k9 k6 hund heq
      by_cases he : e = 0
      · subst he
        cases hbv : B with
        | true =>
          have hn2 : nextZ rules z x = [] := by unfold nextZ; rw [HP.out]; exact if_pos (Or.inr (by have := HBB.out; rw [hbv] at this; simpa using this))
          have D12 := D11.out
          rw [hn2] at D12
          have D13 := Lib.hid D12
          have CL1 := Lib.hid (len_c b [] rules 0 w11 D12)
          clear D12 hn2 hbv
          go_wp2_with (go_at_call 13; ((with_reducible refine CL1.out.mono ?_); rintro e' w12 ⟨rfl, rfl⟩))
          go_roundg (n - (j + 1))
          case measure => have := HK.out; have := HJN.out; omega
          case rel => exact ⟨j + 1, j + 1, [], by have := HJN.out; omega, by omega, by go_num, by go_num, by omega, by simp, D13.out, B11.out⟩
        | false =>
          have hn2 : nextZ rules z x = z ++ [x] := by unfold nextZ; rw [HP.out]; exact if_neg (by have := HBB.out; rw [hbv] at this; simpa using this)
          have D12 := D11.out
          rw [hn2] at D12
          have D13 := Lib.hid D12
          have hl2 : ((z ++ [x]).length : Int) = (j : Int) + 1 - (a : Int) := by have := HZL.out; rw [List.length_append, List.length_singleton]; omega
          have CL1 := len_c b (z ++ [x]) rules 0 w11 D12
          rw [hl2] at CL1
          have CL2 := Lib.hid CL1
          have haj := HAJ.out
          clear D12 hn2 hbv hl2 CL1
          go_wp2_with (go_at_call 13; ((with_reducible refine CL2.out.mono ?_); rintro e' w12 ⟨rfl, rfl⟩))
          go_roundg (n - (j + 1))
          case measure => have := HK.out; have := HJN.out; omega
          case rel => exact ⟨j + 1, a, z ++ [x], by have := HJN.out; omega, by omega, by go_num, rfl, by have := HAJ.out; omega, HNX.out.symm, D13.out, B11.out⟩
      · have hn2 : nextZ rules z x = [] := by unfold nextZ; rw [HP.out]; exact if_pos (Or.inl he)
        have D12 := D11.out
        rw [hn2] at D12
        have D13 := Lib.hid D12
        have CT2 := Lib.hid (try_any b [] rules x e w11 D12 _ (fun w' b' hd => (feed_err b' [] rules x e w' hd he).mono (fun e' w'' h => ⟨h.1, Fr.of_below h.2⟩)) 0 0 0 0 ⟨#[]⟩ false e rfl)
        have g1 : (e != 0) = true := by simpa using he
        clear D12 hn2 he hB
        go_upto_region 21 with (go_at_call 14; ((with_reducible refine CT2.out.mono ?_); rintro e' w12 ⟨rfl, b12⟩; have D14 := Lib.hid (D13.out.keep b12); have B12 := Lib.hid (G.below_on B11.out b12); clear b12))
        obtain ⟨w13, hw13, _, hbl, _⟩ := box_new w12 (reqC 0 0 0 ⟨#[]⟩ 0) 32
        change Code.wp _ _ _ _ (w12.alloc (.cells (reqC 0 0 0 ⟨#[]⟩ 0) 32))
        rw [hw13]
        have CE1 := Lib.hid (err_c b [] rules e w13 (D14.out.keep hbl))
        have CL1 := Lib.hid (len_c b [] rules e w13 (D14.out.keep hbl))
        have B13 := Lib.hid (G.below_on B12.out hbl)
        clear hw13 hbl
        go_wp2_with (first
          | (go_at_call 15; ((with_reducible refine CE1.out.mono ?_); rintro e' w14 ⟨rfl, rfl⟩))
          | (go_at_call 13; ((with_reducible refine CL1.out.mono ?_); rintro e' w14 ⟨rfl, rfl⟩)))
        go_ret
        exact ⟨rfl, B13.out⟩
    · have hje : j = n := by omega
      subst hje
      clear hb
      go_wp2
      go_ret
      exact ⟨rfl, HB.out⟩
end Go.Proofs.Ytkcoofpoipgiaaa
