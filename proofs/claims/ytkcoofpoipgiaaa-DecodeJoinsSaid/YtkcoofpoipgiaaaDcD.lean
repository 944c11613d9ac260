/- The laws of layer 14 (decode), walked: one request. -/
import Derived.Test.YtkcoofpoipgiaaaDcC
import Derived.Test.YtkcoofpoipgiaaaFrF
import Derived.Test.YtkcoofpoipgiaaaReq
namespace Go.Proofs.Ytkcoofpoipgiaaa
open Go.ChangeShapes Go.WideShapes Go.ChangeAt Go.RowKit
/-- what a decoder has of a request's bytes. -/
def zAt (bs : List Int) (i : Nat) : List Int := if i < bs.length then bs.take i else []
theorem one_step {q : Req} (h : rightP q 9) (hc : 0 ≤ q.cost ∧ q.cost < 4294967296) {i : Nat} (hi : i < (encZ q).length) :
    (parseZ ((encZ q).take i ++ [(encZ q).getD i 0]) 9 = if i + 1 < (encZ q).length then (req0, 0, 0) else (q, ((encZ q).length : Int), 0)) ∧ nextZ 9 ((encZ q).take i) ((encZ q).getD i 0) = zAt (encZ q) (i + 1) := by
  have hg : (encZ q).getD i 0 = (encZ q)[i] := by simp [List.getD, hi]
  have ht : (encZ q).take i ++ [(encZ q)[i]] = (encZ q).take (i + 1) := (List.take_succ_eq_append_getElem hi).symm
  have hp : parseZ ((encZ q).take i ++ [(encZ q).getD i 0]) 9 = if i + 1 < (encZ q).length then (req0, 0, 0) else (q, ((encZ q).length : Int), 0) := by
    rw [hg, ht]
    split
    · rename_i hl; exact parse_part (by omega) h _ hl
    · rw [List.take_of_length_le (by omega)]
      have := parse_enc (show (9 : Int) ≤ 256 by omega) h hc []
      rwa [List.append_nil] at this
  refine ⟨hp, ?_⟩
  unfold nextZ zAt
  rw [hp]
  by_cases hl : i + 1 < (encZ q).length
  · rw [if_pos hl, if_pos hl, if_neg (by simp), hg, ht]
  · rw [if_neg hl, if_neg hl, if_pos]
    right
    have := enc_six h
    show (0 : Int) < ((encZ q).length : Int)
    omega
set_option maxHeartbeats 4000000 in
set_option maxRecDepth 100000 in
theorem one_law (w : World) (op ru co k : Int) (s : ByteArray) (hq : ReqOK op ru co k s) :
    Calls Try.prog 8 #[.agg #[.int .i64 op, .int .i64 ru, .int .u32 co, .string s, .int .i64 k]] w fun e w' => e = .returned (.bool true) ∧ Below w.heap.size w w' := by
  obtain ⟨h1, h2, h3, h4, h5⟩ := hq
  have hund : undef = Value.tuple #[] := rfl
  obtain ⟨w1, hw1, hbk, hbl, hsz⟩ := box_new w (reqC op ru co s k) 32
  have HW1 := Lib.hid hw1
  have Q1 := Lib.hid hbk
  have B1 := Lib.hid hbl
  obtain ⟨qb, hqb⟩ : ∃ x, x = w.heap.size := ⟨_, rfl⟩
  rw [← hqb] at Q1
  have HQB := Lib.hid hqb
  clear hw1 hbk hbl hsz hqb
  by_cases h100 : (100 : Int) < (s.size : Int)
  · have t1 : decide ((100 : Int) < (s.size : Int)) = true := by rw [decide_eq_true_eq]; exact h100
    clear h5
    go_enter Try.func8, Try.ntmps8
    go_upto_region 1 with (fail)
    change Code.wp _ _ _ _ (w.alloc (.cells (reqC op ru co s k) 32))
    rw [HW1.out, ← HQB.out]
    go_wp2_with (go_at_call 9; refine (fit_any _).mono ?_; rintro e w2 ⟨rfl, b2⟩; have B2 := Lib.hid (G.below_on B1.out b2); have k2 := (Q1.out.keep b2).rd; clear b2)
    go_ret
    exact ⟨rfl, B2.out⟩
  have t1 : decide ((100 : Int) < (s.size : Int)) = false := by rw [decide_eq_false_iff_not]; exact h100
  by_cases hR : rightP (mkR op ru co s k) 9
  rotate_left 1
  · have CR := Lib.hid (fun w => (rright_any op ru co k 9 s w h5).2 hR)
    clear h5 hR
    go_enter Try.func8, Try.ntmps8
    go_upto_region 1 with (fail)
    change Code.wp _ _ _ _ (w.alloc (.cells (reqC op ru co s k) 32))
    rw [HW1.out, ← HQB.out]
    go_wp2_with (first
      | (go_at_call 9; refine (fit_any _).mono ?_; rintro e w2 ⟨rfl, b2⟩; have B2 := Lib.hid (G.below_on B1.out b2); have k2 := (Q1.out.keep b2).rd; clear b2)
      | (go_at_call 18; ((with_reducible refine (CR.out _).mono ?_); rintro e w3 ⟨rfl, b3⟩; have B3 := Lib.hid (G.below_on B2.out b3); clear b3)))
    go_ret
    exact ⟨rfl, B3.out⟩
  have CR := Lib.hid (fun w => (rright_any op ru co k 9 s w h5).1 hR)
  have CE := Lib.hid (fun w => rencode_any op ru co k s w (right_less hR (by omega)) h3)
  have hl6 := enc_six hR
  have hby := enc_byt (right_less hR (by omega)) (show byt (mkR op ru co s k).key from fun z hz => nums_bd s z hz)
  have hst1 := fun i (hi : i < (encZ (mkR op ru co s k)).length) => one_step hR h3 (i := i) hi
  have hlen : (encZ (mkR op ru co s k)).length ≤ 1000 := by
    rw [enc_length hR]
    have : (mkR op ru co s k).key.length = s.size := nums_length s
    split
    · omega
    · split <;> omega
  obtain ⟨bs, hbs⟩ : ∃ bs, bs = encZ (mkR op ru co s k) := ⟨_, rfl⟩
  rw [← hbs] at CE hl6 hby hst1 hlen
  obtain ⟨L, hL⟩ : ∃ L, L = bs.length := ⟨_, rfl⟩
  rw [← hL] at hl6 hst1 hlen
  have HL := Lib.hid hL
  have HBY := Lib.hid hby
  have HST := Lib.hid hst1
  have hz := zero_dec
  have hs1 := decC_size zero75 0 0 0 zero75_len
  have hs2 := decC_size zero75 0 9 0 zero75_len
  have hst := fun w => store_dec w zero75 zero75 0 0 0 9 0 0 zero75_len zero75_len
  clear h5 hR hbs hL hby hst1 hund
  go_enter Try.func8, Try.ntmps8
  go_upto_region 1 with (fail)
  change Code.wp _ _ _ _ (w.alloc (.cells (reqC op ru co s k) 32))
  rw [HW1.out, ← HQB.out]
  go_upto_region 7 with (first
    | (go_at_call 9; refine (fit_any _).mono ?_; rintro e w2 ⟨rfl, b2⟩; have B2 := Lib.hid (G.below_on B1.out b2); have Q2 := Lib.hid (Q1.out.keep b2); have k2 := Q2.out.rd; clear b2)
    | (go_at_call 18; ((with_reducible refine (CR.out _).mono ?_); rintro e w3 ⟨rfl, b3⟩; have B3 := Lib.hid (G.below_on B2.out b3); have Q3 := Lib.hid (Q2.out.keep b3); have k3 := Q3.out.rd; clear b3))
    | (go_at_call 19; ((with_reducible refine (CE.out _).mono ?_); rintro e w4 ⟨v, rfl, ho, b4⟩; obtain ⟨A, c, rfl, hrd, hAo⟩ := ho.rd HBY.out; rw [← HL.out] at hrd hAo ⊢; have HAO := Lib.hid (show 0 < L → ∃ g, A = some ⟨g, 0, none⟩ from fun h => by obtain ⟨g, e, _⟩ := hAo h; exact ⟨g, e⟩); clear hAo; have RD4 := Lib.hid hrd; have B4 := Lib.hid (G.below_on B3.out b4); have Q4 := Lib.hid (Q3.out.keep b4); clear ho hrd b4))
    | (go_at_call 12; ((with_reducible refine (new_any _ _).mono ?_); rintro e w5 ⟨rfl, b5⟩; have B5 := Lib.hid (G.below_on B4.out b5); have RD5 := Lib.hid (RD4.out.below b5); have Q5 := Lib.hid (Q4.out.keep b5); clear b5)))
  obtain ⟨w6, hw6, hbk, hbl, hsz⟩ := box_new w5 (decC zero75 0 9 0) 36
  rw [hw6]
  obtain ⟨b, hb⟩ : ∃ x, x = w5.heap.size := ⟨_, rfl⟩
  rw [← hb] at hbk ⊢
  have D6 := Lib.hid (dec_new hbk)
  have B6 := Lib.hid (G.below_on B5.out hbl)
  have RD6 := Lib.hid (RD5.out.below hbl)
  have Q6 := Lib.hid (Q5.out.keep hbl)
  have NW := Lib.hid (show w.heap.size ≤ b ∧ qb ≠ b ∧ ∀ g, (0 < L → A = some ⟨g, 0, none⟩ → g ≠ b) from ⟨by have := B5.out.size; omega, by have := lt_of_block Q5.out; omega, fun g h0 hA => by
    obtain ⟨g', off, e, hlt, _⟩ := RD5.out.at_ h0
    rw [hA] at e
    injection e with e; injection e with e1 e2
    omega⟩)
  have hcp := RD5.out.cap
  have hmx := RD5.out.max
  unfold maxLen at hmx
  clear hw6 hbk hbl hsz hb hz hs1 hs2 hst
  obtain ⟨g, hA, hgb⟩ : ∃ g, A = some ⟨g, 0, none⟩ ∧ g ≠ b := by
    obtain ⟨g, hg⟩ := HAO.out (by omega)
    exact ⟨g, hg, NW.out.2.2 g (by omega) hg⟩
  subst hA
  have HGB := Lib.hid hgb
  clear hgb
  go_wp2
  go_loopg [26] L (fun k0 sj wr => ∃ j : Nat, j ≤ L ∧ k0 = L - j ∧ sj = .int .i64 (j : Int) ∧ DecAt wr b (zAt bs j) 9 0 ∧ Fr (fun k => k = b) w6 wr)
  case atStart => exact ⟨0, by omega, by omega, rfl, by have : zAt bs 0 = [] := (by unfold zAt; split <;> simp); rw [this]; exact D6.out, Fr.refl _ _⟩
  case round =>
    obtain ⟨j, hj, hkk, rfl, hd, hf⟩ := hrel
    have HK := Lib.hid hkk
    have HD := Lib.hid hd
    have HF := Lib.hid hf
    have HQ := Lib.hid (Q6.out.fr hf NW.out.2.1)
    clear hkk hd
    by_cases hjn : j < L
    · have hjl : j < bs.length := by rw [← HL.out]; exact hjn
      obtain ⟨g', off, e, hlt, hc⟩ := RD6.out.at_ (by omega)
      injection e with e; injection e with e1 e2
      subst e1 e2
      have c0 : wr.cell? ⟨g, 0 + j, none⟩ = some (.int .u8 (bs.getD j 0)) := (hf.cell hlt HGB.out).trans (hc j hjn)
      rw [Nat.zero_add] at c0
      have cb := byt_getD HBY.out j
      obtain ⟨hp, hnx⟩ := HST.out j hjn
      obtain ⟨x, hx⟩ : ∃ x, x = bs.getD j 0 := ⟨_, rfl⟩
      rw [← hx] at c0 cb hp hnx
      have hza : zAt bs j = bs.take j := by unfold zAt; rw [if_pos hjl]
      rw [hza] at HD
      have HZA := Lib.hid hnx
      have hn : nextZ 9 (bs.take j) x = zAt bs (j + 1) := hnx
      clear hc hx hlt hf hza hnx
      by_cases hlast : j + 1 < L
      · rw [if_pos hlast] at hp
        have CF := Lib.hid (show Calls Try.prog 17 #[.pointer (some ⟨b, 0, none⟩), .int .u8 x] wr (fun e' w' => e' = .returned (.tuple #[reqV 0 0 0 ⟨#[]⟩ 0, .bool false, .int .i64 0]) ∧ DecAt w' b (zAt bs (j + 1)) 9 0 ∧ Fr (fun k => k = b) wr w') from by
          have := feed_ok b _ 9 x wr HD.out cb _ _ _ hp
          rw [hn] at this
          exact this)
        have hlz : ((zAt bs (j + 1)).length : Int) = (j : Int) + 1 := by unfold zAt; rw [if_pos (by rw [← HL.out]; exact hlast), List.length_take]; have := HL.out; omega
        have HLZ := Lib.hid hlz
        have g1 : ((j : Int) == (L : Int) - 1) = false := by simp; omega
        clear hp hn hlz cb
        go_upto_region 11 with (go_at_call 17; ((with_reducible refine CF.out.mono ?_); rintro e' w7 ⟨rfl, d7, f7⟩; have D7 := Lib.hid d7; have F7 := Lib.hid f7; have Q7 := Lib.hid (HQ.out.fr f7 NW.out.2.1); clear d7 f7))
        obtain ⟨w8, hw8, hq8, hbl, _⟩ := box_new w7 (reqC 0 0 0 ⟨#[]⟩ 0) 32
        change Code.wp _ _ _ _ (w7.alloc (.cells (reqC 0 0 0 ⟨#[]⟩ 0) 32))
        rw [hw8]
        generalize w7.heap.size = b8 at hq8 ⊢
        have D8 := Lib.hid (D7.out.keep hbl)
        have F8 := Lib.hid (HF.out.trans (F7.out.trans (Fr.of_below hbl)))
        have CL := Lib.hid (len_c b _ 9 0 w8 D8.out)
        have k8 := hq8.rd
        have k9 := (Q7.out.keep hbl).rd
        have hund : undef = Value.tuple #[] := rfl
        clear hw8 hbl hq8 c0
        have heq : ∀ w, (Op.equalIn 10000 32 (.agg (reqC 0 0 0 ⟨#[]⟩ 0)) (.agg (reqC 0 0 0 ⟨#[]⟩ 0))).run Try.prog w = .ok true w := fun w => by rw [req_equal]; simp
        rw [HLZ.out] at CL
        go_wp2_with (go_at_call 13; ((with_reducible refine CL.out.mono ?_); rintro e' w9 ⟨rfl, rfl⟩))
        go_roundg (L - (j + 1))
        case measure => have := HK.out; omega
        case rel => exact ⟨j + 1, by omega, by omega, by go_num, D8.out, F8.out⟩
      · rw [if_neg hlast] at hp
        have CF := Lib.hid (show Calls Try.prog 17 #[.pointer (some ⟨b, 0, none⟩), .int .u8 x] wr (fun e' w' => e' = .returned (.tuple #[reqV op ru co s k, .bool true, .int .i64 0]) ∧ DecAt w' b (zAt bs (j + 1)) 9 0 ∧ Fr (fun k => k = b) wr w') from by
          have := feed_ok b _ 9 x wr HD.out cb _ _ _ hp
          rw [hn, show strOfNums (mkR op ru co s k).key = s from str_nums s, show decide (0 < (L : Int)) = true from by rw [decide_eq_true_eq]; omega] at this
          exact this)
        have g1 : ((j : Int) == (L : Int) - 1) = true := by simp; omega
        clear hp hn cb
        go_upto_region 11 with (go_at_call 17; ((with_reducible refine CF.out.mono ?_); rintro e' w7 ⟨rfl, d7, f7⟩; have D7 := Lib.hid d7; have F7 := Lib.hid f7; have Q7 := Lib.hid (HQ.out.fr f7 NW.out.2.1); clear d7 f7))
        obtain ⟨w8, hw8, hq8, hbl, _⟩ := box_new w7 (reqC op ru co s k) 32
        change Code.wp _ _ _ _ (w7.alloc (.cells (reqC op ru co s k) 32))
        rw [hw8]
        generalize w7.heap.size = b8 at hq8 ⊢
        have D8 := Lib.hid (D7.out.keep hbl)
        have F8 := Lib.hid (HF.out.trans (F7.out.trans (Fr.of_below hbl)))
        have CL := Lib.hid (len_c b _ 9 0 w8 D8.out)
        have k8 := hq8.rd
        have k9 := (Q7.out.keep hbl).rd
        have hund : undef = Value.tuple #[] := rfl
        clear hw8 hbl hq8 c0
        have heq : ∀ w, (Op.equalIn 10000 32 (.agg (reqC op ru co s k)) (.agg (reqC op ru co s k))).run Try.prog w = .ok true w := fun w => by rw [req_equal]; simp
        go_wp2_with (go_at_call 13; ((with_reducible refine CL.out.mono ?_); rintro e' w9 ⟨rfl, rfl⟩))
        go_roundg (L - (j + 1))
        case measure => have := HK.out; omega
        case rel => exact ⟨j + 1, by omega, by omega, by go_num, D8.out, F8.out⟩
    · have hje : j = L := by omega
      subst hje
      have hza : zAt bs j = [] := by unfold zAt; rw [if_neg (by have := HL.out; omega)]
      rw [hza] at HD
      have CL := Lib.hid (len_c b [] 9 0 wr HD.out)
      have CE := Lib.hid (err_c b [] 9 0 wr HD.out)
      have BZ := Lib.hid (B6.out.trans (hf.below B6.out.size (fun k hk => by have := NW.out.1; omega)))
      clear hf hza
      go_wp2_with (first
        | (go_at_call 15; ((with_reducible refine CE.out.mono ?_); rintro e' w7 ⟨rfl, rfl⟩))
        | (go_at_call 13; ((with_reducible refine CL.out.mono ?_); rintro e' w7 ⟨rfl, rfl⟩)))
      go_ret
      exact ⟨rfl, BZ.out⟩
end Go.Proofs.Ytkcoofpoipgiaaa
