/- The laws of layer 14 (decode), walked: the example, ends. -/
import Derived.Test.YtkcoofpoipgiaaaDcB
import Derived.Test.YtkcoofpoipgiaaaReqE
namespace Go.Proofs.Ytkcoofpoipgiaaa
open Go.ChangeShapes Go.WideShapes Go.ChangeAt Go.RowKit
theorem zero_in (rules : Int) : DecIn zero75 [] rules := ⟨zero75_len, fun z hz => by have := List.eq_of_mem_replicate hz; omega, rfl, clean_nil rules⟩
theorem dec_new {w : World} {b : Nat} {rules : Int} (h : Blk w b 36 (decC zero75 0 rules 0)) : DecAt w b [] rules 0 := ⟨zero75, zero_in rules, h⟩
theorem parse_first : parseZ ([] ++ [0]) 1 = (req0, 0, 5) := by rfl
set_option maxHeartbeats 1000000 in
set_option maxRecDepth 100000 in
theorem fit_any (w : World) : Calls Try.prog 9 #[] w fun e w' => e = .returned (.bool true) ∧ Below w.heap.size w w' := by
  have hz := zero_dec
  have hs1 := decC_size zero75 0 0 0 zero75_len
  have hs2 := decC_size zero75 0 1 0 zero75_len
  have hst := fun w => store_dec w zero75 zero75 0 0 0 1 0 0 zero75_len zero75_len
  go_enter Try.func9, Try.ntmps9
  go_upto_region 2 with (go_at_call 12; ((with_reducible refine (new_any _ _).mono ?_); rintro e w1 ⟨rfl, b1⟩; have B1 := Lib.hid b1; clear b1))
  obtain ⟨w2, hw2, hbk, hbl, hsz⟩ := box_new w1 (decC zero75 0 1 0) 36
  rw [hw2]
  obtain ⟨b, hb⟩ : ∃ k, k = w1.heap.size := ⟨_, rfl⟩
  rw [← hb] at hbk ⊢
  have D2 := Lib.hid (dec_new hbk)
  have B2 := Lib.hid (G.below_on B1.out hbl)
  have NW := Lib.hid (show w.heap.size ≤ b from by have := B1.out.size; omega)
  clear hw2 hbk hbl hsz hb hz hs1 hs2 hst
  go_upto_region 3 with (go_at_call 17; ((with_reducible refine (feed_ok b [] 1 0 w2 D2.out (by omega) _ _ _ parse_first).mono ?_); rintro e w3 ⟨rfl, d3, f3⟩; have D3 := Lib.hid d3; have B3 := Lib.hid (B2.out.trans (f3.below B2.out.size (fun k hk => by have := NW.out; omega))); clear d3 f3))
  obtain ⟨w4, hw4, _, hbl, _⟩ := box_new w3 (reqC req0.op req0.rule req0.cost (strOfNums req0.key) req0.k) 32
  change Code.wp _ _ _ _ (w3.alloc (.cells (reqC req0.op req0.rule req0.cost (strOfNums req0.key) req0.k) 32))
  rw [hw4]
  have D4 := Lib.hid (D3.out.keep hbl)
  have B4 := Lib.hid (G.below_on B3.out hbl)
  clear hw4 hbl
  go_upto_region 4 with (go_at_call 17; ((with_reducible refine (feed_err b _ 1 167 5 w4 D4.out (by decide)).mono ?_); rintro e w5 ⟨rfl, b5⟩; have D5 := Lib.hid (D4.out.keep b5); have B5 := Lib.hid (G.below_on B4.out b5); clear b5))
  obtain ⟨w6, hw6, _, hbl, _⟩ := box_new w5 (reqC 0 0 0 ⟨#[]⟩ 0) 32
  change Code.wp _ _ _ _ (w5.alloc (.cells (reqC 0 0 0 ⟨#[]⟩ 0) 32))
  rw [hw6]
  have CE := Lib.hid (err_c b _ 1 5 w6 (D5.out.keep hbl))
  have B6 := Lib.hid (G.below_on B5.out hbl)
  clear hw6 hbl
  go_wp2_with (go_at_call 15; ((with_reducible refine CE.out.mono ?_); rintro e w7 ⟨rfl, rfl⟩))
  go_ret
  exact ⟨rfl, B6.out⟩
set_option maxHeartbeats 4000000 in
set_option maxRecDepth 100000 in
theorem ends_law (w : World) (A : Option Addr) (n c : Nat) (zs : List Int) (A' : Option Addr) (n' c' : Nat) (zs' : List Int) (hr : RdI w .u8 A n c zs) (hr' : RdI w .u8 A' n' c' zs') :
    Calls Try.prog 6 #[.slice A n c, .slice A' n' c'] w fun e w' => e = .returned (.bool true) ∧ Below w.heap.size w w' := by
  have hmx := hr.max
  have hcp := hr.cap
  have hmx' := hr'.max
  have hcp' := hr'.cap
  unfold maxLen at hmx hmx'
  have HR := Lib.hid hr
  have HR' := Lib.hid hr'
  clear hr hr'
  have hund : undef = Value.tuple #[] := rfl
  by_cases hn : (300 : Int) < (n : Int)
  · have t1 : decide ((300 : Int) < (n : Int)) = true := by rw [decide_eq_true_eq]; exact hn
    go_enter Try.func6, Try.ntmps6
    go_wp2_with (go_at_call 9; refine (fit_any _).mono ?_; rintro e w1 ⟨rfl, b1⟩; have B1 := Lib.hid b1; clear b1)
    go_ret
    exact ⟨rfl, B1.out⟩
  have t1 : decide ((300 : Int) < (n : Int)) = false := by rw [decide_eq_false_iff_not]; exact hn
  by_cases hn' : (100 : Int) < (n' : Int)
  · have t2 : decide ((100 : Int) < (n' : Int)) = true := by rw [decide_eq_true_eq]; exact hn'
    go_enter Try.func6, Try.ntmps6
    go_wp2_with (go_at_call 9; refine (fit_any _).mono ?_; rintro e w1 ⟨rfl, b1⟩; have B1 := Lib.hid b1; clear b1)
    go_ret
    exact ⟨rfl, B1.out⟩
  have t2 : decide ((100 : Int) < (n' : Int)) = false := by rw [decide_eq_false_iff_not]; exact hn'
  have hz := zero_dec
  have hs1 := decC_size zero75 0 0 0 zero75_len
  have hs2 := decC_size zero75 0 3 0 zero75_len
  have hst := fun w => store_dec w zero75 zero75 0 0 0 3 0 0 zero75_len zero75_len
  clear hn hn'
  go_enter Try.func6, Try.ntmps6
  go_upto_region 6 with (first
    | (go_at_call 9; refine (fit_any _).mono ?_; rintro e w0 ⟨rfl, b0⟩; have B0 := Lib.hid b0; clear b0)
    | (go_at_call 12; ((with_reducible refine (new_any _ _).mono ?_); rintro e w1 ⟨rfl, b1⟩; have B1 := Lib.hid (G.below_on B0.out b1); clear b1)))
  obtain ⟨w2, hw2, hbk, hbl, hsz⟩ := box_new w1 (decC zero75 0 3 0) 36
  rw [hw2]
  obtain ⟨b, hb⟩ : ∃ k, k = w1.heap.size := ⟨_, rfl⟩
  rw [← hb] at hbk ⊢
  have D2 := Lib.hid (dec_new hbk)
  have B2 := Lib.hid (G.below_on B1.out hbl)
  have NW := Lib.hid (show w.heap.size ≤ b from by have := B1.out.size; omega)
  clear hw2 hbk hbl hsz hb hz hs1 hs2 hst t1 t2
  go_wp2
  go_loopg [27] n (fun k sj wr => ∃ (j : Nat) (z : List Int) (err : Int), j ≤ n ∧ k = n - j ∧ sj = .int .i64 (j : Int) ∧ DecAt wr b z 3 err ∧ (err ≠ 0 → z = []) ∧ Below w.heap.size w wr)
  case atStart => exact ⟨0, [], 0, by omega, by omega, rfl, D2.out, fun _ => rfl, B2.out⟩
  case round =>
    obtain ⟨j, z, err, hj, hkk, rfl, hd, he, hb⟩ := hrel
    have HK := Lib.hid hkk
    have HD := Lib.hid hd
    have HE := Lib.hid he
    have HB := Lib.hid hb
    clear hkk hd he
    by_cases hjn : j < n
    · obtain ⟨g, off, rfl, hlt, hc⟩ := (HR.out.below hb).at_ (by omega)
      have c0 := hc j hjn
      have cb := wf_u8 (HR.out.wf_at hjn)
      obtain ⟨x, hx⟩ : ∃ x, x = zs.getD j 0 := ⟨_, rfl⟩
      rw [← hx] at c0 cb
      have CB := Lib.hid cb
      clear hc hx hb cb hlt
      by_cases h0 : err = 0
      · subst h0
        obtain ⟨q, m, e, hp⟩ : ∃ q m e, parseZ (z ++ [x]) 3 = (q, m, e) := ⟨_, _, _, rfl⟩
        have CF := Lib.hid (feed_ok b z 3 x wr HD.out CB.out q m e hp)
        have HNE := Lib.hid (show e ≠ 0 → nextZ 3 z x = [] from fun h => by unfold nextZ; rw [hp]; exact if_pos (Or.inl h))
        clear hp
        go_wp2_with (go_at_call 17; ((with_reducible refine CF.out.mono ?_); rintro e' w3 ⟨rfl, d3, f3⟩; have D3 := Lib.hid d3; have B3 := Lib.hid (HB.out.trans (f3.below HB.out.size (fun k hk => by have := NW.out; omega))); clear d3 f3))
        go_roundg (n - (j + 1))
        case measure => have := HK.out; omega
        case rel => exact ⟨j + 1, _, _, by omega, by omega, by go_num, D3.out, HNE.out, B3.out⟩
      · have CF := Lib.hid (feed_err b z 3 x err wr HD.out h0)
        clear h0
        go_wp2_with (go_at_call 17; ((with_reducible refine CF.out.mono ?_); rintro e' w3 ⟨rfl, b3⟩; have D3 := Lib.hid (HD.out.keep b3); have B3 := Lib.hid (G.below_on HB.out b3); clear b3))
        go_roundg (n - (j + 1))
        case measure => have := HK.out; omega
        case rel => exact ⟨j + 1, _, _, by omega, by omega, by go_num, D3.out, HE.out, B3.out⟩
    · have hje : j = n := by omega
      subst hje
      clear hb
      have CE := Lib.hid (err_c b z 3 err wr HD.out)
      by_cases h0 : err = 0
      · subst h0
        have CL := Lib.hid (len_c b z 3 0 wr HD.out)
        have hzl : (z.length : Int) < 75 := by obtain ⟨bs, h1, _⟩ := HD.out; have := h1.short; omega
        have hzl' : z.length < 75 := by omega
        go_wp2_with (first
          | (go_at_call 15; ((with_reducible refine CE.out.mono ?_); rintro e' w3 ⟨rfl, rfl⟩))
          | (go_at_call 13; ((with_reducible refine CL.out.mono ?_); rintro e' w3 ⟨rfl, rfl⟩)))
        go_ret
        exact ⟨rfl, HB.out⟩
      · have hze := HE.out h0
        subst hze
        have g0 : (err == 0) = false := by simpa using h0
        have H0 := Lib.hid h0
        obtain ⟨wo, hwo⟩ : ∃ wo : World, wo = wr := ⟨_, rfl⟩
        rw [← hwo] at HD HB CE ⊢
        clear h0 hwo
        go_wp2_with (go_at_call 15; ((with_reducible refine CE.out.mono ?_); rintro e' w3 ⟨rfl, rfl⟩))
        go_loopg [41] n' (fun k sj wq => ∃ i : Nat, i ≤ n' ∧ k = n' - i ∧ sj = .int .i64 (i : Int) ∧ Below wo.heap.size wo wq)
        case atStart => exact ⟨0, by omega, by omega, rfl, Below.refl _ _⟩
        case round =>
          obtain ⟨i, hi, hkk, rfl, hbq⟩ := hrel
          have HK2 := Lib.hid hkk
          have HBQ := Lib.hid hbq
          clear hkk
          by_cases hin : i < n'
          · obtain ⟨g, off, rfl, hlt, hc⟩ := (HR'.out.below (G.below_on HB.out hbq)).at_ (by omega)
            have c0 := hc i hin
            obtain ⟨x, hx⟩ : ∃ x, x = zs'.getD i 0 := ⟨_, rfl⟩
            rw [← hx] at c0
            have CF := Lib.hid (feed_err b [] 3 x err wr (HD.out.keep hbq) H0.out)
            clear hc hx hbq hlt
            go_upto_region 18 with (go_at_call 17; ((with_reducible refine CF.out.mono ?_); rintro e' w5 ⟨rfl, b5⟩; have B5 := Lib.hid (G.below_on HBQ.out b5); clear b5))
            obtain ⟨w6, hw6, hq6, hbl, _⟩ := box_new w5 (reqC 0 0 0 ⟨#[]⟩ 0) 32
            change Code.wp _ _ _ _ (w5.alloc (.cells (reqC 0 0 0 ⟨#[]⟩ 0) 32))
            rw [hw6]
            generalize w5.heap.size = b6 at hq6 ⊢
            have B6 := Lib.hid (G.below_on B5.out hbl)
            have CL := Lib.hid (len_c b [] 3 err w6 (HD.out.keep B6.out))
            have CE := Lib.hid (err_c b [] 3 err w6 (HD.out.keep B6.out))
            have k6 := hq6.rd
            have heq : ∀ w, (Op.equalIn 10000 32 (.agg (reqC 0 0 0 ⟨#[]⟩ 0)) (.agg (reqC 0 0 0 ⟨#[]⟩ 0))).run Try.prog w = .ok true w := fun w => by rw [req_equal]; simp
            clear hw6 hbl hq6 c0
            go_wp2_with (first
              | (go_at_call 15; ((with_reducible refine CE.out.mono ?_); rintro e' w7 ⟨rfl, rfl⟩))
              | (go_at_call 13; ((with_reducible refine CL.out.mono ?_); rintro e' w7 ⟨rfl, rfl⟩)))
            go_roundg (n' - (i + 1))
            case measure => have := HK2.out; omega
            case rel => exact ⟨i + 1, by omega, by omega, by go_num, B6.out⟩
          · have hie : i = n' := by omega
            subst hie
            have BZ := Lib.hid (G.below_on HB.out hbq)
            clear hbq
            go_wp2
            go_ret
            exact ⟨rfl, BZ.out⟩
end Go.Proofs.Ytkcoofpoipgiaaa
