/- The laws of layer 13 (frame), walked: sizes. -/
import Derived.Test.YtdhdheakhcddbaaFbB
import Derived.Test.YtdhdheakhcddbaaFrR
namespace Go.Proofs.Ytdhdheakhcddbaa
set_option linter.unusedSimpArgs false
set_option linter.unusedVariables false
open Go.ChangeShapes Go.WideShapes Go.ChangeAt Go.RowKit Go.Deep
theorem or_i64 (n c : Nat) (hc : c < 256) (h : n < 256) : bits .or .i64 ((n : Int) * 256) (c : Int) = (n : Int) * 256 + (c : Int) := by
  have h1 : (BitVec.ofInt 64 ((n : Int) * 256)).toNat = n * 256 := by
    rw [show (n : Int) * 256 = ((n * 256 : Nat) : Int) by omega, BitVec.ofInt_natCast, BitVec.toNat_ofNat]; exact Nat.mod_eq_of_lt (by omega)
  have h2 : (BitVec.ofInt 64 (c : Int)).toNat = c := by
    rw [BitVec.ofInt_natCast, BitVec.toNat_ofNat]; exact Nat.mod_eq_of_lt (by omega)
  show IntKind.i64.wrap ((BitVec.ofInt 64 ((n : Int) * 256) ||| BitVec.ofInt 64 (c : Int)).toNat : Int) = _
  have h3 := Nat.two_pow_add_eq_or_of_lt (i := 8) (b := c) hc n
  rw [show (2 : Nat) ^ 8 = 256 from rfl, Nat.mul_comm 256 n] at h3
  rw [BitVec.toNat_or, h1, h2, ← h3, IntKind.wrap_i64]
  omega
theorem enc_two {q : Req} (h : rightP q 256) : (encZ q).getD 2 0 = 0 ∧ (encZ q).getD 3 0 = ((encZ q).length : Int) - 4 ∧ 6 ≤ (encZ q).length := by
  have hl := enc_length h
  obtain ⟨_, h4⟩ := h
  rw [hl]
  unfold encZ
  rcases h4 with ⟨ho, hk, h0⟩ | ⟨ho, hc, hk, h0⟩ | ⟨ho, hc, hk, h0⟩
  · rw [if_pos (by omega), if_pos (by omega)]
    exact ⟨rfl, by show 7 + (q.key.length : Int) = _; omega, by omega⟩
  · rw [if_neg (by omega), if_neg (by omega), if_neg (by omega), if_neg (by omega)]
    exact ⟨rfl, by show (2 : Int) = _; omega, by omega⟩
  · rw [if_neg (by omega), if_pos ho, if_neg (by omega), if_pos ho]
    exact ⟨rfl, by show (3 : Int) = _; omega, by omega⟩
/-- a frame that was written. -/
structure FrmAt (w : World) (g L c : Nat) (b : List Int) : Prop where
  rd : RdI w .u8 (some ⟨g, 0, none⟩) L c (frmZ b)
  len : 4 + b.length = L
  lo : 2 ≤ b.length
  hi : b.length ≤ 20700
  byt : byt b
  top : 128 ≤ b.getD 0 0
theorem FrmAt.below {w w' : World} {g L c : Nat} {b : List Int} (h : FrmAt w g L c b) (hb : Below w.heap.size w w') : FrmAt w' g L c b := ⟨h.rd.below hb, h.len, h.lo, h.hi, h.byt, h.top⟩
theorem FrmAt.cells {w : World} {g L c : Nat} {b : List Int} (h : FrmAt w g L c b) : ∃ hi lo y : Nat, hi < 256 ∧ lo < 256 ∧ (hi : Int) * 256 + (lo : Int) = (L : Int) - 4 ∧ 128 ≤ y ∧ w.cell? ⟨g, 0, none⟩ = some (.int .u8 168) ∧ w.cell? ⟨g, 1, none⟩ = some (.int .u8 1) ∧ w.cell? ⟨g, 2, none⟩ = some (.int .u8 (hi : Int)) ∧ w.cell? ⟨g, 3, none⟩ = some (.int .u8 (lo : Int)) ∧ w.cell? ⟨g, 4, none⟩ = some (.int .u8 (y : Int)) ∧ L ≤ c ∧ 6 ≤ L := by
  have hL := h.len
  have h2 := h.lo
  have h3 := h.hi
  have hb := byt_getD h.byt 0
  have h4 := h.top
  have hcp := h.rd.cap
  obtain ⟨g', off, e, hlt, hc⟩ := h.rd.at_ (by omega)
  injection e with e
  injection e with e1 e2
  subst e1 e2
  have e0 : frmZ b = 168 :: 1 :: ((b.length : Int) / 256 % 256) :: ((b.length : Int) % 256) :: b := by unfold frmZ; rw [be_two]; rfl
  have c0 := hc 0 (by omega)
  have c1 := hc 1 (by omega)
  have c2 := hc 2 (by omega)
  have c3 := hc 3 (by omega)
  have c4 := hc 4 (by omega)
  rw [e0] at c0 c1 c2 c3 c4
  refine ⟨b.length / 256, b.length % 256, (b.getD 0 0).toNat, by omega, by omega, by omega, by omega, c0, c1, ?_, ?_, ?_, hcp, by omega⟩
  · rw [Nat.zero_add] at c2; rw [c2]; simp only [List.getD_cons_succ, List.getD_cons_zero]; congr 2; omega
  · rw [Nat.zero_add] at c3; rw [c3]; simp only [List.getD_cons_succ, List.getD_cons_zero]; congr 2
  · rw [Nat.zero_add] at c4; rw [c4]; simp only [List.getD_cons_succ]; congr 2; omega
theorem frm_at {w : World} {B : Nat} {v : Value} {b : List Int} (h : Own w B v (frmZ b)) (hb : byt b) (k : Nat) (hk : 4 + b.length = k) (h2 : 2 ≤ b.length) (h3 : b.length ≤ 20700) (ht : 128 ≤ b.getD 0 0) (hB : B ≤ w.heap.size) : ∃ g c, v = .slice (some ⟨g, 0, none⟩) k c ∧ FrmAt w g k c b := by
  obtain ⟨g, c, rfl, r, _⟩ := own_frm h hb k hk hB
  exact ⟨g, c, rfl, r, hk, h2, h3, hb, ht⟩
theorem i64_0 : i64P 0 := by unfold i64P; omega
theorem sumL_app : ∀ (l m : List Cnt), sumL (l ++ m) = sumL l + sumL m
  | [], m => by simp [sumL]
  | x :: l, m => by rw [List.cons_append, sumL, sumL, sumL_app l m]; omega
abbrev szC (E1 : Int) : Array Value := #[.int .i64 0, .int .i64 E1, .int .i64 E1, .int .i64 6, .int .i64 7]
set_option maxHeartbeats 64000000 in
set_option maxRecDepth 100000 in
theorem sizes_law (w : World) (op rule cost k : Int) (s : ByteArray) (A : Option Addr) (n c : Nat) (ls : List CV) (hq : ReqOK op rule cost k s) (hl : ls.length = n) (ha : CvAt w A c ls) (hok : ∀ a ∈ ls, a.okV) :
    Calls Try.prog 11 #[reqV op rule cost s k, .slice A n c] w fun e w' => e = .returned (.bool true) ∧ Below w.heap.size w w' := by
  obtain ⟨_, _, hcst, _, hs⟩ := hq
  have hcp := ha.cap
  rw [hl] at hcp
  have hmx := ha.max
  unfold maxLen at hmx
  have CL := Lib.hid (fun w => light_any op rule cost k s w hs)
  have CRR := Lib.hid (fun w => rright_any op rule cost k 256 s w hs)
  have HQC := Lib.hid hcst
  have HL := Lib.hid hl
  have HA := Lib.hid ha
  have HOK := Lib.hid hok
  have HS := Lib.hid hs
  clear hs hcst hl ha hok
  have BOX := Lib.hid (box_new w (reqC op rule cost s k) 24)
  rcases Nat.lt_or_ge 300 s.size with hl | hl
  · have CL1 := Lib.hid (fun w => (CL.out w).2 (by omega))
    go_enter Try.func11, Try.ntmps11
    go_upto_region 1 with (fail)
    obtain ⟨w1, hw1, hbk, hbl, hsz1⟩ := BOX.out
    change Code.wp _ _ _ _ (w.alloc (.cells (reqC op rule cost s k) 24))
    rw [hw1]
    obtain ⟨b0, hb0⟩ : ∃ b0, b0 = w.heap.size := ⟨_, rfl⟩
    rw [← hb0] at hbk ⊢
    have BK := Lib.hid hbk
    have BL := Lib.hid hbl
    clear hbk hbl hsz1 hw1 hb0
    go_wp2_with (first
      | (go_at_call 12; ((with_reducible refine (fit_any _).mono ?_); rintro e w2 ⟨rfl, b2⟩; have BK2 := Lib.hid (BK.out.keep b2); have BL2 := Lib.hid (BL.out.trans (b2.mono BL.out.size)); have k2 := BK2.out.rd; clear b2))
      | (go_at_call 13; ((with_reducible refine (CL1.out _).mono ?_); rintro e w3 ⟨rfl, b3⟩; have BL3 := Lib.hid (BL2.out.trans (b3.mono BL2.out.size)); clear b3)))
    go_ret
    exact ⟨rfl, BL3.out⟩
  have CL1 := Lib.hid (fun w => (CL.out w).1 hl)
  by_cases hnp : ¬ rightP (mkR op rule cost s k) 256
  · have CR1 := Lib.hid (fun w => (CRR.out w).2 hnp)
    clear hnp
    go_enter Try.func11, Try.ntmps11
    go_upto_region 1 with (fail)
    obtain ⟨w1, hw1, hbk, hbl, hsz1⟩ := BOX.out
    change Code.wp _ _ _ _ (w.alloc (.cells (reqC op rule cost s k) 24))
    rw [hw1]
    obtain ⟨b0, hb0⟩ : ∃ b0, b0 = w.heap.size := ⟨_, rfl⟩
    rw [← hb0] at hbk ⊢
    have BK := Lib.hid hbk
    have BL := Lib.hid hbl
    clear hbk hbl hsz1 hw1 hb0
    go_wp2_with (first
      | (go_at_call 12; ((with_reducible refine (fit_any _).mono ?_); rintro e w2 ⟨rfl, b2⟩; have BK2 := Lib.hid (BK.out.keep b2); have BL2 := Lib.hid (BL.out.trans (b2.mono BL.out.size)); have k2 := BK2.out.rd; clear b2))
      | (go_at_call 13; ((with_reducible refine (CL1.out _).mono ?_); rintro e w3 ⟨rfl, b3⟩; have BK3 := Lib.hid (BK2.out.keep b3); have k3 := BK3.out.rd; have BL3 := Lib.hid (BL2.out.trans (b3.mono BL2.out.size)); clear b3))
      | (go_at_call 15; ((with_reducible refine (CR1.out _).mono ?_); rintro e w4 ⟨rfl, b4⟩; have BL4 := Lib.hid (BL3.out.trans (b4.mono BL3.out.size)); clear b4)))
    go_ret
    exact ⟨rfl, BL4.out⟩
  have hp : rightP (mkR op rule cost s k) 256 := Classical.not_not.1 hnp
  have CR1 := Lib.hid (fun w => (CRR.out w).1 hp)
  by_cases hn : (64 : Int) < (n : Int)
  · clear hnp hp
    go_enter Try.func11, Try.ntmps11
    go_upto_region 1 with (fail)
    obtain ⟨w1, hw1, hbk, hbl, hsz1⟩ := BOX.out
    change Code.wp _ _ _ _ (w.alloc (.cells (reqC op rule cost s k) 24))
    rw [hw1]
    obtain ⟨b0, hb0⟩ : ∃ b0, b0 = w.heap.size := ⟨_, rfl⟩
    rw [← hb0] at hbk ⊢
    have BK := Lib.hid hbk
    have BL := Lib.hid hbl
    clear hbk hbl hsz1 hw1 hb0
    go_wp2_with (first
      | (go_at_call 12; ((with_reducible refine (fit_any _).mono ?_); rintro e w2 ⟨rfl, b2⟩; have BK2 := Lib.hid (BK.out.keep b2); have BL2 := Lib.hid (BL.out.trans (b2.mono BL.out.size)); have k2 := BK2.out.rd; clear b2))
      | (go_at_call 13; ((with_reducible refine (CL1.out _).mono ?_); rintro e w3 ⟨rfl, b3⟩; have BK3 := Lib.hid (BK2.out.keep b3); have k3 := BK3.out.rd; have BL3 := Lib.hid (BL2.out.trans (b3.mono BL2.out.size)); clear b3))
      | (go_at_call 15; ((with_reducible refine (CR1.out _).mono ?_); rintro e w4 ⟨rfl, b4⟩; have BL4 := Lib.hid (BL3.out.trans (b4.mono BL3.out.size)); clear b4)))
    go_ret
    exact ⟨rfl, BL4.out⟩
  have HN := Lib.hid (show n ≤ 64 from by omega)
  have CE := Lib.hid (fun w => encode_any op rule cost k s w hp HQC.out)
  have HEN := enc_two hp
  have HEB := Lib.hid (enc_byt hp (nums_bd s))
  have HEL := enc_length hp
  obtain ⟨E, hE⟩ : ∃ E, E = (encZ (mkR op rule cost s k)).length := ⟨_, rfl⟩
  rw [← hE] at HEN HEL
  have HEE := Lib.hid hE
  have hsz64 : s.size ≤ 64 := by
    rcases (right_op hp).2 with h | ⟨_, _, rfl, _⟩ | ⟨_, _, rfl, _⟩
    · exact h.2.1
    · decide
    · decide
  obtain ⟨E1, hE1⟩ : ∃ E1 : Nat, E1 = 11 + s.size := ⟨_, rfl⟩
  have eE1 : (11 : Int) + (s.size : Int) = (E1 : Int) := by omega
  have hopE : (op = 1 ∧ E = E1) ∨ (op = 2 ∧ E = E1) ∨ (op = 3 ∧ E = 6) ∨ (op = 4 ∧ E = 7) := by
    rcases (right_op hp).2 with ⟨h1, h2, h3⟩ | ⟨h1, _⟩ | ⟨h1, _⟩
    · have h4 : (mkR op rule cost s k).op < 3 := by show op < 3; omega
      rw [if_pos h4] at HEL
      have h5 : (mkR op rule cost s k).key.length = s.size := nums_length s
      rw [h5] at HEL
      rcases h1 with h1 | h1
      · exact .inl ⟨h1, by omega⟩
      · exact .inr (.inl ⟨h1, by omega⟩)
    · subst h1; exact .inr (.inr (.inl ⟨rfl, HEL⟩))
    · subst h1; exact .inr (.inr (.inr ⟨rfl, HEL⟩))
  have hE75 : 6 ≤ E ∧ E ≤ 75 := by omega
  have HE75 := Lib.hid hE75
  have HE1 := Lib.hid (show 11 ≤ E1 ∧ E1 ≤ 75 from by omega)
  have HOPE := Lib.hid hopE
  have HEN' := Lib.hid HEN
  have hE1b : (E1 : Int) ≤ 75 := by omega
  clear hnp hp hE hE1 HEL HEN hopE hsz64
  go_enter Try.func11, Try.ntmps11
  go_upto_region 1 with (fail)
  obtain ⟨w1, hw1, hbk, hbl, hsz1⟩ := BOX.out
  change Code.wp _ _ _ _ (w.alloc (.cells (reqC op rule cost s k) 24))
  rw [hw1]
  obtain ⟨b0, hb0⟩ : ∃ b0, b0 = w.heap.size := ⟨_, rfl⟩
  rw [← hb0] at hbk ⊢
  have BK := Lib.hid hbk
  have BL := Lib.hid hbl
  clear hbk hbl hsz1 hw1 hb0
  go_upto_region 6 with (first
    | (go_at_call 12; ((with_reducible refine (fit_any _).mono ?_); rintro e w2 ⟨rfl, b2⟩; have BK2 := Lib.hid (BK.out.keep b2); have BL2 := Lib.hid (BL.out.trans (b2.mono BL.out.size)); have k2 := BK2.out.rd; clear b2))
    | (go_at_call 13; ((with_reducible refine (CL1.out _).mono ?_); rintro e w3 ⟨rfl, b3⟩; have BK3 := Lib.hid (BK2.out.keep b3); have k3 := BK3.out.rd; have BL3 := Lib.hid (BL2.out.trans (b3.mono BL2.out.size)); clear b3))
    | (go_at_call 15; ((with_reducible refine (CR1.out _).mono ?_); rintro e w4 ⟨rfl, b4⟩; have BK4 := Lib.hid (BK3.out.keep b4); have k4 := BK4.out.rd; have BL4 := Lib.hid (BL3.out.trans (b4.mono BL3.out.size)); clear b4))
    | (go_at_call 16; ((with_reducible refine (CE.out _).mono ?_); rintro e w5 ⟨v5, rfl, o5, b5⟩; obtain ⟨g5, c5, rfl, r5, _⟩ := own_rdn o5 HEB.out E HEE.out.symm (by have := HE75.out; omega); have R5 := Lib.hid r5; have BK5 := Lib.hid (BK4.out.keep b5); have BL5 := Lib.hid (BL4.out.trans (b5.mono BL4.out.size)); clear o5 b5 r5)))
  clear k2 k3 k4
  have hb5 := lt_of_block BK5.out
  obtain ⟨w6, hw6, hbk6, hbl6, _⟩ := box_new w5 (szC (E1 : Int)) 3
  have BL6 := Lib.hid (BL5.out.trans (hbl6.mono BL5.out.size))
  have R6 := Lib.hid (R5.out.below hbl6)
  have k5a := BK5.out.rd
  have k6 := (BK5.out.keep hbl6).rd
  have kS := hbk6.rd
  clear hbk6 hbl6
  rcases HOPE.out with ⟨rfl, h2⟩ | ⟨rfl, h2⟩ | ⟨rfl, h2⟩ | ⟨rfl, h2⟩
  · skip
    subst h2
    have hEE6 := HE75.out
    go_upto_region 7 with (fail)
    clear k6 kS hw6 k5a
    go_upto_region 9 with (fail)
    go_loopg [7, 44] n (fun kx s7 s44 wr => ∃ (i : Nat) (x : Int), i ≤ n ∧ kx = n - i ∧ s7 = .int .i64 x ∧ x = 7 + (sumL (zs (ls.take i)) : Int) ∧ s44 = .int .i64 (i : Int) ∧ (∀ a ∈ ls.take i, a.s.size ≤ 64) ∧ Below w6.heap.size w6 wr)
    case atStart => exact ⟨0, 7, by omega, by omega, rfl, by simp [zs, sumL], rfl, by simp, Below.refl _ _⟩
    case round =>
      obtain ⟨i, x, hi, hkx, rfl, hx, rfl, hsz, hb⟩ := hrel
      have HK := Lib.hid hkx
      have HSZ := Lib.hid hsz
      have HB := Lib.hid hb
      have HX := Lib.hid hx
      have hxb : 7 ≤ x ∧ x ≤ 6000 := by
        have h1 : oks (zs (ls.take i)) := zs_ok (fun a ha => HOK.out a (List.mem_of_mem_take ha)) hsz
        have h2 := flat_len h1
        rw [flat_sum, zs_length, List.length_take] at h2
        have := HN.out
        omega
      have BW := Lib.hid (BL6.out.trans (hb.mono BL6.out.size))
      clear hkx hsz hb hx
      by_cases hin : i < n
      · have hil : i < ls.length := by rw [HL.out]; exact hin
        have HNX := Lib.hid (show ls.take (i + 1) = ls.take i ++ [ls[i]] from List.take_succ_eq_append_getElem hil)
        obtain ⟨g, off, rfl, hlt, c0, c1, c2⟩ := (HA.out.below BW.out).row hil
        obtain ⟨a, haa⟩ : ∃ a, a = ls[i] := ⟨_, rfl⟩
        rw [← haa] at c0 c1 c2 HNX
        obtain ⟨s', cn, ce⟩ := a
        simp only at c0 c1 c2
        clear haa
        by_cases hs : (64 : Int) < (s'.size : Int)
        · go_wp2
          go_ret
          exact ⟨rfl, BW.out.alloc BW.out.size _⟩
        · have HS := Lib.hid hs
          have hs1 : (s'.size : Int) ≤ 64 := by omega
          have hs0 : (0 : Int) ≤ (s'.size : Int) := by omega
          go_wp2
          go_roundg (n - (i + 1))
          case measure => have := HK.out; omega
          case rel =>
            refine ⟨i + 1, _, by omega, by omega, rfl, ?_, by go_num, ?_, HB.out.alloc HB.out.size _⟩
            · rw [HNX.out]
              unfold zs
              rw [List.map_append, List.map_singleton, sumL_app]
              have hx := HX.out
              unfold zs at hx
              show _ = 7 + ((_ + (17 + (nums s').length + 0) : Nat) : Int)
              rw [nums_length]
              omega
            · intro a ha
              rw [HNX.out] at ha
              rcases List.mem_append.1 ha with h | h
              · exact HSZ.out a h
              · simp only [List.mem_singleton] at h
                rw [h]
                have := HS.out
                show s'.size ≤ 64
                omega
      · have hie : i = n := by omega
        subst hie
        have hsz := HSZ.out
        have hx := HX.out
        rw [List.take_of_length_le (by rw [HL.out]; exact Nat.le_refl _)] at hsz hx
        have HS := Lib.hid hsz
        have HOZ := Lib.hid (zs_ok HOK.out hsz)
        obtain ⟨K, hK⟩ : ∃ K, K = 7 + sumL (zs ls) := ⟨_, rfl⟩
        have hsum : sumL (zs ls) ≤ 81 * i := by
          have := flat_len HOZ.out
          rwa [flat_sum, zs_length, HL.out] at this
        have HKL := Lib.hid hK
        have HSUM := Lib.hid hsum
        have hxK : x = (K : Int) := by omega
        subst hxK
        have HTB := Lib.hid (top_byt (rule := 1) (l := zs ls) (by omega) (by rw [zs_length, HL.out]; have := HN.out; omega) HOZ.out)
        have CLL := Lib.hid (fun (wx : World) (hx : Below w.heap.size w wx) => show Calls Try.prog 26 #[.int .i64 1, .slice A i c] wx (fun e w' => ∃ g' c', e = .returned (.slice (some ⟨g', 0, none⟩) K c') ∧ FrmAt w' g' K c' (topZ 1 (zs ls)) ∧ Below wx.heap.size wx w') from (listed_any 1 A i c ls (by omega) HL.out (by have := HN.out; omega) wx (HA.out.below hx) HOK.out HS.out).mono (fun e w' hh => by
          obtain ⟨v5, rfl, o5, b5⟩ := hh
          obtain ⟨g', c', rfl, hf⟩ := frm_at o5 HTB.out K (by rw [top_length, HKL.out]; omega) (by rw [top_length]; omega) (by rw [top_length]; have := HSUM.out; have := HN.out; omega) (by show (128 : Int) ≤ 132; omega) b5.size
          exact ⟨g', c', rfl, hf, b5⟩))
        have CLF := Lib.hid (fun (wx : World) => show Calls Try.prog 28 #[.int .i64 3] wx (fun e w' => ∃ g' c', e = .returned (.slice (some ⟨g', 0, none⟩) 6 c') ∧ FrmAt w' g' 6 c' (errZ 3) ∧ Below wx.heap.size wx w') from (faulted_any 3 (by omega) wx).mono (fun e w' hh => by
          obtain ⟨v5, rfl, o5, b5⟩ := hh
          obtain ⟨g', c', rfl, hf⟩ := frm_at o5 (err_byt (by omega)) 6 rfl (by show 2 ≤ 2; omega) (by show 2 ≤ _; omega) (by show (128 : Int) ≤ 255; omega) b5.size
          exact ⟨g', c', rfl, hf, b5⟩))
        have CLT := Lib.hid (fun (wx : World) => show Calls Try.prog 22 #[.int .i64 0, .agg (totC 0 0 0 0 0)] wx (fun e w' => ∃ g' c', e = .returned (.slice (some ⟨g', 0, none⟩) 46 c') ∧ FrmAt w' g' 46 c' (totZ 0 0 0 0 0 0) ∧ Below wx.heap.size wx w') from (totalled_any 0 0 0 0 0 0 (by omega) i64_0 i64_0 i64_0 i64_0 i64_0 wx).mono (fun e w' hh => by
          obtain ⟨v5, rfl, o5, b5⟩ := hh
          obtain ⟨g', c', rfl, hf⟩ := frm_at o5 (tot_byt (by omega)) 46 (by rw [tot_length]) (by rw [tot_length]; omega) (by rw [tot_length]; omega) (by show (128 : Int) ≤ 131; omega) b5.size
          exact ⟨g', c', rfl, hf, b5⟩))
        have CLA := Lib.hid (fun (wx : World) => show Calls Try.prog 20 #[.int .i64 1, .agg (ansC 1 0 0)] wx (fun e w' => ∃ g' c', e = .returned (.slice (some ⟨g', 0, none⟩) 22 c') ∧ FrmAt w' g' 22 c' (ansZ 1 1 0 0) ∧ Below wx.heap.size wx w') from (answered_any 1 1 0 0 (by omega) (by omega) i64_0 i64_0 wx).mono (fun e w' hh => by
          obtain ⟨v5, rfl, o5, b5⟩ := hh
          obtain ⟨g', c', rfl, hf⟩ := frm_at o5 (ans_byt (by omega) (by omega)) 22 (by rw [ans_length]) (by rw [ans_length]; omega) (by rw [ans_length]; omega) (by show (128 : Int) ≤ 129; omega) b5.size
          exact ⟨g', c', rfl, hf, b5⟩))
        obtain ⟨g', off', e', hlt', hc'⟩ := (R6.out.below HB.out).at_ (by omega)
        injection e' with e'
        injection e' with e1 e2
        subst e1 e2
        have c2 := hc' 2 (by omega)
        have c3 := hc' 3 (by omega)
        rw [HEN'.out.1, Nat.zero_add] at c2
        rw [HEN'.out.2.1, Nat.zero_add] at c3
        have hcp5 := R6.out.cap
        obtain ⟨X3, hX3⟩ : ∃ X3, X3 = (E : Int) - 4 := ⟨_, rfl⟩
        rw [← hX3] at c3
        have eX3 : (E : Int) - 4 = X3 := hX3.symm
        have eX4 : IntKind.i64.wrap X3 = X3 := by rw [IntKind.wrap_i64]; omega
        have gE3 : (3 : Int) < (E : Int) := by omega
        have gE2 : (2 : Int) < (E : Int) := by omega
        clear hX3
        clear hsz hK hsum hx hc' hlt'
        go_upto_region 18 with (first
          | (go_at_call 26; ((with_reducible refine (CLL.out _ BW.out).mono ?_); rintro e w7 ⟨g7, c7, rfl, f7, b7⟩; have F7 := Lib.hid f7; have B7 := Lib.hid b7; have W7 := Lib.hid (BW.out.trans (b7.mono BW.out.size)); clear f7 b7))
          | (go_at_call 28; ((with_reducible refine (CLF.out _).mono ?_); rintro e w8 ⟨g8, c8, rfl, f8, b8⟩; have F8 := Lib.hid f8; have G7 := Lib.hid (F7.out.below b8); have W8 := Lib.hid (W7.out.trans (b8.mono W7.out.size)); clear f8 b8))
          | (go_at_call 22; ((with_reducible refine (CLT.out _).mono ?_); rintro e w9 ⟨g9, c9, rfl, f9, b9⟩; have F9 := Lib.hid f9; have G8 := Lib.hid (F8.out.below b9); have H7 := Lib.hid (G7.out.below b9); have W9 := Lib.hid (W8.out.trans (b9.mono W8.out.size)); clear f9 b9))
          | (go_at_call 20; ((with_reducible refine (CLA.out _).mono ?_); rintro e wa ⟨ga, ca, rfl, fa, ba⟩; have FA := Lib.hid fa; have G9 := Lib.hid (F9.out.below ba); have H8 := Lib.hid (G8.out.below ba); have I7 := Lib.hid (H7.out.below ba); have WA := Lib.hid (W9.out.trans (ba.mono W9.out.size)); clear fa ba)))
        clear c2 c3 eX3 eX4
        obtain ⟨wb, hwb, hbkb, hblb, _⟩ := box_new wa #[.slice (some ⟨g7, 0, none⟩) K c7, .slice (some ⟨g8, 0, none⟩) 6 c8, .slice (some ⟨g9, 0, none⟩) 46 c9, .slice (some ⟨ga, 0, none⟩) 22 ca] 25
        have ROW := Lib.hid (show ∀ j < 4, ∃ gj Lj cj b, (#[Value.slice (some ⟨g7, 0, none⟩) K c7, .slice (some ⟨g8, 0, none⟩) 6 c8, .slice (some ⟨g9, 0, none⟩) 46 c9, .slice (some ⟨ga, 0, none⟩) 22 ca] : Array Value)[j]? = some (.slice (some ⟨gj, 0, none⟩) Lj cj) ∧ FrmAt wb gj Lj cj b from by
          intro j hj
          match j, hj with
          | 0, _ => exact ⟨g7, K, c7, _, rfl, I7.out.below hblb⟩
          | 1, _ => exact ⟨g8, 6, c8, _, rfl, H8.out.below hblb⟩
          | 2, _ => exact ⟨g9, 46, c9, _, rfl, G9.out.below hblb⟩
          | 3, _ => exact ⟨ga, 22, ca, _, rfl, FA.out.below hblb⟩)
        have KB := Lib.hid hbkb
        have WB := Lib.hid (WA.out.trans (hblb.mono WA.out.size))
        clear hbkb hblb
        change Code.wp _ _ _ _ (wa.alloc (.cells #[.slice (some ⟨g7, 0, none⟩) K c7, .slice (some ⟨g8, 0, none⟩) 6 c8, .slice (some ⟨g9, 0, none⟩) 46 c9, .slice (some ⟨ga, 0, none⟩) 22 ca] 25))
        rw [hwb]
        clear hwb
        obtain ⟨gB, hgB⟩ : ∃ gB, gB = wa.heap.size := ⟨_, rfl⟩
        rw [← hgB] at KB ⊢
        clear hgB
        go_loopg [87] 4 (fun kx s87 wr => ∃ j : Nat, j ≤ 4 ∧ kx = 4 - j ∧ s87 = .int .i64 (j : Int) ∧ Below wb.heap.size wb wr)
        case atStart => exact ⟨0, by omega, by omega, rfl, Below.refl _ _⟩
        case round =>
          obtain ⟨j, hj, hkx, rfl, hb⟩ := hrel
          have HKX := Lib.hid hkx
          have HBR := Lib.hid hb
          clear hkx hb
          by_cases hj4 : j < 4
          · obtain ⟨gj, Lj, cj, bj, hrow, hfrm⟩ := ROW.out j hj4
            have kj := (KB.out.keep HBR.out).rd j
            rw [hrow] at kj
            obtain ⟨hi, lo, y, h1, h2, h3, h4, d0, d1, d2, d3, d4, h5, h6⟩ := (hfrm.below HBR.out).cells
            obtain ⟨P, hP⟩ : ∃ P : Int, P = (hi : Int) * 256 := ⟨_, rfl⟩
            have ep : IntKind.i64.wrap ((hi : Int) * 256) = (hi : Int) * 256 := by rw [IntKind.wrap_i64]; omega
            have ew1 : IntKind.i64.wrap (hi : Int) = (hi : Int) := by rw [IntKind.wrap_i64]; omega
            have ew2 : IntKind.i64.wrap (lo : Int) = (lo : Int) := by rw [IntKind.wrap_i64]; omega
            obtain ⟨X, hX⟩ : ∃ X : Int, X = (Lj : Int) - 4 := ⟨_, rfl⟩
            have eor : bits .or .i64 ((hi : Int) * 256) (lo : Int) = X := by rw [or_i64 hi lo h2 h1, hX]; exact h3
            have eL : (Lj : Int) - 4 = X := hX.symm
            have eLw : IntKind.i64.wrap X = X := by rw [IntKind.wrap_i64]; omega
            have t1 : ¬ (Lj : Int) < 6 := by omega
            have t2 : ¬ (y : Int) < 128 := by omega
            have u0 : (0 : Int) < (Lj : Int) := by omega
            have u1 : (1 : Int) < (Lj : Int) := by omega
            have u2 : (2 : Int) < (Lj : Int) := by omega
            have u3 : (3 : Int) < (Lj : Int) := by omega
            have u4 : (4 : Int) < (Lj : Int) := by omega
            have j4 : (j : Int) < 4 := by omega
            clear hP hX h1 h2 h3 h4 h5 h6 hrow hfrm
            go_upto_region 20 with (fail)
            clear kj
            go_quiet (fail)
            go_wp2
            go_roundg (4 - (j + 1))
            case measure => have := HKX.out; omega
            case rel => exact ⟨j + 1, by omega, by omega, by go_num, below_draws HBR.out nq⟩
          · have hje : j = 4 := by omega
            subst hje
            have WR := Lib.hid (WB.out.trans (HBR.out.mono WB.out.size))
            go_wp2_with (go_at_call 26; ((with_reducible refine (CLL.out _ WR.out).mono ?_); rintro e wz ⟨gz, cz, rfl, fz, bz⟩; have WZ := Lib.hid (WR.out.trans (bz.mono WR.out.size)); clear fz bz))
            go_ret
            exact ⟨rfl, WZ.out⟩
  · skip
    subst h2
    have hEE6 := HE75.out
    go_upto_region 7 with (fail)
    clear k6 kS hw6 k5a
    go_upto_region 9 with (fail)
    go_loopg [7, 44] n (fun kx s7 s44 wr => ∃ (i : Nat) (x : Int), i ≤ n ∧ kx = n - i ∧ s7 = .int .i64 x ∧ x = 7 + (sumL (zs (ls.take i)) : Int) ∧ s44 = .int .i64 (i : Int) ∧ (∀ a ∈ ls.take i, a.s.size ≤ 64) ∧ Below w6.heap.size w6 wr)
    case atStart => exact ⟨0, 7, by omega, by omega, rfl, by simp [zs, sumL], rfl, by simp, Below.refl _ _⟩
    case round =>
      obtain ⟨i, x, hi, hkx, rfl, hx, rfl, hsz, hb⟩ := hrel
      have HK := Lib.hid hkx
      have HSZ := Lib.hid hsz
      have HB := Lib.hid hb
      have HX := Lib.hid hx
      have hxb : 7 ≤ x ∧ x ≤ 6000 := by
        have h1 : oks (zs (ls.take i)) := zs_ok (fun a ha => HOK.out a (List.mem_of_mem_take ha)) hsz
        have h2 := flat_len h1
        rw [flat_sum, zs_length, List.length_take] at h2
        have := HN.out
        omega
      have BW := Lib.hid (BL6.out.trans (hb.mono BL6.out.size))
      clear hkx hsz hb hx
      by_cases hin : i < n
      · have hil : i < ls.length := by rw [HL.out]; exact hin
        have HNX := Lib.hid (show ls.take (i + 1) = ls.take i ++ [ls[i]] from List.take_succ_eq_append_getElem hil)
        obtain ⟨g, off, rfl, hlt, c0, c1, c2⟩ := (HA.out.below BW.out).row hil
        obtain ⟨a, haa⟩ : ∃ a, a = ls[i] := ⟨_, rfl⟩
        rw [← haa] at c0 c1 c2 HNX
        obtain ⟨s', cn, ce⟩ := a
        simp only at c0 c1 c2
        clear haa
        by_cases hs : (64 : Int) < (s'.size : Int)
        · go_wp2
          go_ret
          exact ⟨rfl, BW.out.alloc BW.out.size _⟩
        · have HS := Lib.hid hs
          have hs1 : (s'.size : Int) ≤ 64 := by omega
          have hs0 : (0 : Int) ≤ (s'.size : Int) := by omega
          go_wp2
          go_roundg (n - (i + 1))
          case measure => have := HK.out; omega
          case rel =>
            refine ⟨i + 1, _, by omega, by omega, rfl, ?_, by go_num, ?_, HB.out.alloc HB.out.size _⟩
            · rw [HNX.out]
              unfold zs
              rw [List.map_append, List.map_singleton, sumL_app]
              have hx := HX.out
              unfold zs at hx
              show _ = 7 + ((_ + (17 + (nums s').length + 0) : Nat) : Int)
              rw [nums_length]
              omega
            · intro a ha
              rw [HNX.out] at ha
              rcases List.mem_append.1 ha with h | h
              · exact HSZ.out a h
              · simp only [List.mem_singleton] at h
                rw [h]
                have := HS.out
                show s'.size ≤ 64
                omega
      · have hie : i = n := by omega
        subst hie
        have hsz := HSZ.out
        have hx := HX.out
        rw [List.take_of_length_le (by rw [HL.out]; exact Nat.le_refl _)] at hsz hx
        have HS := Lib.hid hsz
        have HOZ := Lib.hid (zs_ok HOK.out hsz)
        obtain ⟨K, hK⟩ : ∃ K, K = 7 + sumL (zs ls) := ⟨_, rfl⟩
        have hsum : sumL (zs ls) ≤ 81 * i := by
          have := flat_len HOZ.out
          rwa [flat_sum, zs_length, HL.out] at this
        have HKL := Lib.hid hK
        have HSUM := Lib.hid hsum
        have hxK : x = (K : Int) := by omega
        subst hxK
        have HTB := Lib.hid (top_byt (rule := 1) (l := zs ls) (by omega) (by rw [zs_length, HL.out]; have := HN.out; omega) HOZ.out)
        have CLL := Lib.hid (fun (wx : World) (hx : Below w.heap.size w wx) => show Calls Try.prog 26 #[.int .i64 1, .slice A i c] wx (fun e w' => ∃ g' c', e = .returned (.slice (some ⟨g', 0, none⟩) K c') ∧ FrmAt w' g' K c' (topZ 1 (zs ls)) ∧ Below wx.heap.size wx w') from (listed_any 1 A i c ls (by omega) HL.out (by have := HN.out; omega) wx (HA.out.below hx) HOK.out HS.out).mono (fun e w' hh => by
          obtain ⟨v5, rfl, o5, b5⟩ := hh
          obtain ⟨g', c', rfl, hf⟩ := frm_at o5 HTB.out K (by rw [top_length, HKL.out]; omega) (by rw [top_length]; omega) (by rw [top_length]; have := HSUM.out; have := HN.out; omega) (by show (128 : Int) ≤ 132; omega) b5.size
          exact ⟨g', c', rfl, hf, b5⟩))
        have CLF := Lib.hid (fun (wx : World) => show Calls Try.prog 28 #[.int .i64 3] wx (fun e w' => ∃ g' c', e = .returned (.slice (some ⟨g', 0, none⟩) 6 c') ∧ FrmAt w' g' 6 c' (errZ 3) ∧ Below wx.heap.size wx w') from (faulted_any 3 (by omega) wx).mono (fun e w' hh => by
          obtain ⟨v5, rfl, o5, b5⟩ := hh
          obtain ⟨g', c', rfl, hf⟩ := frm_at o5 (err_byt (by omega)) 6 rfl (by show 2 ≤ 2; omega) (by show 2 ≤ _; omega) (by show (128 : Int) ≤ 255; omega) b5.size
          exact ⟨g', c', rfl, hf, b5⟩))
        have CLT := Lib.hid (fun (wx : World) => show Calls Try.prog 22 #[.int .i64 0, .agg (totC 0 0 0 0 0)] wx (fun e w' => ∃ g' c', e = .returned (.slice (some ⟨g', 0, none⟩) 46 c') ∧ FrmAt w' g' 46 c' (totZ 0 0 0 0 0 0) ∧ Below wx.heap.size wx w') from (totalled_any 0 0 0 0 0 0 (by omega) i64_0 i64_0 i64_0 i64_0 i64_0 wx).mono (fun e w' hh => by
          obtain ⟨v5, rfl, o5, b5⟩ := hh
          obtain ⟨g', c', rfl, hf⟩ := frm_at o5 (tot_byt (by omega)) 46 (by rw [tot_length]) (by rw [tot_length]; omega) (by rw [tot_length]; omega) (by show (128 : Int) ≤ 131; omega) b5.size
          exact ⟨g', c', rfl, hf, b5⟩))
        have CLA := Lib.hid (fun (wx : World) => show Calls Try.prog 20 #[.int .i64 1, .agg (ansC 1 0 0)] wx (fun e w' => ∃ g' c', e = .returned (.slice (some ⟨g', 0, none⟩) 22 c') ∧ FrmAt w' g' 22 c' (ansZ 1 1 0 0) ∧ Below wx.heap.size wx w') from (answered_any 1 1 0 0 (by omega) (by omega) i64_0 i64_0 wx).mono (fun e w' hh => by
          obtain ⟨v5, rfl, o5, b5⟩ := hh
          obtain ⟨g', c', rfl, hf⟩ := frm_at o5 (ans_byt (by omega) (by omega)) 22 (by rw [ans_length]) (by rw [ans_length]; omega) (by rw [ans_length]; omega) (by show (128 : Int) ≤ 129; omega) b5.size
          exact ⟨g', c', rfl, hf, b5⟩))
        obtain ⟨g', off', e', hlt', hc'⟩ := (R6.out.below HB.out).at_ (by omega)
        injection e' with e'
        injection e' with e1 e2
        subst e1 e2
        have c2 := hc' 2 (by omega)
        have c3 := hc' 3 (by omega)
        rw [HEN'.out.1, Nat.zero_add] at c2
        rw [HEN'.out.2.1, Nat.zero_add] at c3
        have hcp5 := R6.out.cap
        obtain ⟨X3, hX3⟩ : ∃ X3, X3 = (E : Int) - 4 := ⟨_, rfl⟩
        rw [← hX3] at c3
        have eX3 : (E : Int) - 4 = X3 := hX3.symm
        have eX4 : IntKind.i64.wrap X3 = X3 := by rw [IntKind.wrap_i64]; omega
        have gE3 : (3 : Int) < (E : Int) := by omega
        have gE2 : (2 : Int) < (E : Int) := by omega
        clear hX3
        clear hsz hK hsum hx hc' hlt'
        go_upto_region 18 with (first
          | (go_at_call 26; ((with_reducible refine (CLL.out _ BW.out).mono ?_); rintro e w7 ⟨g7, c7, rfl, f7, b7⟩; have F7 := Lib.hid f7; have B7 := Lib.hid b7; have W7 := Lib.hid (BW.out.trans (b7.mono BW.out.size)); clear f7 b7))
          | (go_at_call 28; ((with_reducible refine (CLF.out _).mono ?_); rintro e w8 ⟨g8, c8, rfl, f8, b8⟩; have F8 := Lib.hid f8; have G7 := Lib.hid (F7.out.below b8); have W8 := Lib.hid (W7.out.trans (b8.mono W7.out.size)); clear f8 b8))
          | (go_at_call 22; ((with_reducible refine (CLT.out _).mono ?_); rintro e w9 ⟨g9, c9, rfl, f9, b9⟩; have F9 := Lib.hid f9; have G8 := Lib.hid (F8.out.below b9); have H7 := Lib.hid (G7.out.below b9); have W9 := Lib.hid (W8.out.trans (b9.mono W8.out.size)); clear f9 b9))
          | (go_at_call 20; ((with_reducible refine (CLA.out _).mono ?_); rintro e wa ⟨ga, ca, rfl, fa, ba⟩; have FA := Lib.hid fa; have G9 := Lib.hid (F9.out.below ba); have H8 := Lib.hid (G8.out.below ba); have I7 := Lib.hid (H7.out.below ba); have WA := Lib.hid (W9.out.trans (ba.mono W9.out.size)); clear fa ba)))
        clear c2 c3 eX3 eX4
        obtain ⟨wb, hwb, hbkb, hblb, _⟩ := box_new wa #[.slice (some ⟨g7, 0, none⟩) K c7, .slice (some ⟨g8, 0, none⟩) 6 c8, .slice (some ⟨g9, 0, none⟩) 46 c9, .slice (some ⟨ga, 0, none⟩) 22 ca] 25
        have ROW := Lib.hid (show ∀ j < 4, ∃ gj Lj cj b, (#[Value.slice (some ⟨g7, 0, none⟩) K c7, .slice (some ⟨g8, 0, none⟩) 6 c8, .slice (some ⟨g9, 0, none⟩) 46 c9, .slice (some ⟨ga, 0, none⟩) 22 ca] : Array Value)[j]? = some (.slice (some ⟨gj, 0, none⟩) Lj cj) ∧ FrmAt wb gj Lj cj b from by
          intro j hj
          match j, hj with
          | 0, _ => exact ⟨g7, K, c7, _, rfl, I7.out.below hblb⟩
          | 1, _ => exact ⟨g8, 6, c8, _, rfl, H8.out.below hblb⟩
          | 2, _ => exact ⟨g9, 46, c9, _, rfl, G9.out.below hblb⟩
          | 3, _ => exact ⟨ga, 22, ca, _, rfl, FA.out.below hblb⟩)
        have KB := Lib.hid hbkb
        have WB := Lib.hid (WA.out.trans (hblb.mono WA.out.size))
        clear hbkb hblb
        change Code.wp _ _ _ _ (wa.alloc (.cells #[.slice (some ⟨g7, 0, none⟩) K c7, .slice (some ⟨g8, 0, none⟩) 6 c8, .slice (some ⟨g9, 0, none⟩) 46 c9, .slice (some ⟨ga, 0, none⟩) 22 ca] 25))
        rw [hwb]
        clear hwb
        obtain ⟨gB, hgB⟩ : ∃ gB, gB = wa.heap.size := ⟨_, rfl⟩
        rw [← hgB] at KB ⊢
        clear hgB
        go_loopg [87] 4 (fun kx s87 wr => ∃ j : Nat, j ≤ 4 ∧ kx = 4 - j ∧ s87 = .int .i64 (j : Int) ∧ Below wb.heap.size wb wr)
        case atStart => exact ⟨0, by omega, by omega, rfl, Below.refl _ _⟩
        case round =>
          obtain ⟨j, hj, hkx, rfl, hb⟩ := hrel
          have HKX := Lib.hid hkx
          have HBR := Lib.hid hb
          clear hkx hb
          by_cases hj4 : j < 4
          · obtain ⟨gj, Lj, cj, bj, hrow, hfrm⟩ := ROW.out j hj4
            have kj := (KB.out.keep HBR.out).rd j
            rw [hrow] at kj
            obtain ⟨hi, lo, y, h1, h2, h3, h4, d0, d1, d2, d3, d4, h5, h6⟩ := (hfrm.below HBR.out).cells
            obtain ⟨P, hP⟩ : ∃ P : Int, P = (hi : Int) * 256 := ⟨_, rfl⟩
            have ep : IntKind.i64.wrap ((hi : Int) * 256) = (hi : Int) * 256 := by rw [IntKind.wrap_i64]; omega
            have ew1 : IntKind.i64.wrap (hi : Int) = (hi : Int) := by rw [IntKind.wrap_i64]; omega
            have ew2 : IntKind.i64.wrap (lo : Int) = (lo : Int) := by rw [IntKind.wrap_i64]; omega
            obtain ⟨X, hX⟩ : ∃ X : Int, X = (Lj : Int) - 4 := ⟨_, rfl⟩
            have eor : bits .or .i64 ((hi : Int) * 256) (lo : Int) = X := by rw [or_i64 hi lo h2 h1, hX]; exact h3
            have eL : (Lj : Int) - 4 = X := hX.symm
            have eLw : IntKind.i64.wrap X = X := by rw [IntKind.wrap_i64]; omega
            have t1 : ¬ (Lj : Int) < 6 := by omega
            have t2 : ¬ (y : Int) < 128 := by omega
            have u0 : (0 : Int) < (Lj : Int) := by omega
            have u1 : (1 : Int) < (Lj : Int) := by omega
            have u2 : (2 : Int) < (Lj : Int) := by omega
            have u3 : (3 : Int) < (Lj : Int) := by omega
            have u4 : (4 : Int) < (Lj : Int) := by omega
            have j4 : (j : Int) < 4 := by omega
            clear hP hX h1 h2 h3 h4 h5 h6 hrow hfrm
            go_upto_region 20 with (fail)
            clear kj
            go_quiet (fail)
            go_wp2
            go_roundg (4 - (j + 1))
            case measure => have := HKX.out; omega
            case rel => exact ⟨j + 1, by omega, by omega, by go_num, below_draws HBR.out nq⟩
          · have hje : j = 4 := by omega
            subst hje
            have WR := Lib.hid (WB.out.trans (HBR.out.mono WB.out.size))
            go_wp2_with (go_at_call 26; ((with_reducible refine (CLL.out _ WR.out).mono ?_); rintro e wz ⟨gz, cz, rfl, fz, bz⟩; have WZ := Lib.hid (WR.out.trans (bz.mono WR.out.size)); clear fz bz))
            go_ret
            exact ⟨rfl, WZ.out⟩
  · skip
    subst h2
    have hEE6 := HE75.out
    go_upto_region 7 with (fail)
    clear k6 kS hw6 k5a
    go_upto_region 9 with (fail)
    go_loopg [7, 44] n (fun kx s7 s44 wr => ∃ (i : Nat) (x : Int), i ≤ n ∧ kx = n - i ∧ s7 = .int .i64 x ∧ x = 7 + (sumL (zs (ls.take i)) : Int) ∧ s44 = .int .i64 (i : Int) ∧ (∀ a ∈ ls.take i, a.s.size ≤ 64) ∧ Below w6.heap.size w6 wr)
    case atStart => exact ⟨0, 7, by omega, by omega, rfl, by simp [zs, sumL], rfl, by simp, Below.refl _ _⟩
    case round =>
      obtain ⟨i, x, hi, hkx, rfl, hx, rfl, hsz, hb⟩ := hrel
      have HK := Lib.hid hkx
      have HSZ := Lib.hid hsz
      have HB := Lib.hid hb
      have HX := Lib.hid hx
      have hxb : 7 ≤ x ∧ x ≤ 6000 := by
        have h1 : oks (zs (ls.take i)) := zs_ok (fun a ha => HOK.out a (List.mem_of_mem_take ha)) hsz
        have h2 := flat_len h1
        rw [flat_sum, zs_length, List.length_take] at h2
        have := HN.out
        omega
      have BW := Lib.hid (BL6.out.trans (hb.mono BL6.out.size))
      clear hkx hsz hb hx
      by_cases hin : i < n
      · have hil : i < ls.length := by rw [HL.out]; exact hin
        have HNX := Lib.hid (show ls.take (i + 1) = ls.take i ++ [ls[i]] from List.take_succ_eq_append_getElem hil)
        obtain ⟨g, off, rfl, hlt, c0, c1, c2⟩ := (HA.out.below BW.out).row hil
        obtain ⟨a, haa⟩ : ∃ a, a = ls[i] := ⟨_, rfl⟩
        rw [← haa] at c0 c1 c2 HNX
        obtain ⟨s', cn, ce⟩ := a
        simp only at c0 c1 c2
        clear haa
        by_cases hs : (64 : Int) < (s'.size : Int)
        · go_wp2
          go_ret
          exact ⟨rfl, BW.out.alloc BW.out.size _⟩
        · have HS := Lib.hid hs
          have hs1 : (s'.size : Int) ≤ 64 := by omega
          have hs0 : (0 : Int) ≤ (s'.size : Int) := by omega
          go_wp2
          go_roundg (n - (i + 1))
          case measure => have := HK.out; omega
          case rel =>
            refine ⟨i + 1, _, by omega, by omega, rfl, ?_, by go_num, ?_, HB.out.alloc HB.out.size _⟩
            · rw [HNX.out]
              unfold zs
              rw [List.map_append, List.map_singleton, sumL_app]
              have hx := HX.out
              unfold zs at hx
              show _ = 7 + ((_ + (17 + (nums s').length + 0) : Nat) : Int)
              rw [nums_length]
              omega
            · intro a ha
              rw [HNX.out] at ha
              rcases List.mem_append.1 ha with h | h
              · exact HSZ.out a h
              · simp only [List.mem_singleton] at h
                rw [h]
                have := HS.out
                show s'.size ≤ 64
                omega
      · have hie : i = n := by omega
        subst hie
        have hsz := HSZ.out
        have hx := HX.out
        rw [List.take_of_length_le (by rw [HL.out]; exact Nat.le_refl _)] at hsz hx
        have HS := Lib.hid hsz
        have HOZ := Lib.hid (zs_ok HOK.out hsz)
        obtain ⟨K, hK⟩ : ∃ K, K = 7 + sumL (zs ls) := ⟨_, rfl⟩
        have hsum : sumL (zs ls) ≤ 81 * i := by
          have := flat_len HOZ.out
          rwa [flat_sum, zs_length, HL.out] at this
        have HKL := Lib.hid hK
        have HSUM := Lib.hid hsum
        have hxK : x = (K : Int) := by omega
        subst hxK
        have HTB := Lib.hid (top_byt (rule := 1) (l := zs ls) (by omega) (by rw [zs_length, HL.out]; have := HN.out; omega) HOZ.out)
        have CLL := Lib.hid (fun (wx : World) (hx : Below w.heap.size w wx) => show Calls Try.prog 26 #[.int .i64 1, .slice A i c] wx (fun e w' => ∃ g' c', e = .returned (.slice (some ⟨g', 0, none⟩) K c') ∧ FrmAt w' g' K c' (topZ 1 (zs ls)) ∧ Below wx.heap.size wx w') from (listed_any 1 A i c ls (by omega) HL.out (by have := HN.out; omega) wx (HA.out.below hx) HOK.out HS.out).mono (fun e w' hh => by
          obtain ⟨v5, rfl, o5, b5⟩ := hh
          obtain ⟨g', c', rfl, hf⟩ := frm_at o5 HTB.out K (by rw [top_length, HKL.out]; omega) (by rw [top_length]; omega) (by rw [top_length]; have := HSUM.out; have := HN.out; omega) (by show (128 : Int) ≤ 132; omega) b5.size
          exact ⟨g', c', rfl, hf, b5⟩))
        have CLF := Lib.hid (fun (wx : World) => show Calls Try.prog 28 #[.int .i64 3] wx (fun e w' => ∃ g' c', e = .returned (.slice (some ⟨g', 0, none⟩) 6 c') ∧ FrmAt w' g' 6 c' (errZ 3) ∧ Below wx.heap.size wx w') from (faulted_any 3 (by omega) wx).mono (fun e w' hh => by
          obtain ⟨v5, rfl, o5, b5⟩ := hh
          obtain ⟨g', c', rfl, hf⟩ := frm_at o5 (err_byt (by omega)) 6 rfl (by show 2 ≤ 2; omega) (by show 2 ≤ _; omega) (by show (128 : Int) ≤ 255; omega) b5.size
          exact ⟨g', c', rfl, hf, b5⟩))
        have CLT := Lib.hid (fun (wx : World) => show Calls Try.prog 22 #[.int .i64 0, .agg (totC 0 0 0 0 0)] wx (fun e w' => ∃ g' c', e = .returned (.slice (some ⟨g', 0, none⟩) 46 c') ∧ FrmAt w' g' 46 c' (totZ 0 0 0 0 0 0) ∧ Below wx.heap.size wx w') from (totalled_any 0 0 0 0 0 0 (by omega) i64_0 i64_0 i64_0 i64_0 i64_0 wx).mono (fun e w' hh => by
          obtain ⟨v5, rfl, o5, b5⟩ := hh
          obtain ⟨g', c', rfl, hf⟩ := frm_at o5 (tot_byt (by omega)) 46 (by rw [tot_length]) (by rw [tot_length]; omega) (by rw [tot_length]; omega) (by show (128 : Int) ≤ 131; omega) b5.size
          exact ⟨g', c', rfl, hf, b5⟩))
        have CLA := Lib.hid (fun (wx : World) => show Calls Try.prog 20 #[.int .i64 1, .agg (ansC 1 0 0)] wx (fun e w' => ∃ g' c', e = .returned (.slice (some ⟨g', 0, none⟩) 22 c') ∧ FrmAt w' g' 22 c' (ansZ 1 1 0 0) ∧ Below wx.heap.size wx w') from (answered_any 1 1 0 0 (by omega) (by omega) i64_0 i64_0 wx).mono (fun e w' hh => by
          obtain ⟨v5, rfl, o5, b5⟩ := hh
          obtain ⟨g', c', rfl, hf⟩ := frm_at o5 (ans_byt (by omega) (by omega)) 22 (by rw [ans_length]) (by rw [ans_length]; omega) (by rw [ans_length]; omega) (by show (128 : Int) ≤ 129; omega) b5.size
          exact ⟨g', c', rfl, hf, b5⟩))
        obtain ⟨g', off', e', hlt', hc'⟩ := (R6.out.below HB.out).at_ (by omega)
        injection e' with e'
        injection e' with e1 e2
        subst e1 e2
        have c2 := hc' 2 (by omega)
        have c3 := hc' 3 (by omega)
        rw [HEN'.out.1, Nat.zero_add] at c2
        rw [HEN'.out.2.1, Nat.zero_add] at c3
        have hcp5 := R6.out.cap
        have eX3 : (((6 : Nat) : Int) - 4) = 2 := by omega
        rw [eX3] at c3
        have eX4 : IntKind.i64.wrap 2 = 2 := by decide
        clear hsz hK hsum hx hc' hlt'
        go_upto_region 18 with (first
          | (go_at_call 26; ((with_reducible refine (CLL.out _ BW.out).mono ?_); rintro e w7 ⟨g7, c7, rfl, f7, b7⟩; have F7 := Lib.hid f7; have B7 := Lib.hid b7; have W7 := Lib.hid (BW.out.trans (b7.mono BW.out.size)); clear f7 b7))
          | (go_at_call 28; ((with_reducible refine (CLF.out _).mono ?_); rintro e w8 ⟨g8, c8, rfl, f8, b8⟩; have F8 := Lib.hid f8; have G7 := Lib.hid (F7.out.below b8); have W8 := Lib.hid (W7.out.trans (b8.mono W7.out.size)); clear f8 b8))
          | (go_at_call 22; ((with_reducible refine (CLT.out _).mono ?_); rintro e w9 ⟨g9, c9, rfl, f9, b9⟩; have F9 := Lib.hid f9; have G8 := Lib.hid (F8.out.below b9); have H7 := Lib.hid (G7.out.below b9); have W9 := Lib.hid (W8.out.trans (b9.mono W8.out.size)); clear f9 b9))
          | (go_at_call 20; ((with_reducible refine (CLA.out _).mono ?_); rintro e wa ⟨ga, ca, rfl, fa, ba⟩; have FA := Lib.hid fa; have G9 := Lib.hid (F9.out.below ba); have H8 := Lib.hid (G8.out.below ba); have I7 := Lib.hid (H7.out.below ba); have WA := Lib.hid (W9.out.trans (ba.mono W9.out.size)); clear fa ba)))
        clear c2 c3 eX3 eX4
        obtain ⟨wb, hwb, hbkb, hblb, _⟩ := box_new wa #[.slice (some ⟨g7, 0, none⟩) K c7, .slice (some ⟨g8, 0, none⟩) 6 c8, .slice (some ⟨g9, 0, none⟩) 46 c9, .slice (some ⟨ga, 0, none⟩) 22 ca] 25
        have ROW := Lib.hid (show ∀ j < 4, ∃ gj Lj cj b, (#[Value.slice (some ⟨g7, 0, none⟩) K c7, .slice (some ⟨g8, 0, none⟩) 6 c8, .slice (some ⟨g9, 0, none⟩) 46 c9, .slice (some ⟨ga, 0, none⟩) 22 ca] : Array Value)[j]? = some (.slice (some ⟨gj, 0, none⟩) Lj cj) ∧ FrmAt wb gj Lj cj b from by
          intro j hj
          match j, hj with
          | 0, _ => exact ⟨g7, K, c7, _, rfl, I7.out.below hblb⟩
          | 1, _ => exact ⟨g8, 6, c8, _, rfl, H8.out.below hblb⟩
          | 2, _ => exact ⟨g9, 46, c9, _, rfl, G9.out.below hblb⟩
          | 3, _ => exact ⟨ga, 22, ca, _, rfl, FA.out.below hblb⟩)
        have KB := Lib.hid hbkb
        have WB := Lib.hid (WA.out.trans (hblb.mono WA.out.size))
        clear hbkb hblb
        change Code.wp _ _ _ _ (wa.alloc (.cells #[.slice (some ⟨g7, 0, none⟩) K c7, .slice (some ⟨g8, 0, none⟩) 6 c8, .slice (some ⟨g9, 0, none⟩) 46 c9, .slice (some ⟨ga, 0, none⟩) 22 ca] 25))
        rw [hwb]
        clear hwb
        obtain ⟨gB, hgB⟩ : ∃ gB, gB = wa.heap.size := ⟨_, rfl⟩
        rw [← hgB] at KB ⊢
        clear hgB
        go_loopg [87] 4 (fun kx s87 wr => ∃ j : Nat, j ≤ 4 ∧ kx = 4 - j ∧ s87 = .int .i64 (j : Int) ∧ Below wb.heap.size wb wr)
        case atStart => exact ⟨0, by omega, by omega, rfl, Below.refl _ _⟩
        case round =>
          obtain ⟨j, hj, hkx, rfl, hb⟩ := hrel
          have HKX := Lib.hid hkx
          have HBR := Lib.hid hb
          clear hkx hb
          by_cases hj4 : j < 4
          · obtain ⟨gj, Lj, cj, bj, hrow, hfrm⟩ := ROW.out j hj4
            have kj := (KB.out.keep HBR.out).rd j
            rw [hrow] at kj
            obtain ⟨hi, lo, y, h1, h2, h3, h4, d0, d1, d2, d3, d4, h5, h6⟩ := (hfrm.below HBR.out).cells
            obtain ⟨P, hP⟩ : ∃ P : Int, P = (hi : Int) * 256 := ⟨_, rfl⟩
            have ep : IntKind.i64.wrap ((hi : Int) * 256) = (hi : Int) * 256 := by rw [IntKind.wrap_i64]; omega
            have ew1 : IntKind.i64.wrap (hi : Int) = (hi : Int) := by rw [IntKind.wrap_i64]; omega
            have ew2 : IntKind.i64.wrap (lo : Int) = (lo : Int) := by rw [IntKind.wrap_i64]; omega
            obtain ⟨X, hX⟩ : ∃ X : Int, X = (Lj : Int) - 4 := ⟨_, rfl⟩
            have eor : bits .or .i64 ((hi : Int) * 256) (lo : Int) = X := by rw [or_i64 hi lo h2 h1, hX]; exact h3
            have eL : (Lj : Int) - 4 = X := hX.symm
            have eLw : IntKind.i64.wrap X = X := by rw [IntKind.wrap_i64]; omega
            have t1 : ¬ (Lj : Int) < 6 := by omega
            have t2 : ¬ (y : Int) < 128 := by omega
            have u0 : (0 : Int) < (Lj : Int) := by omega
            have u1 : (1 : Int) < (Lj : Int) := by omega
            have u2 : (2 : Int) < (Lj : Int) := by omega
            have u3 : (3 : Int) < (Lj : Int) := by omega
            have u4 : (4 : Int) < (Lj : Int) := by omega
            have j4 : (j : Int) < 4 := by omega
            clear hP hX h1 h2 h3 h4 h5 h6 hrow hfrm
            go_upto_region 20 with (fail)
            clear kj
            go_quiet (fail)
            go_wp2
            go_roundg (4 - (j + 1))
            case measure => have := HKX.out; omega
            case rel => exact ⟨j + 1, by omega, by omega, by go_num, below_draws HBR.out nq⟩
          · have hje : j = 4 := by omega
            subst hje
            have WR := Lib.hid (WB.out.trans (HBR.out.mono WB.out.size))
            go_wp2_with (go_at_call 26; ((with_reducible refine (CLL.out _ WR.out).mono ?_); rintro e wz ⟨gz, cz, rfl, fz, bz⟩; have WZ := Lib.hid (WR.out.trans (bz.mono WR.out.size)); clear fz bz))
            go_ret
            exact ⟨rfl, WZ.out⟩
  · skip
    subst h2
    have hEE6 := HE75.out
    go_upto_region 7 with (fail)
    clear k6 kS hw6 k5a
    go_upto_region 9 with (fail)
    go_loopg [7, 44] n (fun kx s7 s44 wr => ∃ (i : Nat) (x : Int), i ≤ n ∧ kx = n - i ∧ s7 = .int .i64 x ∧ x = 7 + (sumL (zs (ls.take i)) : Int) ∧ s44 = .int .i64 (i : Int) ∧ (∀ a ∈ ls.take i, a.s.size ≤ 64) ∧ Below w6.heap.size w6 wr)
    case atStart => exact ⟨0, 7, by omega, by omega, rfl, by simp [zs, sumL], rfl, by simp, Below.refl _ _⟩
    case round =>
      obtain ⟨i, x, hi, hkx, rfl, hx, rfl, hsz, hb⟩ := hrel
      have HK := Lib.hid hkx
      have HSZ := Lib.hid hsz
      have HB := Lib.hid hb
      have HX := Lib.hid hx
      have hxb : 7 ≤ x ∧ x ≤ 6000 := by
        have h1 : oks (zs (ls.take i)) := zs_ok (fun a ha => HOK.out a (List.mem_of_mem_take ha)) hsz
        have h2 := flat_len h1
        rw [flat_sum, zs_length, List.length_take] at h2
        have := HN.out
        omega
      have BW := Lib.hid (BL6.out.trans (hb.mono BL6.out.size))
      clear hkx hsz hb hx
      by_cases hin : i < n
      · have hil : i < ls.length := by rw [HL.out]; exact hin
        have HNX := Lib.hid (show ls.take (i + 1) = ls.take i ++ [ls[i]] from List.take_succ_eq_append_getElem hil)
        obtain ⟨g, off, rfl, hlt, c0, c1, c2⟩ := (HA.out.below BW.out).row hil
        obtain ⟨a, haa⟩ : ∃ a, a = ls[i] := ⟨_, rfl⟩
        rw [← haa] at c0 c1 c2 HNX
        obtain ⟨s', cn, ce⟩ := a
        simp only at c0 c1 c2
        clear haa
        by_cases hs : (64 : Int) < (s'.size : Int)
        · go_wp2
          go_ret
          exact ⟨rfl, BW.out.alloc BW.out.size _⟩
        · have HS := Lib.hid hs
          have hs1 : (s'.size : Int) ≤ 64 := by omega
          have hs0 : (0 : Int) ≤ (s'.size : Int) := by omega
          go_wp2
          go_roundg (n - (i + 1))
          case measure => have := HK.out; omega
          case rel =>
            refine ⟨i + 1, _, by omega, by omega, rfl, ?_, by go_num, ?_, HB.out.alloc HB.out.size _⟩
            · rw [HNX.out]
              unfold zs
              rw [List.map_append, List.map_singleton, sumL_app]
              have hx := HX.out
              unfold zs at hx
              show _ = 7 + ((_ + (17 + (nums s').length + 0) : Nat) : Int)
              rw [nums_length]
              omega
            · intro a ha
              rw [HNX.out] at ha
              rcases List.mem_append.1 ha with h | h
              · exact HSZ.out a h
              · simp only [List.mem_singleton] at h
                rw [h]
                have := HS.out
                show s'.size ≤ 64
                omega
      · have hie : i = n := by omega
        subst hie
        have hsz := HSZ.out
        have hx := HX.out
        rw [List.take_of_length_le (by rw [HL.out]; exact Nat.le_refl _)] at hsz hx
        have HS := Lib.hid hsz
        have HOZ := Lib.hid (zs_ok HOK.out hsz)
        obtain ⟨K, hK⟩ : ∃ K, K = 7 + sumL (zs ls) := ⟨_, rfl⟩
        have hsum : sumL (zs ls) ≤ 81 * i := by
          have := flat_len HOZ.out
          rwa [flat_sum, zs_length, HL.out] at this
        have HKL := Lib.hid hK
        have HSUM := Lib.hid hsum
        have hxK : x = (K : Int) := by omega
        subst hxK
        have HTB := Lib.hid (top_byt (rule := 1) (l := zs ls) (by omega) (by rw [zs_length, HL.out]; have := HN.out; omega) HOZ.out)
        have CLL := Lib.hid (fun (wx : World) (hx : Below w.heap.size w wx) => show Calls Try.prog 26 #[.int .i64 1, .slice A i c] wx (fun e w' => ∃ g' c', e = .returned (.slice (some ⟨g', 0, none⟩) K c') ∧ FrmAt w' g' K c' (topZ 1 (zs ls)) ∧ Below wx.heap.size wx w') from (listed_any 1 A i c ls (by omega) HL.out (by have := HN.out; omega) wx (HA.out.below hx) HOK.out HS.out).mono (fun e w' hh => by
          obtain ⟨v5, rfl, o5, b5⟩ := hh
          obtain ⟨g', c', rfl, hf⟩ := frm_at o5 HTB.out K (by rw [top_length, HKL.out]; omega) (by rw [top_length]; omega) (by rw [top_length]; have := HSUM.out; have := HN.out; omega) (by show (128 : Int) ≤ 132; omega) b5.size
          exact ⟨g', c', rfl, hf, b5⟩))
        have CLF := Lib.hid (fun (wx : World) => show Calls Try.prog 28 #[.int .i64 3] wx (fun e w' => ∃ g' c', e = .returned (.slice (some ⟨g', 0, none⟩) 6 c') ∧ FrmAt w' g' 6 c' (errZ 3) ∧ Below wx.heap.size wx w') from (faulted_any 3 (by omega) wx).mono (fun e w' hh => by
          obtain ⟨v5, rfl, o5, b5⟩ := hh
          obtain ⟨g', c', rfl, hf⟩ := frm_at o5 (err_byt (by omega)) 6 rfl (by show 2 ≤ 2; omega) (by show 2 ≤ _; omega) (by show (128 : Int) ≤ 255; omega) b5.size
          exact ⟨g', c', rfl, hf, b5⟩))
        have CLT := Lib.hid (fun (wx : World) => show Calls Try.prog 22 #[.int .i64 0, .agg (totC 0 0 0 0 0)] wx (fun e w' => ∃ g' c', e = .returned (.slice (some ⟨g', 0, none⟩) 46 c') ∧ FrmAt w' g' 46 c' (totZ 0 0 0 0 0 0) ∧ Below wx.heap.size wx w') from (totalled_any 0 0 0 0 0 0 (by omega) i64_0 i64_0 i64_0 i64_0 i64_0 wx).mono (fun e w' hh => by
          obtain ⟨v5, rfl, o5, b5⟩ := hh
          obtain ⟨g', c', rfl, hf⟩ := frm_at o5 (tot_byt (by omega)) 46 (by rw [tot_length]) (by rw [tot_length]; omega) (by rw [tot_length]; omega) (by show (128 : Int) ≤ 131; omega) b5.size
          exact ⟨g', c', rfl, hf, b5⟩))
        have CLA := Lib.hid (fun (wx : World) => show Calls Try.prog 20 #[.int .i64 1, .agg (ansC 1 0 0)] wx (fun e w' => ∃ g' c', e = .returned (.slice (some ⟨g', 0, none⟩) 22 c') ∧ FrmAt w' g' 22 c' (ansZ 1 1 0 0) ∧ Below wx.heap.size wx w') from (answered_any 1 1 0 0 (by omega) (by omega) i64_0 i64_0 wx).mono (fun e w' hh => by
          obtain ⟨v5, rfl, o5, b5⟩ := hh
          obtain ⟨g', c', rfl, hf⟩ := frm_at o5 (ans_byt (by omega) (by omega)) 22 (by rw [ans_length]) (by rw [ans_length]; omega) (by rw [ans_length]; omega) (by show (128 : Int) ≤ 129; omega) b5.size
          exact ⟨g', c', rfl, hf, b5⟩))
        obtain ⟨g', off', e', hlt', hc'⟩ := (R6.out.below HB.out).at_ (by omega)
        injection e' with e'
        injection e' with e1 e2
        subst e1 e2
        have c2 := hc' 2 (by omega)
        have c3 := hc' 3 (by omega)
        rw [HEN'.out.1, Nat.zero_add] at c2
        rw [HEN'.out.2.1, Nat.zero_add] at c3
        have hcp5 := R6.out.cap
        have eX3 : (((7 : Nat) : Int) - 4) = 3 := by omega
        rw [eX3] at c3
        have eX4 : IntKind.i64.wrap 3 = 3 := by decide
        clear hsz hK hsum hx hc' hlt'
        go_upto_region 18 with (first
          | (go_at_call 26; ((with_reducible refine (CLL.out _ BW.out).mono ?_); rintro e w7 ⟨g7, c7, rfl, f7, b7⟩; have F7 := Lib.hid f7; have B7 := Lib.hid b7; have W7 := Lib.hid (BW.out.trans (b7.mono BW.out.size)); clear f7 b7))
          | (go_at_call 28; ((with_reducible refine (CLF.out _).mono ?_); rintro e w8 ⟨g8, c8, rfl, f8, b8⟩; have F8 := Lib.hid f8; have G7 := Lib.hid (F7.out.below b8); have W8 := Lib.hid (W7.out.trans (b8.mono W7.out.size)); clear f8 b8))
          | (go_at_call 22; ((with_reducible refine (CLT.out _).mono ?_); rintro e w9 ⟨g9, c9, rfl, f9, b9⟩; have F9 := Lib.hid f9; have G8 := Lib.hid (F8.out.below b9); have H7 := Lib.hid (G7.out.below b9); have W9 := Lib.hid (W8.out.trans (b9.mono W8.out.size)); clear f9 b9))
          | (go_at_call 20; ((with_reducible refine (CLA.out _).mono ?_); rintro e wa ⟨ga, ca, rfl, fa, ba⟩; have FA := Lib.hid fa; have G9 := Lib.hid (F9.out.below ba); have H8 := Lib.hid (G8.out.below ba); have I7 := Lib.hid (H7.out.below ba); have WA := Lib.hid (W9.out.trans (ba.mono W9.out.size)); clear fa ba)))
        clear c2 c3 eX3 eX4
        obtain ⟨wb, hwb, hbkb, hblb, _⟩ := box_new wa #[.slice (some ⟨g7, 0, none⟩) K c7, .slice (some ⟨g8, 0, none⟩) 6 c8, .slice (some ⟨g9, 0, none⟩) 46 c9, .slice (some ⟨ga, 0, none⟩) 22 ca] 25
        have ROW := Lib.hid (show ∀ j < 4, ∃ gj Lj cj b, (#[Value.slice (some ⟨g7, 0, none⟩) K c7, .slice (some ⟨g8, 0, none⟩) 6 c8, .slice (some ⟨g9, 0, none⟩) 46 c9, .slice (some ⟨ga, 0, none⟩) 22 ca] : Array Value)[j]? = some (.slice (some ⟨gj, 0, none⟩) Lj cj) ∧ FrmAt wb gj Lj cj b from by
          intro j hj
          match j, hj with
          | 0, _ => exact ⟨g7, K, c7, _, rfl, I7.out.below hblb⟩
          | 1, _ => exact ⟨g8, 6, c8, _, rfl, H8.out.below hblb⟩
          | 2, _ => exact ⟨g9, 46, c9, _, rfl, G9.out.below hblb⟩
          | 3, _ => exact ⟨ga, 22, ca, _, rfl, FA.out.below hblb⟩)
        have KB := Lib.hid hbkb
        have WB := Lib.hid (WA.out.trans (hblb.mono WA.out.size))
        clear hbkb hblb
        change Code.wp _ _ _ _ (wa.alloc (.cells #[.slice (some ⟨g7, 0, none⟩) K c7, .slice (some ⟨g8, 0, none⟩) 6 c8, .slice (some ⟨g9, 0, none⟩) 46 c9, .slice (some ⟨ga, 0, none⟩) 22 ca] 25))
        rw [hwb]
        clear hwb
        obtain ⟨gB, hgB⟩ : ∃ gB, gB = wa.heap.size := ⟨_, rfl⟩
        rw [← hgB] at KB ⊢
        clear hgB
        go_loopg [87] 4 (fun kx s87 wr => ∃ j : Nat, j ≤ 4 ∧ kx = 4 - j ∧ s87 = .int .i64 (j : Int) ∧ Below wb.heap.size wb wr)
        case atStart => exact ⟨0, by omega, by omega, rfl, Below.refl _ _⟩
        case round =>
          obtain ⟨j, hj, hkx, rfl, hb⟩ := hrel
          have HKX := Lib.hid hkx
          have HBR := Lib.hid hb
          clear hkx hb
          by_cases hj4 : j < 4
          · obtain ⟨gj, Lj, cj, bj, hrow, hfrm⟩ := ROW.out j hj4
            have kj := (KB.out.keep HBR.out).rd j
            rw [hrow] at kj
            obtain ⟨hi, lo, y, h1, h2, h3, h4, d0, d1, d2, d3, d4, h5, h6⟩ := (hfrm.below HBR.out).cells
            obtain ⟨P, hP⟩ : ∃ P : Int, P = (hi : Int) * 256 := ⟨_, rfl⟩
            have ep : IntKind.i64.wrap ((hi : Int) * 256) = (hi : Int) * 256 := by rw [IntKind.wrap_i64]; omega
            have ew1 : IntKind.i64.wrap (hi : Int) = (hi : Int) := by rw [IntKind.wrap_i64]; omega
            have ew2 : IntKind.i64.wrap (lo : Int) = (lo : Int) := by rw [IntKind.wrap_i64]; omega
            obtain ⟨X, hX⟩ : ∃ X : Int, X = (Lj : Int) - 4 := ⟨_, rfl⟩
            have eor : bits .or .i64 ((hi : Int) * 256) (lo : Int) = X := by rw [or_i64 hi lo h2 h1, hX]; exact h3
            have eL : (Lj : Int) - 4 = X := hX.symm
            have eLw : IntKind.i64.wrap X = X := by rw [IntKind.wrap_i64]; omega
            have t1 : ¬ (Lj : Int) < 6 := by omega
            have t2 : ¬ (y : Int) < 128 := by omega
            have u0 : (0 : Int) < (Lj : Int) := by omega
            have u1 : (1 : Int) < (Lj : Int) := by omega
            have u2 : (2 : Int) < (Lj : Int) := by omega
            have u3 : (3 : Int) < (Lj : Int) := by omega
            have u4 : (4 : Int) < (Lj : Int) := by omega
            have j4 : (j : Int) < 4 := by omega
            clear hP hX h1 h2 h3 h4 h5 h6 hrow hfrm
            go_upto_region 20 with (fail)
            clear kj
            go_quiet (fail)
            go_wp2
            go_roundg (4 - (j + 1))
            case measure => have := HKX.out; omega
            case rel => exact ⟨j + 1, by omega, by omega, by go_num, below_draws HBR.out nq⟩
          · have hje : j = 4 := by omega
            subst hje
            have WR := Lib.hid (WB.out.trans (HBR.out.mono WB.out.size))
            go_wp2_with (go_at_call 26; ((with_reducible refine (CLL.out _ WR.out).mono ?_); rintro e wz ⟨gz, cz, rfl, fz, bz⟩; have WZ := Lib.hid (WR.out.trans (bz.mono WR.out.size)); clear fz bz))
            go_ret
            exact ⟨rfl, WZ.out⟩
end Go.Proofs.Ytdhdheakhcddbaa
