/- The contracts of layer 21 (report): Stream. -/
import Derived.Test.YtghhoofdbmgacaaDoorRpE
namespace Go.Proofs.YtghhoofdbmgacaaDoor
set_option linter.unusedSimpArgs false
set_option linter.unusedVariables false
open Go.ChangeShapes Go.WideShapes Go.ChangeAt Go.RowKit Go.Deep
/-- the tail of a slice. -/
theorem slice_tail {w : World} {A : Option Addr} {n c : Nat} {q : List Int} (h : RdI w .u8 A n c q) {t : Nat} (ht : t ≤ n) :
    ∃ A', (∀ W, (Instr.slice 39 (.slice A n c) (some (.int .i64 (t : Int))) none none).run Tryd.prog W = .ok (.slice A' (n - t) (c - t)) W) ∧ RdI w .u8 A' (n - t) (c - t) (q.drop t) := by
  have hc := h.cap
  have hm := h.max
  refine ⟨if c = t then A else A.map (·.add (t * 1)), fun W => ?_, ?_⟩
  · rw [run_slice_l W 39 A n c (by kernel_rfl) .i64 (t : Int) (by omega) (by omega)]
    show (Result.andThen _ _) = _
    rw [show (sizeOf (Tryd.prog.elem 39)).run Tryd.prog W = .ok 1 W from by kernel_rfl]
    simp [sliced]
  · by_cases hlt : t < n
    · obtain ⟨d, off, rfl, _, _⟩ := h.at_ (by omega)
      rw [if_neg (by omega)]
      have := rdI_end h ht
      by_cases h0 : t = 0
      · subst h0; simpa [Addr.add] using this
      · simpa [Addr.add, h0] using this
    · have e0 : n - t = 0 := by omega
      have e1 : q.drop t = [] := List.drop_eq_nil_of_le (by have := h.len; omega)
      rw [e0, e1]
      exact rdI_none (by omega)
theorem read_yes (A : Option Addr) (n c : Nat) (z : List Int) (op ru v re rt a d b cc wt er : Int) (l : List Cnt) (m : Nat) (w : World) (hn : n ≤ 100000) (hr : RdI w .u8 A n c z) (h : readZ z = some (⟨op, ru, v, re, rt, a, d, b, cc, wt, l, er⟩, m)) :
    Calls Tryd.prog 13 #[.slice A n c] w fun e w' => ∃ LA LN LC, e = .returned (.tuple #[.agg (sdC op ru v re rt a d b cc wt (.slice LA LN LC) er), .int .i64 (m : Int), .bool true]) ∧ (∃ ls : List CV, zs ls = l ∧ w'.ownsRow w.heap.size 29 3 (.slice LA LN LC) ls.length (cells3 ls)) ∧ Below w.heap.size w w' := (read_any A n c z w hn hr).1 _ _ h
theorem read_no (A : Option Addr) (n c : Nat) (z : List Int) (w : World) (hn : n ≤ 100000) (hr : RdI w .u8 A n c z) (h : readZ z = none) :
    Calls Tryd.prog 13 #[.slice A n c] w fun e w' => e = .returned (.tuple #[.agg (sdC 0 0 0 0 0 0 0 0 0 0 nilV 0), .int .i64 0, .bool false]) ∧ Below w.heap.size w w' := (read_any A n c z w hn hr).2 h
theorem txt_u8 {L : List Int} (h : ∀ x ∈ L, x = 10 ∨ (32 ≤ x ∧ x ≤ 122)) : ∀ z ∈ L, 0 ≤ z ∧ z ≤ 255 := fun z hz => by have := h z hz; omega
set_option maxHeartbeats 8000000 in
theorem stream_any (A : Option Addr) (n c : Nat) (z : List Int) (w : World) (hn : n ≤ 6000) (hr : RdI w .u8 A n c z) (ht : Tb w) :
    Calls Tryd.prog 12 #[.slice A n c] w fun e w' => ∃ (j t : Nat) (L : List Int), e = .returned (.tuple #[.string (strOfNums L), .int .i64 (t : Int)]) ∧ stp z j = some (t, L) ∧ stp z (j + 1) = none ∧ Below w.heap.size w w' := by
  have HR := Lib.hid hr
  have HN := Lib.hid hn
  have HT := Lib.hid ht
  have HBY := Lib.hid (rdI_hd hr)
  have HL := Lib.hid hr.len
  have hnb : (n : Int) ≤ 6000 := by omega
  clear hr hn ht
  go_enter Tryd.func12, Tryd.ntmps12
  go_upto_region 3 with (fail)
  go_loopg [4, 5] (n + 1) (fun k s4 s5 wr => ∃ (j t : Nat) (L : List Int), stp z j = some (t, L) ∧ k = n + 1 - t ∧ s5 = .int .i64 (t : Int) ∧ Own wr w.heap.size s4 L ∧ Below w.heap.size w wr)
  case atStart => exact ⟨0, 0, [], rfl, by omega, rfl, own_nil _ _, Below.refl _ _⟩
  case round =>
    obtain ⟨j, t, L, hst, hkk, rfl, hown, hb⟩ := hrel
    have HK := Lib.hid hkk
    have HST := Lib.hid hst
    have HO := Lib.hid hown
    have HB := Lib.hid hb
    have HS := Lib.hid (stp_ok HBY.out hst)
    have htn : t ≤ n := by have := HS.out.1; rw [HL.out] at this; exact this
    have HTN := Lib.hid htn
    obtain ⟨A', hsl, hr'⟩ := slice_tail (HR.out.below hb) htn
    have RT := Lib.hid hr'
    have hnt : n - t ≤ 100000 := by have := HN.out; omega
    clear hkk hst hown hr'
    cases hrz : readZ (z.drop t) with
    | none =>
      have CR := Lib.hid (read_no A' (n - t) (c - t) (z.drop t) wr hnt RT.out hrz)
      have HE := Lib.hid (stp_end HST.out hrz)
      obtain ⟨n', hn'⟩ : ∃ n', n' = n - t := ⟨_, rfl⟩
      obtain ⟨c', hc'⟩ : ∃ c', c' = c - t := ⟨_, rfl⟩
      rw [← hn', ← hc'] at CR hsl
      clear hrz hb htn hnt hn' hc' RT
      go_upto_region 4 with (go_at_call 13; ((with_reducible refine CR.out.mono ?_); rintro e w3 ⟨rfl, b3⟩; have O3 := Lib.hid (HO.out.below b3); have B3 := Lib.hid (HB.out.trans (b3.mono HB.out.size)); clear b3))
      obtain ⟨w4, hw4, hbk, hbl, hsz4⟩ := box_new w3 (sdC 0 0 0 0 0 0 0 0 0 0 nilV 0) 36
      change Code.wp _ _ _ _ (w3.alloc (.cells (sdC 0 0 0 0 0 0 0 0 0 0 nilV 0) 36))
      rw [hw4]
      have O4 := Lib.hid (O3.out.below hbl)
      have B4 := Lib.hid (B3.out.trans (hbl.mono B3.out.size))
      obtain ⟨A4, c4, rfl, r4, _⟩ := O4.out.rd (txt_u8 HS.out.2.2.2.1)
      have hcv := conv_str (P := Tryd.prog) (src := 39) (dst := 9) (by rfl) (by rfl) (by rfl) r4
      clear hw4 hbk hbl hsz4 r4
      go_wp2
      go_ret2
      exact ⟨j, t, L, rfl, HST.out, HE.out, B4.out⟩
    | some sm =>
      obtain ⟨⟨op, ru, v, re, rt, a, dd, b, cc, wt, l, err⟩, m⟩ := sm
      have CR := Lib.hid (read_yes A' (n - t) (c - t) (z.drop t) op ru v re rt a dd b cc wt err l m wr hnt RT.out hrz)
      have HFR := Lib.hid (frm_read (byt_drop HBY.out t) hrz)
      have HST2 := Lib.hid (stp_step HST.out hrz)
      have HLN := Lib.hid (line_len HFR.out.2.2.1)
      have HLU := Lib.hid (txt_line HFR.out.2.2.1)
      have hmn : t + m ≤ n := by have := HFR.out.2.1; rw [List.length_drop, HL.out] at this; omega
      have HMN := Lib.hid hmn
      have HM6 := Lib.hid HFR.out.2.2.2
      have hmi : (m : Int) ≤ 6000 := by have := HN.out; omega
      have hti : (t : Int) ≤ 6000 := by have := HN.out; omega
      obtain ⟨ln, hln⟩ : ∃ ln, ln = lineZ ⟨op, ru, v, re, rt, a, dd, b, cc, wt, l, err⟩ := ⟨_, rfl⟩
      have CS := Lib.hid (fun (LA : Option Addr) (LN LC base : Nat) (wx : World) (hx : Below w.heap.size w wx) (hls : ∃ ls : List CV, zs ls = l ∧ wx.ownsRow base 29 3 (.slice LA LN LC) ls.length (cells3 ls)) => show Calls Tryd.prog 10 #[.agg (sdC op ru v re rt a dd b cc wt (.slice LA LN LC) err)] wx (fun e w' => e = .returned (.string (strOfNums ln)) ∧ Below wx.heap.size wx w') from by rw [hln]; exact rsaid_any op ru v re rt a dd b cc wt err l HFR.out.2.2.1 LA LN LC base wx (HT.out.below hx) hls)
      rw [← hln] at HST2 HLN HLU
      have HNS := Lib.hid (nums_str (l := ln) (fun x hx => by have := HLU.out x hx; omega))
      obtain ⟨sl, hsl'⟩ : ∃ s, s = strOfNums ln := ⟨_, rfl⟩
      rw [← hsl'] at HNS CS
      have HSZ := Lib.hid (show sl.size ≤ 52000 from by rw [hsl', str_size]; exact HLN.out)
      have HLL := Lib.hid (show L.length ≤ 52010000 from by
        have h1 := HS.out.2.2.1
        have h2 := HS.out.2.1
        have h3 := HTN.out
        have h4 := HN.out
        have h5 : j ≤ 1000 := by omega
        have h6 := Nat.mul_le_mul_left 52001 h5
        omega)
      obtain ⟨n', hn'⟩ : ∃ n', n' = n - t := ⟨_, rfl⟩
      obtain ⟨c', hc'⟩ : ∃ c', c' = c - t := ⟨_, rfl⟩
      rw [← hn', ← hc'] at CR hsl
      clear hrz hb htn hnt hn' hc' RT hmn hln hsl' 
      go_upto_region 4 with (go_at_call 13; ((with_reducible refine CR.out.mono ?_); rintro e w3 ⟨LA, LN, LC, rfl, hls, b3⟩; have HLS := Lib.hid hls; have O3 := Lib.hid (HO.out.below b3); have B3 := Lib.hid (HB.out.trans (b3.mono HB.out.size)); clear b3 hls))
      obtain ⟨w4, hw4, hbk, hbl, hsz4⟩ := box_new w3 (sdC op ru v re rt a dd b cc wt (.slice LA LN LC) err) 36
      change Code.wp _ _ _ _ (w3.alloc (.cells (sdC op ru v re rt a dd b cc wt (.slice LA LN LC) err) 36))
      rw [hw4]
      have k4 := hbk.rd
      have O4 := Lib.hid (O3.out.below hbl)
      have B4 := Lib.hid (B3.out.trans (hbl.mono B3.out.size))
      have HLS4 := Lib.hid (show ∃ ls : List CV, zs ls = l ∧ w4.ownsRow wr.heap.size 29 3 (.slice LA LN LC) ls.length (cells3 ls) from by
        obtain ⟨ls, h1, h2⟩ := HLS.out
        exact ⟨ls, h1, owns_below h2 hbl⟩)
      have CS4 := Lib.hid (CS.out LA LN LC _ w4 B4.out HLS4.out)
      clear hw4 hbk hbl hsz4
      go_upto_region 7 with (first
        | (go_at_call 10; ((with_reducible refine CS4.out.mono ?_); rintro e w5 ⟨rfl, b5⟩; have O5 := Lib.hid (O4.out.below b5); have B5 := Lib.hid (B4.out.trans (b5.mono B4.out.size)); clear b5))
        | (at_builtin; refine wpList_appS (by rfl) _ _ (by rfl) (by rfl) sl (by rfl) O5.out (by have := HLL.out; have := HSZ.out; omega) B5.out.size ?_; intro v6 w6 o6 g6; have O6 := Lib.hid o6; have B6 := Lib.hid (B5.out.trans ((fr_row g6).below B5.out.size (fun g hg => (O5.out.lt g hg).1))); clear o6 g6)
        | (at_builtin; go_loud (refine wpList_appI (by rfl) _ _ 1 (by rfl) (by rfl) (by rfl) (O6.out.below ((Below.refl _ _).alloc (Nat.le_refl _) _)) (rd_blk (n := 1) (zs := [10]) (heap_alloc_new w6 _) rfl (by unfold maxLen; omega) (fun x hx => u8_wf (by have e : x = 10 := (by simpa using hx); omega))) (by have := HLL.out; have := HLN.out; rw [HNS.out, List.length_append]; omega) (by have := B6.out.size; simp; omega) ?_); intro v7 w7 o7 g7; have O7 := Lib.hid o7; have B7 := Lib.hid ((B6.out.alloc B6.out.size _).trans ((fr_row g7).below (B6.out.alloc B6.out.size _).size (fun g hg => (O6.out.lt g hg).1))); clear o7 g7))
      go_wp2
      go_roundg (n + 1 - (t + m))
      case measure => have := HK.out; have := HM6.out; have := HMN.out; omega
      case rel => exact ⟨j + 1, t + m, L ++ (ln ++ [10]), HST2.out, rfl, by go_num, by rw [← List.append_assoc, ← HNS.out]; exact O7.out, B7.out⟩
end Go.Proofs.YtghhoofdbmgacaaDoor
