/- The law ConnCuts of layer 16, walked. -/
import Derived.Test.YtaghookljjpllaaCnCm
import Derived.Test.YtaghookljjpllaaCnS
import Derived.Deep.CutRange
namespace Go.Proofs.Ytaghookljjpllaa
set_option linter.unusedSimpArgs false
set_option linter.unusedVariables false
open Go.ChangeShapes Go.WideShapes Go.ChangeAt Go.RowKit
theorem acc_zero {rules : Int} {size : Nat} {σ : CnS} : ∀ {zs : List Int}, (accH rules size σ zs).1 = 0 → (accH rules size σ zs).2.1 = σ
  | [], _ => rfl
  | x :: r, h0 => by
    cases hf : fitsH rules size σ x with
    | false => rw [acc_stop hf]
    | true =>
      rw [acc_step hf] at h0
      have h0 : (accH rules size (comeH rules σ x).1 r).1 + 1 = 0 := h0
      omega
theorem cut_m {n at_ n2 i : Nat} (ha : at_ < n) (hn : n ≤ 1000) (x : Int) : ∃ (N g m : Nat), IntKind.i64.wrap ((n : Int) - (at_ : Int)) = (N : Int) ∧ bits .and .i64 (x) 31 = (g : Int) ∧ (if N < g then (N : Int) else (g : Int)) = ((min g N : Nat) : Int) ∧ N = n - at_ ∧ m = (if i < n2 then min g N else N) ∧ m ≤ n - at_ ∧ IntKind.i64.wrap ((at_ : Int) + (m : Int)) = ((at_ + m : Nat) : Int) := by
  refine ⟨n - at_, (x % 32).toNat, if i < n2 then min (x % 32).toNat (n - at_) else n - at_, ?_, ?_, ?_, rfl, rfl, ?_, ?_⟩
  · rw [IntKind.wrap_i64]; omega
  · rw [i64_mask5]; omega
  · split <;> omega
  · split <;> omega
  · rw [IntKind.wrap_i64]; split <;> omega
theorem obyC_append (a b : List Int) : strOfNums a ++ strOfNums b = strOfNums (a ++ b) := str_append a b
set_option maxRecDepth 100000 in
set_option maxHeartbeats 4000000 in
theorem cutrun_any (w : World) (R : Int) (rb bb : Nat) (tr tb : TypeId) (A : Option Addr) (n c : Nat) (zs : List Int) (A2 : Option Addr) (n2 c2 : Nat) (ss : List Int) (hrb : Blk w rb tr #[.int .i64 R]) (hbb : Blk w bb tb #[.slice A n c]) (hr : RdI w .u8 A n c zs) (hr2 : RdI w .i64 A2 n2 c2 ss) (hn : n ≤ 1000) (hn2 : n2 ≤ 100) :
    Calls Try.prog 21 #[.slice A2 n2 c2, .pointer (some ⟨rb, 0, none⟩), .pointer (some ⟨bb, 0, none⟩)] w fun e w' => e = .returned (.string (strOfNums (fullZ R [] 0 zs))) ∧ Below w.heap.size w w' := by
  have HR := Lib.hid hr
  have HR2 := Lib.hid hr2
  have HRB := Lib.hid hrb
  have HBB := Lib.hid hbb
  have hmx1 := hr.max
  have hcp1 := hr.cap
  have hmx2 := hr2.max
  have hcp2 := hr2.cap
  unfold maxLen at hmx1 hmx2
  have HL := Lib.hid hr.len
  have kr := hrb.rd
  have kb := hbb.rd
  obtain ⟨FZ, hFZ⟩ : ∃ x, x = fullZ R [] 0 zs := ⟨_, rfl⟩
  rw [← hFZ]
  have HFZ := Lib.hid hFZ
  have CN := Lib.hid (cnew_z R 64 64 rfl (by omega) (by omega) w)
  have HN := Lib.hid (And.intro hn hn2)
  clear hr hr2 hrb hbb hFZ hn hn2
  go_enter Try.func21, Try.ntmps21
  go_upto_region 2 with (go_at_call 11; ((with_reducible refine CN.out.mono ?_); rintro e w4 ⟨Kn, rfl, hs, hru, h1, lo, b1⟩; have H1 := Lib.hid h1; have LO := Lib.hid lo; have B4 := Lib.hid b1; have HSZ := Lib.hid hs; have HRU := Lib.hid hru; clear h1 lo b1 hs hru))
  have C5 := Lib.hid (c1_new H1.out LO.out B4.out)
  obtain ⟨hb, hhb⟩ : ∃ x, x = w4.heap.size := ⟨_, rfl⟩
  rw [← hhb] at C5 ⊢
  generalize w4.alloc (.cells #[.slice none 0 0] 33) = w5 at C5 ⊢
  have CO := Lib.hid (copen_yes w5 C5.out.ch.c rfl)
  have HBY := Lib.hid (rdI_byt HR.out)
  have hn1 : (n : Int) ≤ 1000 := by have := HN.out; omega
  have hn2' : (n2 : Int) ≤ 100 := by have := HN.out; omega
  clear hhb kr kb
  go_upto_region 3 with (go_at_call 15; ((with_reducible refine CO.out.mono ?_); rintro e w6 ⟨rfl, h6, f6⟩; have C6 := Lib.hid (C5.out.cn h6 f6); clear h6 f6))
  go_wp2
  go_loopg [8, 9, 7] (n2 + n) (fun kk sa si so wr => ∃ (at_ i : Nat) (T : List Int) (σ : CnS) (s : List Req) (v : Value), Hid (kk = (n2 - i) + (n - at_)) ∧ sa = .int .i64 (at_ : Int) ∧ si = .int .i64 (i : Int) ∧ so = .string (strOfNums T) ∧ Hid (at_ ≤ n ∧ i ≤ n2 + at_) ∧ Hid (C1 w wr Kn hb (hb + 1) σ s v) ∧ Hid (StOK Kn.rules σ ∧ σ.op = true ∧ σ.out = []) ∧ Hid (s.length ≤ at_) ∧ Hid (T.length ≤ 64 * i) ∧ Hid (T ++ fullZ Kn.rules σ.z σ.err (zs.drop at_) = FZ))
  case atStart => exact ⟨0, 0, [], _, [], _, Lib.hid (by omega), rfl, rfl, rfl, Lib.hid (by omega), C6, Lib.hid ⟨st_new _ _ _, rfl, rfl⟩, Lib.hid (Nat.le_refl _), Lib.hid (by simp), Lib.hid (by rw [HFZ.out, HRU.out]; rfl)⟩
  case round =>
    obtain ⟨at_, i, T, σ, s, v, HK, rfl, rfl, rfl, HAT, HC, HST, HSL, HTL, HF⟩ := hrel
    have kb := (HBB.out.keep HC.out.bl).rd
    by_cases hlt : at_ < n
    · have t1 : (at_ : Int) < (n : Int) := by omega
      obtain ⟨x, hx⟩ : ∃ x, x = ss.getD i 0 := ⟨_, rfl⟩
      obtain ⟨N, g, m, e1, e2, e3, hN, hm, hmn, e4⟩ := cut_m (n2 := n2) (i := i) hlt HN.out.1 x
      have HX := Lib.hid hx
      obtain ⟨mg, hmg⟩ : ∃ z, z = min g N := ⟨_, rfl⟩
      rw [← hmg] at e3 hm
      obtain ⟨am, ham⟩ : ∃ z, z = at_ + m := ⟨_, rfl⟩
      rw [← ham] at e4
      have HM := Lib.hid hm
      have HMN := Lib.hid hmn
      have HAM := Lib.hid ham
      have HLT := Lib.hid hlt
      have HNE := Lib.hid hN
      clear hx hm hmn ham hN hmg hlt hmx1 hcp1
      go_upto_if 31 with (fail)
      go_cut [10] from 31 to 38 (fun s10 wx => s10 = .int .i64 (m : Int) ∧ wx = wr)
      case first =>
        by_cases hin : i < n2
        · obtain ⟨b', off, rfl, hbl, hc⟩ := (HR2.out.below HC.out.bl).at_ (by omega)
          have kx := hc i hin
          rw [← HX.out] at kx
          have hmm : m = mg := by rw [HM.out, if_pos hin]
          clear hc hbl
          go_wp2
          go_meet
          case rel => exact ⟨by rw [hmm], rfl⟩
        · have hmm : m = N := by rw [HM.out, if_neg hin]
          go_wp2
          go_meet
          case rel => exact ⟨by rw [hmm], rfl⟩
      case rest =>
      obtain ⟨rfl, hwc⟩ := hcut
      have hwc' := hwc.symm
      clear hwc
      subst hwc'
      clear e1 e2 e3
      obtain ⟨A', hsl, hrd⟩ := slice_mid HR.out (show at_ ≤ am by rw [HAM.out]; omega) (show am ≤ n by rw [HAM.out]; have := HMN.out; have := HLT.out; omega)
      have hma : am - at_ = m := by rw [HAM.out]; omega
      rw [hma] at hsl hrd
      obtain ⟨cc, hcc⟩ : ∃ z, z = c - at_ := ⟨_, rfl⟩
      rw [← hcc] at hsl hrd
      have HRD := Lib.hid hrd
      have CA := Lib.hid (hoaccept A' m cc _ wr HC.out (by have h1 := HSL.out; have h2 := HMN.out; have h3 := HN.out; have h4 := HAT.out; omega) HST.out.2.1 HRD.out)
      have hsum := acc_sum (rules := Kn.rules) (size := Kn.size) ((zs.drop at_).take m) σ HST.out.1 (rdI_byt HRD.out) HC.out.ch.c.b.le.1
      have hob := acc_outb (rules := Kn.rules) (size := Kn.size) ((zs.drop at_).take m) σ HST.out.1 (rdI_byt HRD.out) (by rw [HST.out.2.2]; intro z hz; cases hz)
      have hfull := full_acc (rules := Kn.rules) (size := Kn.size) ((zs.drop at_).take m) σ ((zs.drop at_).drop m) HST.out.1 (rdI_byt HRD.out)
      have hz0 := acc_zero (rules := Kn.rules) (size := Kn.size) (σ := σ) (zs := (zs.drop at_).take m)
      have hmv := acc_moves (rules := Kn.rules) (size := Kn.size) (σ := σ) HST.out.2.2 (by rw [HSZ.out]; omega) (zs := (zs.drop at_).take m)
      rw [List.take_append_drop] at hfull
      obtain ⟨a, ha⟩ : ∃ a, a = accH Kn.rules Kn.size σ ((zs.drop at_).take m) := ⟨_, rfl⟩
      rw [← ha] at CA hsum hob hfull hz0 hmv
      obtain ⟨k, σ1, rq⟩ := a
      obtain ⟨i1, i2, i3, i4, i5, i6⟩ := hsum
      have hlm := HRD.out.len
      rw [hlm] at i3 hmv
      change k ≤ m at i3
      change rq.length ≤ k at i5
      change σ1.out.length ≤ Kn.size at i4
      rw [HSZ.out] at i4
      change k = 0 → σ1 = σ at hz0
      change 0 < m → k = 0 → σ.err ≠ 0 at hmv
      change σ.out ++ fullZ Kn.rules σ.z σ.err (zs.drop at_) = σ1.out ++ fullZ Kn.rules σ1.z σ1.err (((zs.drop at_).take m).drop k ++ (zs.drop at_).drop m) at hfull
      have hdk : ((zs.drop at_).take m).drop k ++ (zs.drop at_).drop m = zs.drop (at_ + k) := by
        rw [← List.drop_drop]
        have h1 : ((zs.drop at_).take m).length = m := hlm
        conv => rhs; rw [← List.take_append_drop m (zs.drop at_)]
        rw [List.drop_append_of_le_length (by omega)]
      rw [hdk, HST.out.2.2, List.nil_append] at hfull
      obtain ⟨ak, hak⟩ : ∃ z, z = at_ + k := ⟨_, rfl⟩
      rw [← hak] at hfull
      have hak2 : ak ≤ n := by have := HMN.out; have := HLT.out; omega
      have fk : IntKind.i64.wrap ((at_ : Int) + (k : Int)) = (ak : Int) := by rw [wrap_sum (by have := HN.out; omega), hak]
      obtain ⟨L, hL⟩ : ∃ L, L = σ1.out.length := ⟨_, rfl⟩
      have CD := Lib.hid (fun wx v' (h : C1 w wx Kn hb (hb + 1) σ1 (s ++ rq) v') => cdrain_yes 64 L wx h.ch.c (i2.trans HST.out.2.1) (by omega))
      have HDR := Lib.hid (show σ1.out.drop L = [] ∧ σ1.out.take L = σ1.out from ⟨List.drop_eq_nil_of_le (by omega), List.take_of_length_le (by omega)⟩)
      have HOB := Lib.hid (show byt σ1.out ∧ σ1.out.length = L ∧ L ≤ 64 from ⟨hob, hL.symm, by omega⟩)
      have hT := HTL.out
      have hATo := HAT.out
      have hcat : (9223372036854775807 < (strOfNums T).size + (strOfNums σ1.out).size) = False := by
        rw [str_size, str_size, eq_iff_iff, iff_false]
        have := HN.out
        omega
      have hcat2 := str_append T σ1.out
      have HT2 := Lib.hid (show (T ++ σ1.out).length ≤ 64 * (i + 1) by rw [List.length_append]; omega)
      have HF2 := Lib.hid (show (T ++ σ1.out) ++ fullZ Kn.rules σ1.z σ1.err (zs.drop ak) = FZ by rw [List.append_assoc, ← hfull]; exact HF.out)
      have HS2 := Lib.hid (show (s ++ rq).length ≤ ak by rw [List.length_append]; have := HSL.out; omega)
      have HST1 := Lib.hid (show StOK Kn.rules σ1 ∧ σ1.op = true from ⟨i1, i2.trans HST.out.2.1⟩)
      have HK1 := Lib.hid (show k ≤ m ∧ ak = at_ + k ∧ ak ≤ n from ⟨i3, hak, hak2⟩)
      have HZ0 := Lib.hid hz0
      have HMV := Lib.hid hmv
      clear hma hcc hrd ha i1 i2 i3 i4 i5 i6 hlm hdk hfull hak hak2 hL hob hz0 hmv hT hATo
      go_upto_region 13 with (first
        | (go_at_call 13; ((with_reducible refine CA.out.mono ?_); rintro e' w7 ⟨rfl, v7, h7⟩; have C7 := Lib.hid (show C1 w w7 Kn hb (hb + 1) σ1 (s ++ rq) v7 from h7); clear h7))
        | (go_at_call 14; ((with_reducible refine (CD.out _ _ C7.out).mono ?_); rintro e' w8 ⟨s8, rfl, k8, h8, f8, n8⟩; have C8 := Lib.hid (C7.out.cn h8 f8); have cv := conv_str (P := Try.prog) (src := 27) (dst := 9) Try.underlying27 Try.underlying5 Try.underlying9 (rd_blk (n := L) k8 (by rw [HDR.out.2]; exact HOB.out.2.1) (by have := HOB.out.2.2; unfold maxLen; omega) (fun z hz => u8_wf (HOB.out.1 z (List.mem_of_mem_take hz)))); rw [HDR.out.2] at cv; clear k8 h8 f8 n8)))
      clear cv hsl hcat hcat2 fk e4
      rw [HDR.out.1] at C8
      have hn2i := HN.out
      have hHAT := HAT.out
      obtain ⟨k1, k2, k3⟩ := HK1.out
      by_cases hk0 : k = 0
      · by_cases hin : i < n2
        · as_aux_lemma =>
            have b1 : ((k : Int) == 0) = true := by rw [hk0]; rfl
            have b2 : ((n2 : Int) ≤ (i : Int)) = False := by rw [eq_iff_iff, iff_false]; omega
            have b3 : decide ((n2 : Int) ≤ (i : Int)) = false := by rw [decide_eq_false_iff_not]; omega
            have fi : IntKind.i64.wrap ((i : Int) + 1) = ((i + 1 : Nat) : Int) := by rw [IntKind.wrap_i64]; omega
            have HI := Lib.hid (show ak ≤ n ∧ i + 1 ≤ n2 + ak by omega)
            have HME := Lib.hid (show (n2 - (i + 1)) + (n - ak) < (n2 - i) + (n - at_) by omega)
            clear hk0 hin k1 k2 k3 hn2i hHAT
            go_wp2
            go_roundg ((n2 - (i + 1)) + (n - ak))
            case measure => have := HK.out; have := HME.out; omega
            case rel => exact ⟨ak, i + 1, T ++ σ1.out, _, s ++ rq, v7, Lib.hid rfl, rfl, rfl, rfl, HI, C8, Lib.hid ⟨HST1.out.1, HST1.out.2, rfl⟩, HS2, HT2, HF2⟩
        · as_aux_lemma =>
            have hm0 : 0 < m := by rw [HM.out, if_neg hin, HNE.out]; have := HLT.out; omega
            have hse := HMV.out hm0 hk0
            have hs1 := HZ0.out hk0
            have HFE := Lib.hid (show T ++ σ1.out = FZ from by
              have h := HF2.out
              rw [hs1, full_err hse, List.append_nil] at h
              rw [hs1]; exact h)
            have b1 : ((k : Int) == 0) = true := by rw [hk0]; rfl
            have b4 : n2 ≤ i := by omega
            have b3 : decide ((n2 : Int) ≤ (i : Int)) = true := by rw [decide_eq_true_iff]; omega
            clear hk0 hin k1 k2 k3 hn2i hHAT hm0 hse hs1
            go_wp2
            go_ret
            exact ⟨by rw [← HFE.out]; rfl, C8.out.bl⟩
      · as_aux_lemma =>
          have b1 : ((k : Int) == 0) = false := by rw [beq_eq_false_iff_ne]; omega
          have fi : IntKind.i64.wrap ((i : Int) + 1) = ((i + 1 : Nat) : Int) := by rw [IntKind.wrap_i64]; omega
          have HI := Lib.hid (show ak ≤ n ∧ i + 1 ≤ n2 + ak by omega)
          have HME := Lib.hid (show (n2 - (i + 1)) + (n - ak) < (n2 - i) + (n - at_) by have := HLT.out; omega)
          clear hk0 k1 k2 k3 hn2i hHAT
          go_wp2
          go_roundg ((n2 - (i + 1)) + (n - ak))
          case measure => have := HK.out; have := HME.out; omega
          case rel => exact ⟨ak, i + 1, T ++ σ1.out, _, s ++ rq, v7, Lib.hid rfl, rfl, rfl, rfl, HI, C8, Lib.hid ⟨HST1.out.1, HST1.out.2, rfl⟩, HS2, HT2, HF2⟩
    · have hie : n ≤ at_ := by omega
      have HFE := Lib.hid (show T = FZ from by
        have h := HF.out
        rw [List.drop_eq_nil_of_le (by rw [HL.out]; exact hie)] at h
        rw [← h]
        show T = T ++ []
        rw [List.append_nil])
      have t1 : ¬ (at_ : Int) < (n : Int) := by omega
      clear hie hlt
      go_wp2
      go_ret
      exact ⟨by rw [← HFE.out]; rfl, HC.out.bl⟩
set_option maxRecDepth 100000 in
set_option maxHeartbeats 2000000 in
theorem cncuts_law (w : World) (ru : Int) (A : Option Addr) (n c : Nat) (zs : List Int) (A2 : Option Addr) (n2 c2 : Nat) (ss : List Int) (_hru : -9223372036854775808 ≤ ru ∧ ru ≤ 9223372036854775807) (hr : RdI w .u8 A n c zs) (hr2 : RdI w .i64 A2 n2 c2 ss) :
    Calls Try.prog 4 #[.int .i64 ru, .slice A n c, .slice A2 n2 c2] w fun e w' => e = .returned (.bool true) ∧ Below w.heap.size w w' := by
  have HR := Lib.hid hr
  have HR2 := Lib.hid hr2
  have hmx1 := hr.max
  have hcp1 := hr.cap
  have hmx2 := hr2.max
  have hcp2 := hr2.cap
  unfold maxLen at hmx1 hmx2
  obtain ⟨w1, hw1, k1, l1, s1⟩ := box_new w #[.int .i64 ru] 3
  obtain ⟨w2, hw2, k2, l2, s2⟩ := box_new w1 #[.slice A n c] 27
  obtain ⟨rb, hrb⟩ : ∃ x, x = w.heap.size := ⟨_, rfl⟩
  obtain ⟨bb, hbb⟩ : ∃ x, x = w1.heap.size := ⟨_, rfl⟩
  rw [← hrb] at k1
  rw [← hbb] at k2
  have HRB := Lib.hid hrb
  have HBB := Lib.hid hbb
  have HNE := Lib.hid (show rb ≠ bb by omega)
  have K2 := Lib.hid (show Blk w2 rb 3 #[.int .i64 ru] ∧ Blk w2 bb 27 #[.slice A n c] ∧ Below w.heap.size w w2 from ⟨k1.keep l2, k2, l1.trans (l2.mono l1.size)⟩)
  clear hr hr2 k1 l1 s1 k2 l2 s2 hrb hbb
  go_enter Try.func4, Try.ntmps4
  go_upto_region 1 with (fail)
  rw [← HRB.out, ← HBB.out]
  clear hw1 hw2
  go_upto_region 3 with (go_at_call 10; ((refine (cnfit_any _).mono ?_); rintro e w3 ⟨rfl, b3⟩; have K3 := Lib.hid (show Blk w3 rb 3 #[.int .i64 ru] ∧ Blk w3 bb 27 #[.slice A n c] ∧ Below w.heap.size w w3 from ⟨K2.out.1.keep b3, K2.out.2.1.keep b3, G.below_on K2.out.2.2 b3⟩); clear b3))
  have kb := K3.out.2.1.rd
  by_cases hn : 1000 < n
  · have t1 : decide ((1000 : Int) < (n : Int)) = true := by rw [decide_eq_true_iff]; omega
    clear hn
    go_wp2
    go_ret
    exact ⟨rfl, K3.out.2.2⟩
  have t1 : decide ((1000 : Int) < (n : Int)) = false := by rw [decide_eq_false_iff_not]; omega
  by_cases hn2 : 100 < n2
  · have t2 : decide ((100 : Int) < (n2 : Int)) = true := by rw [decide_eq_true_iff]; omega
    clear hn hn2
    go_wp2
    go_ret
    exact ⟨rfl, K3.out.2.2⟩
  have t2 : decide ((100 : Int) < (n2 : Int)) = false := by rw [decide_eq_false_iff_not]; omega
  obtain ⟨y, hy⟩ : ∃ y, y = ru % 8 := ⟨_, rfl⟩
  have m1 : bits .and .i64 ru 7 = y := by rw [hy]; exact i64_mask3 ru
  have e1 : IntKind.i64.wrap (y + 1) = y + 1 := by rw [IntKind.wrap_i64]; omega
  obtain ⟨R, hR⟩ : ∃ R, R = y + 1 := ⟨_, rfl⟩
  rw [← hR] at e1
  have e1 : IntKind.i64.wrap (y + 1) = R := by rw [hR] at e1 ⊢; exact e1
  have kr := K3.out.1.rd
  have kw := K3.out.1.wr
  have HN := Lib.hid (show n ≤ 1000 ∧ n2 ≤ 100 by omega)
  obtain ⟨w4, e4, r4, f4, s4⟩ := G.box_set K3.out.1 0 (.int .i64 R) #[.int .i64 R] rfl
  have K4 := Lib.hid (show Blk w4 rb 3 #[.int .i64 R] ∧ Blk w4 bb 27 #[.slice A n c] ∧ Below w.heap.size w w4 from ⟨r4, K3.out.2.1.fr f4 (fun e => HNE.out e.symm), K3.out.2.2.trans (f4.below K3.out.2.2.size (fun k hk => by rw [hk, HRB.out]; exact Nat.le_refl _))⟩)
  have C1' := Lib.hid (fun wx (hb : Below w4.heap.size w4 wx) => cutrun_any wx R rb bb _ _ A n c zs none 0 0 [] (K4.out.1.keep hb) (K4.out.2.1.keep hb) (HR.out.below (G.below_on K4.out.2.2 hb)) (rdI_noneS (Nat.zero_le _)) HN.out.1 (Nat.zero_le _))
  have C2' := Lib.hid (fun wx (hb : Below w4.heap.size w4 wx) => cutrun_any wx R rb bb _ _ A n c zs A2 n2 c2 ss (K4.out.1.keep hb) (K4.out.2.1.keep hb) (HR.out.below (G.below_on K4.out.2.2 hb)) (HR2.out.below (G.below_on K4.out.2.2 hb)) HN.out.1 HN.out.2)
  obtain ⟨X, hX⟩ : ∃ X, X = strOfNums (fullZ R [] 0 zs) := ⟨_, rfl⟩
  rw [← hX] at C1' C2'
  have b1 : (X.toList == X.toList) = true := by simp
  clear hn hn2 hy hR r4 f4 s4 hX
  go_wp2_with (go_at_call 21; first
    | ((with_reducible refine (C1'.out _ (Below.refl _ _)).mono ?_); rintro e' w7 ⟨rfl, b7⟩; have B7 := Lib.hid b7; clear b7)
    | ((with_reducible refine (C2'.out _ B7.out).mono ?_); rintro e' w8 ⟨rfl, b8⟩; have B8 := Lib.hid (G.below_on B7.out b8); clear b8))
  go_ret
  exact ⟨rfl, G.below_on K4.out.2.2 B8.out⟩
end Go.Proofs.Ytaghookljjpllaa
