/- The laws of layer 14 (decode), walked: the document's stream. -/
import Derived.Test.YtkcoofpoipgiaaaDcE
namespace Go.Proofs.Ytkcoofpoipgiaaa
set_option linter.unusedSimpArgs false
set_option linter.unusedVariables false
open Go.ChangeShapes Go.WideShapes Go.ChangeAt Go.RowKit
theorem part_clean {b : List Int} {rules : Int} {i m : Nat} (hc : cleanZ b rules i) (hm : m ≤ i) (hb : m ≤ b.length) : parseZ (b.take m) rules = (req0, 0, 0) := by
  refine parse_all ?_
  rw [List.length_take, Nat.min_eq_left hb]
  exact clean_same (fun t ht => (getD_take ht).symm) (fun t ht => hc t (by omega))
theorem part_fault {b : List Int} {rules : Int} {i : Nat} (hi : i < b.length) (hc : cleanZ b rules i) (hf : fltZ b rules i ≠ 0) : parseZ (b.take (i + 1)) rules = (req0, 0, fltZ b rules i) := by
  have e : fltZ (b.take (i + 1)) rules i = fltZ b rules i := flt_same (getD_take (by omega)) (fun h => getD_take (by omega))
  rw [parse_fault i (by rw [List.length_take]; omega) (clean_same (fun t ht => (getD_take (by omega)).symm) hc) (by rw [e]; exact hf), e]
theorem rparse_x (A : Option Addr) (n c : Nat) (z : List Int) (rules : Int) (q : Req) (m e : Int) (w : World) (hr : RdI w .u8 A n c z) (h : parseZ z rules = (q, m, e)) :
    Calls Try.prog 16 #[.slice A n c, .int .i64 rules] w fun e' w' => e' = .returned (.tuple #[reqV q.op q.rule q.cost (strOfNums q.key) q.k, .int .i64 m, .int .i64 e]) ∧ Below w.heap.size w w' := by
  have := rparse_any A n c z rules w hr
  rw [parsed_mk h] at this
  exact this
/-- the middle of a slice. -/
theorem rdI_mid {w : World} {k : IntKind} {d off n c : Nat} {zs : List Int} (h : RdI w k (some ⟨d, off, none⟩) n c zs) {a m : Nat} (hm : a + m ≤ n) : RdI w k (some ⟨d, off + a, none⟩) m (c - a) ((zs.drop a).take m) := by
  have hl := h.len
  have hc := h.cap
  have hx := h.max
  refine ⟨by rw [List.length_take, List.length_drop]; omega, by omega, by omega, fun h0 => ?_, fun z hz => h.wf z (List.mem_of_mem_drop (List.mem_of_mem_take hz))⟩
  obtain ⟨b', off', e, hlt, hcs⟩ := h.at_ (by omega)
  injection e with e; injection e with e1 e2
  subst e1 e2
  exact ⟨d, off + a, rfl, hlt, fun i hi => by rw [Nat.add_assoc, hcs (a + i) (by omega), getD_take hi, getD_drop]⟩
theorem rdI_zero {w : World} {k : IntKind} {A : Option Addr} {c : Nat} (hc : c ≤ maxLen) : RdI w k A 0 c [] := ⟨rfl, Nat.zero_le _, hc, fun h => absurd h (by omega), (fun z hz => by cases hz)⟩
set_option maxHeartbeats 4000000 in
set_option maxRecDepth 100000 in
theorem lall_any (w : World) (A : Option Addr) (n c : Nat) (zs : List Int) (rules : Int) (hr : RdI w .u8 A n c zs) (hn : n ≤ 2000) :
    Calls Try.prog 11 #[.slice A n c, .int .i64 rules] w fun e w' => ∃ v, e = .returned (.tuple #[v, .int .i64 ((allZ rules [] zs).2.1 : Int), .int .i64 (allZ rules [] zs).2.2]) ∧ w'.ownsRow w.heap.size 32 5 v (allZ rules [] zs).1.length (rqs (allZ rules [] zs).1) ∧ Below w.heap.size w w' := by
  have hmx := hr.max
  have hcp := hr.cap
  unfold maxLen at hmx
  have hni : (n : Int) ≤ 2000 := by omega
  have HR := Lib.hid hr
  have HL := Lib.hid hr.len
  obtain ⟨R, hR⟩ : ∃ R, R = allZ rules [] zs := ⟨_, rfl⟩
  rw [← hR]
  have HRR := Lib.hid hR
  clear hr hR
  go_enter Try.func11, Try.ntmps11
  go_wp2
  go_loopg [7, 8] (n + 1) (fun k0 xl sj wr => ∃ (j : Nat) (l : List Req), j ≤ n ∧ k0 = n + 1 - j ∧ sj = .int .i64 (j : Int) ∧ wr.ownsRow w.heap.size 32 5 xl l.length (rqs l) ∧ Below w.heap.size w wr ∧ l.length ≤ j ∧ R = (l ++ (allZ rules [] (zs.drop j)).1, j + (allZ rules [] (zs.drop j)).2.1, (allZ rules [] (zs.drop j)).2.2))
  case atStart => exact ⟨0, [], by omega, by omega, rfl, World.ownsRow_nil _ _ _ _, Below.refl _ _, by simp, by rw [HRR.out]; simp⟩
  case round =>
    obtain ⟨j, l, hj, hkk, rfl, ho, hb, hll, hRe⟩ := hrel
    have HK := Lib.hid hkk
    have HO := Lib.hid ho
    have HB := Lib.hid hb
    have HE := Lib.hid hRe
    have HLL := Lib.hid hll
    clear hkk ho hRe hll
    obtain ⟨ys, hys⟩ : ∃ ys, ys = zs.drop j := ⟨_, rfl⟩
    rw [← hys] at HE
    have HYS := Lib.hid hys
    have hyl : ys.length = n - j := by rw [hys, List.length_drop, HL.out]
    have HYL := Lib.hid hyl
    by_cases hjn : j < n
    · obtain ⟨d, off, rfl, hlt, hc⟩ := HR.out.at_ (by omega)
      have ways := all_ways (rules := rules) (b := ys)
      have t1 : (0 : Int) ≤ (j : Int) := by omega
      have t2 : (j : Int) ≤ (n : Int) := by omega
      have t3 : (n : Int) ≤ (c : Int) := by omega
      have t4 : ¬ c = j := by omega
      have t5 : j ≤ n := by omega
      have HRE := Lib.hid (fun W (hW : Below w.heap.size w W) => show RdI W .u8 (some ⟨d, off + j, none⟩) (n - j) (c - j) ys from by rw [HYS.out]; exact rdI_end (HR.out.below hW) hj)
      have HRM := Lib.hid (fun W (hW : Below w.heap.size w W) (k : Nat) (hk : j + k ≤ n) => show RdI W .u8 (some ⟨d, off + j, none⟩) k (c - j) (ys.take k) from by rw [HYS.out]; exact rdI_mid (HR.out.below hW) hk)
      clear hc hlt hys
      rcases ways with ⟨_, hp, ha⟩ | ⟨i, hi, hcl, hf, hp, ha⟩ | ⟨i, hi, _, _, _, hp, ha⟩
      · have CP := Lib.hid (fun W hW => rparse_x _ _ _ ys rules _ _ _ W (HRE.out W hW) hp)
        have HA := Lib.hid ha
        clear hp ha hyl
        go_wp2_with (go_at_call 16; ((with_reducible refine (CP.out _ hb).mono ?_); rintro e' w3 ⟨rfl, b3⟩; have B3 := Lib.hid (G.below_on HB.out b3); have O3 := Lib.hid (G.own_below HO.out b3); clear b3))
        go_ret3
        have hRR := HE.out
        rw [HA.out] at hRR
        rw [hRR]
        refine ⟨u7, ?_, ?_, B3.out.alloc B3.out.size _⟩
        · have := HYL.out
          simp only []
          rw [show ((j + ys.length : Nat) : Int) = (n : Int) by omega]
          rfl
        · simp only [List.append_nil]
          exact O3.out.alloc _
      · obtain ⟨f, hf0⟩ : ∃ f, f = fltZ ys rules i := ⟨_, rfl⟩
        have hpf := part_fault hi hcl hf
        rw [← hf0] at hp ha hf hpf
        have CP := Lib.hid (fun W hW => rparse_x _ _ _ ys rules _ _ _ W (HRE.out W hW) hp)
        have HA := Lib.hid ha
        have HI := Lib.hid hi
        have HF := Lib.hid hf
        have HPF := Lib.hid hpf
        have HPC := Lib.hid (fun (m : Nat) (hm : m ≤ i) => part_clean hcl hm (show m ≤ ys.length by omega))
        have g0 : (f != 0) = true := by simpa using hf
        clear hp ha hyl hi hf hf0 hpf hcl
        go_upto_region 4 with (go_at_call 16; ((with_reducible refine (CP.out _ hb).mono ?_); rintro e' w3 ⟨rfl, b3⟩; have B3 := Lib.hid (G.below_on HB.out b3); have O3 := Lib.hid (G.own_below HO.out b3); clear b3))
        obtain ⟨w4, hw4, hq4, hbl, hsz⟩ := box_new w3 (reqC req0.op req0.rule req0.cost (strOfNums req0.key) req0.k) 32
        change Code.wp _ _ _ _ (w3.alloc (.cells (reqC req0.op req0.rule req0.cost (strOfNums req0.key) req0.k) 32))
        rw [hw4]
        have O4 := Lib.hid (G.own_below O3.out hbl)
        have B4 := Lib.hid (G.below_on B3.out hbl)
        clear hw4 hbl hsz hq4 hb t4
        go_wp2
        go_loopg [12] (i + 1) (fun k1 s12 wq => ∃ t : Nat, t ≤ i ∧ k1 = i + 1 - t ∧ s12 = .int .i64 ((j + 1 + t : Nat) : Int) ∧ Below w4.heap.size w4 wq)
        case atStart => exact ⟨0, by omega, by omega, congrArg (Value.int .i64) (by omega), Below.refl _ _⟩
        case round =>
          obtain ⟨t, ht, hk1, rfl, hb2⟩ := hrel
          have HK1 := Lib.hid hk1
          have HT := Lib.hid ht
          have HBQ := Lib.hid hb2
          have BQ := Lib.hid (G.below_on B4.out hb2)
          have OQ := Lib.hid (G.own_below O4.out hb2)
          obtain ⟨K, hKe⟩ : ∃ K, K = j + 1 + t := ⟨_, rfl⟩
          rw [← hKe]
          have HKE := Lib.hid hKe
          have hi := HI.out
          have hyl := HYL.out
          have s1 : (j : Int) ≤ (K : Int) := by omega
          have s2 : (K : Int) ≤ (c : Int) := by omega
          have s3 : (0 : Int) ≤ (K : Int) := by omega
          have s4 : ¬ c = j := by omega
          have s5 : j ≤ K := by omega
          have s6 : (K : Int) ≤ 2000 := by omega
          have hkj : j + (K - j) ≤ n := by omega
          by_cases hti : t < i
          · have CQ := Lib.hid (fun W hW => rparse_x _ _ _ (ys.take (K - j)) rules _ _ _ W (HRM.out W hW (K - j) hkj) (HPC.out (K - j) (by omega)))
            have hkn : ((K : Int) == (n : Int)) = false := by simp; omega
            have hkn2 : ¬ K = n := by omega
            have HTI := Lib.hid hti
            clear hk1 ht hb2 hKe hi hyl hkj hti
            go_wp2_with (go_at_call 16; ((with_reducible refine (CQ.out _ BQ.out).mono ?_); rintro e' w5 ⟨rfl, b5⟩; have B5 := Lib.hid (G.below_on HBQ.out b5); clear b5))
            go_roundg (i + 1 - (t + 1))
            case measure => have := HK1.out; have := HTI.out; omega
            case rel => exact ⟨t + 1, by have := HTI.out; omega, by omega, congrArg (Value.int .i64) (by have := HKE.out; omega), B5.out.alloc B5.out.size _⟩
          · have hte : K - j = i + 1 := by omega
            have hKj : K = j + (i + 1) := by omega
            have hpf2 := HPF.out
            rw [← hte] at hpf2
            have CQ := Lib.hid (fun W hW => rparse_x _ _ _ (ys.take (K - j)) rules _ _ _ W (HRM.out W hW (K - j) hkj) hpf2)
            have HKJ := Lib.hid hKj
            clear hk1 ht hb2 hKe hi hyl hkj hti hte hKj hpf2
            have hund : undef = Value.tuple #[] := rfl
            go_wp2_with (go_at_call 16; ((with_reducible refine (CQ.out _ BQ.out).mono ?_); rintro e' w5 ⟨rfl, b5⟩; have B5 := Lib.hid (G.below_on BQ.out b5); have O5 := Lib.hid (G.own_below OQ.out b5); clear b5))
            go_ret3
            have hRR := HE.out
            rw [HA.out] at hRR
            rw [hRR, HKJ.out]
            refine ⟨u7, rfl, ?_, B5.out.alloc B5.out.size _⟩
            simp only [List.append_nil]
            exact O5.out.alloc _
      · obtain ⟨q, hq⟩ : ∃ q, q = reqZ ys := ⟨_, rfl⟩
        rw [← hq] at hp ha
        have CP := Lib.hid (fun W hW => rparse_x _ _ _ ys rules _ _ _ W (HRE.out W hW) hp)
        have HA := Lib.hid ha
        have HI := Lib.hid hi
        have g2 : ((i : Int) + 1 == 0) = false := by simp; omega
        have hib : (i : Int) + 1 ≤ 2000 := by omega
        have hib0 : (0 : Int) ≤ (i : Int) + 1 := by omega
        clear hp ha hyl hq hi
        go_upto_region 4 with (go_at_call 16; ((with_reducible refine (CP.out _ hb).mono ?_); rintro e' w3 ⟨rfl, b3⟩; have B3 := Lib.hid (G.below_on HB.out b3); have O3 := Lib.hid (G.own_below HO.out b3); clear b3))
        obtain ⟨w4, hw4, hq4, hbl, hsz⟩ := box_new w3 (reqC q.op q.rule q.cost (strOfNums q.key) q.k) 32
        change Code.wp _ _ _ _ (w3.alloc (.cells (reqC q.op q.rule q.cost (strOfNums q.key) q.k) 32))
        rw [hw4]
        generalize hb4 : w3.heap.size = b4 at hq4 ⊢
        have O4 := Lib.hid (G.own_below O3.out hbl)
        have B4 := Lib.hid (G.below_on B3.out hbl)
        have hs4 : w.heap.size ≤ w4.heap.size := B4.out.size
        have k4 := hq4.rd
        obtain ⟨iR, hI, hI0, hI1, hI2⟩ := info_parts infoReq
        have hlb : l.length ≤ 2000 := by have := HLL.out; omega
        clear hw4 hbl hsz hq4 hb4 hb
        go_wp2_with (at_builtin; refine G.wpList_push (by rfl) _ _ (by rfl) (by rfl) (by rfl) Try.underlying24 hI hI0 hI1 hI2 (by rfl) (by omega) O4.out hs4 (rqC q) (by rfl) (by intro u hu; simp [rqC] at hu; rcases hu with rfl | rfl | rfl | rfl | rfl <;> rfl) (by omega) (by unfold maxLen; omega) ?_; intro g1 c1 w5 ho5 hf5 hn5; have HO5 := Lib.hid ho5; have HF5 := Lib.hid hf5; clear ho5 hf5 hn5)
        go_roundg (n + 1 - (j + (i + 1)))
        case measure => have := HK.out; omega
        case rel =>
          have hob := G.own_base O4.out
          have hyl := HYL.out
          have hi := HI.out
          refine ⟨j + (i + 1), l ++ [q], by omega, by omega, congrArg (Value.int .i64) (by omega), by rw [rqs_app, List.length_append]; exact HO5.out, B4.out.trans (HF5.out.below B4.out.size (fun k hk => hob k hk)), by have := HLL.out; simp; omega, ?_⟩
          rw [HE.out, HA.out, HYS.out, List.drop_drop]
          simp
          omega
    · have hje : j = n := by omega
      subst hje
      have hy0 : ys = [] := List.length_eq_zero_iff.1 (by omega)
      subst hy0
      have hRR := HE.out
      simp only [allZ, List.append_nil, Nat.add_zero] at hRR
      have HRR2 := Lib.hid hRR
      have t1 : (0 : Int) ≤ (j : Int) := by omega
      have t3 : (j : Int) ≤ (c : Int) := by omega
      have CP := Lib.hid (fun (A' : Option Addr) (c' : Nat) (hc' : c' ≤ maxLen) W => rparse_x A' 0 c' [] rules _ _ _ W (rdI_zero hc') (show parseZ [] rules = (req0, 0, 0) from rfl))
      have e0 : j - j = 0 := by omega
      clear hRR hyl hys hb HRR
      by_cases hcj : c = j
      · subst hcj
        go_wp2_with (go_at_call 16; ((with_reducible refine (CP.out _ _ (by unfold maxLen; omega) _).mono ?_); rintro e' w3 ⟨rfl, b3⟩; have B3 := Lib.hid (G.below_on HB.out b3); have O3 := Lib.hid (G.own_below HO.out b3); clear b3))
        go_ret3
        rw [HRR2.out]
        exact ⟨u7, rfl, O3.out.alloc _, B3.out.alloc B3.out.size _⟩
      · go_wp2_with (go_at_call 16; ((with_reducible refine (CP.out _ _ (by unfold maxLen; omega) _).mono ?_); rintro e' w3 ⟨rfl, b3⟩; have B3 := Lib.hid (G.below_on HB.out b3); have O3 := Lib.hid (G.own_below HO.out b3); clear b3))
        go_ret3
        rw [HRR2.out]
        exact ⟨u7, rfl, O3.out.alloc _, B3.out.alloc B3.out.size _⟩
end Go.Proofs.Ytkcoofpoipgiaaa
