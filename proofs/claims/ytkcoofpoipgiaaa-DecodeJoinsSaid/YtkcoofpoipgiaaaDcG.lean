/- The laws of layer 14 (decode), walked: cuts. -/
import Derived.Test.YtkcoofpoipgiaaaDcE
import Derived.BigQuiet
namespace Go.Proofs.Ytkcoofpoipgiaaa
set_option linter.unusedSimpArgs false
set_option linter.unusedVariables false
open Go.ChangeShapes Go.WideShapes Go.ChangeAt Go.RowKit
/-- what a beginning tells of the whole. -/
theorem all_cut {rules : Int} {b : List Int} : ∀ (a z : List Int), ((allZ rules z a).2.2 ≠ 0 ∧ allZ rules z (a ++ b) = allZ rules z a) ∨
    ((allZ rules z a).2.2 = 0 ∧ (allZ rules z a).2.1 = a.length ∧ ∃ z', allZ rules z (a ++ b) = ((allZ rules z a).1 ++ (allZ rules z' b).1, (allZ rules z' b).2.1 + a.length, (allZ rules z' b).2.2))
  | [], z => Or.inr ⟨rfl, rfl, z, by simp [allZ]⟩
  | c :: r, z => by
    by_cases he : (parseZ (z ++ [c]) rules).2.2 = 0
    · rw [List.cons_append, all_next he, all_next he]
      rcases all_cut r (nextZ rules z c) with ⟨h1, h2⟩ | ⟨h1, h2, z', h3⟩
      · exact Or.inl ⟨h1, by rw [h2]⟩
      · refine Or.inr ⟨h1, by simp [h2], z', ?_⟩
        rw [h3]
        simp only [List.append_assoc, List.length_cons, Nat.add_assoc]
    · rw [List.cons_append, all_fault he, all_fault he]
      exact Or.inl ⟨he, rfl⟩
/-- a slice of requests as a list. -/
structure RdQ (w : World) (A : Option Addr) (n c : Nat) (l : List Req) : Prop where
  len : l.length = n
  cap : n ≤ c
  max : c ≤ maxLen
  at_ : 0 < n → ∃ b off, A = some ⟨b, off, none⟩ ∧ b < w.heap.size ∧ ∀ i (h : i < l.length), w.cell? ⟨b, off + i * 5, none⟩ = some (.int .i64 l[i].op) ∧ w.cell? ⟨b, off + i * 5 + 1, none⟩ = some (.int .i64 l[i].rule) ∧ w.cell? ⟨b, off + i * 5 + 2, none⟩ = some (.int .u32 l[i].cost) ∧ w.cell? ⟨b, off + i * 5 + 3, none⟩ = some (.string (strOfNums l[i].key)) ∧ w.cell? ⟨b, off + i * 5 + 4, none⟩ = some (.int .i64 l[i].k)
theorem RdQ.below {w w' : World} {A : Option Addr} {n c : Nat} {l : List Req} (h : RdQ w A n c l) (hb : Below w.heap.size w w') : RdQ w' A n c l :=
  ⟨h.len, h.cap, h.max, fun hn => by
    obtain ⟨b, off, e, hlt, hc⟩ := h.at_ hn
    exact ⟨b, off, e, Nat.lt_of_lt_of_le hlt hb.size, fun i hi => by rw [hb.cell (p := ⟨b, off + i * 5, none⟩) hlt, hb.cell (p := ⟨b, off + i * 5 + 1, none⟩) hlt, hb.cell (p := ⟨b, off + i * 5 + 2, none⟩) hlt, hb.cell (p := ⟨b, off + i * 5 + 3, none⟩) hlt, hb.cell (p := ⟨b, off + i * 5 + 4, none⟩) hlt]; exact hc i hi⟩⟩
theorem rdQ_own {w : World} {base n : Nat} {v : Value} {l : List Req} (h : w.ownsRow base 32 5 v n (rqs l)) (hl : l.length = n) : ∃ A c, v = .slice A n c ∧ RdQ w A n c l := by
  obtain ⟨A, c, rfl, h1, h2, h3⟩ := G.own_at h
  refine ⟨A, c, rfl, hl, h1, h2, fun hn => ?_⟩
  obtain ⟨g, rfl, _, _, hlt, hc, _⟩ := h3 hn
  refine ⟨g, 0, rfl, hlt, fun i hi => ?_⟩
  have key : ∀ t, t < 5 → w.cell? ⟨g, 0 + i * 5 + t, none⟩ = (rqC l[i])[t]? := fun t ht => by
    rw [Nat.zero_add, hc (i * 5 + t) (by omega), rqs_at l i hi t ht]
  exact ⟨key 0 (by omega), key 1 (by omega), key 2 (by omega), key 3 (by omega), key 4 (by omega)⟩
theorem rdI_pre {w : World} {k : IntKind} {A : Option Addr} {n c m : Nat} {zs : List Int} (h : RdI w k A n c zs) (hm : m ≤ n) : RdI w k A m c (zs.take m) := by
  have hl := h.len
  have hc := h.cap
  refine ⟨by rw [List.length_take]; omega, by omega, h.max, fun h0 => ?_, fun z hz => h.wf z (List.mem_of_mem_take hz)⟩
  obtain ⟨b, off, e, hlt, hcs⟩ := h.at_ (by omega)
  refine ⟨b, off, e, hlt, fun i hi => ?_⟩
  rw [hcs i (by omega)]
  simp [List.getD, List.getElem?_take, hi]
theorem all_some (rules : Int) : ∀ (a z : List Int), (allZ rules z a).1.length ≤ a.length
  | [], z => by simp [allZ]
  | c :: r, z => by
    by_cases he : (parseZ (z ++ [c]) rules).2.2 = 0
    · rw [all_next he]
      have := all_some rules r (nextZ rules z c)
      simp only [List.length_append, List.length_cons]
      split
      · simp; omega
      · simp; omega
    · rw [all_fault he]; simp
set_option maxHeartbeats 4000000 in
set_option maxRecDepth 100000 in
theorem cuts_law (w : World) (A : Option Addr) (n c : Nat) (zs : List Int) (cut : Int) (hr : RdI w .u8 A n c zs) (hcut : -9223372036854775808 ≤ cut ∧ cut ≤ 9223372036854775807) :
    Calls Try.prog 7 #[.slice A n c, .int .i64 cut] w fun e w' => e = .returned (.bool true) ∧ Below w.heap.size w w' := by
  have hmx := hr.max
  have hcp := hr.cap
  have hlen := hr.len
  unfold maxLen at hmx
  have HR := Lib.hid hr
  clear hr
  by_cases hn : (600 : Int) < (n : Int)
  · have t1 : decide ((600 : Int) < (n : Int)) = true := by rw [decide_eq_true_eq]; exact hn
    go_enter Try.func7, Try.ntmps7
    go_wp2_with (go_at_call 9; refine (fit_any _).mono ?_; rintro e w1 ⟨rfl, b1⟩; have B1 := Lib.hid b1; clear b1)
    go_ret
    exact ⟨rfl, B1.out⟩
  have t1 : decide ((600 : Int) < (n : Int)) = false := by rw [decide_eq_false_iff_not]; exact hn
  obtain ⟨N, hN⟩ : ∃ N : Int, N = (n : Int) + 1 := ⟨_, rfl⟩
  obtain ⟨rm, hrm⟩ : ∃ rm, rm = cut.tmod N := ⟨_, rfl⟩
  have hrb : -N < rm ∧ rm < N := by
    rw [hrm]
    have h1 := Int.tmod_lt_of_pos cut (show (0 : Int) < N by omega)
    have h2 := Int.lt_tmod_of_pos cut (show (0 : Int) < N by omega)
    omega
  obtain ⟨a, ha⟩ : ∃ a : Nat, (rm + (n : Int) + 1) % N = (a : Int) := ⟨((rm + (n : Int) + 1) % N).toNat, by have := Int.emod_nonneg (rm + (n : Int) + 1) (show N ≠ 0 by omega); omega⟩
  have han : a ≤ n := by have := Int.emod_lt_of_pos (rm + (n : Int) + 1) (show (0 : Int) < N by omega); omega
  have er2 : (rm + (n : Int) + 1).tmod N = (a : Int) := by rw [Int.tmod_eq_emod_of_nonneg (by omega)]; exact ha
  have hN2 := hN.symm
  have er1 : cut.tmod ((n : Int) + 1) = rm := by rw [hN2, hrm]
  rw [← hN2] at er2 ha
  have er3 : (rm + (n : Int) + 1).tmod ((n : Int) + 1) = (a : Int) := er2
  have er4 : (rm + (n : Int) + 1) % ((n : Int) + 1) = (a : Int) := ha
  have b1 : -601 ≤ rm ∧ rm ≤ 601 := by omega
  have b1a := b1.1
  have b1b := b1.2
  have b2 : (n : Int) ≤ 600 := by omega
  have ens : ¬ (n : Int) + 1 = 0 := by omega
  have g1 : (a : Int) ≤ (n : Int) := by omega
  have g2 : (a : Int) ≤ (c : Int) := by omega
  have HAN := Lib.hid han
  have HL := Lib.hid hlen
  obtain ⟨L, hL⟩ : ∃ L, L = allZ 4 [] zs := ⟨_, rfl⟩
  obtain ⟨M, hM⟩ : ∃ M, M = allZ 4 [] (zs.take a) := ⟨_, rfl⟩
  have CA := Lib.hid (fun W (hW : RdI W .u8 A n c zs) => all_any W A n c zs 4 hW (by omega))
  have CB := Lib.hid (fun W (hW : RdI W .u8 A n c zs) => all_any W A a c (zs.take a) 4 (rdI_pre hW han) (by omega))
  rw [← hL] at CA
  rw [← hM] at CB
  have HM1 := Lib.hid (show M.1.length ≤ 600 from by have := all_some 4 (zs.take a) []; rw [← hM, List.length_take] at this; omega)
  have HL1 := Lib.hid (show L.1.length ≤ 600 from by have := all_some 4 zs []; rw [← hL] at this; omega)
  have key : (M.2.2 ≠ 0 ∧ L = M) ∨ (M.2.2 = 0 ∧ M.2.1 = a ∧ ∃ r, L.1 = M.1 ++ r) := by
    have h := all_cut (rules := 4) (b := zs.drop a) (zs.take a) []
    rw [List.take_append_drop, ← hL, ← hM] at h
    rcases h with h | ⟨h1, h2, z', h3⟩
    · exact Or.inl h
    · exact Or.inr ⟨h1, by rw [h2, List.length_take]; omega, _, by rw [h3]⟩
  obtain ⟨l, k, e⟩ := L
  obtain ⟨l2, k2, e2⟩ := M
  have hpre : ∃ r, l = l2 ++ r := by
    rcases key with ⟨_, h⟩ | ⟨_, _, h⟩
    · injection h with h1 h2; exact ⟨[], by rw [h1]; simp⟩
    · exact h
  obtain ⟨r, hlr⟩ := hpre
  have HP := Lib.hid hlr
  have hll : l2.length ≤ l.length := by rw [hlr]; simp
  obtain ⟨nl, hnl⟩ : ∃ x, x = l.length := ⟨_, rfl⟩
  obtain ⟨nm, hnm⟩ : ∃ x, x = l2.length := ⟨_, rfl⟩
  have HNL := Lib.hid hnl.symm
  have HNM := Lib.hid hnm.symm
  simp only at CA CB HM1 HL1 key
  rw [← hnl, ← hnm] at hll
  rw [← hnl] at CA HL1
  rw [← hnm] at CB HM1
  have hv1 : (nm : Int) ≤ (nl : Int) := by omega
  have KEY := Lib.hid key
  have hb1 : (nl : Int) ≤ 600 := by have := HL1.out; omega
  clear hn hN hN2 hrm hrb ha hL hM hlr hnl hnm b1 er2 hlen hll han key
  have t2 : decide ((nl : Int) < (nm : Int)) = false := by rw [decide_eq_false_iff_not]; omega
  go_enter Try.func7, Try.ntmps7
  go_upto_region 8 with (first
    | (go_at_call 9; refine (fit_any _).mono ?_; rintro e w1 ⟨rfl, b1⟩; have B1 := Lib.hid b1; clear b1)
    | (go_at_call 10; first
      | ((with_reducible refine (CA.out _ (HR.out.below B1.out)).mono ?_); rintro e' w2 ⟨v2, rfl, o2, b2⟩; have HQ := Lib.hid (rdQ_own o2 HNL.out); have B2 := Lib.hid (G.below_on B1.out b2); clear b2 o2)
      | ((with_reducible refine (CB.out _ (HR.out.below B2.out)).mono ?_); rintro e' w3 ⟨v3, rfl, o3, b3⟩; obtain ⟨A2, c2, hv2, HQ2⟩ := HQ.out; have HQ3 := Lib.hid (HQ2.below b3); obtain ⟨A3, c3, hv3, HQ4⟩ := rdQ_own o3 HNM.out; have HQ5 := Lib.hid HQ4; have B3 := Lib.hid (G.below_on B2.out b3); clear b3 o3)))
  subst hv2 hv3
  have k1 : nl ≤ c2 := HQ3.out.cap
  have k2' : (c2 : Int) ≤ 9223372036854775807 := by have := HQ3.out.max; unfold maxLen at this; omega
  have k3 : nm ≤ c3 := HQ5.out.cap
  have k4 : (c3 : Int) ≤ 9223372036854775807 := by have := HQ5.out.max; unfold maxLen at this; omega
  have hund : undef = Value.tuple #[] := rfl
  rcases KEY.out with ⟨he, hx⟩ | ⟨he, ha, hr⟩
  · injection hx with x1 x2
    injection x2 with x2 x3
    have HE1 := Lib.hid x1
    subst x2 x3
    have g0 : (e != 0) = true := by simpa using he
    have g3 : (e == 0) = false := by simpa using he
    clear he x1
    go_wp2
    go_loopg [74] nm (fun k0 sj wr => ∃ j : Nat, j ≤ nm ∧ k0 = nm - j ∧ sj = .int .i64 (j : Int) ∧ Below w3.heap.size w3 wr)
    case atStart => exact ⟨0, by omega, by omega, rfl, Below.refl _ _⟩
    case round =>
      obtain ⟨j, hj, hkk, rfl, hb⟩ := hrel
      have HK := Lib.hid hkk
      have HB := Lib.hid hb
      clear hkk
      by_cases hjn : j < nm
      · obtain ⟨g, off, rfl, hlt, hc⟩ := (HQ5.out.below hb).at_ (by omega)
        obtain ⟨g', off', rfl, hlt', hc'⟩ := (HQ3.out.below hb).at_ (by omega)
        have ja : j < l2.length := by have := HQ5.out.len; omega
        have jb : j < l.length := by have := HQ3.out.len; omega
        obtain ⟨c0, c1, c2, c3, c4⟩ := hc j ja
        obtain ⟨d0, d1, d2, d3, d4⟩ := hc' j jb
        obtain ⟨q, hq⟩ : ∃ q, q = l2[j] := ⟨_, rfl⟩
        have hq2 : l[j] = q := by have h := HP.out; subst h; rw [hq]; exact List.getElem_append_left ja
        rw [← hq] at c0 c1 c2 c3 c4
        rw [hq2] at d0 d1 d2 d3 d4
        have heq : ∀ w, (Op.equalIn 10000 32 (.agg (reqC q.op q.rule q.cost (strOfNums q.key) q.k)) (.agg (reqC q.op q.rule q.cost (strOfNums q.key) q.k))).run Try.prog w = .ok true w := fun w => by rw [req_equal]; simp
        have t6 : (0 : Int) ≤ (j : Int) := by omega
        have t7 : (j : Int) < (nm : Int) := by omega
        have t8 : (j : Int) < (nl : Int) := by omega
        clear hc hc' hb hlt hlt' hq hq2 ja jb
        go_upto_region 13 with (fail)
        go_quiet (fail)
        go_wp2
        go_roundg (nm - (j + 1))
        case measure => have := HK.out; omega
        case rel => exact ⟨j + 1, by omega, by omega, by go_num, below_draws HB.out _⟩
      · have hje : j = nm := by omega
        subst hje
        clear hb
        go_wp2
        go_ret
        exact ⟨rfl, B3.out.trans (HB.out.mono B3.out.size)⟩
  · subst he ha
    clear hr
    go_wp2
    go_loopg [74] nm (fun k0 sj wr => ∃ j : Nat, j ≤ nm ∧ k0 = nm - j ∧ sj = .int .i64 (j : Int) ∧ Below w3.heap.size w3 wr)
    case atStart => exact ⟨0, by omega, by omega, rfl, Below.refl _ _⟩
    case round =>
      obtain ⟨j, hj, hkk, rfl, hb⟩ := hrel
      have HK := Lib.hid hkk
      have HB := Lib.hid hb
      clear hkk
      by_cases hjn : j < nm
      · obtain ⟨g, off, rfl, hlt, hc⟩ := (HQ5.out.below hb).at_ (by omega)
        obtain ⟨g', off', rfl, hlt', hc'⟩ := (HQ3.out.below hb).at_ (by omega)
        have ja : j < l2.length := by have := HQ5.out.len; omega
        have jb : j < l.length := by have := HQ3.out.len; omega
        obtain ⟨c0, c1, c2, c3, c4⟩ := hc j ja
        obtain ⟨d0, d1, d2, d3, d4⟩ := hc' j jb
        obtain ⟨q, hq⟩ : ∃ q, q = l2[j] := ⟨_, rfl⟩
        have hq2 : l[j] = q := by have h := HP.out; subst h; rw [hq]; exact List.getElem_append_left ja
        rw [← hq] at c0 c1 c2 c3 c4
        rw [hq2] at d0 d1 d2 d3 d4
        have heq : ∀ w, (Op.equalIn 10000 32 (.agg (reqC q.op q.rule q.cost (strOfNums q.key) q.k)) (.agg (reqC q.op q.rule q.cost (strOfNums q.key) q.k))).run Try.prog w = .ok true w := fun w => by rw [req_equal]; simp
        have t6 : (0 : Int) ≤ (j : Int) := by omega
        have t7 : (j : Int) < (nm : Int) := by omega
        have t8 : (j : Int) < (nl : Int) := by omega
        clear hc hc' hb hlt hlt' hq hq2 ja jb
        go_upto_region 13 with (fail)
        go_quiet (fail)
        go_wp2
        go_roundg (nm - (j + 1))
        case measure => have := HK.out; omega
        case rel => exact ⟨j + 1, by omega, by omega, by go_num, below_draws HB.out _⟩
      · have hje : j = nm := by omega
        subst hje
        clear hb
        go_wp2
        go_ret
        exact ⟨rfl, B3.out.trans (HB.out.mono B3.out.size)⟩
end Go.Proofs.Ytkcoofpoipgiaaa
