/- The contracts of layer 14 (decode): All. -/
import Derived.Test.YtkcoofpoipgiaaaDcC
namespace Go.Proofs.Ytkcoofpoipgiaaa
set_option linter.unusedSimpArgs false
set_option linter.unusedVariables false
open Go.ChangeShapes Go.WideShapes Go.ChangeAt Go.RowKit
/-- requests as they lie. -/
def rqC (q : Req) : List Value := [.int .i64 q.op, .int .i64 q.rule, .int .u32 q.cost, .string (strOfNums q.key), .int .i64 q.k]
def rqs : List Req → List Value
  | [] => []
  | q :: r => rqC q ++ rqs r
theorem rqs_length : ∀ l, (rqs l).length = l.length * 5
  | [] => rfl
  | q :: r => by rw [rqs, List.length_append, rqs_length r, List.length_cons]; simp [rqC]; omega
theorem rqs_app : ∀ l m, rqs (l ++ m) = rqs l ++ rqs m
  | [], _ => rfl
  | q :: r, m => by rw [List.cons_append, rqs, rqs, rqs_app r m, List.append_assoc]
theorem rqs_at : ∀ (l : List Req) (j : Nat) (h : j < l.length) (i : Nat), i < 5 → (rqs l)[j * 5 + i]? = (rqC l[j])[i]?
  | q :: r, 0, _, i, hi => by
    rw [rqs, Nat.zero_mul, Nat.zero_add, List.getElem?_append_left (by simp [rqC]; omega)]; rfl
  | q :: r, j + 1, h, i, hi => by
    have := rqs_at r j (by simpa using h) i hi
    rw [rqs, List.getElem?_append_right (by simp [rqC]; omega)]
    rw [show (j + 1) * 5 + i - (rqC q).length = j * 5 + i by simp [rqC]; omega]
    exact this
theorem infoReq : (Try.prog.info? 32).map (fun i => (i.zero, i.size, i.bytes)) = some (some (.agg #[.int .i64 0, .int .i64 0, .int .u32 0, .string ⟨#[]⟩, .int .i64 0]), 5, 48) := by kernel_rfl
set_option maxHeartbeats 4000000 in
set_option maxRecDepth 100000 in
theorem all_any (w : World) (A : Option Addr) (n c : Nat) (zs : List Int) (rules : Int) (hr : RdI w .u8 A n c zs) (hn : n ≤ 2000) :
    Calls Try.prog 10 #[.slice A n c, .int .i64 rules] w fun e w' => ∃ v, e = .returned (.tuple #[v, .int .i64 ((allZ rules [] zs).2.1 : Int), .int .i64 (allZ rules [] zs).2.2]) ∧ w'.ownsRow w.heap.size 32 5 v (allZ rules [] zs).1.length (rqs (allZ rules [] zs).1) ∧ Below w.heap.size w w' := by
  have hmx := hr.max
  have hcp := hr.cap
  unfold maxLen at hmx
  have hni : (n : Int) ≤ 2000 := by omega
  have HR := Lib.hid hr
  have HL := Lib.hid hr.len
  obtain ⟨R, hR⟩ : ∃ R, R = allZ rules [] zs := ⟨_, rfl⟩
  rw [← hR]
  have HRR := Lib.hid hR
  have hz := zero_dec
  have hs1 := decC_size zero75 0 0 0 zero75_len
  have hs2 := decC_size zero75 0 rules 0 zero75_len
  have hst := fun w => store_dec w zero75 zero75 0 0 0 rules 0 0 zero75_len zero75_len
  clear hr hR
  go_enter Try.func10, Try.ntmps10
  go_upto_region 2 with (go_at_call 12; ((with_reducible refine (new_any _ _).mono ?_); rintro e w1 ⟨rfl, b1⟩; have B1 := Lib.hid b1; clear b1))
  obtain ⟨w2, hw2, hbk, hbl, hsz⟩ := box_new w1 (decC zero75 0 rules 0) 36
  rw [hw2]
  obtain ⟨b, hb⟩ : ∃ x, x = w1.heap.size := ⟨_, rfl⟩
  rw [← hb] at hbk ⊢
  have D2 := Lib.hid (dec_new hbk)
  have B2 := Lib.hid (G.below_on B1.out hbl)
  have NW := Lib.hid (show w.heap.size ≤ b ∧ b + 1 ≤ w2.heap.size from by have := B1.out.size; omega)
  clear hw2 hbk hbl hsz hb hz hs1 hs2 hst
  go_wp2
  go_loopg [8, 18] n (fun k0 xl sj wr => ∃ (j : Nat) (z : List Int) (l : List Req), j ≤ n ∧ k0 = n - j ∧ sj = .int .i64 (j : Int) ∧ DecAt wr b z rules 0 ∧ wr.ownsRow (b + 1) 32 5 xl l.length (rqs l) ∧ Below w.heap.size w wr ∧ b + 1 ≤ wr.heap.size ∧ l.length ≤ j ∧ R = (l ++ (allZ rules z (zs.drop j)).1, j + (allZ rules z (zs.drop j)).2.1, (allZ rules z (zs.drop j)).2.2))
  case atStart => exact ⟨0, [], [], by omega, by omega, rfl, D2.out, World.ownsRow_nil _ _ _ _, B2.out, NW.out.2, by simp, by rw [HRR.out]; simp⟩
  case round =>
    obtain ⟨j, z, l, hj, hkk, rfl, hd, ho, hb, hbs, hll, hRe⟩ := hrel
    have HK := Lib.hid hkk
    have HD := Lib.hid hd
    have HO := Lib.hid ho
    have HB := Lib.hid hb
    have HE := Lib.hid hRe
    have HLL := Lib.hid hll
    clear hkk hd ho hRe hll
    by_cases hjn : j < n
    · have hjl : j < zs.length := by rw [HL.out]; exact hjn
      obtain ⟨g, off, rfl, hlt, hc⟩ := (HR.out.below hb).at_ (by omega)
      have c0 := hc j hjn
      have cb := wf_u8 (HR.out.wf_at hjn)
      obtain ⟨x, hx⟩ : ∃ x, x = zs.getD j 0 := ⟨_, rfl⟩
      have HDR := Lib.hid (show zs.drop j = x :: zs.drop (j + 1) from by rw [hx, List.drop_eq_getElem_cons hjl]; simp [List.getD, hjl])
      rw [← hx] at c0 cb
      obtain ⟨q, m, e, hp⟩ : ∃ q m e, parseZ (z ++ [x]) rules = (q, m, e) := ⟨_, _, _, rfl⟩
      have cf := feed_ok b z rules x wr HD.out cb q m e hp
      obtain ⟨B, hB⟩ : ∃ B, B = decide (0 < m) := ⟨_, rfl⟩
      rw [← hB] at cf
      have CF := Lib.hid cf
      have HP := Lib.hid hp
      have HBB := Lib.hid hB
      clear hc hx hb cb hlt hp cf hB
      go_upto_region 7 with (go_at_call 17; ((with_reducible refine CF.out.mono ?_); rintro e' w3 ⟨rfl, d3, f3⟩; have D3 := Lib.hid d3; have F3 := Lib.hid f3; clear d3 f3))
      obtain ⟨w4, hw4, hq4, hbl, hsz⟩ := box_new w3 (reqC q.op q.rule q.cost (strOfNums q.key) q.k) 32
      change Code.wp _ _ _ _ (w3.alloc (.cells (reqC q.op q.rule q.cost (strOfNums q.key) q.k) 32))
      rw [hw4]
      generalize hb4 : w3.heap.size = b4 at hq4 ⊢
      have D4 := Lib.hid (D3.out.keep hbl)
      have F4 := Lib.hid (F3.out.trans (Fr.of_below hbl))
      have O4 := Lib.hid (G.own_fr HO.out F4.out (fun g hg h => by have := G.own_base HO.out g hg; omega))
      have B4 := Lib.hid (HB.out.trans (F4.out.below HB.out.size (fun k hk => by have := NW.out; omega)))
      have hs4 : b + 1 ≤ w4.heap.size := Nat.le_trans hbs F4.out.size
      have k4 := hq4.rd
      clear hw4 hbl hsz hq4 c0 hb4
      by_cases he : e = 0
      · subst he
        have HNX := Lib.hid (all_next (rules := rules) (z := z) (c := x) (r := zs.drop (j + 1)) (by rw [HP.out]))
        cases hbv : B with
        | true =>
          rw [hbv] at HBB
          obtain ⟨iR, hI, hI0, hI1, hI2⟩ := info_parts infoReq
          have hlb : l.length ≤ 2000 := by have := HLL.out; omega
          clear hbv
          go_wp2_with (at_builtin; refine G.wpList_push (by rfl) _ _ (by rfl) (by rfl) (by rfl) Try.underlying24 hI hI0 hI1 hI2 (by rfl) (by omega) O4.out hs4 (rqC q) (by rfl) (by intro u hu; simp [rqC] at hu; rcases hu with rfl | rfl | rfl | rfl | rfl <;> rfl) (by omega) (by unfold maxLen; omega) ?_; intro g1 c1 w5 ho5 hf5 hn5; have HO5 := Lib.hid ho5; have HF5 := Lib.hid hf5; clear ho5 hf5 hn5)
          go_roundg (n - (j + 1))
          case measure => have := HK.out; omega
          case rel =>
            have hob := G.own_base O4.out
            refine ⟨j + 1, _, l ++ [q], by omega, by omega, by go_num, D4.out.fr HF5.out (fun h => by have := hob _ h; omega), by rw [rqs_app, List.length_append]; exact HO5.out, B4.out.trans (HF5.out.below B4.out.size (fun k hk => by have := hob k hk; have := NW.out; omega)), Nat.le_trans hs4 HF5.out.size, by have := HLL.out; simp; omega, ?_⟩
            have hnx := HNX.out
            rw [HP.out, if_pos (by have := HBB.out; simpa using this)] at hnx
            rw [HE.out, HDR.out, hnx]
            simp
            omega
        | false =>
          rw [hbv] at HBB
          clear hbv k4
          go_wp2
          go_roundg (n - (j + 1))
          case measure => have := HK.out; omega
          case rel =>
            refine ⟨j + 1, _, l, by omega, by omega, by go_num, D4.out, O4.out, B4.out, hs4, by have := HLL.out; omega, ?_⟩
            have hnx := HNX.out
            rw [HP.out, if_neg (by have := HBB.out; simpa using this)] at hnx
            rw [HE.out, HDR.out, hnx]
            simp
            omega
      · have g1 : (e != 0) = true := by simpa using he
        have HF := Lib.hid (all_fault (rules := rules) (z := z) (c := x) (r := zs.drop (j + 1)) (by rw [HP.out]; exact he))
        clear he k4
        go_wp2
        go_ret3
        have hf := HF.out
        rw [HP.out] at hf
        have hRR := HE.out
        rw [HDR.out, hf] at hRR
        rw [hRR]
        refine ⟨u8, ?_, ?_, B4.out⟩
        · simp
        · simp only [List.append_nil]
          exact G.own_more O4.out (by have := NW.out; omega)
    · have hje : j = n := by omega
      subst hje
      clear hb
      go_wp2
      go_ret3
      have hRR := HE.out
      rw [List.drop_of_length_le (by rw [HL.out]; exact Nat.le_refl _)] at hRR
      rw [hRR]
      refine ⟨u8, ?_, ?_, HB.out⟩
      · simp [allZ]
      · simp only [allZ, List.append_nil]
        exact G.own_more HO.out (by have := NW.out; omega)
end Go.Proofs.Ytkcoofpoipgiaaa
