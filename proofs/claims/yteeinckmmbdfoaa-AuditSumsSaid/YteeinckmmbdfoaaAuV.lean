/- The law AuditMost of layer 20 (audit), walked. -/
import Derived.Test.YteeinckmmbdfoaaAuG
namespace Go.Proofs.Yteeinckmmbdfoaa
set_option linter.unusedSimpArgs false
set_option linter.unusedVariables false
set_option maxRecDepth 100000
open Go.ChangeShapes Go.WideShapes Go.ChangeAt Go.RowKit Go.Maps
open Ar (inR)
def kK : Who := ⟨0, ⟨#[107]⟩, by decide, by unfold maxLen; decide⟩
theorem add_k (a c : Int) (w : World) {b m n : Nat} {V : VM} {G : GM} (h : LedAt w b m n V G) (hc : n < 1000) (hn : (G kK).length < 1000) :
    Calls Try.prog 10 #[.pointer (some ⟨b, 0, none⟩), .agg #[.int .i64 0, .string ⟨#[107]⟩], .int .i64 a, .int .i64 c] w fun e w' => e = .returned (.tuple #[]) ∧ ∃ v',
      LedAt w' b m (cntV V kK n) (putV V kK v') (updG G kK (G kK ++ [(a, c)])) ∧ Fr (LedAll b m V) w w' ∧ ∀ g, LedAll b m (putV V kK v') g → LedAll b m V g ∨ w.heap.size ≤ g := ledadd_any kK a c w h hc hn
/-- of a key that has something, or nothing. -/
theorem ledmost_any (k : Who) (len : Int) (hl : 1 ≤ len ∧ len ≤ 1000) (w : World) {b m n : Nat} {V : VM} {G : GM} (h : LedAt w b m n V G) (hc : costs (G k)) (hn : (G k).length ≤ 1000) :
    Calls Try.prog 13 #[.pointer (some ⟨b, 0, none⟩), .agg #[.int .i64 k.r, .string k.s], .int .i64 len] w fun e w' => MostPost len (G k) w e w' := by
  cases hv : V k with
  | none => rw [h.no k hv]; exact ledmost_none k len hl.1 w h hv
  | some v => exact ledmost_some k len hl w h hv hc hn
theorem most_k (len : Int) (hl : 1 ≤ len ∧ len ≤ 1000) (w : World) {b m n : Nat} {V : VM} {G : GM} (h : LedAt w b m n V G) (hc : costs (G kK)) (hn : (G kK).length ≤ 1000) :
    Calls Try.prog 13 #[.pointer (some ⟨b, 0, none⟩), .agg #[.int .i64 0, .string ⟨#[107]⟩], .int .i64 len] w fun e w' => MostPost len (G kK) w e w' := ledmost_any kK len hl w h hc hn
/-- what a search from a time on has found. -/
structure Srch (len f mo : Int) (l : List (Int × Int)) : Prop where
  bd : 0 ≤ mo ∧ mo ≤ 1023000
  ge : ∀ x, -1 ≤ x → x < f → sumIn x (x + len) l ≤ mo
  is : mo = 0 ∨ ∃ x, mo = sumIn x (x + len) l
theorem Srch.next {len f mo sg : Int} {l : List (Int × Int)} (h : Srch len f mo l) (hs : sg = sumIn f (f + len) l) (hb : 0 ≤ sg ∧ sg ≤ 1023000) : Srch len (f + 1) (max mo sg) l := by
  refine ⟨by have := h.bd; omega, fun x h1 h2 => ?_, ?_⟩
  · by_cases e : x = f
    · rw [e, ← hs]; omega
    · have := h.ge x h1 (by omega); omega
  · by_cases q : mo ≤ sg
    · exact .inr ⟨f, by rw [← hs]; omega⟩
    · rw [show max mo sg = mo by omega]; exact h.is
theorem Srch.most {len mo v : Int} {l : List (Int × Int)} (h : Srch len 1024 mo l) (hc : costs l) (hv : IsMost len l v) : v = mo := by
  apply Int.le_antisymm
  · rcases hv.is with e | ⟨x, hx, e⟩
    · rw [e]; exact h.bd.1
    · rw [e]
      have := (hc x hx).2
      exact h.ge x.1 (by omega) (by omega)
  · rcases h.is with e | ⟨x, e⟩
    · rw [e]; exact hv.nn
    · rw [e]; exact hv.ge x
set_option maxHeartbeats 16000000 in
theorem auditmost_law (w : World) (A : Option Addr) (n c : Nat) (L : List Ent) (a1 : Int) (hr : RdL w A n c 4 encEn L) (hok : ∀ e ∈ L, okEn e) (h1 : inR a1) :
    Calls Try.prog 4 #[.slice A n c, .int .i64 a1] w fun e w' => e = .returned (.bool true) ∧ Below w.heap.size w w' := by
  have hmx := hr.max
  unfold maxLen at hmx
  have hcp := hr.cap
  have HR := Lib.hid hr
  have HO := Lib.hid hok
  clear hr hok h1
  go_enter Try.func4, Try.ntmps4
  go_upto_region 3 with (go_at_call 7; ((with_reducible refine (lfit_any _).mono ?_); rintro e w1 ⟨rfl, b1⟩; have B1 := Lib.hid b1; clear b1))
  by_cases hn60 : 60 < n
  · have t60 : decide ((60 : Int) < (n : Int)) = true := by rw [decide_eq_true_iff]; omega
    clear hn60
    go_wp2
    go_ret
    exact ⟨rfl, B1.out⟩
  have t60 : decide ((60 : Int) < (n : Int)) = false := by rw [decide_eq_false_iff_not]; omega
  have HN := Lib.hid (show n ≤ 60 by omega)
  have CT := Lib.hid (tame_any A n c L w1 (HR.out.below B1.out) HO.out (by omega))
  clear hn60
  obtain ⟨len, hlen⟩ : ∃ z, z = a1 % 256 + 1 := ⟨_, rfl⟩
  obtain ⟨l0, hl0⟩ : ∃ z, z = a1 % 256 := ⟨_, rfl⟩
  have e1 : bits .and .i64 a1 255 = l0 := by rw [hl0]; exact i64_mask8 _
  have hlb : 1 ≤ len ∧ len ≤ 256 := by omega
  have el : l0 + 1 = len := by omega
  have hl0b : 0 ≤ l0 ∧ l0 ≤ 255 := by omega
  clear hlen hl0
  go_upto_region 7 with (go_at_call 8; ((with_reducible refine CT.out.mono ?_); rintro e w2 ⟨v, rfl, ov, b2⟩; have OV := Lib.hid ov; have B2 := Lib.hid (auB B1.out b2); clear ov b2))
  obtain ⟨T, hT⟩ : ∃ z, z = L.map tameE := ⟨_, rfl⟩
  have HT := Lib.hid (show OwT w2 w1.heap.size v T ∧ T.length = n ∧ okT T from by rw [hT]; exact ⟨OV.out, by rw [List.length_map]; exact HR.out.len, okT_tame L⟩)
  obtain ⟨A2, c2, hv, hcc, hcm, hAg⟩ := HT.out.1.slice
  rw [HT.out.2.1] at hv hcc
  have HTS := Lib.hid (show OwT w2 w1.heap.size (.slice A2 n c2) T from by rw [← hv]; exact HT.out.1)
  rw [hv]
  unfold maxLen at hcm
  have hnb : (n : Int) ≤ 60 := by have := HN.out; omega
  clear e1 el hl0b hT hv hAg CT OV
  go_upto_region 8 with (go_at_call 9; ((with_reducible refine (lednew_any _).mono ?_); rintro e w3 ⟨rfl, l3, b3⟩; have L3 := Lib.hid l3; have B3 := Lib.hid (auB B2.out b3); have B23 := Lib.hid b3; clear l3 b3))
  obtain ⟨w4, hw4, k4, b4, s4⟩ := box_new w3 #[.int .i64 0, .string ⟨#[107]⟩] 31
  obtain ⟨b, hb⟩ : ∃ z, z = w2.heap.size + 1 := ⟨_, rfl⟩
  obtain ⟨m, hm⟩ : ∃ z, z = w2.heap.size := ⟨_, rfl⟩
  obtain ⟨bx, hbx⟩ : ∃ z, z = w3.heap.size := ⟨_, rfl⟩
  have HBM := Lib.hid (And.intro hb (And.intro hm hbx))
  rw [← hbx] at k4
  have K4 := Lib.hid k4
  have L4 := Lib.hid (show LL w w4 (fun g => w2.heap.size ≤ g ∧ g ≠ bx) b m 0 (fun _ => none) (fun _ => []) from by
    have h3 : LedAt w3 b m 0 (fun _ => none) (fun _ => []) := by rw [hb, hm]; exact L3.out
    refine ⟨h3.keep b4, fun g hg => ?_, auB B3.out b4⟩
    have := h3.lt g hg
    refine ⟨?_, by omega⟩
    rcases hg with e | e | ⟨k, v, hv, _⟩
    · omega
    · omega
    · cases hv)
  have B24 := Lib.hid (auB B23.out b4)
  clear hb hm hbx k4 b4 s4
  go_upto_region 9 with (fail)
  rw [← HBM.out.2.2, ← HBM.out.1]
  clear hw4 B3 L3 B23
  go_wp2
  go_loopg [29] n (fun kk si wq => ∃ (i cn : Nat) (V : VM) (G : GM), i ≤ n ∧ Hid (kk = n - i) ∧ si = .int .i64 (i : Int) ∧ Hid (LL w wq (fun g => w2.heap.size ≤ g ∧ g ≠ bx) b m cn V G ∧ cn ≤ i ∧ G kK = prs (T.take i)) ∧ Hid (Blk wq bx 31 #[.int .i64 0, .string ⟨#[107]⟩]) ∧ Hid (Below w2.heap.size w2 wq))
  case atStart => exact ⟨0, 0, _, _, Nat.zero_le _, Lib.hid rfl, rfl, Lib.hid ⟨L4.out, Nat.le_refl _, rfl⟩, K4, B24⟩
  case round =>
    obtain ⟨i, cn, V, G, hi, HK, rfl, HL, KB, BQ⟩ := hrel
    by_cases hin : i < n
    · obtain ⟨⟨kw, ea, ec⟩, ha⟩ : ∃ a, T[i]? = some a := ⟨_, List.getElem?_eq_getElem (by have := HT.out.2.1; omega)⟩
      obtain ⟨g, rfl, q0, q1, q2, q3⟩ := HTS.out.cells HT.out.2.1.symm ha BQ.out
      dsimp only at q0 q1 q2 q3
      have HTK := Lib.hid (show prs (T.take (i + 1)) = prs (T.take i) ++ [(ea, ec)] ∧ (prs (T.take i)).length ≤ 60 from by
        constructor
        · rw [List.take_add_one, ha]; simp [prs]
        · have := HN.out; simp only [prs, List.length_map, List.length_take]; omega)
      obtain ⟨w5, hw5, k5, b5, s5⟩ := box_new wr #[.int .i64 kw.r, .string kw.s, .int .i64 ea, .int .i64 ec] 29
      have HL5 := Lib.hid (HL.out.1.keep b5)
      have KB5 := Lib.hid (KB.out.keep b5)
      have BQ5 := Lib.hid (auB BQ.out b5)
      have k5r := k5.rd
      have kbr := KB5.out.rd
      have HLC := Lib.hid HL.out.2
      have CA := Lib.hid (add_k ea ec w5 HL5.out.at_ (by have := HL.out.2.1; have := HN.out; omega) (by rw [HL.out.2.2]; have := HTK.out.2; omega))
      have HIN := Lib.hid hin
      clear ha hin k5 b5 s5 hcm
      go_upto_region 12 with (fail)
      clear q0 q1 q2 q3 hw5
      go_wp2_with (go_at_call 10; ((with_reducible refine CA.out.mono ?_); rintro e w6 ⟨rfl, v6, h6, f6, g6⟩; have HL6 := Lib.hid (HL5.out.op h6 f6 g6 (fun g hg => ⟨by have := BQ5.out.size; omega, fun e => by have := lt_of_block KB5.out; omega⟩) (fun g hg => Nat.le_trans B2.out.size hg.1)); have KB6 := Lib.hid (KB5.out.fr f6 (fun e => (HL5.out.lo bx e).2 rfl)); have BQ6 := Lib.hid (BQ5.out.trans (f6.below BQ5.out.size (fun g hg => (HL5.out.lo g hg).1))); clear h6 f6 g6))
      go_roundg (n - (i + 1))
      case measure => have := HK.out; have := HIN.out; omega
      case rel => exact ⟨i + 1, _, _, _, HIN.out, Lib.hid rfl, by go_num, Lib.hid ⟨HL6.out, by unfold cntV; have := HLC.out.1; split <;> omega, by rw [updG_self, HLC.out.2, HTK.out.1]⟩, KB6, BQ6⟩
    · have hie : i = n := by omega
      have hfull : T.take i = T := List.take_of_length_le (by rw [HT.out.2.1]; omega)
      have HL2 := Lib.hid (show LL w wr (fun g => w2.heap.size ≤ g ∧ g ≠ bx) b m cn V G ∧ G kK = prs T from ⟨HL.out.1, by rw [HL.out.2.2, hfull]⟩)
      have hix : ¬ (i : Int) < (n : Int) := by omega
      have HCP := Lib.hid (costs_prs HT.out.2.2)
      obtain ⟨wo, hwo⟩ : ∃ z, z = wr := ⟨_, rfl⟩
      rw [← hwo] at HL2 KB BQ
      have HWO := Lib.hid (show Below wo.heap.size wo wr from by rw [hwo]; exact Below.refl _ _)
      clear hfull hie HL hwo
      go_wp2
      go_loopg [10, 9] 1025 (fun kk fv mv wq => ∃ (f mo : Int), Hid (kk = (1024 - f).toNat) ∧ Hid (-1 ≤ f ∧ f ≤ 1024) ∧ fv = .int .i64 f ∧ mv = .int .i64 mo ∧ Hid (Srch len f mo (prs T)) ∧ Hid (Below wo.heap.size wo wq))
      case atStart => exact ⟨-1, 0, Lib.hid rfl, Lib.hid (by omega), rfl, rfl, Lib.hid ⟨by omega, fun x h1 h2 => by omega, .inl rfl⟩, HWO⟩
      case round =>
        obtain ⟨f, mo, HKF, HF, rfl, rfl, HS, HBW⟩ := hrel
        have hfb := HF.out
        by_cases hf : f < 1024
        · obtain ⟨fe, hfe⟩ : ∃ z, z = f + len := ⟨_, rfl⟩
          have ef : f + len = fe := hfe.symm
          have HFE := Lib.hid hfe
          have HFL := Lib.hid hf
          clear hfe hix
          go_wp2
          go_loopg [47, 11] n (fun kk sj sm wq => ∃ j : Nat, j ≤ n ∧ Hid (kk = n - j) ∧ sj = .int .i64 (j : Int) ∧ sm = .int .i64 (sumIn f fe ((prs T).take j)) ∧ Hid (Below wo.heap.size wo wq))
          case atStart => exact ⟨0, Nat.zero_le _, Lib.hid rfl, rfl, rfl, HBW⟩
          case round =>
            obtain ⟨j, hj, HKJ, rfl, rfl, HBJ⟩ := hrel
            have hpl : (prs T).length = n := by simp only [prs, List.length_map]; exact HT.out.2.1
            have hsb := sumIn_bd f fe ((prs T).take j) (costs_take HCP.out j)
            have htl : ((prs T).take j).length ≤ j := List.length_take_le _ _
            by_cases hjn : j < n
            · obtain ⟨⟨kw, ea, ec⟩, ha⟩ : ∃ a, T[j]? = some a := ⟨_, List.getElem?_eq_getElem (by have := HT.out.2.1; omega)⟩
              obtain ⟨g, rfl, q0, q1, q2, q3⟩ := HTS.out.cells HT.out.2.1.symm ha (auB BQ.out HBJ.out)
              dsimp only at q0 q1 q2 q3
              have hea := HT.out.2.2 _ (List.mem_of_getElem? ha)
              dsimp only at hea
              have s1 : sumIn f fe ((prs T).take (j + 1)) = sumIn f fe ((prs T).take j) + (if f ≤ ea ∧ ea < fe then ec else 0) := by
                rw [List.take_add_one, sumIn_app, List.getElem?_map, ha]
                show _ + (_ + 0) = _
                rw [Int.add_zero]
              obtain ⟨sg, hsg⟩ : ∃ z, z = sumIn f fe ((prs T).take j) := ⟨_, rfl⟩
              rw [← hsg] at s1 hsb ⊢
              have hb1 : 0 ≤ sg ∧ sg ≤ 100000 := by have := HN.out; omega
              have hcb : 0 ≤ ec ∧ ec ≤ 1023 := hea.2.1
              have hji : (j : Int) < (n : Int) := by omega
              have S12 := Lib.hid s1
              have HJN := Lib.hid hjn
              clear s1 hsg hsb htl hpl ha hea hjn
              have d1 : decide (f ≤ ea) = true ∨ decide (f ≤ ea) = false := by cases decide (f ≤ ea) <;> simp
              have d2 : decide (ea < fe) = true ∨ decide (ea < fe) = false := by cases decide (ea < fe) <;> simp
              rcases d1 with d1 | d1 <;> rcases d2 with d2 | d2
              all_goals
                go_wp2
                go_roundg (n - (j + 1))
                case measure => have := HKJ.out; have := HJN.out; omega
                case rel =>
                  have s12 := S12.out
                  simp only [decide_eq_true_eq, decide_eq_false_iff_not] at d1 d2
                  by_cases q : f ≤ ea ∧ ea < fe
                  · rw [if_pos q] at s12
                    refine ⟨j + 1, HJN.out, Lib.hid rfl, by go_num, ?_, Lib.hid (auB HBJ.out ((Below.refl _ _).alloc (Nat.le_refl _) _))⟩
                    first | (rw [s12]; done) | (exfalso; omega)
                  · rw [if_neg q, Int.add_zero] at s12
                    refine ⟨j + 1, HJN.out, Lib.hid rfl, by go_num, ?_, Lib.hid (auB HBJ.out ((Below.refl _ _).alloc (Nat.le_refl _) _))⟩
                    first | (rw [s12]; done) | (exfalso; omega)
            · have hje : j = n := by omega
              have hfull : (prs T).take j = prs T := List.take_of_length_le (by rw [hpl]; omega)
              rw [hfull] at hsb ⊢
              obtain ⟨sg, hsg⟩ : ∃ z, z = sumIn f fe (prs T) := ⟨_, rfl⟩
              rw [← hsg] at hsb ⊢
              obtain ⟨m2, hm2⟩ : ∃ z, z = max mo sg := ⟨_, rfl⟩
              have em : max mo sg = m2 := hm2.symm
              have HM2 := Lib.hid (show Srch len (f + 1) m2 (prs T) from by rw [hm2]; exact HS.out.next (by rw [hsg, HFE.out]) (by have := HN.out; omega))
              have hjx : ¬ (j : Int) < (n : Int) := by omega
              clear hsg hm2 hsb htl hje hfull hpl
              go_wp2
              go_roundg (1024 - (f + 1)).toNat
              case measure => have := HKF.out; have := HFL.out; omega
              case rel => exact ⟨f + 1, m2, Lib.hid rfl, Lib.hid (by have := HF.out; have := HFL.out; omega), rfl, rfl, HM2, HBJ⟩
        · have hfe : f = 1024 := by omega
          subst hfe
          have LW := Lib.hid (HL2.out.1.keep HBW.out)
          have KW := Lib.hid (KB.out.keep HBW.out)
          have CM := Lib.hid (fun wx (h : Below wr.heap.size wr wx) => most_k len ⟨hlb.1, by omega⟩ wx (LW.out.keep h).at_ (by rw [HL2.out.2]; exact HCP.out) (by rw [HL2.out.2]; have := HN.out; simp only [prs, List.length_map]; have := HT.out.2.1; omega))
          have kw := KW.out.rd
          clear hf hfb hix
          go_wp2_with (fail)
          refine (add_nil 0 ⟨#[107]⟩ wr 1 1).mono ?_
          rintro e y1 ⟨rfl, c1⟩
          have C1 := Lib.hid c1
          have k1 := (KW.out.keep c1).rd
          clear c1 kw
          go_wp2_with (fail)
          refine (CM.out y1 C1.out).mono ?_
          rintro e y2 ⟨v, hv, rfl, c2'⟩
          rw [HL2.out.2] at hv
          obtain rfl : v = mo := HS.out.most HCP.out hv
          have C2 := Lib.hid (auB C1.out c2')
          have k2 := (KW.out.keep C2.out).rd
          clear c2' k1 hv
          go_wp2_with (fail)
          refine (most_low 0 ⟨#[107]⟩ y2 ⟨b, 0, none⟩ 0 (by omega)).mono ?_
          rintro e y3 ⟨rfl, c3⟩
          have C3 := Lib.hid (auB C2.out c3)
          have k3 := (KW.out.keep C3.out).rd
          clear c3 k2
          go_wp2_with (fail)
          refine (most_nil 0 ⟨#[107]⟩ y3 5).mono ?_
          rintro e y4 ⟨rfl, c4⟩
          have C4 := Lib.hid (auB C3.out c4)
          have k4 := (KW.out.keep C4.out).rd
          clear c4 k3
          go_wp2_with (fail)
          refine (sum_nil 0 ⟨#[107]⟩ y4 0 9).mono ?_
          rintro e y5 ⟨rfl, c5⟩
          have C5 := Lib.hid (auB C4.out c5)
          clear c5 k4
          go_wp2_with (fail)
          refine (all_nil y5).mono ?_
          rintro e y6 ⟨rfl, rfl⟩
          go_wp2
          go_ret
          exact ⟨rfl, LW.out.bl.trans (C5.out.mono LW.out.bl.size)⟩
end Go.Proofs.Yteeinckmmbdfoaa
