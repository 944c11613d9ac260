/- The law SlotLeast of layer 6 (slot), walked. -/
import Derived.Test.YtmdkokehomboaaaSlO
namespace Go.Proofs.Ytmdkokehomboaaa
set_option linter.unusedSimpArgs false
set_option linter.unusedVariables false
set_option maxRecDepth 100000
open Go.ChangeShapes Go.WideShapes Go.ChangeAt Go.RowKit
open Ar (inR)
/-- is one of the first r counters of a key just so much? -/
def oneOf (f : Nat → Nat → Int) (P : Nat → ByteArray → Nat) (s : ByteArray) (m : Int) : Nat → Bool
  | 0 => false
  | r + 1 => oneOf f P s m r || f r (P r s) == m
theorem oneOf_yes {f : Nat → Nat → Int} {P : Nat → ByteArray → Nat} {s : ByteArray} {m : Int} {j : Nat} (h : f j (P j s) = m) : ∀ r, j < r → oneOf f P s m r = true
  | 0, h0 => absurd h0 (by omega)
  | r + 1, h0 => by
    unfold oneOf
    by_cases e : j = r
    · subst e; rw [h]; simp
    · rw [oneOf_yes h r (by omega)]; rfl
set_option maxRecDepth 100000 in
set_option maxHeartbeats 4000000 in
theorem sleast_law (w : World) (A : Option Addr) (n c : Nat) (zs : List Int) (A2 : Option Addr) (n2 c2 : Nat) (L : List (ByteArray × Int)) (key : ByteArray) (hr : RdI w .u64 A n c zs) (hr2 : RdL w A2 n2 c2 2 encSI L) (hok : ∀ a ∈ L, okSI a) (hkey : key.size ≤ maxLen) :
    Calls Try.prog 7 #[.slice A n c, .slice A2 n2 c2, .string key] w fun e w' => e = .returned (.bool true) ∧ Below w.heap.size w w' := by
  have hmx := hr.max
  unfold maxLen at hmx
  have hcp := hr.cap
  have hmx2 := hr2.max
  unfold maxLen at hmx2
  have hcp2 := hr2.cap
  have HR := Lib.hid hr
  have HR2 := Lib.hid hr2
  have HO := Lib.hid hok
  have HKY := Lib.hid hkey
  have hky' : (key.size : Int) ≤ 9223372036854775807 := by unfold maxLen at hkey; omega
  clear hr hr2 hok hkey
  go_enter Try.func7, Try.ntmps7
  go_upto_region 3 with (go_at_call 9; ((refine (slfit_any _).mono ?_); rintro e w2 ⟨rfl, b2⟩; have T2 := Lib.hid b2; clear b2))
  have CLi := Lib.hid (light_any A2 n2 c2 L w2 (HR2.out.below T2.out) HO.out)
  by_cases hb1 : (60 : Int) < (n : Int)
  · have hund : undef = Value.tuple #[] := rfl
    clear CLi
    go_wp2
    go_ret
    exact ⟨rfl, T2.out⟩
  have hb1' : decide ((60 : Int) < (n : Int)) = false := by rw [decide_eq_false_iff_not]; exact hb1
  cases hlb : lightB L with
  | false =>
    rw [hlb] at CLi
    have hund : undef = Value.tuple #[] := rfl
    go_wp2_with (go_at_call 10; ((with_reducible refine CLi.out.mono ?_); rintro e w3 ⟨rfl, b3⟩; have T3 := Lib.hid (T2.out.trans (b3.mono T2.out.size)); clear b3))
    go_ret
    exact ⟨rfl, T3.out⟩
  | true =>
    rw [hlb] at CLi
    have hlen : L.length ≤ 100 := by unfold lightB at hlb; simp at hlb; exact hlb.1
    have hln := HR2.out.len
    have hb2 : (n2 : Int) ≤ 100 := by omega
    clear hlb hlen hln
    by_cases hb3 : (100 : Int) < (key.size : Int)
    · go_wp2_with (go_at_call 10; ((with_reducible refine CLi.out.mono ?_); rintro e w3 ⟨rfl, b3⟩; have T3 := Lib.hid (T2.out.trans (b3.mono T2.out.size)); clear b3))
      go_ret
      exact ⟨rfl, T3.out⟩
    have hb3' : decide ((100 : Int) < (key.size : Int)) = false := by rw [decide_eq_false_iff_not]; exact hb3
    clear hb3 hb1
    go_upto_region 5 with (go_at_call 10; ((with_reducible refine CLi.out.mono ?_); rintro e w3 ⟨rfl, b3⟩; have T3 := Lib.hid (T2.out.trans (b3.mono T2.out.size)); clear b3))
    have CR := Lib.hid (show Calls Try.prog 12 #[.slice A n c, .int .i64 4] w3 _ from rows_any w3 A n c zs (HR.out.below T3.out) 4 (by omega))
    have CN := Lib.hid (fun wx (hr : RowsAt wx w3.heap.size 4 (rX zs) (rA zs) (rB zs)) => show Calls Try.prog 11 #[.slice (some ⟨w3.heap.size, 0, none⟩) 4 4, .int .i64 5] wx _ from snew_any 4 5 (by omega) (by omega) _ _ _ _ wx hr (rows_lt zs 4))
    go_upto_region 6 with (first
      | (go_at_call 12; ((with_reducible refine CR.out.mono ?_); rintro e w4 ⟨rfl, r4, b4⟩; have R4 := Lib.hid r4; have T4 := Lib.hid (T3.out.trans (b4.mono T3.out.size)); clear r4 b4))
      | (go_at_call 11; ((with_reducible refine (CN.out _ R4.out).mono ?_); rintro e w5 ⟨N, rfl, s5, n1, n2, n3, n4, n5, o1, o2, b5⟩; have S5 := Lib.hid (show S1 w w5 N (fun _ _ => 0) ∧ N.k = 4 from ⟨⟨s5, ⟨Nat.le_trans T4.out.size o1, Nat.le_trans T4.out.size o2⟩, T4.out.trans (b5.mono T4.out.size)⟩, n1⟩); clear s5 n1 n2 n3 n4 n5 o1 o2 b5)))
    clear CR CN CLi hb1' hb3'
    have NK := Lib.hid S5.out.2
    go_wp2
    go_loopg [34, 8] n2 (fun kk si ss wr => ∃ (i : Nat) (sum : Int) (f : Nat → Nat → Int), i ≤ n2 ∧ Hid (kk = n2 - i) ∧ si = .int .i64 (i : Int) ∧ ss = .int .i64 sum ∧ Hid (S1 w wr N f) ∧ Hid (Sk.leastR f N.P key (N.k - 1) = sum))
    case atStart => exact ⟨0, 0, _, by omega, Lib.hid rfl, rfl, rfl, Lib.hid S5.out.1, Lib.hid (by obtain ⟨_, _, he⟩ := Sk.leastR_is (fun _ _ => (0 : Int)) N.P key (N.k - 1); exact he)⟩
    case round =>
      obtain ⟨i, sum, f, hi, HKK, rfl, rfl, HS, HL⟩ := hrel
      by_cases hin : i < n2
      · have hl2 := HR2.out.len
        obtain ⟨b, off, rfl, hbl, hc⟩ := (HR2.out.below HS.out.bl).at_ (by omega)
        obtain ⟨⟨ky, v⟩, ha⟩ : ∃ a, L[i]? = some a := ⟨_, List.getElem?_eq_getElem (by omega)⟩
        have hoka := HO.out _ (List.mem_of_getElem? ha)
        have kr0 : wr.cell? ⟨b, off + i * 2, none⟩ = some (.string ky) := hc i _ ha 0 (by omega)
        have kr1 : wr.cell? ⟨b, off + i * 2 + 1, none⟩ = some (.int .i64 v) := hc i _ ha 1 (by omega)
        unfold okSI at hoka
        simp only at hoka
        obtain ⟨hky, hv⟩ := hoka
        obtain ⟨x1, x2, ex1, kr, kw, ex2, bl2, kc2⟩ := box2 wr 35 (.string ⟨#[]⟩) (.int .i64 0) (.string ky) (.int .i64 v)
        have S6 := Lib.hid (HS.out.keep bl2)
        have CA := Lib.hid (sadd_any ky hky v hv x2 S6.out.at_)
        obtain ⟨f', hf'⟩ : ∃ f', f' = Sk.add f N.P N.k ky v := ⟨_, rfl⟩
        have hge := Sk.add_ge f N.P N.k ky v
        rw [← hf'] at CA hge
        have hmono := Sk.least_mono hge N.P key (N.k - 1)
        rw [HL.out] at hmono
        have HM := Lib.hid hmono
        have kc3 := kc2.rd
        have t2 : (i : Int) < (n2 : Int) := by omega
        have HIN := Lib.hid hin
        clear hl2 hc hbl ha bl2 kc2 hky hv hf' hge hmono
        go_upto_region 11 with (go_at_call 17; ((with_reducible refine CA.out.mono ?_); rintro e w7 ⟨rfl, s7, f7⟩; have S7 := Lib.hid (S6.out.op s7 f7); clear s7 f7))
        clear kr kw ex1 kr0 kr1 ex2 kc3
        have CL := Lib.hid (sleast_any key HKY.out w7 S7.out.at_)
        obtain ⟨m, hm⟩ : ∃ m, m = Sk.leastR f' N.P key (N.k - 1) := ⟨_, rfl⟩
        rw [← hm] at CL HM
        have HMm := Lib.hid hm
        clear hm
        go_upto_region 13 with (go_at_call 19; ((with_reducible refine CL.out.mono ?_); rintro e w8 ⟨rfl, b8⟩; have S8 := Lib.hid (S7.out.keep b8); clear b8))
        go_wp2
        go_loopg [47, 12] 4 (fun kk si sb wr => ∃ r : Nat, r ≤ 4 ∧ Hid (kk = 4 - r) ∧ si = .int .i64 (r : Int) ∧ sb = .bool (oneOf f' N.P key m r) ∧ Hid (S1 w wr N f'))
        case atStart => exact ⟨0, by omega, Lib.hid rfl, rfl, rfl, S8⟩
        case round =>
          obtain ⟨r, hr4, HK2, rfl, rfl, HS2⟩ := hrel
          by_cases hr : r < 4
          · have CC := Lib.hid (fun wx (hb : Below wr.heap.size wr wx) => scount_any r key HKY.out wx (HS2.out.at_.keep hb) (by rw [NK.out]; exact hr))
            have hge : m ≤ f' r (N.P r key) := by rw [HMm.out]; exact Sk.leastR_le _ _ _ _ _ (by rw [NK.out]; omega)
            obtain ⟨u, hu⟩ : ∃ u, u = f' r (N.P r key) := ⟨_, rfl⟩
            have hone : oneOf f' N.P key m (r + 1) = (oneOf f' N.P key m r || u == m) := by rw [hu]; rfl
            rw [← hu] at CC hge
            have t3 : (r : Int) < 4 := by omega
            have t4 : decide (u < m) = false := by rw [decide_eq_false_iff_not]; omega
            have HRR := Lib.hid (And.intro hr hone)
            clear hr hone hu hge
            cases hob : oneOf f' N.P key m r with
            | true =>
              have hund : undef = Value.tuple #[] := rfl
              have HOB := Lib.hid hob
              clear hob
              go_upto_region 17 with (fail)
              clear hund
              go_wp2_with (go_at_call 18; ((with_reducible refine (CC.out _ (Below.refl _ _)).mono ?_); rintro e w9 ⟨rfl, b9⟩; have S9 := Lib.hid (HS2.out.keep b9); clear b9))
              go_roundg (4 - (r + 1))
              case measure => have := HK2.out; have := HRR.out.1; omega
              case rel => exact ⟨r + 1, HRR.out.1, Lib.hid rfl, by go_num, by rw [HRR.out.2, HOB.out]; rfl, S9⟩
            | false =>
              have HOB := Lib.hid hob
              clear hob
              go_upto_region 17 with (go_at_call 18; ((with_reducible refine (CC.out _ (Below.refl _ _)).mono ?_); rintro e w9 ⟨rfl, b9⟩; have B9 := Lib.hid b9; have S9 := Lib.hid (HS2.out.keep b9); clear b9))
              go_wp2_with (go_at_call 18; ((with_reducible refine (CC.out _ B9.out).mono ?_); rintro e wa ⟨rfl, ba⟩; have SA := Lib.hid (S9.out.keep ba); clear ba))
              go_roundg (4 - (r + 1))
              case measure => have := HK2.out; have := HRR.out.1; omega
              case rel => exact ⟨r + 1, HRR.out.1, Lib.hid rfl, by go_num, by rw [HRR.out.2, HOB.out]; rfl, SA⟩
          · have hr44 : r = 4 := by omega
            have hone : oneOf f' N.P key m r = true := by
              obtain ⟨j, hj, he⟩ := Sk.leastR_is f' N.P key (N.k - 1)
              exact oneOf_yes (j := j) (by rw [← he, HMm.out]) r (by rw [NK.out] at hj; omega)
            rw [hone]
            have t5 : decide (m < sum) = false := by rw [decide_eq_false_iff_not]; have := HM.out; omega
            have t3 : ¬ ((r : Int) < 4) := by omega
            clear hr hr44 hone
            go_wp2
            go_roundg (n2 - (i + 1))
            case measure => have := HKK.out; have := HIN.out; omega
            case rel => exact ⟨i + 1, m, f', HIN.out, Lib.hid rfl, by go_num, rfl, HS2, Lib.hid HMm.out.symm⟩
      · have hie : i = n2 := by omega
        subst hie
        have CL := Lib.hid (sleast_any key HKY.out wr HS.out.at_)
        rw [HL.out] at CL
        go_wp2_with (go_at_call 19; ((with_reducible refine CL.out.mono ?_); rintro e w8 ⟨rfl, b8⟩; have S8 := Lib.hid (HS.out.keep b8); clear b8))
        go_ret
        exact ⟨rfl, S8.out.bl⟩
end Go.Proofs.Ytmdkokehomboaaa
