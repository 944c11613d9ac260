/- The law SlotClear of layer 6 (slot), walked. -/
import Derived.Test.YtmdkokehomboaaaSlO
namespace Go.Proofs.Ytmdkokehomboaaa
set_option linter.unusedSimpArgs false
set_option linter.unusedVariables false
open Go.ChangeShapes Go.WideShapes Go.ChangeAt Go.RowKit
open Ar (inR)
/-- two sketches of the law's own. -/
structure S2 (W w : World) (N M : SlN) (f g : Nat → Nat → Int) : Prop where
  a : SlAt w N f
  b : SlAt w M g
  lo : (W.heap.size ≤ N.b ∧ W.heap.size ≤ N.g) ∧ W.heap.size ≤ M.b ∧ W.heap.size ≤ M.g
  ap : N.g ≠ M.b ∧ N.g ≠ M.g ∧ N.b ≠ M.g
  bl : Below W.heap.size W w
theorem S2.keep {W w w' : World} {N M : SlN} {f g : Nat → Nat → Int} (h : S2 W w N M f g) (hb : Below w.heap.size w w') : S2 W w' N M f g := ⟨h.a.keep hb, h.b.keep hb, h.lo, h.ap, h.bl.trans (hb.mono h.bl.size)⟩
theorem S2.opA {W w w' : World} {N M : SlN} {f g f' : Nat → Nat → Int} (h : S2 W w N M f g) (h1 : SlAt w' N f') (hf : Fr (fun k => k = N.g) w w') : S2 W w' N M f' g :=
  ⟨h1, h.b.fr hf (fun e => h.ap.1 e.symm) (fun e => h.ap.2.1 e.symm), h.lo, h.ap, h.bl.trans (hf.below h.bl.size (fun k hk => by have := h.lo; omega))⟩
theorem S2.opB {W w w' : World} {N M : SlN} {f g g' : Nat → Nat → Int} (h : S2 W w N M f g) (h1 : SlAt w' M g') (hf : Fr (fun k => k = M.g) w w') : S2 W w' N M f g' :=
  ⟨h.a.fr hf h.ap.2.2 h.ap.2.1, h1, h.lo, h.ap, h.bl.trans (hf.below h.bl.size (fun k hk => by have := h.lo; omega))⟩
theorem SlAt.lt2 {w : World} {N : SlN} {f : Nat → Nat → Int} (h : SlAt w N f) : N.b < w.heap.size ∧ N.g < w.heap.size := by
  obtain ⟨C, c1, _⟩ := h.hb
  exact ⟨lt_of_block c1, lt_of_block h.hg⟩
theorem add_none (f : Nat → Nat → Int) (P : Nat → ByteArray → Nat) (k : Nat) (s : ByteArray) {c : Int} (hc : c < 1) : Sk.add f P k s c = f := by unfold Sk.add; rw [if_pos hc]
set_option maxRecDepth 100000 in
set_option maxHeartbeats 4000000 in
theorem slclear_law (w : World) (A : Option Addr) (n c : Nat) (zs : List Int) (A2 : Option Addr) (n2 c2 : Nat) (L : List (ByteArray × Int)) (A3 : Option Addr) (n3 c3 : Nat) (L3 : List (ByteArray × Int)) (hr : RdI w .u64 A n c zs) (hr2 : RdL w A2 n2 c2 2 encSI L) (hok : ∀ a ∈ L, okSI a) (hr3 : RdL w A3 n3 c3 2 encSI L3) (hok3 : ∀ a ∈ L3, okSI a) :
    Calls Try.prog 6 #[.slice A n c, .slice A2 n2 c2, .slice A3 n3 c3] w fun e w' => e = .returned (.bool true) ∧ Below w.heap.size w w' := by
  have hmx := hr.max
  unfold maxLen at hmx
  have hcp := hr.cap
  have hmx2 := hr2.max
  unfold maxLen at hmx2
  have hcp2 := hr2.cap
  have hmx3 := hr3.max
  unfold maxLen at hmx3
  have hcp3 := hr3.cap
  have HR := Lib.hid hr
  have HR2 := Lib.hid hr2
  have HO := Lib.hid hok
  have HR3 := Lib.hid hr3
  have HO3 := Lib.hid hok3
  clear hr hr2 hok hr3 hok3
  go_enter Try.func6, Try.ntmps6
  go_upto_region 3 with (go_at_call 9; ((refine (slfit_any _).mono ?_); rintro e w2 ⟨rfl, b2⟩; have T2 := Lib.hid b2; clear b2))
  have CLi := Lib.hid (fun wx (hb : Below w.heap.size w wx) => light_any A2 n2 c2 L wx (HR2.out.below hb) HO.out)
  have CLj := Lib.hid (fun wx (hb : Below w.heap.size w wx) => light_any A3 n3 c3 L3 wx (HR3.out.below hb) HO3.out)
  by_cases hb1 : (60 : Int) < (n : Int)
  · have hund : undef = Value.tuple #[] := rfl
    clear CLi CLj
    go_wp2
    go_ret
    exact ⟨rfl, T2.out⟩
  have hb1' : decide ((60 : Int) < (n : Int)) = false := by rw [decide_eq_false_iff_not]; exact hb1
  cases hlb : lightB L with
  | false =>
    rw [hlb] at CLi
    have hund : undef = Value.tuple #[] := rfl
    go_wp2_with (go_at_call 10; ((with_reducible refine (CLi.out _ T2.out).mono ?_); rintro e w3 ⟨rfl, b3⟩; have T3 := Lib.hid (T2.out.trans (b3.mono T2.out.size)); clear b3))
    go_ret
    exact ⟨rfl, T3.out⟩
  | true =>
  rw [hlb] at CLi
  cases hlb3 : lightB L3 with
  | false =>
    rw [hlb3] at CLj
    go_wp2_with (go_at_call 10; first
      | ((with_reducible refine (CLi.out _ T2.out).mono ?_); rintro e w3 ⟨rfl, b3⟩; have T3 := Lib.hid (T2.out.trans (b3.mono T2.out.size)); clear b3)
      | ((with_reducible refine (CLj.out _ T3.out).mono ?_); rintro e w4 ⟨rfl, b4⟩; have T4 := Lib.hid (T3.out.trans (b4.mono T3.out.size)); clear b4))
    go_ret
    exact ⟨rfl, T4.out⟩
  | true =>
  rw [hlb3] at CLj
  have hlen : L.length ≤ 100 := by unfold lightB at hlb; simp at hlb; exact hlb.1
  have hln := HR2.out.len
  have hb2 : (n2 : Int) ≤ 100 := by omega
  have hlen3 : L3.length ≤ 100 := by unfold lightB at hlb3; simp at hlb3; exact hlb3.1
  have hln3 := HR3.out.len
  have hb3 : (n3 : Int) ≤ 100 := by omega
  clear hlb hlen hln hlb3 hlen3 hln3 hb1
  go_upto_region 5 with (go_at_call 10; first
      | ((with_reducible refine (CLi.out _ T2.out).mono ?_); rintro e w3 ⟨rfl, b3⟩; have T3 := Lib.hid (T2.out.trans (b3.mono T2.out.size)); clear b3)
      | ((with_reducible refine (CLj.out _ T3.out).mono ?_); rintro e w4 ⟨rfl, b4⟩; have T4 := Lib.hid (T3.out.trans (b4.mono T3.out.size)); clear b4))
  clear CLi CLj hb1'
  have CR := Lib.hid (show Calls Try.prog 12 #[.slice A n c, .int .i64 3] w4 _ from rows_any w4 A n c zs (HR.out.below T4.out) 3 (by omega))
  have CN := Lib.hid (fun wx (hr : RowsAt wx w4.heap.size 3 (rX zs) (rA zs) (rB zs)) => show Calls Try.prog 11 #[.slice (some ⟨w4.heap.size, 0, none⟩) 3 3, .int .i64 7] wx _ from snew_any 3 7 (by omega) (by omega) _ _ _ _ wx hr (rows_lt zs 3))
  go_upto_region 7 with (first
    | (go_at_call 12; ((with_reducible refine CR.out.mono ?_); rintro e w5 ⟨rfl, r5, b5⟩; have R5 := Lib.hid r5; have T5 := Lib.hid (T4.out.trans (b5.mono T4.out.size)); have L5 := Lib.hid (show w4.heap.size < w5.heap.size by obtain ⟨C, hC, _⟩ := r5.blk; exact lt_of_block hC); clear r5 b5))
    | (go_at_call 11; first
      | ((with_reducible refine (CN.out _ R6.out).mono ?_); rintro e w7 ⟨M, rfl, s7, m1, m2, m3, m4, m5, o1, o2, b7⟩; have S7 := Lib.hid (show S2 w w7 N M (fun _ _ => 0) (fun _ _ => 0) ∧ N.k = 3 ∧ M.k = 3 ∧ M.P = N.P from ⟨⟨S6.out.1.at_.keep b7, s7, ⟨S6.out.1.lo, Nat.le_trans S6.out.1.bl.size o1, Nat.le_trans S6.out.1.bl.size o2⟩, ⟨by have := S6.out.1.at_.lt2; omega, by have := S6.out.1.at_.lt2; omega, by have := S6.out.1.at_.lt2; omega⟩, S6.out.1.bl.trans (b7.mono S6.out.1.bl.size)⟩, S6.out.2.1, m1, by obtain ⟨q2, q3, q4, q5⟩ := S6.out.2.2; funext j s; unfold SlN.P; rw [m2, m3, m4, m5, q2, q3, q4, q5]⟩); clear s7 m1 m2 m3 m4 m5 o1 o2 b7)
      | ((with_reducible refine (CN.out _ R5.out).mono ?_); rintro e w6 ⟨N, rfl, s6, n1, n2, n3, n4, n5, o1, o2, b6⟩; have R6 := Lib.hid (R5.out.below b6 L5.out); have S6 := Lib.hid (show S1 w w6 N (fun _ _ => 0) ∧ N.k = 3 ∧ N.W = 7 ∧ N.X = rX zs ∧ N.A = rA zs ∧ N.B = rB zs from ⟨⟨s6, ⟨Nat.le_trans T5.out.size o1, Nat.le_trans T5.out.size o2⟩, T5.out.trans (b6.mono T5.out.size)⟩, n1, n2, n3, n4, n5⟩); clear s6 n1 n2 n3 n4 n5 o1 o2 b6)))
  clear CR CN
  have NK := Lib.hid S7.out.2
  go_wp2
  go_loopg [38] n2 (fun kk si wr => ∃ (i : Nat) (f : Nat → Nat → Int), i ≤ n2 ∧ Hid (kk = n2 - i) ∧ si = .int .i64 (i : Int) ∧ Hid (S2 w wr N M f (fun _ _ => 0)))
  case atStart => exact ⟨0, _, by omega, Lib.hid rfl, rfl, Lib.hid S7.out.1⟩
  case round =>
    obtain ⟨i, f, hi, HKK, rfl, HS⟩ := hrel
    by_cases hin : i < n2
    · have hl2 := HR2.out.len
      obtain ⟨b, off, rfl, hbl, hc⟩ := (HR2.out.below HS.out.bl).at_ (by omega)
      obtain ⟨⟨ky, v⟩, ha⟩ : ∃ a, L[i]? = some a := ⟨_, List.getElem?_eq_getElem (by omega)⟩
      have hoka := HO.out _ (List.mem_of_getElem? ha)
      have kr0 : wr.cell? ⟨b, off + i * 2, none⟩ = some (.string ky) := hc i _ ha 0 (by omega)
      have kr1 : wr.cell? ⟨b, off + i * 2 + 1, none⟩ = some (.int .i64 v) := hc i _ ha 1 (by omega)
      unfold okSI at hoka
      simp only at hoka
      obtain ⟨hky, hv⟩ := hoka
      obtain ⟨x1, x2, ex1, kr, kw, ex2, bl2, kc2⟩ := box2 wr 35 (.string ⟨#[]⟩) (.int .i64 0) (.string ky) (.int .i64 v)
      have S6 := Lib.hid (HS.out.keep bl2)
      have CA := Lib.hid (sadd_any ky hky v hv x2 S6.out.a)
      have kc3 := kc2.rd
      have t2 : (i : Int) < (n2 : Int) := by omega
      have HIN := Lib.hid hin
      clear hl2 hc hbl ha bl2 kc2 hky hv
      go_upto_region 10 with (fail)
      clear kr kw ex1 kr0 kr1 ex2
      go_wp2_with (go_at_call 17; ((with_reducible refine CA.out.mono ?_); rintro e w7 ⟨rfl, s7, f7⟩; have S8 := Lib.hid (S6.out.opA s7 f7); clear s7 f7))
      go_roundg (n2 - (i + 1))
      case measure => have := HKK.out; have := HIN.out; omega
      case rel => exact ⟨i + 1, _, HIN.out, Lib.hid rfl, by go_num, S8⟩
    · have hie : i = n2 := by omega
      subst hie
      have CC := Lib.hid (sclear_any wr HS.out.a)
      go_upto_region 13 with (go_at_call 16; ((with_reducible refine CC.out.mono ?_); rintro e w8 ⟨rfl, s8, f8⟩; have S8 := Lib.hid (HS.out.opA s8 f8); clear s8 f8))
      go_wp2
      go_loopg [53] n3 (fun kk si wr => ∃ (j : Nat) (g : Nat → Nat → Int), j ≤ n3 ∧ Hid (kk = n3 - j) ∧ si = .int .i64 (j : Int) ∧ Hid (S2 w wr N M g g))
      case atStart => exact ⟨0, _, by omega, Lib.hid rfl, rfl, S8⟩
      case round =>
        obtain ⟨j, g, hj, HK3, rfl, HT⟩ := hrel
        by_cases hjn : j < n3
        · have hl3 := HR3.out.len
          obtain ⟨b, off, rfl, hbl, hc⟩ := (HR3.out.below HT.out.bl).at_ (by omega)
          obtain ⟨⟨ky, v⟩, ha⟩ : ∃ a, L3[j]? = some a := ⟨_, List.getElem?_eq_getElem (by omega)⟩
          have hoka := HO3.out _ (List.mem_of_getElem? ha)
          have kr0 : wr.cell? ⟨b, off + j * 2, none⟩ = some (.string ky) := hc j _ ha 0 (by omega)
          have kr1 : wr.cell? ⟨b, off + j * 2 + 1, none⟩ = some (.int .i64 v) := hc j _ ha 1 (by omega)
          unfold okSI at hoka
          simp only at hoka
          obtain ⟨hky, hv⟩ := hoka
          obtain ⟨x1, x2, ex1, kr, kw, ex2, bl2, kc2⟩ := box2 wr 35 (.string ⟨#[]⟩) (.int .i64 0) (.string ky) (.int .i64 v)
          have S9 := Lib.hid (HT.out.keep bl2)
          obtain ⟨bx, hbx⟩ : ∃ bx, bx = wr.heap.size := ⟨_, rfl⟩
          have HBX := Lib.hid (show bx ≠ N.g ∧ bx ≠ M.g from by have h1 := HT.out.a.lt2; have h2 := HT.out.b.lt2; omega)
          have HKV := Lib.hid (And.intro hky hv)
          rw [← hbx] at kc2
          have kc3 := kc2.rd
          have KC := Lib.hid kc2
          have t2 : (j : Int) < (n3 : Int) := by omega
          have HJN := Lib.hid hjn
          obtain ⟨g', hg'⟩ : ∃ g', g' = Sk.add g N.P N.k ky v := ⟨_, rfl⟩
          have CA1 := Lib.hid (sadd_any ky hky v hv x2 S9.out.a)
          rw [← hg'] at CA1
          have CA0 := Lib.hid (fun (z : Int) (hz : -9223372036854775808 ≤ z ∧ z < 1) wx (h : SlAt wx N g') => show Calls Try.prog 17 #[.pointer (some ⟨N.b, 0, none⟩), .string ky, .int .i64 z] wx (fun e w' => e = .returned (.tuple #[]) ∧ SlAt w' N g' ∧ Fr (fun k => k = N.g) wx w') from by
            have := sadd_any ky HKV.out.1 z (by omega) wx h
            rw [add_none _ _ _ _ hz.2] at this
            exact this)
          have CAm := Lib.hid (fun wx (h : SlAt wx M g) => show Calls Try.prog 17 #[.pointer (some ⟨M.b, 0, none⟩), .string ky, .int .i64 v] wx (fun e w' => e = .returned (.tuple #[]) ∧ SlAt w' M g' ∧ Fr (fun k => k = M.g) wx w') from by
            have := sadd_any ky HKV.out.1 v HKV.out.2 wx h
            rw [NK.out.2.2, NK.out.2.1, ← NK.out.1, ← hg'] at this
            exact this)
          have CA5 := Lib.hid (CA0.out (-5) (by omega))
          have CA6 := Lib.hid (CA0.out 0 (by omega))
          clear hl3 hc hbl ha bl2 kc2 hky hv hg' CA0
          go_upto_region 16 with (fail)
          rw [← hbx]
          clear kr kw ex1 kr0 kr1 ex2 hbx
          go_upto_region 17 with (go_at_call 17; ((with_reducible refine CA1.out.mono ?_); rintro e y1 ⟨rfl, s1, f1⟩; have Y1 := Lib.hid (S9.out.opA s1 f1); have K1 := Lib.hid (KC.out.fr f1 (fun e => HBX.out.1 e)); clear s1 f1))
          clear kc3
          have kc3 := K1.out.rd
          go_upto_region 18 with (go_at_call 17; ((with_reducible refine (CA6.out _ Y1.out.a).mono ?_); rintro e y2 ⟨rfl, s1, f1⟩; have Y2 := Lib.hid (Y1.out.opA s1 f1); have K2 := Lib.hid (K1.out.fr f1 (fun e => HBX.out.1 e)); clear s1 f1))
          clear kc3
          have kc3 := K2.out.rd
          go_upto_region 19 with (go_at_call 17; ((with_reducible refine (CA5.out _ Y2.out.a).mono ?_); rintro e y3 ⟨rfl, s1, f1⟩; have Y3 := Lib.hid (Y2.out.opA s1 f1); have K3 := Lib.hid (K2.out.fr f1 (fun e => HBX.out.1 e)); clear s1 f1))
          clear kc3
          have kc3 := K3.out.rd
          go_upto_region 20 with (go_at_call 17; ((with_reducible refine (CAm.out _ Y3.out.b).mono ?_); rintro e y4 ⟨rfl, s1, f1⟩; have Y4 := Lib.hid (Y3.out.opB s1 f1); have K4 := Lib.hid (K3.out.fr f1 (fun e => HBX.out.2 e)); clear s1 f1))
          clear kc3 CA1 CAm CA5 CA6
          go_wp2
          go_loopg [77] 3 (fun kk si wr => ∃ r : Nat, r ≤ 3 ∧ Hid (kk = 3 - r) ∧ si = .int .i64 (r : Int) ∧ Hid (S2 w wr N M g' g') ∧ Hid (Blk wr bx 35 #[.string ky, .int .i64 v]))
          case atStart => exact ⟨0, by omega, Lib.hid rfl, rfl, Y4, K4⟩
          case round =>
            obtain ⟨r, hr3, HK4, rfl, HY, HKB⟩ := hrel
            by_cases hr : r < 3
            · have CC1 := Lib.hid (fun wx (hb : Below wr.heap.size wr wx) => scount_any r ky HKV.out.1 wx (HY.out.a.keep hb) (by rw [NK.out.1]; exact hr))
              have CC2 := Lib.hid (fun wx (hb : Below wr.heap.size wr wx) => scount_any r ky HKV.out.1 wx (HY.out.b.keep hb) (by rw [NK.out.2.1]; exact hr))
              rw [NK.out.2.2] at CC2
              obtain ⟨u, hu⟩ : ∃ u, u = g' r (N.P r ky) := ⟨_, rfl⟩
              rw [← hu] at CC1 CC2
              have SB := Lib.hid (fun wx (hb : Below wr.heap.size wr wx) => show ∀ x, wx.cell? ⟨bx, x, none⟩ = (#[.string ky, .int .i64 v] : Array Value)[x]? from (HKB.out.keep hb).rd)
              have y2 : Below wr.heap.size wr wr.drew := below_draws (Below.refl _ _) 1
              have kS := SB.out _ y2
              have t3 : (r : Int) < 3 := by omega
              have HRR := Lib.hid hr
              clear hr hu
              go_upto_region 23 with (fail)
              go_region_held3 (fun wx => ∀ x, wx.cell? ⟨bx, x, none⟩ = (#[.string ky, .int .i64 v] : Array Value)[x]?) (first | assumption | exact SB.out _ y3 | exact SB.out _ y4)
                (first
                  | (go_at_call 18; first
                    | ((with_reducible refine (CC1.out _ y2).mono ?_); rintro e wa ⟨rfl, b0⟩; have y3 := y2.trans (b0.mono y2.size))
                    | ((with_reducible refine (CC2.out _ y3).mono ?_); rintro e wb ⟨rfl, b1⟩; have y4 := y3.trans (b1.mono y3.size); have Y5 := Lib.hid y4)))
              clear y2 y3 y4 b0 b1 kS CC1 CC2 SB
              go_wp2
              go_roundg (3 - (r + 1))
              case measure => have := HK4.out; have := HRR.out; omega
              case rel => exact ⟨r + 1, HRR.out, Lib.hid rfl, by go_num, Lib.hid (HY.out.keep Y5.out), Lib.hid (HKB.out.keep Y5.out)⟩
            · have hr33 : r = 3 := by omega
              have t3 : ¬ ((r : Int) < 3) := by omega
              clear hr hr33
              go_wp2
              go_roundg (n3 - (j + 1))
              case measure => have := HK3.out; have := HJN.out; omega
              case rel => exact ⟨j + 1, g', HJN.out, Lib.hid rfl, by go_num, HY⟩
        · have hje : j = n3 := by omega
          subst hje
          go_wp2
          go_ret
          exact ⟨rfl, HT.out.bl⟩
end Go.Proofs.Ytmdkokehomboaaa
