/- The law SlotOver of layer 6 (slot), walked: the walk. -/
import Derived.Test.YtmdkokehomboaaaSlV
namespace Go.Proofs.Ytmdkokehomboaaa
set_option linter.unusedSimpArgs false
set_option linter.unusedVariables false
open Go.ChangeShapes Go.WideShapes Go.ChangeAt Go.RowKit
open Ar (inR)
set_option maxRecDepth 100000 in
set_option maxHeartbeats 4000000 in
theorem slover_law (w : World) (A : Option Addr) (n c : Nat) (zs : List Int) (wd : Int) (A2 : Option Addr) (n2 c2 : Nat) (L : List (ByteArray × Int)) (hr : RdI w .u64 A n c zs) (hwd : inR wd) (hr2 : RdL w A2 n2 c2 2 encSI L) (hok : ∀ a ∈ L, okSI a) :
    Calls Try.prog 4 #[.slice A n c, .int .i64 wd, .slice A2 n2 c2] w fun e w' => e = .returned (.bool true) ∧ Below w.heap.size w w' := by
  have hmx := hr.max
  unfold maxLen at hmx
  have hcp := hr.cap
  have hmx2 := hr2.max
  unfold maxLen at hmx2
  have hcp2 := hr2.cap
  have HR := Lib.hid hr
  have HR2 := Lib.hid hr2
  have HO := Lib.hid hok
  obtain ⟨m0, hm0⟩ : ∃ k : Nat, wd % 16 = (k : Int) := ⟨(wd % 16).toNat, by omega⟩
  have eb0 : bits BinOp.and IntKind.i64 wd 15 = (m0 : Int) := by rw [i64_mask4, hm0]
  obtain ⟨W, hW⟩ : ∃ W, W = m0 + 1 := ⟨_, rfl⟩
  have eW : IntKind.i64.wrap ((m0 : Int) + 1) = (W : Int) := by rw [IntKind.wrap_i64]; omega
  have HK := Lib.hid (show 1 ≤ W ∧ W ≤ 16 by omega)
  have hmm := @run_makeMap Try.prog
  clear hr hr2 hok hwd hm0 hW
  go_enter Try.func4, Try.ntmps4
  go_upto_region 3 with (go_at_call 9; ((refine (slfit_any _).mono ?_); rintro e w2 ⟨rfl, b2⟩; have T2 := Lib.hid b2; clear b2))
  have CLi := Lib.hid (light_any A2 n2 c2 L w2 (HR2.out.below T2.out) HO.out)
  by_cases hb1 : (60 : Int) < (n : Int)
  · have hund : undef = Value.tuple #[] := rfl
    clear CLi
    go_wp2
    go_ret
    exact ⟨rfl, T2.out⟩
  have hb1' : decide ((60 : Int) < (n : Int)) = false := by rw [decide_eq_false_iff_not]; exact hb1
  cases hlb : lightB L with
  | false =>
    rw [hlb] at CLi
    go_wp2_with (go_at_call 10; ((with_reducible refine CLi.out.mono ?_); rintro e w3 ⟨rfl, b3⟩; have T3 := Lib.hid (T2.out.trans (b3.mono T2.out.size)); clear b3))
    go_ret
    exact ⟨rfl, T3.out⟩
  | true =>
  rw [hlb] at CLi
  have hlen : L.length ≤ 100 := by unfold lightB at hlb; simp at hlb; exact hlb.1
  have hln := HR2.out.len
  have hb2 : (n2 : Int) ≤ 100 := by omega
  clear hlb hlen hln hb1
  go_upto_region 5 with (go_at_call 10; ((with_reducible refine CLi.out.mono ?_); rintro e w3 ⟨rfl, b3⟩; have T3 := Lib.hid (T2.out.trans (b3.mono T2.out.size)); clear b3))
  have CR3 := Lib.hid (show Calls Try.prog 12 #[.slice A n c, .int .i64 3] w3 _ from rows_any w3 A n c zs (HR.out.below T3.out) 3 (by omega))
  have CN3 := Lib.hid (fun wx (hr : RowsAt wx w3.heap.size 3 (rX zs) (rA zs) (rB zs)) => show Calls Try.prog 11 #[.slice (some ⟨w3.heap.size, 0, none⟩) 3 3, .int .i64 (W : Int)] wx _ from snew_any 3 W (by omega) (by have := HK.out; omega) _ _ _ _ wx hr (rows_lt zs 3))
  have CR1 := Lib.hid (fun wx (hb : Below w.heap.size w wx) => show Calls Try.prog 12 #[.slice A n c, .int .i64 1] wx _ from rows_any wx A n c zs (HR.out.below hb) 1 (by omega))
  have CN1 := Lib.hid (fun b0 wx (hr : RowsAt wx b0 1 (rX zs) (rA zs) (rB zs)) => show Calls Try.prog 11 #[.slice (some ⟨b0, 0, none⟩) 1 1, .int .i64 1] wx _ from snew_any 1 1 (by omega) (by omega) b0 _ _ _ wx hr (rows_lt zs 1))
  have CN0 := Lib.hid (fun b0 wx => show Calls Try.prog 11 #[.slice (some ⟨b0, 0, none⟩) 1 1, .int .i64 0] wx (fun e w' => e = .returned (.pointer none) ∧ wx = w') from snew_thin b0 1 (by omega) wx)
  go_upto_region 7 with (first
    | (go_at_call 12; first
      | ((with_reducible refine CR3.out.mono ?_); rintro e w5 ⟨rfl, r5, b5⟩; have R5 := Lib.hid r5; have T5 := Lib.hid (T3.out.trans (b5.mono T3.out.size)); clear r5 b5)
      | ((with_reducible refine (CR1.out _ S6.out.1.bl).mono ?_); rintro e w7 ⟨rfl, r7, b7⟩; have R7 := Lib.hid r7; have S7 := Lib.hid (And.intro (S6.out.1.keep b7) S6.out.2); clear r7 b7))
    | (go_at_call 11; first
      | ((with_reducible refine (CN3.out _ R5.out).mono ?_); rintro e w6 ⟨N, rfl, s6, n1, n2', n3, n4, n5, o1, o2, b6⟩; have S6 := Lib.hid (show S1 w w6 N (fun _ _ => 0) ∧ N.k = 3 from ⟨⟨s6, ⟨Nat.le_trans T5.out.size o1, Nat.le_trans T5.out.size o2⟩, T5.out.trans (b6.mono T5.out.size)⟩, n1⟩); clear s6 n1 n2' n3 n4 n5 o1 o2 b6)
      | ((with_reducible refine (CN1.out _ _ R7.out).mono ?_); rintro e w8 ⟨M, rfl, s8, m1, m2, m3, m4, m5, o1, o2, b8⟩; have S8 := Lib.hid (show S2 w w8 N M (fun _ _ => 0) (fun _ _ => 0) ∧ N.k = 3 ∧ M.k = 1 ∧ ∀ s, M.P 0 s = 0 from ⟨⟨S7.out.1.at_.keep b8, s8, ⟨S7.out.1.lo, Nat.le_trans S7.out.1.bl.size o1, Nat.le_trans S7.out.1.bl.size o2⟩, ⟨by have := S7.out.1.at_.lt2; omega, by have := S7.out.1.at_.lt2; omega, by have := S7.out.1.at_.lt2; omega⟩, S7.out.1.bl.trans (b8.mono S7.out.1.bl.size)⟩, S7.out.2, m1, fun s => by have := M.P_lt (by rw [m2]; omega) 0 s; omega⟩); clear s8 m1 m2 m3 m4 m5 o1 o2 b8)))
  clear CR3 CN3 CN1 CLi eb0 eW hb1'
  have NK := Lib.hid S8.out.2
  go_upto_region 8 with (fail)
  have hm0 : Mp.MapS Try.prog 9 (w8.alloc (.map #[] 0)) w8.heap.size 0 (liftH fun _ => none) := Mp.MapS.new (P := Try.prog) (k := 9) w8
  obtain ⟨mb, hmb⟩ : ∃ mb, mb = w8.heap.size := ⟨_, rfl⟩
  rw [← hmb] at hm0 ⊢
  have bl9 : Below w8.heap.size w8 (w8.alloc (.map #[] 0)) := (Below.refl _ _).alloc (Nat.le_refl _) _
  have S9 := Lib.hid (S8.out.1.keep bl9)
  have M9 := Lib.hid hm0
  have HMB := Lib.hid (show (N.b ≠ mb ∧ N.g ≠ mb) ∧ (M.b ≠ mb ∧ M.g ≠ mb) ∧ w.heap.size ≤ mb from by
    have h1 := S8.out.1.a.lt2
    have h2 := S8.out.1.b.lt2
    have h3 := S8.out.1.bl.size
    omega)
  generalize w8.alloc (.map #[] 0) = w9 at S9 M9 ⊢
  clear hm0 hmb bl9 hmm
  go_wp2
  go_loopg [40, 10] n2 (fun kk si sa wr => ∃ (i cm : Nat) (H : ByteArray → Option Int) (f g : Nat → Nat → Int) (Aa : Int), i ≤ n2 ∧ Hid (kk = n2 - i) ∧ si = .int .i64 (i : Int) ∧ sa = .int .i64 Aa ∧ Hid (S2 w wr N M f g) ∧ Hid (Mp.MapS Try.prog 9 wr mb cm (liftH H)) ∧ Hid (cm ≤ i) ∧ Hid (OvI H f N.P N.k g Aa i))
  case atStart => exact ⟨0, 0, _, _, _, 0, by omega, Lib.hid rfl, rfl, rfl, S9, M9, Lib.hid (by omega), Lib.hid ⟨(fun s x h => (by cases h)), (fun _ _ => Int.le_refl _), (by omega), rfl⟩⟩
  case round =>
    obtain ⟨i, cm, H, f, g, Aa, hi, HKK, rfl, rfl, HS, HM, HC, HV⟩ := hrel
    by_cases hin : i < n2
    · have hl2 := HR2.out.len
      obtain ⟨b, off, rfl, hbl, hc⟩ := (HR2.out.below HS.out.bl).at_ (by omega)
      obtain ⟨⟨ky, v⟩, ha⟩ : ∃ a, L[i]? = some a := ⟨_, List.getElem?_eq_getElem (by omega)⟩
      have hoka := HO.out _ (List.mem_of_getElem? ha)
      have kr0 : wr.cell? ⟨b, off + i * 2, none⟩ = some (.string ky) := hc i _ ha 0 (by omega)
      have kr1 : wr.cell? ⟨b, off + i * 2 + 1, none⟩ = some (.int .i64 v) := hc i _ ha 1 (by omega)
      unfold okSI at hoka
      simp only at hoka
      obtain ⟨hky, hv⟩ := hoka
      obtain ⟨x1, x2, ex1, kr, kw, ex2, bl2, kc2⟩ := box2 wr 35 (.string ⟨#[]⟩) (.int .i64 0) (.string ky) (.int .i64 v)
      have S6 := Lib.hid (HS.out.keep bl2)
      have M6 := Lib.hid (HM.out.keep bl2)
      obtain ⟨cs, hcs⟩ : ∃ cs, cs = v % 65536 := ⟨_, rfl⟩
      have hcs2 : 0 ≤ cs ∧ cs ≤ 65535 := by omega
      have ev : bits BinOp.and IntKind.i64 v 65535 = cs := by rw [i64_mask16, hcs]
      have CA := Lib.hid (sadd_any ky hky cs (by omega) x2 S6.out.a)
      obtain ⟨bx, hbx⟩ : ∃ bx, bx = wr.heap.size := ⟨_, rfl⟩
      have HBX := Lib.hid (show (bx ≠ N.g ∧ bx ≠ M.g) ∧ bx ≠ mb from by have h1 := HS.out.a.lt2; have h2 := HS.out.b.lt2; have h3 := HM.out.lt; omega)
      rw [← hbx] at kc2
      have kc3 := kc2.rd
      have KC := Lib.hid kc2
      have t2 : (i : Int) < (n2 : Int) := by omega
      have HIN := Lib.hid hin
      have HCS := Lib.hid hcs2
      have HKY := Lib.hid hky
      have CB := Lib.hid (fun wx (h : SlAt wx M g) => sadd_any ky HKY.out cs (by have := HCS.out; omega) wx h)
      have HV2 := Lib.hid (HV.out.step HS.out.a.ok HS.out.b.ok (by rw [NK.out.1]; omega) (by omega) M.P ky (NK.out.2.2 ky) hcs2)
      have hd := (HV.out.getD HS.out.a.ok ky).1
      obtain ⟨f', hf'⟩ : ∃ f', f' = Sk.add f N.P N.k ky cs := ⟨_, rfl⟩
      obtain ⟨g', hg'⟩ : ∃ g', g' = Sk.add g M.P M.k ky cs := ⟨_, rfl⟩
      have hg2 := hg'
      rw [NK.out.2.1] at hg2
      rw [← hf'] at CA
      rw [← hg'] at CB
      rw [← hf', ← hg2] at HV2
      clear hl2 hc hbl ha bl2 kc2 hky hv hcs hf' hg' hg2
      go_upto_region 12 with (fail)
      rw [← hbx]
      clear kr kw ex1 kr0 kr1 ex2 hbx
      go_upto_region 14 with (go_at_call 17; ((with_reducible refine CA.out.mono ?_); rintro e y1 ⟨rfl, s1, f1⟩; have Y1 := Lib.hid (S6.out.opA s1 f1); have K1 := Lib.hid (KC.out.fr f1 (fun e => HBX.out.1.1 e)); have MY1 := Lib.hid (M6.out.fr f1 (fun e => HMB.out.1.2 e.symm)); clear s1 f1))
      clear kc3 ev
      have kc3 := K1.out.rd
      go_upto_region 15 with (go_at_call 17; ((with_reducible refine (CB.out _ Y1.out.b).mono ?_); rintro e y2 ⟨rfl, s1, f1⟩; have Y2 := Lib.hid (Y1.out.opB s1 f1); have K2 := Lib.hid (K1.out.fr f1 (fun e => HBX.out.1.2 e)); have MY2 := Lib.hid (MY1.out.fr f1 (fun e => HMB.out.2.1.2 e.symm)); clear s1 f1))
      clear kc3
      have kc3 := K2.out.rd
      have hlk := MY2.out.look Try.underlying9 Try.underlying47 (z := .int .i64 0) (by kernel_rfl) HKY.out
      rw [liftH_getD] at hlk
      obtain ⟨hg, hhg⟩ : ∃ hg, hg = (H ky).getD 0 := ⟨_, rfl⟩
      rw [← hhg] at hlk hd HV2
      have eh : IntKind.i64.wrap (hg + cs) = hg + cs := by rw [IntKind.wrap_i64]; have := HCS.out; omega
      obtain ⟨y3, hst, m3, f3⟩ := MY2.out.store Try.underlying9 Try.underlying47 (by have := HC.out; unfold maxLen; omega) HKY.out (.int .i64 (hg + cs))
      rw [liftH_put] at m3
      obtain ⟨cm', hcm'⟩ : ∃ cm', cm' = if (liftH H ky).isSome = true then cm else cm + 1 := ⟨_, rfl⟩
      rw [← hcm'] at m3
      have HCM := Lib.hid (show cm' ≤ i + 1 from by rw [hcm']; have := HC.out; split <;> omega)
      have M3 := Lib.hid m3
      have Y3 := Lib.hid (show S2 w y3 N M f' g' from ⟨Y2.out.a.fr f3 HMB.out.1.1 HMB.out.1.2, Y2.out.b.fr f3 HMB.out.2.1.1 HMB.out.2.1.2, Y2.out.lo, Y2.out.ap, Y2.out.bl.trans (f3.below Y2.out.bl.size (fun k hk => by have := HMB.out.2.2; omega))⟩)
      have hal := HV.out.al
      have eA : IntKind.i64.wrap (Aa + cs) = Aa + cs := by rw [IntKind.wrap_i64]; have := HCS.out; omega
      clear m3 f3 hcm' hhg hd hal
      go_upto_region 17 with (fail)
      clear hst hlk eh eA kc3
      obtain ⟨A', hA'⟩ : ∃ A', A' = Aa + cs := ⟨_, rfl⟩
      rw [← hA'] at HV2 ⊢
      clear hA'
      go_wp2_with (at_range; refine Mp.wpList_rangeS Try.underlying9 Try.underlying47 (by rfl) _ (by rfl) (by rfl) M3.out ?_; intro wr0 hr0 hb0 hs0; have R0 := Lib.hid hr0; have HB0 := Lib.hid hb0; clear hr0 hb0)
      go_frame
      obtain ⟨rr, hrr⟩ : ∃ rr, rr = y3.heap.size := ⟨_, rfl⟩
      rw [← hrr] at R0 ⊢
      have RR := Lib.hid (show (N.b ≠ rr ∧ N.g ≠ rr) ∧ (M.b ≠ rr ∧ M.g ≠ rr) ∧ w.heap.size ≤ rr from by
        have h1 := Y3.out.a.lt2
        have h2 := Y3.out.b.lt2
        have h3 := Y3.out.bl.size
        omega)
      clear hrr hs0
      go_loopg [] cm' (fun kq wq => ∃ left, Hid (Mp.RangeS Try.prog 9 wq mb rr cm' (liftH (putH H ky (hg + cs))) left kq) ∧ Hid (S2 w wq N M f' g'))
      case atStart => exact ⟨_, R0, Lib.hid (Y3.out.keep HB0.out)⟩
      case round =>
        obtain ⟨left, RS, SQ⟩ := hrel
        go_wp2_with (at_next; refine Mp.wpList_nextS Try.underlying9 (by rfl) _ (by rfl) (by rfl) RS.out ?_ ?_)
        · intro _ _
          (try go_frame)
          go_wp2
          go_roundg (n2 - (i + 1))
          case measure => have := HKK.out; have := HIN.out; omega
          case rel => exact ⟨i + 1, cm', _, f', g', A', HIN.out, Lib.hid rfl, by go_num, rfl, SQ, Lib.hid RS.out.map, HCM, HV2⟩
        · intro t u w4 nq hts hlf hMt hrs hlt hfr hsz hen
          obtain ⟨x, hHx, rfl⟩ := liftH_some hMt
          have HLT2 := Lib.hid hlt
          have RS2 := Lib.hid hrs
          have SQ2 := Lib.hid (show S2 w w4 N M f' g' from ⟨SQ.out.a.fr hfr RR.out.1.1 RR.out.1.2, SQ.out.b.fr hfr RR.out.2.1.1 RR.out.2.1.2, SQ.out.lo, SQ.out.ap, SQ.out.bl.trans (hfr.below SQ.out.bl.size (fun k hk => by have := RR.out.2.2; omega))⟩)
          have hx := HV2.out.has t x hHx
          have hup : Sk.leastR f' N.P t (N.k - 1) ≤ A' := by obtain ⟨j, _, he⟩ := Sk.leastR_is f' N.P t (N.k - 1); rw [he]; exact HV2.out.up _ _
          have CL1 := Lib.hid (fun wx (hb : Below w4.heap.size w4 wx) => sleast_any t hts wx (SQ2.out.a.keep hb))
          have CL2 := Lib.hid (fun wx (hb : Below w4.heap.size w4 wx) => sleast_any t hts wx (SQ2.out.b.keep hb))
          have e1 : Sk.leastR g' M.P t (M.k - 1) = A' := by
            rw [NK.out.2.1]
            show g' 0 (M.P 0 t) = A'
            rw [NK.out.2.2 t]; exact HV2.out.one
          rw [e1] at CL2
          obtain ⟨lv, hlv⟩ : ∃ lv, lv = Sk.leastR f' N.P t (N.k - 1) := ⟨_, rfl⟩
          rw [← hlv] at CL1 hx hup
          have u1 : decide (lv < x) = false := by rw [decide_eq_false_iff_not]; omega
          have u2 : decide (A' < lv) = false := by rw [decide_eq_false_iff_not]; omega
          clear hMt hrs hlt hfr hsz hlf hx hup e1 hlv hHx
          (try go_frame)
          go_wp2_with (go_at_call 19; first
            | ((with_reducible refine (CL1.out _ (Below.refl _ _)).mono ?_); rintro e w5 ⟨rfl, b5⟩; have B5 := Lib.hid b5; clear b5)
            | ((with_reducible refine (CL1.out _ B5.out).mono ?_); rintro e w6 ⟨rfl, b6⟩; have B6 := Lib.hid (B5.out.trans (b6.mono B5.out.size)); clear b6)
            | ((with_reducible refine (CL2.out _ B6.out).mono ?_); rintro e w7 ⟨rfl, b7⟩; have B7 := Lib.hid (B6.out.trans (b7.mono B6.out.size)); clear b7))
          go_roundg nq
          case measure => exact HLT2.out
          case rel => exact ⟨_, Lib.hid (RS2.out.keep B7.out), Lib.hid (SQ2.out.keep B7.out)⟩
    · have hie : i = n2 := by omega
      subst hie
      have CR2 := Lib.hid (CR1.out wr HS.out.bl)
      go_wp2_with (first
        | (go_at_call 17; ((with_reducible refine (sadd_nil _ _ _).mono ?_); rintro e y1 ⟨rfl, rfl⟩))
        | (go_at_call 16; ((with_reducible refine (sclear_nil _).mono ?_); rintro e y1 ⟨rfl, rfl⟩))
        | (go_at_call 19; ((with_reducible refine (sleast_nil _ _).mono ?_); rintro e y1 ⟨rfl, rfl⟩))
        | (go_at_call 18; ((with_reducible refine (scount_nil _ _ _).mono ?_); rintro e y1 ⟨rfl, rfl⟩))
        | (go_at_call 12; ((with_reducible refine CR2.out.mono ?_); rintro e y2 ⟨rfl, r2, b2⟩; have B2 := Lib.hid b2; clear r2 b2))
        | (go_at_call 11; first
          | ((with_reducible refine (snew_none _).mono ?_); rintro e y1 ⟨rfl, rfl⟩)
          | ((with_reducible refine (CN0.out _ _).mono ?_); rintro e y1 ⟨rfl, rfl⟩)))
      go_ret
      exact ⟨rfl, HS.out.bl.trans (B2.out.mono HS.out.bl.size)⟩
end Go.Proofs.Ytmdkokehomboaaa
