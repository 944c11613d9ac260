/- The law SlotAlone of layer 6 (slot), walked: the walk. -/
import Derived.Test.YtmdkokehomboaaaSlX
namespace Go.Proofs.Ytmdkokehomboaaa
set_option linter.unusedSimpArgs false
set_option linter.unusedVariables false
open Go.ChangeShapes Go.WideShapes Go.ChangeAt Go.RowKit
open Ar (inR)
set_option maxRecDepth 100000 in
set_option maxHeartbeats 8000000 in
theorem slalone_law (w : World) (A : Option Addr) (n c : Nat) (zs : List Int) (A2 : Option Addr) (n2 c2 : Nat) (L : List (ByteArray × Int)) (hr : RdI w .u64 A n c zs) (hr2 : RdL w A2 n2 c2 2 encSI L) (hok : ∀ a ∈ L, okSI a) :
    Calls Try.prog 5 #[.slice A n c, .slice A2 n2 c2] w fun e w' => e = .returned (.bool true) ∧ Below w.heap.size w w' := by
  have hmx := hr.max
  unfold maxLen at hmx
  have hcp := hr.cap
  have hmx2 := hr2.max
  unfold maxLen at hmx2
  have hcp2 := hr2.cap
  have HR := Lib.hid hr
  have HR2 := Lib.hid hr2
  have HO := Lib.hid hok
  have hmm := @run_makeMap Try.prog
  clear hr hr2 hok
  go_enter Try.func5, Try.ntmps5
  go_upto_region 3 with (go_at_call 9; ((refine (slfit_any _).mono ?_); rintro e w2 ⟨rfl, b2⟩; have T2 := Lib.hid b2; clear b2))
  have CLi := Lib.hid (light_any A2 n2 c2 L w2 (HR2.out.below T2.out) HO.out)
  by_cases hb1 : (60 : Int) < (n : Int)
  · have hund : undef = Value.tuple #[] := rfl
    clear CLi
    go_wp2
    go_ret
    exact ⟨rfl, T2.out⟩
  have hb1' : decide ((60 : Int) < (n : Int)) = false := by rw [decide_eq_false_iff_not]; exact hb1
  cases hlb : lightB L with
  | false =>
    rw [hlb] at CLi
    go_wp2_with (go_at_call 10; ((with_reducible refine CLi.out.mono ?_); rintro e w3 ⟨rfl, b3⟩; have T3 := Lib.hid (T2.out.trans (b3.mono T2.out.size)); clear b3))
    go_ret
    exact ⟨rfl, T3.out⟩
  | true =>
  rw [hlb] at CLi
  have hlen : L.length ≤ 100 := by unfold lightB at hlb; simp at hlb; exact hlb.1
  have hln := HR2.out.len
  have hb2 : (n2 : Int) ≤ 100 := by omega
  clear hlb hlen hln hb1
  go_upto_region 5 with (go_at_call 10; ((with_reducible refine CLi.out.mono ?_); rintro e w3 ⟨rfl, b3⟩; have T3 := Lib.hid (T2.out.trans (b3.mono T2.out.size)); clear b3))
  have CR := Lib.hid (show Calls Try.prog 12 #[.slice A n c, .int .i64 4] w3 _ from rows_any w3 A n c zs (HR.out.below T3.out) 4 (by omega))
  have CN := Lib.hid (fun wx (hr : RowsAt wx w3.heap.size 4 (rX zs) (rA zs) (rB zs)) => show Calls Try.prog 11 #[.slice (some ⟨w3.heap.size, 0, none⟩) 4 4, .int .i64 64] wx _ from snew_any 4 64 (by omega) (by omega) _ _ _ _ wx hr (rows_lt zs 4))
  go_upto_region 7 with (first
    | (go_at_call 12; ((with_reducible refine CR.out.mono ?_); rintro e w5 ⟨rfl, r5, b5⟩; have R5 := Lib.hid r5; have T5 := Lib.hid (T3.out.trans (b5.mono T3.out.size)); clear r5 b5))
    | (go_at_call 11; ((with_reducible refine (CN.out _ R5.out).mono ?_); rintro e w6 ⟨N, rfl, s6, n1, n2', n3, n4, n5, o1, o2, b6⟩; have S6 := Lib.hid (show SA w w6 N w3.heap.size (fun _ _ => 0) ∧ N.k = 4 ∧ N.W = 64 from ⟨⟨s6, by rw [n3, n4, n5]; exact R5.out.keep b6, ⟨Nat.le_trans T5.out.size o1, Nat.le_trans T5.out.size o2, T3.out.size, by have := R5.out.lt; omega⟩, T5.out.trans (b6.mono T5.out.size)⟩, n1, n2'⟩); clear s6 n1 n2' n3 n4 n5 o1 o2 b6)))
  clear CR CN CLi hb1'
  have NK := Lib.hid S6.out.2
  obtain ⟨b0, hb0⟩ : ∃ b0, b0 = w3.heap.size := ⟨_, rfl⟩
  rw [← hb0] at S6 ⊢
  clear hb0
  go_upto_region 8 with (fail)
  have hm0 : Mp.MapS Try.prog 9 (w6.alloc (.map #[] 0)) w6.heap.size 0 (liftH fun _ => none) := Mp.MapS.new (P := Try.prog) (k := 9) w6
  obtain ⟨mb, hmb⟩ : ∃ mb, mb = w6.heap.size := ⟨_, rfl⟩
  rw [← hmb] at hm0 ⊢
  have bl9 : Below w6.heap.size w6 (w6.alloc (.map #[] 0)) := (Below.refl _ _).alloc (Nat.le_refl _) _
  have S9 := Lib.hid (S6.out.1.keep bl9)
  have M9 := Lib.hid hm0
  have HMB := Lib.hid (show mb ≠ N.b ∧ mb ≠ N.g ∧ mb ≠ b0 ∧ w.heap.size ≤ mb from by
    have h1 := S6.out.1.lt
    have h3 := S6.out.1.bl.size
    omega)
  generalize w6.alloc (.map #[] 0) = w9 at S9 M9 ⊢
  clear hm0 hmb bl9 hmm
  go_wp2
  go_loopg [34] n2 (fun kk si wr => ∃ (i cm : Nat) (H : ByteArray → Option Int) (f : Nat → Nat → Int), i ≤ n2 ∧ Hid (kk = n2 - i) ∧ si = .int .i64 (i : Int) ∧ Hid (SA w wr N b0 f) ∧ Hid (Mp.MapS Try.prog 9 wr mb cm (liftH H)) ∧ Hid (cm ≤ i) ∧ Hid (AlI H f N.P N.k i))
  case atStart => exact ⟨0, 0, _, _, by omega, Lib.hid rfl, rfl, S9, M9, Lib.hid (by omega), Lib.hid ⟨(fun s x h => (by cases h)), (fun s x h => (by cases h)), (fun _ _ => Int.le_refl _), (fun _ _ _ => Int.le_refl _)⟩⟩
  case round =>
    obtain ⟨i, cm, H, f, hi, HKK, rfl, HS, HM, HC, HV⟩ := hrel
    by_cases hin : i < n2
    · as_aux_lemma =>
        have hl2 := HR2.out.len
        obtain ⟨b, off, rfl, hbl, hc⟩ := (HR2.out.below HS.out.bl).at_ (by omega)
        obtain ⟨⟨ky, v⟩, ha⟩ : ∃ a, L[i]? = some a := ⟨_, List.getElem?_eq_getElem (by omega)⟩
        have hoka := HO.out _ (List.mem_of_getElem? ha)
        have kr0 : wr.cell? ⟨b, off + i * 2, none⟩ = some (.string ky) := hc i _ ha 0 (by omega)
        have kr1 : wr.cell? ⟨b, off + i * 2 + 1, none⟩ = some (.int .i64 v) := hc i _ ha 1 (by omega)
        unfold okSI at hoka
        simp only at hoka
        obtain ⟨hky, hv⟩ := hoka
        obtain ⟨x1, x2, ex1, kr, kw, ex2, bl2, kc2⟩ := box2 wr 35 (.string ⟨#[]⟩) (.int .i64 0) (.string ky) (.int .i64 v)
        have S7 := Lib.hid (HS.out.keep bl2)
        have M6 := Lib.hid (HM.out.keep bl2)
        obtain ⟨cs, hcs⟩ : ∃ cs, cs = v % 65536 := ⟨_, rfl⟩
        have hcs2 : 0 ≤ cs ∧ cs ≤ 65535 := by omega
        have ev : bits BinOp.and IntKind.i64 v 65535 = cs := by rw [i64_mask16, hcs]
        have CA := Lib.hid (sadd_any ky hky cs (by omega) x2 S7.out.at_)
        obtain ⟨bx, hbx⟩ : ∃ bx, bx = wr.heap.size := ⟨_, rfl⟩
        have HBX := Lib.hid (show bx ≠ N.g ∧ bx ≠ mb from by have h1 := HS.out.lt; have h3 := HM.out.lt; omega)
        rw [← hbx] at kc2
        have kc3 := kc2.rd
        have KC := Lib.hid kc2
        have t2 : (i : Int) < (n2 : Int) := by omega
        have HIN := Lib.hid hin
        have HCS := Lib.hid hcs2
        have HKY := Lib.hid hky
        have HV2 := Lib.hid (HV.out.step HS.out.at_.ok (by rw [NK.out.1]; omega) (by omega) ky hky hcs2)
        have hd := (HV.out.getD HS.out.at_.ok ky).1
        obtain ⟨f', hf'⟩ : ∃ f', f' = Sk.add f N.P N.k ky cs := ⟨_, rfl⟩
        rw [← hf'] at CA HV2
        clear hl2 hc hbl ha bl2 kc2 hky hv hcs hf'
        go_upto_region 11 with (fail)
        rw [← hbx]
        clear kr kw ex1 kr0 kr1 ex2 hbx
        go_upto_region 12 with (go_at_call 17; ((with_reducible refine CA.out.mono ?_); rintro e y2 ⟨rfl, s1, f1⟩; have Y2 := Lib.hid (S7.out.op s1 f1); have K2 := Lib.hid (KC.out.fr f1 (fun e => HBX.out.1 e)); have MY2 := Lib.hid (M6.out.fr f1 (fun e => HMB.out.2.1 e)); clear s1 f1))
        clear kc3
        have kc3 := K2.out.rd
        have hlk := MY2.out.look Try.underlying9 Try.underlying47 (z := .int .i64 0) (by kernel_rfl) HKY.out
        rw [liftH_getD] at hlk
        obtain ⟨hg, hhg⟩ : ∃ hg, hg = (H ky).getD 0 := ⟨_, rfl⟩
        rw [← hhg] at hlk hd HV2
        have eh : IntKind.i64.wrap (hg + cs) = hg + cs := by rw [IntKind.wrap_i64]; have := HCS.out; omega
        obtain ⟨y3, hst, m3, f3⟩ := MY2.out.store Try.underlying9 Try.underlying47 (by have := HC.out; unfold maxLen; omega) HKY.out (.int .i64 (hg + cs))
        rw [liftH_put] at m3
        obtain ⟨cm', hcm'⟩ : ∃ cm', cm' = if (liftH H ky).isSome = true then cm else cm + 1 := ⟨_, rfl⟩
        rw [← hcm'] at m3
        have HCM := Lib.hid (show cm' ≤ i + 1 from by rw [hcm']; have := HC.out; split <;> omega)
        have M3 := Lib.hid m3
        have Y3 := Lib.hid (Y2.out.fr f3 (fun k hk => by have := HMB.out; omega))
        clear m3 f3 hcm' hhg hd
        go_wp2
        go_roundg (n2 - (i + 1))
        case measure => have := HKK.out; have := HIN.out; omega
        case rel => exact ⟨i + 1, cm', _, f', HIN.out, Lib.hid rfl, by go_num, Y3, M3, HCM, HV2⟩
    · have hie : i = n2 := by omega
      subst hie
      clear hin hi HKK
      obtain ⟨wz, hwz⟩ : ∃ wz, wz = wr := ⟨_, rfl⟩
      rw [← hwz] at HS HM ⊢
      clear hwz
      go_upto_region 14 with (fail)
      go_wp2_with (at_range; refine Mp.wpList_rangeS Try.underlying9 Try.underlying47 (by rfl) _ (by rfl) (by rfl) HM.out ?_; intro wr0 hr0 hb0 hs0; have R0 := Lib.hid hr0; have HB0 := Lib.hid hb0; clear hr0 hb0)
      go_frame
      obtain ⟨rr, hrr⟩ : ∃ rr, rr = wz.heap.size := ⟨_, rfl⟩
      rw [← hrr] at R0 ⊢
      have RR := Lib.hid (show rr ≠ N.b ∧ rr ≠ N.g ∧ rr ≠ b0 ∧ w.heap.size ≤ rr ∧ rr ≠ mb from by
        have h1 := HS.out.lt
        have h2 := HM.out.lt
        have h3 := HS.out.bl.size
        omega)
      clear hrr hs0
      go_loopg [] cm (fun kq wq => ∃ left, Hid (Mp.RangeS Try.prog 9 wq mb rr cm (liftH H) left kq) ∧ Hid (SA w wq N b0 f))
      case atStart => exact ⟨_, R0, Lib.hid (HS.out.keep HB0.out)⟩
      case round =>
        obtain ⟨left, RS, SQ⟩ := hrel
        go_wp2_with (at_next; refine Mp.wpList_nextS Try.underlying9 (by rfl) _ (by rfl) (by rfl) RS.out ?_ ?_)
        · intro _ _
          (try go_frame)
          go_wp2
          go_ret
          exact ⟨rfl, SQ.out.bl⟩
        · intro t u w4 nr hts hlf hMt hrs hlt hfr hsz hen
          obtain ⟨x, hHx, rfl⟩ := liftH_some hMt
          have HLT2 := Lib.hid hlt
          have RS2 := Lib.hid hrs
          have SQ2 := Lib.hid (SQ.out.fr hfr (fun k hk => by have := RR.out; omega))
          have HX := Lib.hid hHx
          have HTS := Lib.hid hts
          clear hMt hrs hlt hfr hsz hlf hHx hts
          (try go_frame)
          go_wp2
          clear hen
          go_loopg [63, 12] 4 (fun kk si sa wq => ∃ (r : Nat) (al : Bool), r ≤ 4 ∧ Hid (kk = 4 - r) ∧ si = .int .i64 (r : Int) ∧ sa = .bool al ∧ Hid (al = true → ∃ j, j < 4 ∧ aloneR H N.P j t) ∧ Hid (Mp.RangeS Try.prog 9 wq mb rr cm (liftH H) (fun x => left x && !decide (x = t)) nr) ∧ Hid (SA w wq N b0 f))
          case atStart => exact ⟨0, false, by omega, Lib.hid rfl, rfl, rfl, Lib.hid (fun h => (by cases h)), RS2, SQ2⟩
          case round =>
            obtain ⟨r, al, hr4, HK2, rfl, rfl, HAL, RS3, SQ3⟩ := hrel
            by_cases hr : r < 4
            · obtain ⟨kr0, kr1, kr2⟩ := SQ3.out.rows.cells hr
              obtain ⟨x1, x2, ex1, kr, kw, ex2, bl2, kc2⟩ := boxR wr 49 (.int .u64 0) (.int .u64 0) (.int .u64 0) (.int .u64 (N.X r : Int)) (.int .u64 (N.A r : Int)) (.int .u64 (N.B r : Int))
              have S4 := Lib.hid (SQ3.out.keep bl2)
              have RS4 := Lib.hid (RS3.out.keep bl2)
              obtain ⟨bx, hbx⟩ : ∃ bx, bx = wr.heap.size := ⟨_, rfl⟩
              rw [← hbx] at kc2
              have KC := Lib.hid kc2
              have t3 : (r : Int) < 4 := by omega
              have HRR := Lib.hid hr
              clear bl2 kc2 hr
              go_upto_region 22 with (fail)
              rw [← hbx]
              clear kr kw ex1 kr0 kr1 kr2 ex2 hbx
              go_wp2_with (at_range; refine Mp.wpList_rangeS Try.underlying9 Try.underlying47 (by rfl) _ (by rfl) (by rfl) RS4.out.map ?_; intro wr1 hr1 hb1 hs1; have R1 := Lib.hid hr1; have HB1 := Lib.hid hb1; clear hr1 hb1)
              go_frame
              obtain ⟨qq, hqq⟩ : ∃ qq, qq = x2.heap.size := ⟨_, rfl⟩
              rw [← hqq] at R1 ⊢
              have QQ := Lib.hid (show qq ≠ N.b ∧ qq ≠ N.g ∧ qq ≠ b0 ∧ w.heap.size ≤ qq ∧ qq ≠ mb ∧ qq ≠ rr ∧ qq ≠ bx from by
                have h1 := S4.out.lt
                have h2 := RS4.out.map.lt
                have h3 := S4.out.bl.size
                have h4 := ranges_lt RS4.out
                have h5 := lt_of_block KC.out
                omega)
              clear hqq hs1
              go_loopg [15] cm (fun kp so wp => ∃ (left2 : ByteArray → Bool) (ob : Bool), so = .bool ob ∧ Hid (ob = false → ∀ o x, H o = some x → left2 o = false → o ≠ t → N.P r o ≠ N.P r t) ∧ Hid (Mp.RangeS Try.prog 9 wp mb qq cm (liftH H) left2 kp) ∧ Hid (Mp.RangeS Try.prog 9 wp mb rr cm (liftH H) (fun x => left x && !decide (x = t)) nr) ∧ Hid (SA w wp N b0 f) ∧ Hid (Blk wp bx 49 #[.int .u64 (N.X r : Int), .int .u64 (N.A r : Int), .int .u64 (N.B r : Int)]))
              case atStart => exact ⟨_, false, rfl, Lib.hid (fun _ o x ho hl => by simp [liftH, ho] at hl), R1, Lib.hid (RS4.out.keep HB1.out), Lib.hid (S4.out.keep HB1.out), Lib.hid (KC.out.keep HB1.out)⟩
              case round =>
                obtain ⟨left2, ob, rfl, HOB, RI, RO, SI, KI⟩ := hrel
                go_wp2_with (at_next; refine Mp.wpList_nextS Try.underlying9 (by rfl) _ (by rfl) (by rfl) RI.out ?_ ?_)
                · intro _ hdone
                  have HAL2 := Lib.hid (show (al || !ob) = true → ∃ j, j < 4 ∧ aloneR H N.P j t from fun h => by
                    cases al with
                    | true => exact HAL.out rfl
                    | false =>
                      cases ob with
                      | true => simp at h
                      | false => exact ⟨r, HRR.out, fun o x ho hne => HOB.out rfl o x ho (hdone o (HV.out.sz o x ho)) hne⟩)
                  clear hdone
                  (try go_frame)
                  have hund : undef = Value.tuple #[] := rfl
                  cases al <;> cases ob
                  all_goals
                    go_wp2
                    go_roundg (4 - (r + 1))
                    case measure => have := HK2.out; have := HRR.out; omega
                    case rel => exact ⟨r + 1, _, HRR.out, Lib.hid rfl, by go_num, rfl, HAL2, RO, SI⟩
                · intro o v2 w5 np hos hlf2 hMo hrs2 hlt2 hfr2 hsz2 hen2
                  obtain ⟨xo, hHo, rfl⟩ := liftH_some hMo
                  have HLP := Lib.hid hlt2
                  have RI2 := Lib.hid hrs2
                  have RO2 := Lib.hid (RO.out.fr hfr2 (fun e => QQ.out.2.2.2.2.1 e.symm) (fun e => QQ.out.2.2.2.2.2.1 e.symm))
                  have SI2 := Lib.hid (SI.out.fr hfr2 (fun k hk => by have := QQ.out; omega))
                  have KI2 := Lib.hid (KI.out.fr hfr2 (fun e => QQ.out.2.2.2.2.2.2 e.symm))
                  have HOS := Lib.hid hos
                  clear hMo hrs2 hlt2 hfr2 hsz2 hlf2 hHo hos
                  (try go_frame)
                  go_upto_region 25 with (fail)
                  clear hen2
                  cases ob with
                  | true =>
                    have hund : undef = Value.tuple #[] := rfl
                    go_quiet (fail)
                    have BD := Lib.hid (show Below w5.heap.size w5 (w5.drewN nq) from below_draws (Below.refl _ _) nq)
                    generalize w5.drewN nq = w6 at BD ⊢
                    clear hund
                    go_wp2
                    go_roundg np
                    case measure => exact HLP.out
                    case rel => exact ⟨_, true, rfl, Lib.hid (fun h => (by cases h)), Lib.hid (RI2.out.keep BD.out), Lib.hid (RO2.out.keep BD.out), Lib.hid (SI2.out.keep BD.out), Lib.hid (KI2.out.keep BD.out)⟩
                  | false =>
                    by_cases hot : o = t
                    · have HOT := Lib.hid hot
                      subst hot
                      have hund : undef = Value.tuple #[] := rfl
                      go_quiet (fail)
                      have BD := Lib.hid (show Below w5.heap.size w5 (w5.drewN nq) from below_draws (Below.refl _ _) nq)
                      generalize w5.drewN nq = w6 at BD ⊢
                      clear hund
                      go_wp2
                      go_roundg np
                      case measure => exact HLP.out
                      case rel => exact ⟨_, false, rfl, Lib.hid (fun _ o2 x2 ho2 hl2 hne => by
                        simp only [Bool.and_eq_false_iff] at hl2
                        rcases hl2 with hl2 | hl2
                        · exact HOB.out (by trivial) o2 x2 ho2 hl2 hne
                        · simp at hl2; exact absurd hl2 hne), Lib.hid (RI2.out.keep BD.out), Lib.hid (RO2.out.keep BD.out), Lib.hid (SI2.out.keep BD.out), Lib.hid (KI2.out.keep BD.out)⟩
                    · have hne := str_neS hot
                      have HOT := Lib.hid hot
                      have hl := SI2.out.at_.lt r (by rw [NK.out.1]; exact HRR.out)
                      have CB1 := Lib.hid (fun wx => show Calls Try.prog 20 #[.agg #[.int .u64 (N.X r : Int), .int .u64 (N.A r : Int), .int .u64 (N.B r : Int)], .string o, .int .i64 64] wx (fun e w' => e = .returned (.int .i64 (N.P r o : Nat)) ∧ Below wx.heap.size wx w') from by
                        have := bucket_any (N.X r) (N.A r) (N.B r) hl.1 hl.2.1 hl.2.2 o HOS.out 64 (by omega) wx
                        unfold SlN.P; rw [NK.out.2]; exact this)
                      have CB2 := Lib.hid (fun wx => show Calls Try.prog 20 #[.agg #[.int .u64 (N.X r : Int), .int .u64 (N.A r : Int), .int .u64 (N.B r : Int)], .string t, .int .i64 64] wx (fun e w' => e = .returned (.int .i64 (N.P r t : Nat)) ∧ Below wx.heap.size wx w') from by
                        have := bucket_any (N.X r) (N.A r) (N.B r) hl.1 hl.2.1 hl.2.2 t HTS.out 64 (by omega) wx
                        unfold SlN.P; rw [NK.out.2]; exact this)
                      obtain ⟨p1, hp1⟩ : ∃ p, p = N.P r o := ⟨_, rfl⟩
                      obtain ⟨p2, hp2⟩ : ∃ p, p = N.P r t := ⟨_, rfl⟩
                      rw [← hp1] at CB1
                      rw [← hp2] at CB2
                      have HP := Lib.hid (And.intro hp1 hp2)
                      obtain ⟨pb, hpb⟩ : ∃ pb, pb = ((p1 : Int) == (p2 : Int)) := ⟨_, rfl⟩
                      have epb : ((p1 : Int) == (p2 : Int)) = pb := hpb.symm
                      have HPB := Lib.hid hpb
                      have SB := Lib.hid (fun wx (hb : Below w5.heap.size w5 wx) => show ∀ x, wx.cell? ⟨bx, x, none⟩ = (#[.int .u64 (N.X r : Int), .int .u64 (N.A r : Int), .int .u64 (N.B r : Int)] : Array Value)[x]? from (KI2.out.keep hb).rd)
                      have y2 : Below w5.heap.size w5 w5.drew := below_draws (Below.refl _ _) 1
                      have kS := SB.out _ y2
                      clear hot hl hp1 hp2 hpb
                      go_region_held3 (fun wx => ∀ x, wx.cell? ⟨bx, x, none⟩ = (#[.int .u64 (N.X r : Int), .int .u64 (N.A r : Int), .int .u64 (N.B r : Int)] : Array Value)[x]?) (first | assumption | exact SB.out _ y3 | exact SB.out _ y4)
                        (first
                          | (go_at_call 20; first
                            | ((with_reducible refine (CB1.out _).mono ?_); rintro e wa ⟨rfl, b1⟩; have y3 := y2.trans (b1.mono y2.size))
                            | ((with_reducible refine (CB2.out _).mono ?_); rintro e wb ⟨rfl, b2⟩; have y4 := y3.trans (b2.mono y3.size); have Y5 := Lib.hid y4)))
                      clear y2 y3 y4 b1 b2 kS CB1 CB2 SB
                      go_wp2
                      go_roundg np
                      case measure => exact HLP.out
                      case rel => exact ⟨_, pb, by first | rfl | (rw [← HPB.out]), Lib.hid (fun hpb o2 x2 ho2 hl2 hne => by
                        simp only [Bool.and_eq_false_iff] at hl2
                        rcases hl2 with hl2 | hl2
                        · exact HOB.out (by trivial) o2 x2 ho2 hl2 hne
                        · have e2 : o2 = o := by simpa using hl2
                          rw [HPB.out] at hpb
                          rw [e2, ← HP.out.1, ← HP.out.2]
                          intro e
                          rw [e] at hpb
                          simp at hpb), Lib.hid (RI2.out.keep Y5.out), Lib.hid (RO2.out.keep Y5.out), Lib.hid (SI2.out.keep Y5.out), Lib.hid (KI2.out.keep Y5.out)⟩
            · have hr44 : r = 4 := by omega
              have t3 : ¬ ((r : Int) < 4) := by omega
              clear hr hr44
              cases al with
              | false =>
                have hund : undef = Value.tuple #[] := rfl
                go_wp2
                go_roundg nr
                case measure => exact HLT2.out
                case rel => exact ⟨_, RS3, SQ3⟩
              | true =>
                have CL := Lib.hid (sleast_any t HTS.out wr SQ3.out.at_)
                obtain ⟨j, hj, hja⟩ := HAL.out rfl
                rw [HV.out.told HX.out (by rw [NK.out.1]; exact hj) hja] at CL
                clear hja hj
                go_wp2_with (go_at_call 19; ((with_reducible refine CL.out.mono ?_); rintro e w5 ⟨rfl, b5⟩; have B5 := Lib.hid b5; clear b5))
                go_roundg nr
                case measure => exact HLT2.out
                case rel => exact ⟨_, Lib.hid (RS3.out.keep B5.out), Lib.hid (SQ3.out.keep B5.out)⟩
end Go.Proofs.Ytmdkokehomboaaa
