/- The law AuditTurned of layer 20 (audit), walked. -/
import Derived.Test.YteeinckmmbdfoaaAuH
namespace Go.Proofs.Yteeinckmmbdfoaa
set_option linter.unusedSimpArgs false
set_option linter.unusedVariables false
set_option maxRecDepth 100000
open Go.ChangeShapes Go.WideShapes Go.ChangeAt Go.RowKit Go.Maps
open Ar (inR)
/-- two ledgers of the law's own, each with blocks of its own. -/
structure LD (W w : World) (B : Nat) (b m n : Nat) (V : VM) (G : GM) (b' m' n' : Nat) (V' : VM) (G' : GM) : Prop where
  la : LL W w (fun g => B ≤ g) b m n V G
  lb : LL W w (fun g => B ≤ g) b' m' n' V' G'
  ap : ∀ g, LedAll b m V g → ¬ LedAll b' m' V' g
section
variable {W w w' : World} {B b m n b' m' n' k : Nat} {V V' V1 : VM} {G G' G1 : GM}
theorem LD.keep (h : LD W w B b m n V G b' m' n' V' G') (hb : Below w.heap.size w w') : LD W w' B b m n V G b' m' n' V' G' := ⟨h.la.keep hb, h.lb.keep hb, h.ap⟩
theorem LD.opA (h : LD W w B b m n V G b' m' n' V' G') (hB : W.heap.size ≤ B ∧ B ≤ w.heap.size) (h1 : LedAt w' b m k V1 G1) (f : Fr (LedAll b m V) w w') (hg : ∀ g, LedAll b m V1 g → LedAll b m V g ∨ w.heap.size ≤ g) : LD W w' B b m k V1 G1 b' m' n' V' G' :=
  ⟨h.la.op h1 f hg (fun g q => Nat.le_trans hB.2 q) (fun g q => Nat.le_trans hB.1 q), h.lb.far f (fun g q => h.ap g q) (fun g q => Nat.le_trans hB.1 (h.la.lo g q)), fun g q r => by
    rcases hg g q with s | s
    · exact h.ap g s r
    · have := h.lb.at_.lt g r; omega⟩
theorem LD.swap (h : LD W w B b m n V G b' m' n' V' G') : LD W w B b' m' n' V' G' b m n V G := ⟨h.lb, h.la, fun g q r => h.ap g r q⟩
theorem LD.fr (h : LD W w B b m n V G b' m' n' V' G') : ∀ g, LedAll b m V g → B ≤ g := h.la.lo
end
theorem rev_at {T : List TE} {n i : Nat} (hn : T.length = n) (hi : i < n) : T.reverse[i]? = T[n - 1 - i]? := by
  rw [List.getElem?_reverse (by omega), hn]
theorem who_neq (r : Int) (s : ByteArray) (w : World) : (binOp .neq 31 (.agg #[.int .i64 r, .string s]) (.agg #[.int .i64 r, .string s])).run Try.prog w = .ok (.bool false) w := by
  have h := who_equal r r s s w
  simp only [and_self, decide_true] at h
  simp only [binOp]
  simp [Op.equal, Op.maxDepth, h]
set_option maxHeartbeats 16000000 in
theorem auditturned_law (w : World) (A : Option Addr) (n c : Nat) (L : List Ent) (a1 : Int) (hr : RdL w A n c 4 encEn L) (hok : ∀ e ∈ L, okEn e) (h1 : inR a1) :
    Calls Try.prog 6 #[.slice A n c, .int .i64 a1] w fun e w' => e = .returned (.bool true) ∧ Below w.heap.size w w' := by
  have hmx := hr.max
  unfold maxLen at hmx
  have hcp := hr.cap
  have HR := Lib.hid hr
  have HO := Lib.hid hok
  clear hr hok h1
  go_enter Try.func6, Try.ntmps6
  go_upto_region 3 with (go_at_call 7; ((with_reducible refine (lfit_any _).mono ?_); rintro e w1 ⟨rfl, b1⟩; have B1 := Lib.hid b1; clear b1))
  by_cases hn80 : 80 < n
  · have t80 : decide ((80 : Int) < (n : Int)) = true := by rw [decide_eq_true_iff]; omega
    clear hn80
    go_wp2
    go_ret
    exact ⟨rfl, B1.out⟩
  have t80 : decide ((80 : Int) < (n : Int)) = false := by rw [decide_eq_false_iff_not]; omega
  have HN := Lib.hid (show n ≤ 80 by omega)
  have CT := Lib.hid (tame_any A n c L w1 (HR.out.below B1.out) HO.out (by omega))
  clear hn80
  obtain ⟨len, hlen⟩ : ∃ z, z = a1 % 256 := ⟨_, rfl⟩
  have e1 : bits .and .i64 a1 255 = len := by rw [hlen]; exact i64_mask8 _
  have hlb : 0 ≤ len ∧ len ≤ 255 := by omega
  clear hlen
  go_upto_region 7 with (go_at_call 8; ((with_reducible refine CT.out.mono ?_); rintro e w2 ⟨v, rfl, ov, b2⟩; have OV := Lib.hid ov; have B2 := Lib.hid (auB B1.out b2); clear ov b2))
  obtain ⟨T, hT⟩ : ∃ z, z = L.map tameE := ⟨_, rfl⟩
  have HT := Lib.hid (show OwT w2 w1.heap.size v T ∧ T.length = n ∧ okT T from by rw [hT]; exact ⟨OV.out, by rw [List.length_map]; exact HR.out.len, okT_tame L⟩)
  obtain ⟨A2, c2, hv, hcc, hcm, hAg⟩ := HT.out.1.slice
  rw [HT.out.2.1] at hv hcc
  have HTS := Lib.hid (show OwT w2 w1.heap.size (.slice A2 n c2) T from by rw [← hv]; exact HT.out.1)
  rw [hv]
  unfold maxLen at hcm
  have hnb : (n : Int) ≤ 80 := by have := HN.out; omega
  have HWB := Lib.hid (show w.heap.size ≤ w2.heap.size from B2.out.size)
  clear e1 hT hv hAg CT OV
  go_wp2_with (fail)
  refine (lednew_any _).mono ?_
  rintro e w3 ⟨rfl, l3, b3⟩
  have L3 := Lib.hid l3
  have B3 := Lib.hid b3
  clear l3 b3
  go_wp2_with (fail)
  refine (lednew_any _).mono ?_
  rintro e w4 ⟨rfl, l4, b4⟩
  obtain ⟨ba, hba⟩ : ∃ z, z = w2.heap.size + 1 := ⟨_, rfl⟩
  obtain ⟨ma, hma⟩ : ∃ z, z = w2.heap.size := ⟨_, rfl⟩
  obtain ⟨bb, hbb⟩ : ∃ z, z = w3.heap.size + 1 := ⟨_, rfl⟩
  obtain ⟨mb, hmb⟩ : ∃ z, z = w3.heap.size := ⟨_, rfl⟩
  have LD4 := Lib.hid (show LD w w4 w2.heap.size ba ma 0 (fun _ => none) (fun _ => []) bb mb 0 (fun _ => none) (fun _ => []) from by
    have h3 : LedAt w3 ba ma 0 (fun _ => none) (fun _ => []) := by rw [hba, hma]; exact L3.out
    have h4 : LedAt w4 bb mb 0 (fun _ => none) (fun _ => []) := by rw [hbb, hmb]; exact l4
    have hs := B3.out.size
    have hlo : ∀ g, LedAll ba ma (fun _ => none) g → w2.heap.size ≤ g ∧ g < w3.heap.size := fun g hg => by
      have h5 := h3.lt g hg
      rcases hg with e | e | ⟨k, v, hv, _⟩
      · omega
      · omega
      · cases hv
    have hlb : ∀ g, LedAll bb mb (fun _ => none) g → w3.heap.size ≤ g := fun g hg => by
      rcases hg with e | e | ⟨k, v, hv, _⟩
      · omega
      · omega
      · cases hv
    exact ⟨⟨h3.keep b4, fun g hg => (hlo g hg).1, auB (auB B2.out B3.out) b4⟩, ⟨h4, fun g hg => Nat.le_trans hs (hlb g hg), auB (auB B2.out B3.out) b4⟩, fun g q r => by have h5 := (hlo g q).2; have h6 := hlb g r; omega⟩)
  have B24 := Lib.hid (auB B3.out b4)
  rw [← hba, ← hbb]
  clear hba hma hbb hmb L3 B3 l4 b4
  go_wp2
  go_loopg [27] n (fun kk si wq => ∃ (i ca cb : Nat) (Va Vb : VM) (Ga Gb : GM), i ≤ n ∧ Hid (kk = n - i) ∧ si = .int .i64 (i : Int) ∧ Hid (LD w wq w2.heap.size ba ma ca Va Ga bb mb cb Vb Gb) ∧ Hid (Hld Va Ga ca (T.take i) ∧ Hld Vb Gb cb (T.reverse.take i)) ∧ Hid (Below w2.heap.size w2 wq))
  case atStart => exact ⟨0, 0, 0, _, _, _, _, Nat.zero_le _, Lib.hid rfl, rfl, LD4, Lib.hid ⟨by rw [List.take_zero]; exact Hld.nil, by rw [List.take_zero]; exact Hld.nil⟩, B24⟩
  case round =>
    obtain ⟨i, ca, cb, Va, Vb, Ga, Gb, hi, HK, rfl, HL, HH, BQ⟩ := hrel
    by_cases hin : i < n
    · obtain ⟨⟨kw, ea, ec⟩, ha⟩ : ∃ a, T[i]? = some a := ⟨_, List.getElem?_eq_getElem (by have := HT.out.2.1; omega)⟩
      obtain ⟨⟨ku, fa, fc⟩, hu⟩ : ∃ a, T[n - 1 - i]? = some a := ⟨_, List.getElem?_eq_getElem (by have := HT.out.2.1; omega)⟩
      have HTL := Lib.hid (show T.take (i + 1) = T.take i ++ [⟨kw, ea, ec⟩] ∧ T.reverse.take (i + 1) = T.reverse.take i ++ [⟨ku, fa, fc⟩] from ⟨by rw [List.take_add_one, ha]; rfl, by rw [List.take_add_one, rev_at HT.out.2.1 hin, hu]; rfl⟩)
      obtain ⟨g, rfl, q0, q1, q2, q3⟩ := HTS.out.cells HT.out.2.1.symm ha BQ.out
      dsimp only at q0 q1 q2 q3
      obtain ⟨w5, hw5, k5, b5, s5⟩ := box_new wr #[.int .i64 kw.r, .string kw.s, .int .i64 ea, .int .i64 ec] 29
      have LD5 := Lib.hid (HL.out.keep b5)
      have BQ5 := Lib.hid (auB BQ.out b5)
      have k5r := k5.rd
      have hi80 : i < 80 := by have := HN.out; omega
      have CA := Lib.hid (ledadd_any kw ea ec w5 LD5.out.la.at_ (by have := HH.out.1.c; rw [List.length_take] at this; omega) (by have := HH.out.1.len kw; rw [List.length_take] at this; omega))
      have HIN := Lib.hid hin
      have HU := Lib.hid hu
      obtain ⟨jn, hjn⟩ : ∃ z, z = n - 1 - i := ⟨_, rfl⟩
      have ej : (n : Int) - 1 - (i : Int) = (jn : Int) := by omega
      have ej0 : (n : Int) - 1 = ((n - 1 : Nat) : Int) := by omega
      have HJN := Lib.hid hjn
      have hjlt : (jn : Int) < (n : Int) := by omega
      clear ha hin k5 b5 s5 hcm hu hjn ej0
      go_upto_region 12 with (go_at_call 10; ((with_reducible refine CA.out.mono ?_); rintro e w6 ⟨rfl, v6, h6, f6, g6⟩; have LD6 := Lib.hid (LD5.out.opA ⟨HWB.out, BQ5.out.size⟩ h6 f6 g6); have BQ6 := Lib.hid (BQ5.out.trans (f6.below BQ5.out.size (fun g hg => LD5.out.la.lo g hg))); clear h6 f6 g6))
      clear q0 q1 q2 q3 hw5 k5r CA
      obtain ⟨g2, hg2, q0, q1, q2, q3⟩ := HTS.out.cells HT.out.2.1.symm HU.out BQ6.out
      injection hg2 with hg2
      injection hg2 with hg2
      subst hg2
      rw [← HJN.out] at q0 q1 q2 q3
      dsimp only at q0 q1 q2 q3
      obtain ⟨w7, hw7, k7, b7, s7⟩ := box_new w6 #[.int .i64 ku.r, .string ku.s, .int .i64 fa, .int .i64 fc] 29
      have LD7 := Lib.hid (LD6.out.keep b7)
      have BQ7 := Lib.hid (auB BQ6.out b7)
      have k7r := k7.rd
      have CB := Lib.hid (ledadd_any ku fa fc w7 LD7.out.lb.at_ (by have := HH.out.2.c; rw [List.length_take] at this; omega) (by have := HH.out.2.len ku; rw [List.length_take] at this; omega))
      clear k7 b7 s7
      go_wp2_with (go_at_call 10; ((with_reducible refine CB.out.mono ?_); rintro e w8 ⟨rfl, v8, h8, f8, g8⟩; have LD8 := Lib.hid (LD7.out.swap.opA ⟨HWB.out, BQ7.out.size⟩ h8 f8 g8).swap; have BQ8 := Lib.hid (BQ7.out.trans (f8.below BQ7.out.size (fun g hg => LD7.out.lb.lo g hg))); clear h8 f8 g8))
      go_roundg (n - (i + 1))
      case measure => have := HK.out; have := HIN.out; omega
      case rel => exact ⟨i + 1, _, _, _, _, _, _, HIN.out, Lib.hid rfl, by go_num, LD8, Lib.hid ⟨by rw [HTL.out.1]; exact HH.out.1.add ⟨kw, ea, ec⟩ v6, by rw [HTL.out.2]; exact HH.out.2.add ⟨ku, fa, fc⟩ v8⟩, BQ8⟩
    · have hie : i = n := by omega
      have hfull : T.take i = T := List.take_of_length_le (by rw [HT.out.2.1]; omega)
      have hfullr : T.reverse.take i = T.reverse := List.take_of_length_le (by rw [List.length_reverse, HT.out.2.1]; omega)
      have HHF := Lib.hid (show Hld Va Ga ca T ∧ Hld Vb Gb cb T.reverse from ⟨by have := HH.out.1; rw [hfull] at this; exact this, by have := HH.out.2; rw [hfullr] at this; exact this⟩)
      have hix : ¬ (i : Int) < (n : Int) := by omega
      have CA := Lib.hid (fun wx (h : Below wr.heap.size wr wx) => ledall_any wx (HL.out.keep h).la.at_ (by have h1 := HHF.out.1.c; have h2 := HN.out; have h3 := HT.out.2.1; omega))
      have CB := Lib.hid (fun wx (h : Below wr.heap.size wr wx) => ledall_any wx (HL.out.keep h).lb.at_ (by have h1 := HHF.out.2.c; have h2 := HN.out; have h3 := HT.out.2.1; rw [List.length_reverse] at h1; omega))
      clear hfull hfullr hie HH
      go_wp2_with (fail)
      refine (CA.out wr (Below.refl _ _)).mono ?_
      rintro e y1 ⟨va, La, rfl, oa, sa, ma', c1⟩
      have OA := Lib.hid oa
      have SA := Lib.hid (And.intro sa ma')
      have C1 := Lib.hid c1
      clear oa sa ma' c1
      go_wp2_with (fail)
      refine (CB.out y1 C1.out).mono ?_
      rintro e y2 ⟨vb, Lb, rfl, ob, sb, mb', c2'⟩
      have hLe : Lb = La := rising_eq sb SA.out.1 (fun k => by
        rw [mb', SA.out.2, HHF.out.1.v, HHF.out.2.v]
        constructor
        · rintro ⟨e, h1, h2⟩; exact ⟨e, List.mem_reverse.1 h1, h2⟩
        · rintro ⟨e, h1, h2⟩; exact ⟨e, List.mem_reverse.2 h1, h2⟩)
      subst hLe
      have OB := Lib.hid ob
      have C2 := Lib.hid c2'
      have C12 := Lib.hid (auB C1.out c2')
      clear ob sb mb' c2'
      obtain ⟨Aa, ca2, hva, hcca, hcma, hAga⟩ := OA.out.slice
      obtain ⟨Ab, cb2, hvb, hccb, hcmb, hAgb⟩ := OB.out.slice
      obtain ⟨nl, hnl⟩ : ∃ z, z = Lb.length := ⟨_, rfl⟩
      rw [← hnl] at hva hvb
      have OA2 := Lib.hid (show OwR y1 wr.heap.size 31 2 encW (.slice Aa nl ca2) Lb from by rw [← hva]; exact OA.out)
      have OB2 := Lib.hid (show OwR y2 y1.heap.size 31 2 encW (.slice Ab nl cb2) Lb from by rw [← hvb]; exact OB.out)
      rw [hva, hvb]
      have HNL := Lib.hid hnl
      have hnlb : (nl : Int) ≤ 9223372036854775807 := by unfold maxLen at hcma; omega
      have u1 : ((nl : Int) != (nl : Int)) = false := by simp
      have HLZ := Lib.hid (HL.out.keep C12.out)
      have HOR := Lib.hid (show okT T.reverse from fun e he => HT.out.2.2 e (List.mem_reverse.1 he))
      clear hva hvb hcca hcma hAga hccb hcmb hAgb hnl OA OB hix
      go_wp2
      clear u1
      go_loopg [74] nl (fun kk si wq => ∃ i : Nat, i ≤ nl ∧ Hid (kk = nl - i) ∧ si = .int .i64 (i : Int) ∧ Hid (Below y2.heap.size y2 wq))
      case atStart => exact ⟨0, Nat.zero_le _, Lib.hid rfl, rfl, Lib.hid (Below.refl _ _)⟩
      case round =>
        obtain ⟨i, hi, HKI, rfl, HBZ⟩ := hrel
        by_cases hin : i < nl
        · obtain ⟨kw, hk⟩ : ∃ a, Lb[i]? = some a := ⟨_, List.getElem?_eq_getElem (by rw [← HNL.out]; exact hin)⟩
          obtain ⟨ga, rfl, p0, p1⟩ := OwW.cells OA2.out HNL.out hk (C2.out.trans (HBZ.out.mono C2.out.size))
          obtain ⟨gb, hgb, q0, q1⟩ := OwW.cells OB2.out HNL.out hk HBZ.out
          subst hgb
          obtain ⟨w9, hw9, k9, b9, s9⟩ := box_new wr #[.int .i64 kw.r, .string kw.s] 31
          obtain ⟨bx, hbx⟩ : ∃ z, z = wr.heap.size := ⟨_, rfl⟩
          have HBX := Lib.hid hbx
          have hgl : gb < wr.heap.size := Nat.lt_of_lt_of_le (OB2.out.lt gb rfl) HBZ.out.size
          have LD9 := Lib.hid (HLZ.out.keep (auB HBZ.out b9))
          have BZ9 := Lib.hid (auB HBZ.out b9)
          have SB := Lib.hid (fun wx (h : Below w9.heap.size w9 wx) => show (∀ j, wx.cell? ⟨bx, j, none⟩ = (#[.int .i64 kw.r, .string kw.s] : Array Value)[j]?) ∧ wx.cell? ⟨gb, i * 2, none⟩ = some (.int .i64 kw.r) ∧ wx.cell? ⟨gb, i * 2 + 1, none⟩ = some (.string kw.s) from by
            have hb := auB b9 h
            rw [hbx]
            exact ⟨(Blk.keep k9 h).rd, (hb.cell (p := ⟨gb, i * 2, none⟩) hgl).trans q0, (hb.cell (p := ⟨gb, i * 2 + 1, none⟩) hgl).trans q1⟩)
          have HIN := Lib.hid hin
          have hji : (i : Int) < (nl : Int) := by omega
          have hib : (i : Int) ≤ 9223372036854775806 := by omega
          have CM1 := Lib.hid (fun wx (h : Below w9.heap.size w9 wx) => ledmost_len kw len ⟨hlb.1, by omega⟩ wx (LD9.out.keep h).la.at_ (HHF.out.1.costs HT.out.2.2 kw) (by have h1 := HHF.out.1.len kw; have h2 := HN.out; have h3 := HT.out.2.1; omega))
          have CM2 := Lib.hid (fun wx (h : Below w9.heap.size w9 wx) => ledmost_len kw len ⟨hlb.1, by omega⟩ wx (LD9.out.keep h).lb.at_ (HHF.out.2.costs HOR.out kw) (by have h1 := HHF.out.2.len kw; have h2 := HN.out; have h3 := HT.out.2.1; rw [List.length_reverse] at h1; omega))
          have CS1 := Lib.hid (fun wx (h : Below w9.heap.size w9 wx) => ledsum_any kw 10 300 wx (LD9.out.keep h).la.at_ (HHF.out.1.costs HT.out.2.2 kw) (by have h1 := HHF.out.1.len kw; have h2 := HN.out; have h3 := HT.out.2.1; omega))
          have CS2 := Lib.hid (fun wx (h : Below w9.heap.size w9 wx) => ledsum_any kw 10 300 wx (LD9.out.keep h).lb.at_ (HHF.out.2.costs HOR.out kw) (by have h1 := HHF.out.2.len kw; have h2 := HN.out; have h3 := HT.out.2.1; rw [List.length_reverse] at h1; omega))
          have HEQ := Lib.hid (show (∀ f t, sumIn f t (Ga kw) = sumIn f t (Gb kw)) from fun f t => by rw [HHF.out.1.g, HHF.out.2.g]; exact sumIn_prs (List.reverse_perm T).symm f t)
          have hne := fun (w : World) => who_neq kw.r kw.s w
          clear hk hin q0 q1 k9 b9 s9 hgl hbx
          go_upto_region 21 with (fail)
          rw [← HBX.out]
          clear p0 p1 hw9
          have D0 := Lib.hid (show Below w9.heap.size w9 w9.drew from below_draws (Below.refl _ _) 1)
          have st := SB.out _ D0.out
          refine wp_region_held_drew (S := fun wx => (∀ j, wx.cell? ⟨bx, j, none⟩ = (#[.int .i64 kw.r, .string kw.s] : Array Value)[j]?) ∧ wx.cell? ⟨gb, i * 2, none⟩ = some (.int .i64 kw.r) ∧ wx.cell? ⟨gb, i * 2 + 1, none⟩ = some (.string kw.s)) (by kernel_rfl) st (fun hHeld => ?_)
          clear st
          refine wpAnyH_take (i := 0) (oi := ?_) (v := ?_) ?_ ?_ ?_ ?_ ?_ ?_ ?_ ?_
          rotate_left 2
          · simp only [List.getElem?_toArray, List.getElem?_cons_succ, List.getElem?_cons_zero]; rfl
          · kernel_rfl
          · kernel_rfl
          · kernel_rfl
          · exact fun _ _ _ h => h
          · refine Or.inl ⟨by rfl, ?_⟩
            intro w' hSw
            (try dsimp only at hSw)
            go_simp
            all_goals (with_reducible rfl)
          · assumption
          try simp only [Act.put, List.setIfInBounds_toArray, List.set_cons_zero, List.set_cons_succ]
          refine wpAnyH_take (i := 1) (oi := ?_) (v := ?_) ?_ ?_ ?_ ?_ ?_ ?_ ?_ ?_
          rotate_left 2
          · simp only [List.getElem?_toArray, List.getElem?_cons_succ, List.getElem?_cons_zero]; rfl
          · kernel_rfl
          · kernel_rfl
          · kernel_rfl
          · exact fun _ _ _ h => h
          · refine Or.inl ⟨by rfl, ?_⟩
            intro w' hSw
            (try dsimp only at hSw)
            go_simp
            all_goals (with_reducible rfl)
          · assumption
          try simp only [Act.put, List.setIfInBounds_toArray, List.set_cons_zero, List.set_cons_succ]
          refine wpAnyH_take (i := 2) (oi := ?_) (v := ?_) ?_ ?_ ?_ ?_ ?_ ?_ ?_ ?_
          rotate_left 2
          · simp only [List.getElem?_toArray, List.getElem?_cons_succ, List.getElem?_cons_zero]; rfl
          · kernel_rfl
          · kernel_rfl
          · kernel_rfl
          · exact fun _ _ _ h => h
          · refine Or.inl ⟨by rfl, ?_⟩
            intro w' hSw
            (try dsimp only at hSw)
            go_simp
            all_goals (with_reducible rfl)
          · assumption
          try simp only [Act.put, List.setIfInBounds_toArray, List.set_cons_zero, List.set_cons_succ]
          refine wpAnyH_take (i := 3) (oi := ?_) (v := ?_) ?_ ?_ ?_ ?_ ?_ ?_ ?_ ?_
          rotate_left 2
          · simp only [List.getElem?_toArray, List.getElem?_cons_succ, List.getElem?_cons_zero]; rfl
          · kernel_rfl
          · kernel_rfl
          · kernel_rfl
          · exact fun _ _ _ h => h
          · refine Or.inl ⟨by rfl, ?_⟩
            intro w' hSw
            (try dsimp only at hSw)
            go_simp
            all_goals (with_reducible rfl)
          · assumption
          try simp only [Act.put, List.setIfInBounds_toArray, List.set_cons_zero, List.set_cons_succ]
          refine wpAnyH_take (i := 4) (oi := ?_) (v := ?_) ?_ ?_ ?_ ?_ ?_ ?_ ?_ ?_
          rotate_left 2
          · simp only [List.getElem?_toArray, List.getElem?_cons_succ, List.getElem?_cons_zero]; rfl
          · kernel_rfl
          · kernel_rfl
          · kernel_rfl
          · exact fun _ _ _ h => h
          · refine Or.inl ⟨by rfl, ?_⟩
            intro w' hSw
            (try dsimp only at hSw)
            go_simp
            all_goals (with_reducible rfl)
          · assumption
          try simp only [Act.put, List.setIfInBounds_toArray, List.set_cons_zero, List.set_cons_succ]
          refine wpAnyH_take (i := 5) (oi := ?_) (v := ?_) ?_ ?_ ?_ ?_ ?_ ?_ ?_ ?_
          rotate_left 2
          · simp only [List.getElem?_toArray, List.getElem?_cons_succ, List.getElem?_cons_zero]; rfl
          · kernel_rfl
          · kernel_rfl
          · kernel_rfl
          · exact fun _ _ _ h => h
          · refine Or.inl ⟨by rfl, ?_⟩
            intro w' hSw
            (try dsimp only at hSw)
            go_simp
            all_goals (with_reducible rfl)
          · assumption
          try simp only [Act.put, List.setIfInBounds_toArray, List.set_cons_zero, List.set_cons_succ]
          refine wpAnyH_take (i := 6) (oi := ?_) (v := ?_) ?_ ?_ ?_ ?_ ?_ ?_ ?_ ?_
          rotate_left 2
          · simp only [List.getElem?_toArray, List.getElem?_cons_succ, List.getElem?_cons_zero]; rfl
          · kernel_rfl
          · kernel_rfl
          · kernel_rfl
          · exact fun _ _ _ h => h
          · refine Or.inl ⟨by rfl, ?_⟩
            intro w' hSw
            (try dsimp only at hSw)
            go_simp
            all_goals (with_reducible rfl)
          · assumption
          try simp only [Act.put, List.setIfInBounds_toArray, List.set_cons_zero, List.set_cons_succ]
          refine wpAnyH_take (i := 7) (oi := ?_) (v := ?_) ?_ ?_ ?_ ?_ ?_ ?_ ?_ ?_
          rotate_left 2
          · simp only [List.getElem?_toArray, List.getElem?_cons_succ, List.getElem?_cons_zero]; rfl
          · kernel_rfl
          · kernel_rfl
          · kernel_rfl
          · exact fun _ _ _ h => h
          · refine Or.inl ⟨by rfl, ?_⟩
            intro w' hSw
            (try dsimp only at hSw)
            go_simp
            all_goals (with_reducible rfl)
          · assumption
          try simp only [Act.put, List.setIfInBounds_toArray, List.set_cons_zero, List.set_cons_succ]
          refine wpAnyH_take (i := 8) (oi := ?_) (v := ?_) ?_ ?_ ?_ ?_ ?_ ?_ ?_ ?_
          rotate_left 2
          · simp only [List.getElem?_toArray, List.getElem?_cons_succ, List.getElem?_cons_zero]; rfl
          · kernel_rfl
          · kernel_rfl
          · kernel_rfl
          · exact fun _ _ _ h => h
          · refine Or.inl ⟨by rfl, ?_⟩
            intro w' hSw
            (try dsimp only at hSw)
            go_simp
            all_goals (with_reducible rfl)
          · assumption
          try simp only [Act.put, List.setIfInBounds_toArray, List.set_cons_zero, List.set_cons_succ]
          refine wpAnyH_take (i := 9) (oi := ?_) (v := ?_) ?_ ?_ ?_ ?_ ?_ ?_ ?_ ?_
          rotate_left 2
          · simp only [List.getElem?_toArray, List.getElem?_cons_succ, List.getElem?_cons_zero]; rfl
          · kernel_rfl
          · kernel_rfl
          · kernel_rfl
          · exact fun _ _ _ h => h
          · refine Or.inl ⟨by rfl, ?_⟩
            intro w' hSw
            (try dsimp only at hSw)
            go_simp
            all_goals (with_reducible rfl)
          · assumption
          try simp only [Act.put, List.setIfInBounds_toArray, List.set_cons_zero, List.set_cons_succ]
          refine wpAnyH_take (i := 11) (oi := ?_) (v := ?_) ?_ ?_ ?_ ?_ ?_ ?_ ?_ ?_
          rotate_left 2
          · simp only [List.getElem?_toArray, List.getElem?_cons_succ, List.getElem?_cons_zero]; rfl
          · kernel_rfl
          · kernel_rfl
          · kernel_rfl
          · exact fun _ _ _ h => h
          · refine Or.inl ⟨by rfl, ?_⟩
            intro w' hSw
            (try dsimp only at hSw)
            go_simp
            all_goals (with_reducible rfl)
          · assumption
          try simp only [Act.put, List.setIfInBounds_toArray, List.set_cons_zero, List.set_cons_succ]
          refine wpAnyH_take (i := 12) (oi := ?_) (v := ?_) ?_ ?_ ?_ ?_ ?_ ?_ ?_ ?_
          rotate_left 2
          · simp only [List.getElem?_toArray, List.getElem?_cons_succ, List.getElem?_cons_zero]; rfl
          · kernel_rfl
          · kernel_rfl
          · kernel_rfl
          · exact fun _ _ _ h => h
          · refine Or.inl ⟨by rfl, ?_⟩
            intro w' hSw
            (try dsimp only at hSw)
            go_simp
            all_goals (with_reducible rfl)
          · assumption
          try simp only [Act.put, List.setIfInBounds_toArray, List.set_cons_zero, List.set_cons_succ]
          refine wpAnyH_take (i := 13) (oi := ?_) (v := ?_) ?_ ?_ ?_ ?_ ?_ ?_ ?_ ?_
          rotate_left 2
          · simp only [List.getElem?_toArray, List.getElem?_cons_succ, List.getElem?_cons_zero]; rfl
          · kernel_rfl
          · kernel_rfl
          · kernel_rfl
          · exact fun _ _ _ h => h
          · refine Or.inl ⟨by rfl, ?_⟩
            intro w' hSw
            (try dsimp only at hSw)
            go_simp
            all_goals (with_reducible rfl)
          · assumption
          try simp only [Act.put, List.setIfInBounds_toArray, List.set_cons_zero, List.set_cons_succ]
          refine wpAnyH_ready (rs := [10]) (by kernel_rfl) (by simp) ?_
          refine AllReadyH.cons (o := ?_) ?_ ?_ ?_
          rotate_left 1
          · simp only [List.getElem?_toArray, List.getElem?_cons_succ, List.getElem?_cons_zero]; rfl
          rotate_left 1
          · exact AllReadyH.nil
          intro K hK
          go_simp
          refine (CM1.out _ D0.out).mono ?_; rintro e z1 ⟨v1, hv1, rfl, d1⟩; have V1 := Lib.hid hv1; have D1 := Lib.hid (auB D0.out d1); clear hv1 d1
          refine hK.out _ _ (SB.out _ D1.out) (fun hHeld => ?_)
          clear hK K
          try simp only [Act.put, List.setIfInBounds_toArray, List.set_cons_zero, List.set_cons_succ]
          refine wpAnyH_ready (rs := [14]) (by kernel_rfl) (by simp) ?_
          refine AllReadyH.cons (o := ?_) ?_ ?_ ?_
          rotate_left 1
          · simp only [List.getElem?_toArray, List.getElem?_cons_succ, List.getElem?_cons_zero]; rfl
          rotate_left 1
          · exact AllReadyH.nil
          intro K hK
          go_simp
          refine (CM2.out _ D1.out).mono ?_; rintro e z2 ⟨v2, hv2, rfl, d2⟩; have n12 : (v1 != v2) = false := (by simp [V1.out.eq hv2 HEQ.out]); have D2 := Lib.hid (auB D1.out d2); clear hv2 d2
          refine hK.out _ _ (SB.out _ D2.out) (fun hHeld => ?_)
          clear hK K
          try simp only [Act.put, List.setIfInBounds_toArray, List.set_cons_zero, List.set_cons_succ]
          refine wpAnyH_take (i := 15) (oi := ?_) (v := ?_) ?_ ?_ ?_ ?_ ?_ ?_ ?_ ?_
          rotate_left 2
          · simp only [List.getElem?_toArray, List.getElem?_cons_succ, List.getElem?_cons_zero]; rfl
          · kernel_rfl
          · kernel_rfl
          · kernel_rfl
          · exact fun _ _ _ h => h
          · refine Or.inl ⟨by rfl, ?_⟩
            intro w' hSw
            (try dsimp only at hSw)
            go_simp
            all_goals (with_reducible rfl)
          · assumption
          try simp only [Act.put, List.setIfInBounds_toArray, List.set_cons_zero, List.set_cons_succ]
          refine wpAnyH_take (i := 16) (oi := ?_) (v := ?_) ?_ ?_ ?_ ?_ ?_ ?_ ?_ ?_
          rotate_left 2
          · simp only [List.getElem?_toArray, List.getElem?_cons_succ, List.getElem?_cons_zero]; rfl
          · kernel_rfl
          · kernel_rfl
          · kernel_rfl
          · exact fun _ _ _ h => h
          · refine Or.inl ⟨by rfl, ?_⟩
            intro w' hSw
            (try dsimp only at hSw)
            go_simp
            all_goals (with_reducible rfl)
          · assumption
          try simp only [Act.put, List.setIfInBounds_toArray, List.set_cons_zero, List.set_cons_succ]
          refine wpAnyH_take (i := 17) (oi := ?_) (v := ?_) ?_ ?_ ?_ ?_ ?_ ?_ ?_ ?_
          rotate_left 2
          · simp only [List.getElem?_toArray, List.getElem?_cons_succ, List.getElem?_cons_zero]; rfl
          · kernel_rfl
          · kernel_rfl
          · kernel_rfl
          · exact fun _ _ _ h => h
          · refine Or.inl ⟨by rfl, ?_⟩
            intro w' hSw
            (try dsimp only at hSw)
            go_simp
            all_goals (with_reducible rfl)
          · assumption
          try simp only [Act.put, List.setIfInBounds_toArray, List.set_cons_zero, List.set_cons_succ]
          refine wpAnyH_take (i := 18) (oi := ?_) (v := ?_) ?_ ?_ ?_ ?_ ?_ ?_ ?_ ?_
          rotate_left 2
          · simp only [List.getElem?_toArray, List.getElem?_cons_succ, List.getElem?_cons_zero]; rfl
          · kernel_rfl
          · kernel_rfl
          · kernel_rfl
          · exact fun _ _ _ h => h
          · refine Or.inl ⟨by rfl, ?_⟩
            intro w' hSw
            (try dsimp only at hSw)
            go_simp
            all_goals (with_reducible rfl)
          · assumption
          try simp only [Act.put, List.setIfInBounds_toArray, List.set_cons_zero, List.set_cons_succ]
          refine wpAnyH_take (i := 19) (oi := ?_) (v := ?_) ?_ ?_ ?_ ?_ ?_ ?_ ?_ ?_
          rotate_left 2
          · simp only [List.getElem?_toArray, List.getElem?_cons_succ, List.getElem?_cons_zero]; rfl
          · kernel_rfl
          · kernel_rfl
          · kernel_rfl
          · exact fun _ _ _ h => h
          · refine Or.inl ⟨by rfl, ?_⟩
            intro w' hSw
            (try dsimp only at hSw)
            go_simp
            all_goals (with_reducible rfl)
          · assumption
          try simp only [Act.put, List.setIfInBounds_toArray, List.set_cons_zero, List.set_cons_succ]
          refine wpAnyH_take (i := 21) (oi := ?_) (v := ?_) ?_ ?_ ?_ ?_ ?_ ?_ ?_ ?_
          rotate_left 2
          · simp only [List.getElem?_toArray, List.getElem?_cons_succ, List.getElem?_cons_zero]; rfl
          · kernel_rfl
          · kernel_rfl
          · kernel_rfl
          · exact fun _ _ _ h => h
          · refine Or.inl ⟨by rfl, ?_⟩
            intro w' hSw
            (try dsimp only at hSw)
            go_simp
            all_goals (with_reducible rfl)
          · assumption
          try simp only [Act.put, List.setIfInBounds_toArray, List.set_cons_zero, List.set_cons_succ]
          refine wpAnyH_take (i := 22) (oi := ?_) (v := ?_) ?_ ?_ ?_ ?_ ?_ ?_ ?_ ?_
          rotate_left 2
          · simp only [List.getElem?_toArray, List.getElem?_cons_succ, List.getElem?_cons_zero]; rfl
          · kernel_rfl
          · kernel_rfl
          · kernel_rfl
          · exact fun _ _ _ h => h
          · refine Or.inl ⟨by rfl, ?_⟩
            intro w' hSw
            (try dsimp only at hSw)
            go_simp
            all_goals (with_reducible rfl)
          · assumption
          try simp only [Act.put, List.setIfInBounds_toArray, List.set_cons_zero, List.set_cons_succ]
          obtain ⟨t1, ht1⟩ : ∃ z, z = sumIn 10 300 (Ga kw) := ⟨_, rfl⟩
          obtain ⟨t2, ht2⟩ : ∃ z, z = sumIn 10 300 (Gb kw) := ⟨_, rfl⟩
          have n34 : (t1 != t2) = false := by rw [ht1, ht2, HEQ.out]; simp
          have CS1' := Lib.hid (fun wx (h : Below w9.heap.size w9 wx) => show Calls Try.prog 12 #[.pointer (some ⟨ba, 0, none⟩), .agg #[.int .i64 kw.r, .string kw.s], .int .i64 10, .int .i64 300] wx (fun e w' => e = .returned (.int .i64 t1) ∧ Below wx.heap.size wx w') from by rw [ht1]; exact CS1.out wx h)
          have CS2' := Lib.hid (fun wx (h : Below w9.heap.size w9 wx) => show Calls Try.prog 12 #[.pointer (some ⟨bb, 0, none⟩), .agg #[.int .i64 kw.r, .string kw.s], .int .i64 10, .int .i64 300] wx (fun e w' => e = .returned (.int .i64 t2) ∧ Below wx.heap.size wx w') from by rw [ht2]; exact CS2.out wx h)
          clear ht1 ht2
          refine wpAnyH_ready (rs := [20]) (by kernel_rfl) (by simp) ?_
          refine AllReadyH.cons (o := ?_) ?_ ?_ ?_
          rotate_left 1
          · simp only [List.getElem?_toArray, List.getElem?_cons_succ, List.getElem?_cons_zero]; rfl
          rotate_left 1
          · exact AllReadyH.nil
          intro K hK
          go_simp
          refine (CS1'.out _ D2.out).mono ?_; rintro e z3 ⟨rfl, d3⟩; have D3 := Lib.hid (auB D2.out d3); clear d3
          refine hK.out _ _ (SB.out _ D3.out) (fun hHeld => ?_)
          clear hK K
          try simp only [Act.put, List.setIfInBounds_toArray, List.set_cons_zero, List.set_cons_succ]
          refine wpAnyH_ready (rs := [23]) (by kernel_rfl) (by simp) ?_
          refine AllReadyH.cons (o := ?_) ?_ ?_ ?_
          rotate_left 1
          · simp only [List.getElem?_toArray, List.getElem?_cons_succ, List.getElem?_cons_zero]; rfl
          rotate_left 1
          · exact AllReadyH.nil
          intro K hK
          go_simp
          refine (CS2'.out _ D3.out).mono ?_; rintro e z4 ⟨rfl, d4⟩; have D4 := Lib.hid (auB D3.out d4); clear d4
          refine hK.out _ _ (SB.out _ D4.out) (fun hHeld => ?_)
          clear hK K
          try simp only [Act.put, List.setIfInBounds_toArray, List.set_cons_zero, List.set_cons_succ]
          refine wpAnyH_take (i := 24) (oi := ?_) (v := ?_) ?_ ?_ ?_ ?_ ?_ ?_ ?_ ?_
          rotate_left 2
          · simp only [List.getElem?_toArray, List.getElem?_cons_succ, List.getElem?_cons_zero]; rfl
          · kernel_rfl
          · kernel_rfl
          · kernel_rfl
          · exact fun _ _ _ h => h
          · refine Or.inl ⟨by rfl, ?_⟩
            intro w' hSw
            (try dsimp only at hSw)
            go_simp
            all_goals (with_reducible rfl)
          · assumption
          try simp only [Act.put, List.setIfInBounds_toArray, List.set_cons_zero, List.set_cons_succ]
          refine wpAnyH_take (i := 25) (oi := ?_) (v := ?_) ?_ ?_ ?_ ?_ ?_ ?_ ?_ ?_
          rotate_left 2
          · simp only [List.getElem?_toArray, List.getElem?_cons_succ, List.getElem?_cons_zero]; rfl
          · kernel_rfl
          · kernel_rfl
          · kernel_rfl
          · exact fun _ _ _ h => h
          · refine Or.inl ⟨by rfl, ?_⟩
            intro w' hSw
            (try dsimp only at hSw)
            go_simp
            all_goals (with_reducible rfl)
          · assumption
          try simp only [Act.put, List.setIfInBounds_toArray, List.set_cons_zero, List.set_cons_succ]
          refine wpAnyH_done (by kernel_rfl) ?_ _
          clear hHeld n12 n34 hne
          go_wp2
          go_roundg (nl - (i + 1))
          case measure => have := HKI.out; have := HIN.out; omega
          case rel => exact ⟨i + 1, HIN.out, Lib.hid rfl, by go_num, Lib.hid (auB BZ9.out D4.out)⟩
        · have hie : i = nl := by omega
          have hix : ¬ (i : Int) < (nl : Int) := by omega
          have hbl := HLZ.out.la.bl
          have HBL := Lib.hid hbl
          clear hie hbl
          go_wp2
          go_ret
          exact ⟨rfl, HBL.out.trans (HBZ.out.mono HBL.out.size)⟩
end Go.Proofs.Yteeinckmmbdfoaa
