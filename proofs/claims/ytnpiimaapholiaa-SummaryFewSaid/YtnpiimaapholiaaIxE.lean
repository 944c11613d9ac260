/- The contracts of layer 5 (index): a hole is filled. -/
import Derived.Test.YtnpiimaapholiaaIxS
import Derived.BigRegion
import Derived.WalkMore
namespace Go.Proofs.Ytnpiimaapholiaa
set_option linter.unusedSimpArgs false
set_option linter.unusedVariables false
open Go.ChangeShapes Go.WideShapes Go.ChangeAt Go.RowKit
section
variable {x b X A B g gb gs gf n m : Nat} {fl : List Nat} {K : Nat → Option ByteArray} {L : List Nat}
theorem IxMem.set {w : World} (h : IxMem w x b X A B g gb gs gf n m fl K L) (L' : List Nat) (hl : L'.length = m) : IxMem (setObj w g (.cells (natC .u32 L') 82 (0, 0))) x b X A B g gb gs gf n m fl K L' := by
  have ne := h.ne
  have hlt := lt_of_block h.hg
  refine ⟨(setObj_other w ne.1 _).trans h.hx, setObj_at hlt _, hl, h.sz, ?_, h.lX, h.lA, h.lB, ne⟩
  obtain ⟨bs, ss, fs, k⟩ := h.ks
  exact ⟨bs, ss, fs, (setObj_other w (Ne.symm ne.2.2.2.2.2.1) _).trans k.hb, (setObj_other w (Ne.symm ne.2.2.2.2.2.2.1) _).trans k.hgb, (setObj_other w (Ne.symm ne.2.2.2.2.2.2.2.1) _).trans k.hgs, (setObj_other w (Ne.symm ne.2.2.2.2.2.2.2.2) _).trans k.hgf, k.lb, k.ls, k.lf, k.vs, k.vf, k.vb, k.pl, k.n1, k.ne⟩
theorem IxMem.drewN {w : World} (h : IxMem w x b X A B g gb gs gf n m fl K L) (d : Nat) : IxMem (w.drewN d) x b X A B g gb gs gf n m fl K L := h.keep (below_draws (Below.refl _ _) d)
theorem natC_set0 (k : IntKind) (l : List Nat) (i : Nat) : (natC k l).setIfInBounds i (.int k 0) = natC k (l.set i 0) := natC_set k l i 0
set_option maxHeartbeats 4000000 in
theorem ixempty_any (i p : Nat) (s : ByteArray) (w : World) (h : IxMem w x b X A B g gb gs gf n m fl K L) (t : Ix.Tab m n (ixH X A B m) K (fun q => L.getD q 0)) (hp : p < m) (hT : L.getD p 0 = i + 1) (hk : K i = some s) :
    Calls Try.prog 47 #[.pointer (some ⟨x, 0, none⟩), .int .i64 (p : Int)] w fun e w' => e = .returned (.tuple #[]) ∧ ∃ L', IxMem w' x b X A B g gb gs gf n m fl K L' ∧ Ix.Tab m n (ixH X A B m) (fun j => if j = i then none else K j) (fun q => L'.getD q 0) ∧ Fr (fun k => k = g) w w' := by
  have hn := h.ks.pl.2.1
  have hm := h.sz
  have hin := t.lt i s hk
  have t2 : (m : Int) ≤ 131073 := by omega
  have t3 : (p : Int) < (m : Int) := by omega
  have k := h.hx.rd
  have k2 : w.cell? ⟨g, p, none⟩ = some (.int .u32 ((L.getD p 0 : Nat) : Int)) := by rw [blk_cell h.hg, natC_get _ _ _ (by rw [h.len]; exact hp)]
  have k0 := h.hg.wr
  have j0 := Ix.jab_new t hp hT
  rw [← getD_setN L p 0 (by rw [h.len]; exact hp)] at j0
  have HH := Lib.hid h
  have J0 := Lib.hid j0
  have HIN := Lib.hid (show 1 ≤ n by omega)
  clear h j0 t hk hT hin hn hm
  go_enter Try.func47, Try.ntmps47
  go_wp2
  go_step3
  go_wp2
  go_step3
  go_wp2
  rw [setCell_obj HH.out.hg, natC_set0]
  have hmem := HH.out.set (L.set p 0) (by rw [List.length_set]; exact HH.out.len)
  have hfr : Fr (fun k => k = g) w (setObj w g (.cells (natC .u32 (L.set p 0)) 82 (0, 0))) := Fr.setObj (F := fun k => k = g) (Fr.refl _ _) rfl _
  generalize (setObj w g (.cells (natC .u32 (L.set p 0)) 82 (0, 0))) = w1 at hmem hfr ⊢
  have M1 := Lib.hid hmem
  have F1 := Lib.hid hfr
  obtain ⟨z, hz1, hz2, hz3⟩ := Ix.jab_free J0.out HIN.out
  have Z0 := Lib.hid (And.intro hz2 (And.intro hz1 hz3))
  clear hmem hfr hz1 hz2 hz3 k k0 k2
  go_loopg [1] (Ix.dst m p z) (fun k s1 wr => ∃ (h : Nat) (L1 : List Nat), s1 = .int .i64 (h : Int) ∧ Hid (IxMem wr x b X A B g gb gs gf n m fl K L1) ∧ Hid (Ix.Jab m n (ixH X A B m) (fun j => if j = i then none else K j) (fun q => L1.getD q 0) h) ∧ Hid (z ≠ h ∧ z < m ∧ L1.getD z 0 = 0) ∧ Hid (k = Ix.dst m h z) ∧ Hid (Fr (fun k => k = g) w wr))
  case atStart => exact ⟨p, L.set p 0, rfl, M1, J0, Z0, Lib.hid rfl, F1⟩
  case round =>
    obtain ⟨h, L1, rfl, MO, JO, ZO, GO, FO⟩ := hrel
    clear M1 F1 J0 Z0
    obtain ⟨wo, hwo⟩ : ∃ wo : World, wo = wr := ⟨_, rfl⟩
    rw [← hwo] at MO FO ⊢
    clear hwo
    have hh := JO.out.hl
    have CA := Lib.hid (fun wx (hx : Below wo.heap.size wo wx) => ixafter_any h wx (MO.out.keep hx) hh)
    have dn := Ix.dst_nxt (m := m) (a := h) (b := h) hh hh (by rw [Ix.dst_self]; have := MO.out.sz; have := HIN.out; omega)
    rw [Ix.dst_self] at dn
    obtain ⟨nx, hnx⟩ : ∃ nx, nx = Ix.nxt m h := ⟨_, rfl⟩
    have hnl := Ix.nxt_lt hh
    rw [← hnx] at CA dn hnl
    have NX := Lib.hid (And.intro dn hnl)
    clear dn hnl hnx
    go_wp2_with (go_at_call 51; ((with_reducible refine (CA.out _ (Below.refl _ _)).mono ?_); rintro e w3 ⟨rfl, rfl⟩))
    go_loopg [1, 4] (m - 1) (fun k s1 s4 wr => ∃ q : Nat, s1 = .int .i64 (h : Int) ∧ s4 = .int .i64 (q : Int) ∧ q < m ∧ Hid (q ≠ h ∧ Ix.Past m (ixH X A B m) (fun j => if j = i then none else K j) (fun q => L1.getD q 0) h (Ix.dst m h q) ∧ Ix.dst m h q ≤ Ix.dst m h z ∧ k = m - Ix.dst m h q) ∧ Hid (Below wo.heap.size wo wr))
    case atStart =>
      refine ⟨nx, rfl, rfl, NX.out.2, Lib.hid ⟨fun e => ?_, ?_, ?_, ?_⟩, Lib.hid (Below.refl _ _)⟩
      · have := NX.out.1; rw [e, Ix.dst_self] at this; omega
      · rw [NX.out.1]; exact Ix.past_one _ _ _ _ _
      · rw [NX.out.1]
        have h1 := Ix.dst_or m h z
        have h2 := ZO.out
        omega
      · rw [NX.out.1]
    case round =>
      obtain ⟨q, rfl, rfl, hq, QI, BI⟩ := hrel
      have MI := Lib.hid (MO.out.keep BI.out)
      obtain ⟨v, hv⟩ : ∃ v, v = L1.getD q 0 := ⟨_, rfl⟩
      have k := MI.out.hx.rd
      have k2 : wr.cell? ⟨g, q, none⟩ = some (.int .u32 (v : Int)) := by rw [blk_cell MI.out.hg, natC_get _ _ _ (by rw [MI.out.len]; exact hq), hv]
      have t3 : (q : Int) < (m : Int) := by omega
      by_cases hv0 : v = 0
      · have k3 : wr.cell? ⟨g, q, none⟩ = some (.int .u32 0) := by rw [k2, hv0]; rfl
        have HV := Lib.hid (hv.symm.trans hv0)
        clear k2 hv hv0
        go_wp2
        rw [Exit.noGoto_ret]
        (try simp only [Exit.inBlock, Exit.then])
        refine bodyPost_ret (results_none rfl _ _ _) rfl ⟨rfl, L1, MI.out, ?_, FO.out.trans (Fr.of_below BI.out)⟩
        exact Ix.jab_end JO.out hq QI.out.1 QI.out.2.1 HV.out
      · obtain ⟨s', hk', hw'⟩ := JO.out.ok q hq (by show L1.getD q 0 ≠ 0; rw [← hv]; exact hv0)
        have hk1 : (if L1.getD q 0 - 1 = i then none else K (L1.getD q 0 - 1)) = some s' := hk'
        obtain ⟨r, hr⟩ : ∃ r, v = r + 1 := ⟨v - 1, by omega⟩
        rw [← hv, show v - 1 = r by omega] at hk1
        have hri : r ≠ i := fun e => by rw [if_pos e] at hk1; cases hk1
        rw [if_neg hri] at hk1
        have CH := Lib.hid (fun wx (hx : Below wr.heap.size wr wx) => ixhome_any q r s' wx (MI.out.keep hx) hq (by rw [← hv, hr]) hk1)
        obtain ⟨f1, hf1⟩ : ∃ f1, f1 = ixH X A B m s' := ⟨_, rfl⟩
        have hfl := JO.out.home s'
        have CD1 := Lib.hid (fun wx (hx : Below wr.heap.size wr wx) => ixdist_any f1 q wx (MI.out.keep hx) (by rw [hf1]; exact hfl) hq)
        have CD2 := Lib.hid (fun wx (hx : Below wr.heap.size wr wx) => ixdist_any h q wx (MI.out.keep hx) JO.out.hl hq)
        rw [← hf1] at CH
        obtain ⟨d1, hd1⟩ : ∃ d1, d1 = Ix.dst m f1 q := ⟨_, rfl⟩
        obtain ⟨d2, hd2⟩ : ∃ d2, d2 = Ix.dst m h q := ⟨_, rfl⟩
        rw [← hd1] at CD1
        rw [← hd2] at CD2
        have t5 : ((v : Int) != 0) = true := by rw [bne_iff_ne]; omega
        have HX := Lib.hid (And.intro hv (And.intro hk' (And.intro hf1 (And.intro hd1 hd2))))
        have HV0 := Lib.hid hv0
        have JH := Lib.hid JO.out.hl
        have CC := Lib.hid (fun wx (hx : Below wr.heap.size wr wx) => show (∀ j, wx.cell? ⟨x, j, none⟩ = (ixC b X A B g m)[j]?) ∧ wx.cell? ⟨g, q, none⟩ = some (.int .u32 (v : Int)) from ⟨(MI.out.keep hx).hx.rd, (hx.cell (lt_of_cell k2)).trans k2⟩)
        clear hv hk' hw' hr hk1 hri hfl hf1 hd1 hd2 hv0
        by_cases hle : d2 ≤ d1
        · have t6 : decide (d2 ≤ d1) = true := by simpa using hle
          go_upto_region 5 with (first
            | (go_at_call 53; ((with_reducible refine (CH.out _ (Below.refl _ _)).mono ?_); rintro e w4 ⟨rfl, b4⟩; have B4 := Lib.hid b4; clear b4))
            | (go_at_call 52; first | ((with_reducible refine (CD1.out _ B4.out).mono ?_); rintro e w5 ⟨rfl, rfl⟩) | ((with_reducible refine (CD2.out _ B4.out).mono ?_); rintro e w5 ⟨rfl, rfl⟩)))
          have M4 := Lib.hid (MI.out.keep B4.out)
          have k := M4.out.hx.rd
          have kq : w4.cell? ⟨g, q, none⟩ = some (.int .u32 (v : Int)) := (CC.out _ B4.out).2
          have kh : w4.cell? ⟨g, h, none⟩ = some (.int .u32 0) := by rw [blk_cell M4.out.hg, natC_get _ _ _ (by rw [M4.out.len]; exact JH.out), JO.out.h0]; rfl
          have k0 := M4.out.hg.wr
          have n1 : x ≠ g := M4.out.ne.1
          have n2 : g ≠ x := Ne.symm n1
          have n3 : h ≠ q := Ne.symm QI.out.1
          have t8 : (h : Int) < (m : Int) := by have := JH.out; omega
          go_region
          have hlt4 := lt_of_block M4.out.hg
          rw [setCell_obj M4.out.hg, natC_set, setCell_in hlt4, natC_set0]
          have hll : ((L1.set h v).set q 0).length = m := by rw [List.length_set, List.length_set]; exact M4.out.len
          have M5 := Lib.hid ((M4.out.set ((L1.set h v).set q 0) hll).drewN 1)
          have F5 := Lib.hid (show Fr (fun k => k = g) w (setObj w4 g (.cells (natC .u32 ((L1.set h v).set q 0)) 82 (0, 0))).drew from Fr.drew (Fr.setObj (F := fun k => k = g) (FO.out.trans (Fr.of_below (below_in BI.out B4.out))) rfl _))
          have M5 := Lib.hid (show IxMem (setObj w4 g (.cells (natC .u32 ((L1.set h v).set q 0)) 82 (0, 0))).drew x b X A B g gb gs gf n m fl K ((L1.set h v).set q 0) from M5.out)
          generalize (setObj w4 g (.cells (natC .u32 ((L1.set h v).set q 0)) 82 (0, 0))).drew = w5 at M5 F5 ⊢
          have HLL := Lib.hid hll
          clear k kq kh k0 n1 n2 n3 t8 hll hlt4 k2
          go_wp2
          have hx := HX.out
          have hg : (fun r => ((L1.set h v).set q 0).getD r 0) = Ix.upN (Ix.upN (fun r => L1.getD r 0) h v) q 0 := by
            rw [getD_setN _ _ _ (by rw [List.length_set, MO.out.len]; exact hq), getD_setN _ _ _ (by rw [MO.out.len]; exact JH.out)]
          have hzq : z ≠ q := fun e => HV0.out (by rw [hx.1, ← e]; exact ZO.out.2.2)
          go_roundg (Ix.dst m q z)
          case measure =>
            rw [GO.out]
            have a1 := Ix.dst_or m h z
            have a2 := Ix.dst_or m h q
            have a3 := Ix.dst_or m q z
            have a4 := QI.out.2.2.1
            have a5 := JH.out
            have a6 := ZO.out.2.1
            have a7 := QI.out.1
            omega
          case rel =>
            refine ⟨q, (L1.set h v).set q 0, rfl, M5, Lib.hid ?_, Lib.hid ⟨hzq, ZO.out.2.1, ?_⟩, Lib.hid rfl, F5⟩
            · rw [hg, hx.1]
              exact Ix.jab_move JO.out hq (by show L1.getD q 0 ≠ 0; rw [← hx.1]; exact HV0.out) hx.2.1 (by rw [← hx.2.2.2.2, ← hx.2.2.1, ← hx.2.2.2.1]; exact hle)
            · have := congrFun hg z
              rw [this]
              unfold Ix.upN
              rw [if_neg hzq, if_neg ZO.out.1]
              exact ZO.out.2.2
        · have t6 : decide (d2 ≤ d1) = false := by rw [decide_eq_false_iff_not]; exact hle
          have CA2 := Lib.hid (fun wx (hx : Below wr.heap.size wr wx) => ixafter_any q wx (MI.out.keep hx) hq)
          have hqz : Ix.dst m h q < Ix.dst m h z := by
            have h1 := QI.out.2.2.1
            have h2 : Ix.dst m h q ≠ Ix.dst m h z := fun e => HV0.out (by rw [HX.out.1, Ix.dst_inj JH.out hq ZO.out.2.1 e]; exact ZO.out.2.2)
            omega
          have hzl := Ix.dst_lt JH.out ZO.out.2.1
          have dn := Ix.dst_nxt JH.out hq (show Ix.dst m h q + 1 < m by omega)
          obtain ⟨ny, hny⟩ : ∃ ny, ny = Ix.nxt m q := ⟨_, rfl⟩
          have hnl := Ix.nxt_lt hq
          rw [← hny] at CA2 dn hnl
          have NY := Lib.hid (And.intro dn (And.intro hnl (And.intro hqz hzl)))
          have HLE := Lib.hid hle
          clear dn hnl hqz hzl hny hle
          go_wp2_with (first
            | (go_at_call 53; ((with_reducible refine (CH.out _ (Below.refl _ _)).mono ?_); rintro e w4 ⟨rfl, b4⟩; have B4 := Lib.hid b4; clear b4))
            | (go_at_call 51; ((with_reducible refine (CA2.out _ B4.out).mono ?_); rintro e w6 ⟨rfl, rfl⟩))
            | (go_at_call 52; first | ((with_reducible refine (CD1.out _ B4.out).mono ?_); rintro e w5 ⟨rfl, rfl⟩) | ((with_reducible refine (CD2.out _ B4.out).mono ?_); rintro e w5 ⟨rfl, rfl⟩)))
          have hx := HX.out
          have hqi := QI.out
          have hny := NY.out
          go_roundg (m - Ix.dst m h ny)
          case measure => omega
          case rel =>
            refine ⟨ny, rfl, rfl, hny.2.1, Lib.hid ⟨fun e => ?_, ?_, by omega, rfl⟩, Lib.hid (below_in BI.out B4.out)⟩
            · have h1 := hny.1; rw [e, Ix.dst_self] at h1; omega
            · rw [hny.1]
              exact Ix.past_step JO.out hq hqi.2.1 (by show L1.getD q 0 ≠ 0; rw [← hx.1]; exact HV0.out) hx.2.1 (by rw [← hx.2.2.2.2, ← hx.2.2.1, ← hx.2.2.2.1]; have := HLE.out; omega)
end
end Go.Proofs.Ytnpiimaapholiaa
