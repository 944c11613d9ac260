/- The contracts of layer 5 (index): the search. -/
import Derived.Test.YtnpiimaapholiaaIx
namespace Go.Proofs.Ytnpiimaapholiaa
set_option linter.unusedSimpArgs false
set_option linter.unusedVariables false
open Go.ChangeShapes Go.WideShapes Go.ChangeAt Go.RowKit
theorem str_ne {s t : ByteArray} (h : t ≠ s) : (t.toList == s.toList) = false :=
  beq_eq_false_iff_ne.2 (fun e => h (ByteArray.ext (Array.toList_inj.1 (by rw [ByteArray.toList_eq, ByteArray.toList_eq] at e; exact e))))
theorem isB_other {K : Nat → Option ByteArray} {n i : Nat} {s t : ByteArray} (hk : K i = some t) (h : t ≠ s) : isB K n (i : Int) s = false := by
  unfold isB; simp only [Int.toNat_natCast, hk, str_ne h, Bool.and_false]
theorem isB_same {K : Nat → Option ByteArray} {n i : Nat} {s : ByteArray} (hk : K i = some s) (h : i < n) : isB K n (i : Int) s = true := by
  unfold isB; simp [hk, h]
theorem ret_ib {k : IntKind} {a a' : Int} {b b' : Bool} (h : a = a') (g : b = b') : Ending.returned (.tuple #[.int k a, .bool b]) = .returned (.tuple #[.int k a', .bool b']) := by rw [h, g]
/-- what a search tells. -/
def SeekP (w : World) (m : Nat) (f : ByteArray → Nat) (K : Nat → Option ByteArray) (L : List Nat) (s : ByteArray) (e : Ending) (w' : World) : Prop :=
  ∃ (p : Nat) (b : Bool), e = .returned (.tuple #[.int .i64 (p : Int), .bool b]) ∧ p < m ∧ (b = true → ∃ i, L.getD p 0 = i + 1 ∧ K i = some s) ∧ (b = false → L.getD p 0 = 0 ∧ Ix.Far m f K (fun q => L.getD q 0) s (Ix.dst m (f s) p)) ∧ Below w.heap.size w w'
section
variable {x b X A B g gb gs gf n m : Nat} {fl : List Nat} {K : Nat → Option ByteArray} {L : List Nat}
set_option maxHeartbeats 2000000 in
theorem ixseek_gen (s : ByteArray) (hs : s.size ≤ maxLen) (w : World) (h : IxMem w x b X A B g gb gs gf n m fl K L) (t : Ix.Tab m n (ixH X A B m) K (fun q => L.getD q 0)) :
    Calls Try.prog 45 #[.pointer (some ⟨x, 0, none⟩), .string s] w (SeekP w m (ixH X A B m) K L s) := by
  have k := h.hx.rd
  have hn := h.ks.pl.2.1
  have hm := h.sz
  have CB := Lib.hid (fun wx => ixB_any X A B h.lX h.lA h.lB s hs m (by omega) wx)
  have HH := Lib.hid h
  have TT := Lib.hid t
  have HM := Lib.hid hm
  have t2 : (m : Int) ≤ 131073 := by omega
  obtain ⟨f0, hf0⟩ : ∃ f0, f0 = ixH X A B m s := ⟨_, rfl⟩
  have hfl := t.home s
  rw [← hf0] at CB hfl
  have HF := Lib.hid hf0
  clear h hm t hs hf0 hn
  go_enter Try.func45, Try.ntmps45
  go_upto_region 3 with (fail)
  have y1 : ∀ j, w.drew.cell? ⟨x, j, none⟩ = (ixC b X A B g m)[j]? := (Blk.drew HH.out.hx).rd
  have y3 : Below w.heap.size w w.drew := below_draws (Below.refl _ _) 1
  have GB := Lib.hid (fun (wx : World) (hx : Below w.heap.size w wx) => Calls.hold (S := fun w' => (∀ j, w'.cell? ⟨x, j, none⟩ = (ixC b X A B g m)[j]?) ∧ Below w.heap.size w w') (fun wb hb => ⟨(HH.out.hx.keep (below_in hx hb)).rd, below_in hx hb⟩) (CB.out wx))
  go_region_held3 (fun w' => (∀ j, w'.cell? ⟨x, j, none⟩ = (ixC b X A B g m)[j]?) ∧ Below w.heap.size w w') (first | (refine ⟨?_, ?_⟩ <;> assumption) | go_keep)
    ((go_at_call 49; ((with_reducible refine (GB.out _ (by assumption)).mono ?_); rintro e w2 ⟨rfl, z0, z2⟩)))
  clear GB y1 y3 k
  have k := z0
  have Z2 := Lib.hid z2
  clear z2
  go_wp2
  clear k z0
  go_loopg [6, 25] m (fun k sa si wr => ∃ p d : Nat, sa = .int .i64 (p : Int) ∧ si = .int .i64 (d : Int) ∧ p < m ∧ Hid (d = Ix.dst m (ixH X A B m s) p) ∧ k = m - d ∧ Hid (Ix.Far m (ixH X A B m) K (fun q => L.getD q 0) s d) ∧ Below w.heap.size w wr)
  case atStart => exact ⟨f0, 0, rfl, rfl, hfl, Lib.hid (by rw [← HF.out, Ix.dst_self]), by omega, Lib.hid (Ix.far_zero _ _ _ _ _), Z2.out⟩
  case round =>
    obtain ⟨p, d, rfl, rfl, hp, HD, hkk, FR, hb⟩ := hrel
    have hdm := Ix.far_more TT.out FR.out
    have HB := Lib.hid hb
    have HR := Lib.hid (HH.out.keep hb)
    have HK := Lib.hid hkk
    clear hb hkk
    have k := HR.out.hx.rd
    have t1 : (d : Int) < (m : Int) := by omega
    have t3 : (p : Int) < (m : Int) := by omega
    have t4 : decide (d < m) = true := by simpa using hdm
    obtain ⟨v, hv⟩ : ∃ v, v = L.getD p 0 := ⟨_, rfl⟩
    have k2 : wr.cell? ⟨g, p, none⟩ = some (.int .u32 (v : Int)) := by rw [blk_cell HR.out.hg, natC_get _ _ _ (by rw [HR.out.len]; exact hp), hv]
    by_cases hv0 : v = 0
    · have k3 : wr.cell? ⟨g, p, none⟩ = some (.int .u32 0) := by rw [k2, hv0]; rfl
      have HV := Lib.hid (hv.symm.trans hv0)
      clear k2 hv hv0
      go_wp2
      go_ret2
      exact ⟨p, false, rfl, hp, (fun e => by cases e), (fun _ => ⟨HV.out, by rw [← HD.out]; exact FR.out⟩), HB.out⟩
    · have hok := TT.out.ok p hp (by show L.getD p 0 ≠ 0; rw [← hv]; exact hv0)
      obtain ⟨s', hk', _⟩ := hok
      have hk' : K (L.getD p 0 - 1) = some s' := hk'
      obtain ⟨i, hi⟩ : ∃ i, v = i + 1 := ⟨v - 1, by omega⟩
      rw [← hv, show v - 1 = i by omega] at hk'
      have hin := TT.out.lt i s' hk'
      have hn := HR.out.ks.pl.2.1
      have t5 : ((v : Int) == 0) = false := beq_eq_false_iff_ne.2 (by omega)
      have e1 : IntKind.i64.wrap (v : Int) = (v : Int) := by rw [IntKind.wrap_i64]; omega
      have e3 : IntKind.i64.wrap ((v : Int) - 1) = (i : Int) := by rw [IntKind.wrap_i64]; omega
      have HV := Lib.hid (And.intro hv hi)
      have HI := Lib.hid hin
      have HK' := Lib.hid hk'
      have y1 : ∀ j, wr.drew.cell? ⟨x, j, none⟩ = (ixC b X A B g m)[j]? := (Blk.drew HR.out.hx).rd
      have y2 : wr.drew.cell? ⟨g, p, none⟩ = some (.int .u32 (v : Int)) := k2
      have y3 : Below wr.heap.size wr wr.drew := below_draws (Below.refl _ _) 1
      by_cases hss : s' = s
      · have CI := Lib.hid (fun wx (hx : Below wr.heap.size wr wx) => show Calls Try.prog 50 #[.pointer (some ⟨b, 0, none⟩), .int .i64 (i : Int), .string s] wx (fun e w' => e = .returned (.bool true) ∧ Below wx.heap.size wx w') from by
          have := is_any (i : Int) s wx (HR.out.ks.keep hx)
          rwa [isB_same (by rw [HK'.out, hss]) HI.out] at this)
        have GK := Lib.hid (fun (wx : World) (hx : Below wr.heap.size wr wx) => Calls.hold (S := fun w' => (∀ j, w'.cell? ⟨x, j, none⟩ = (ixC b X A B g m)[j]?) ∧ w'.cell? ⟨g, p, none⟩ = some (.int .u32 (v : Int)) ∧ Below wr.heap.size wr w') (fun wb hb => ⟨(HR.out.hx.keep (below_in hx hb)).rd, ((below_in hx hb).cell (lt_of_cell k2)).trans k2, below_in hx hb⟩) (CI.out wx hx))
        have HSS := Lib.hid hss
        clear hv hi hin hn hk' hss hv0
        go_upto_region 8 with (fail)
        clear k
        go_region_held3 (fun w' => (∀ j, w'.cell? ⟨x, j, none⟩ = (ixC b X A B g m)[j]?) ∧ w'.cell? ⟨g, p, none⟩ = some (.int .u32 (v : Int)) ∧ Below wr.heap.size wr w') (first | (refine ⟨?_, ?_, ?_⟩ <;> assumption) | go_keep)
          ((go_at_call 50; ((with_reducible refine (GK.out _ (by assumption)).mono ?_); rintro e w1 ⟨rfl, z0, z1, z2⟩)))
        clear GK y1 y2 y3
        go_wp2
        go_ret2
        exact ⟨p, true, rfl, hp, (fun _ => ⟨i, by rw [← HV.out.1, HV.out.2], by rw [HK'.out, HSS.out]⟩), (fun e => by cases e), below_in HB.out z2⟩
      · have CI := Lib.hid (fun wx (hx : Below wr.heap.size wr wx) => show Calls Try.prog 50 #[.pointer (some ⟨b, 0, none⟩), .int .i64 (i : Int), .string s] wx (fun e w' => e = .returned (.bool false) ∧ Below wx.heap.size wx w') from by
          have := is_any (i : Int) s wx (HR.out.ks.keep hx)
          rwa [isB_other HK'.out hss] at this)
        have GK := Lib.hid (fun (wx : World) (hx : Below wr.heap.size wr wx) => Calls.hold (S := fun w' => (∀ j, w'.cell? ⟨x, j, none⟩ = (ixC b X A B g m)[j]?) ∧ w'.cell? ⟨g, p, none⟩ = some (.int .u32 (v : Int)) ∧ Below wr.heap.size wr w') (fun wb hb => ⟨(HR.out.hx.keep (below_in hx hb)).rd, ((below_in hx hb).cell (lt_of_cell k2)).trans k2, below_in hx hb⟩) (CI.out wx hx))
        have fs := Ix.far_step TT.out hp (s := s) (by rw [← HD.out]; exact FR.out) (show L.getD p 0 ≠ 0 by omega) (by
          show K (L.getD p 0 - 1) ≠ some s
          rw [← hv, show v - 1 = i by omega, hk']
          intro e; injection e with e; exact hss e)
        rw [← HD.out] at fs
        have hdm2 := Ix.far_more TT.out fs
        have dn := Ix.dst_nxt (m := m) (a := ixH X A B m s) (b := p) (TT.out.home s) hp (by rw [← HD.out]; exact hdm2)
        rw [← HD.out] at dn
        have FS := Lib.hid (And.intro fs dn)
        have CA := Lib.hid (fun wx (hx : Below wr.heap.size wr wx) => ixafter_any p wx (HR.out.keep hx) hp)
        have HNX := Lib.hid (Ix.nxt_lt hp)
        obtain ⟨nx, hnx⟩ : ∃ nx, nx = Ix.nxt m p := ⟨_, rfl⟩
        rw [← hnx] at CA FS HNX
        clear hv hi hin hn hk' hss hv0 fs dn hnx
        go_upto_region 8 with (fail)
        clear k
        go_region_held3 (fun w' => (∀ j, w'.cell? ⟨x, j, none⟩ = (ixC b X A B g m)[j]?) ∧ w'.cell? ⟨g, p, none⟩ = some (.int .u32 (v : Int)) ∧ Below wr.heap.size wr w') (first | (refine ⟨?_, ?_, ?_⟩ <;> assumption) | go_keep)
          ((go_at_call 50; ((with_reducible refine (GK.out _ (by assumption)).mono ?_); rintro e w1 ⟨rfl, z0, z1, z2⟩)))
        clear GK y1 y2 y3
        go_wp2_with (go_at_call 51; ((with_reducible refine (CA.out _ z2).mono ?_); rintro e w3 ⟨rfl, rfl⟩))
        go_roundg (m - (d + 1))
        case measure => have := HK.out; omega
        case rel => exact ⟨nx, d + 1, rfl, by go_num, HNX.out, Lib.hid FS.out.2.symm, by omega, Lib.hid FS.out.1, below_in HB.out z2⟩
/-- a key that is there. -/
theorem ixseek_yes (i : Nat) (s : ByteArray) (hs : s.size ≤ maxLen) (hk : K i = some s) (w : World) (h : IxMem w x b X A B g gb gs gf n m fl K L) (t : Ix.Tab m n (ixH X A B m) K (fun q => L.getD q 0)) :
    Calls Try.prog 45 #[.pointer (some ⟨x, 0, none⟩), .string s] w fun e w' => ∃ p : Nat, e = .returned (.tuple #[.int .i64 (p : Int), .bool true]) ∧ p < m ∧ L.getD p 0 = i + 1 ∧ Below w.heap.size w w' := by
  refine (ixseek_gen s hs w h t).mono ?_
  rintro e w' ⟨p, b, he, hp, h1, h2, hb⟩
  cases b with
  | true =>
    obtain ⟨j, hj, hkj⟩ := h1 rfl
    have := t.key j i s hkj hk
    subst this
    exact ⟨p, he, hp, hj, hb⟩
  | false => exact absurd hk (Ix.far_none t hp (h2 rfl).2 (h2 rfl).1 i)
/-- a key that isn't. -/
theorem ixseek_no (s : ByteArray) (hs : s.size ≤ maxLen) (hk : ∀ i, K i ≠ some s) (w : World) (h : IxMem w x b X A B g gb gs gf n m fl K L) (t : Ix.Tab m n (ixH X A B m) K (fun q => L.getD q 0)) :
    Calls Try.prog 45 #[.pointer (some ⟨x, 0, none⟩), .string s] w fun e w' => ∃ p : Nat, e = .returned (.tuple #[.int .i64 (p : Int), .bool false]) ∧ (p < m ∧ L.getD p 0 = 0 ∧ Ix.Far m (ixH X A B m) K (fun q => L.getD q 0) s (Ix.dst m (ixH X A B m s) p)) ∧ Below w.heap.size w w' := by
  refine (ixseek_gen s hs w h t).mono ?_
  rintro e w' ⟨p, b, he, hp, h1, h2, hb⟩
  cases b with
  | true =>
    obtain ⟨j, _, hkj⟩ := h1 rfl
    exact absurd hkj (hk j)
  | false => exact ⟨p, he, ⟨hp, (h2 rfl).1, (h2 rfl).2⟩, hb⟩
end
theorem ixseek_nil (s : ByteArray) (w : World) : Calls Try.prog 45 #[.pointer none, .string s] w fun e w' => e = .returned (.tuple #[.int .i64 (-1), .bool false]) ∧ w = w' := by
  go_enter Try.func45, Try.ntmps45
  go_wp2
  go_ret2
  exact ⟨rfl, rfl⟩
end Go.Proofs.Ytnpiimaapholiaa
