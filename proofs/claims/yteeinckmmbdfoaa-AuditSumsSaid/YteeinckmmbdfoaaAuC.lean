/- The contracts of layer 20 (audit): All. -/
import Derived.Test.YteeinckmmbdfoaaAuB
import Derived.Laws.MakeOwn
namespace Go.Proofs.Yteeinckmmbdfoaa
set_option linter.unusedSimpArgs false
set_option linter.unusedVariables false
set_option maxRecDepth 100000
open Go.ChangeShapes Go.WideShapes Go.ChangeAt Go.RowKit Go.Maps
theorem infoW : (Try.prog.info? 31).map (fun i => (i.zero, i.size, i.bytes)) = some (some (.agg #[.int .i64 0, .string ⟨#[]⟩]), 2, 24) := by kernel_rfl
/-- what is answered. -/
def AllPost (V : VM) (w : World) (e : Ending) (w' : World) : Prop := ∃ (v : Value) (L : List Who), e = .returned v ∧ OwR w' w.heap.size 31 2 encW v L ∧ L.Pairwise (fun x y => whoLt x y = true) ∧ (∀ k, k ∈ L ↔ (V k).isSome = true) ∧ Below w.heap.size w w'
theorem strict_of {L L' : List Who} (hp : L'.Perm L) (hn : L.Nodup) (hs : L'.Pairwise (fun x y => whoLt y x = false)) : L'.Pairwise (fun x y => whoLt x y = true) := by
  have hn' : L'.Nodup := hp.nodup_iff.2 hn
  refine (hs.and hn').imp (fun {a b} g => ?_)
  cases h : whoLt a b with
  | true => rfl
  | false => exact absurd (whoLt_tot h g.1) g.2
set_option maxHeartbeats 8000000 in
theorem ledall_any (w : World) {b m c : Nat} {V : VM} {G : GM} (h : LedAt w b m c V G) (hc : c ≤ 1000) :
    Calls Try.prog 11 #[.pointer (some ⟨b, 0, none⟩)] w fun e w' => AllPost V w e w' := by
  obtain ⟨i0, hi0, hz0, hz1, hz2⟩ := info_parts infoW
  have HI := Lib.hid (And.intro hi0 (And.intro hz0 (And.intro hz1 hz2)))
  have hln := h.mp.len (t := 40) Try.underlying40 3
  obtain ⟨w1, hmk, o1, g1⟩ := run_make_own (P := Try.prog) w w.heap.size 33 31 i0 (.agg #[.int .i64 0, .string ⟨#[]⟩]) 2 Try.underlying33 hi0 hz0 hz1 .i64 .i64 c (by rw [hz2]; omega) (by unfold maxLen; omega) (Nat.le_refl _)
  have F1 := Lib.hid (_root_.Go.Proofs.Yteeinckmmbdfoaa.G.fr_row g1)
  have B1 := Lib.hid (F1.out.below (Nat.le_refl _) (fun k hk => by cases hk))
  have H1 := Lib.hid (h.keep B1.out)
  have O1 := Lib.hid (show OwR w1 w.heap.size 31 2 encW (.slice (some ⟨w.heap.size, 0, none⟩) 0 c) [] from o1)
  have kl := h.l.rd
  have kl1 := H1.out.l.rd
  have HC := Lib.hid hc
  have HMB := Lib.hid h.mp.lt
  clear hi0 hz0 hz1 hz2 h o1 g1 hc
  go_enter Try.func11, Try.ntmps11
  go_upto_region 4 with (fail)
  clear hmk hln kl
  go_wp2_with (at_range; refine Mg.wpList_rangeS (C := whoC) Try.underlying40 (by rfl) _ (by rfl) (by rfl) H1.out.mp ?_; intro wr0 hr0 hb0 hs0; have R0 := Lib.hid hr0; have HB0 := Lib.hid hb0; clear hr0 hb0)
  go_frame
  clear kl1
  obtain ⟨rr, hrr⟩ : ∃ rr, rr = w1.heap.size := ⟨_, rfl⟩
  rw [← hrr] at R0 ⊢
  have RR := Lib.hid (show w.heap.size ≤ rr ∧ rr < wr0.heap.size ∧ w1.heap.size = rr from ⟨by rw [hrr]; exact B1.out.size, by omega, hrr.symm⟩)
  clear hrr hs0
  obtain ⟨v1, hv1⟩ : ∃ z, z = Value.slice (some ⟨w.heap.size, 0, none⟩) 0 c := ⟨_, rfl⟩
  have O1' := Lib.hid (show OwR wr0 w.heap.size 31 2 encW v1 [] ∧ (∀ g, v1.ownBlock = some g → g ≠ rr) from ⟨by rw [hv1]; exact O1.out.keep HB0.out, fun g e q => by have := O1.out.lt g (by rw [← hv1]; exact e); have := RR.out.2.2; omega⟩)
  rw [← hv1]
  clear hv1
  go_loopg [18, 3] c (fun kk _ sv wq => ∃ (left : Who → Bool) (L : List Who) (v : Value), Hid (Mg.RangeS whoC wq m rr c V left kk) ∧ v = sv ∧ Hid (OwR wq w.heap.size 31 2 encW v L ∧ (∀ g, v.ownBlock = some g → g ≠ rr)) ∧ Hid (L.length + kk ≤ c ∧ L.Nodup ∧ ∀ x, x ∈ L ↔ ((V x).isSome = true ∧ left x = false)) ∧ Hid (Below w.heap.size w wq))
  case atStart => exact ⟨_, [], v1, R0, rfl, O1', Lib.hid ⟨by simp, List.nodup_nil, fun x => ⟨fun q => (by cases q), fun q => (by have := q.1; rw [q.2] at this; cases this)⟩⟩, Lib.hid (auB B1.out HB0.out)⟩
  case round =>
    obtain ⟨left, L, v, RS, rfl, HO, HL, HB⟩ := hrel
    go_wp2_with (at_next; refine Mg.wpList_nextS (by rfl) _ (by rfl) (by rfl) RS.out ?_ ?_)
    · intro _ hdone
      have HD := Lib.hid hdone
      clear hdone
      (try go_frame)
      obtain ⟨A, cc, hv, hcc, hcm, hAg⟩ := HO.out.1.slice
      by_cases h0 : 0 < L.length
      · obtain ⟨g, rfl, hg0, hgl⟩ := hAg h0
        rw [hv]
        have HO2 := Lib.hid (show OwR wr w.heap.size 31 2 encW (.slice (some ⟨g, 0, none⟩) L.length cc) L from by rw [← hv]; exact HO.out.1)
        have HG0 := Lib.hid hg0
        have CS := Lib.hid (sortW_any wr HO2.out rfl h0 (by have := HL.out.1; have := HC.out; omega))
        clear hv hcc hcm hAg h0 hgl hg0
        go_wp2_with (go_at_call 14; ((with_reducible refine CS.out.mono ?_); rintro e w6 ⟨rfl, L', hp6, hs6, o6, f6⟩; have O6 := Lib.hid o6; have P6 := Lib.hid (And.intro hp6 hs6); have F6 := Lib.hid f6; clear hp6 hs6 o6 f6))
        go_ret
        refine ⟨_, L', rfl, O6.out, strict_of P6.out.1 HL.out.2.1 P6.out.2, fun k => ?_, HB.out.trans (F6.out.below HB.out.size (fun k hk => by rw [hk]; exact HG0.out))⟩
        rw [P6.out.1.mem_iff, HL.out.2.2]
        exact ⟨fun q => q.1, fun q => ⟨q, HD.out k trivial⟩⟩
      · have hL : L = [] := List.length_eq_zero_iff.1 (by omega)
        rw [hv]
        have HVV := Lib.hid hv
        have HLN := Lib.hid hL
        have hl0 : L.length = 0 := by rw [hL]; rfl
        rw [hl0]
        have CS := Lib.hid (sortW_none wr A cc)
        clear hv hcc hcm hAg h0 hL hl0
        go_wp2_with (go_at_call 14; ((with_reducible refine CS.out.mono ?_); rintro e w6 ⟨rfl, rfl⟩))
        go_ret
        refine ⟨_, [], rfl, ?_, List.Pairwise.nil, fun k => ?_, HB.out⟩
        · have := HO.out.1
          rw [HVV.out, HLN.out] at this
          exact this
        · have := HL.out.2.2 k
          rw [HLN.out] at this
          rw [this]
          exact ⟨fun q => q.1, fun q => ⟨q, HD.out k trivial⟩⟩
    · intro t v0 w2 n2 _ hlf hVt hrs hlt hfr hsz hen
      change (Instr.entry _).run _ _ = .ok (.tuple #[.agg #[.int .i64 t.r, .string t.s], v0]) _ at hen
      have HLT := Lib.hid hlt
      have RS2 := Lib.hid hrs
      have HO2 := Lib.hid (show OwR w2 w.heap.size 31 2 encW v L from HO.out.1.fr hfr (fun g hg e => HO.out.2 g hg e))
      have HB2 := Lib.hid (HB.out.trans (hfr.below HB.out.size (fun k hk => by rw [hk]; exact RR.out.1)))
      have HTT := Lib.hid (And.intro hlf hVt)
      have HZ := Lib.hid hsz
      have HRL := Lib.hid (show rr < wr.heap.size from by
        obtain ⟨D, lf, ⟨es, clock, since, seen, c0, hb, F', hs, hD, hr, h5⟩, h2, h3, h4⟩ := RS.out
        exact lt_of_block hr)
      clear hrs hlt hfr hsz hlf hVt
      (try go_frame)
      obtain ⟨w3, hw3, k3, b3, s3⟩ := box_new w2 #[.int .i64 t.r, .string t.s] 31
      have k3r := k3.rd
      have HO3 := Lib.hid (HO2.out.keep b3)
      have B3 := Lib.hid b3
      clear k3 b3 s3
      go_wp2_with (at_builtin; refine wpList_push (w0 := w3) (v := v) (enc := encW) (L := L) (base := w.heap.size) (by rfl) _ _ (by rfl) (by rfl) (by rfl) Try.underlying33 HI.out.1 HI.out.2.1 HI.out.2.2.1 HI.out.2.2.2 (by rfl) (by omega) HO3.out (Nat.le_trans HB2.out.size B3.out.size) t encW_len (by intro u hu; simp [encW] at hu; rcases hu with rfl | rfl <;> rfl) (by have := HL.out.1; have := HC.out; omega) (by have := HL.out.1; have := HC.out; unfold maxLen; omega) ?_; intro gl cl w9 hown9 hf9 hgl9; have O9 := Lib.hid hown9; have F9 := Lib.hid hf9; have GL := Lib.hid hgl9; clear hown9 hf9 hgl9)
      go_roundg n2
      case measure => exact HLT.out
      case rel =>
        have hgr : ∀ g, v.ownBlock = some g → g ≠ rr := HO.out.2
        refine ⟨_, L ++ [t], _, Lib.hid ((RS2.out.keep B3.out).fr F9.out (fun e => ?_) (fun e => HO.out.2 rr e rfl)), rfl, Lib.hid ⟨O9.out, fun g e => ?_⟩, Lib.hid ⟨?_, ?_, fun x => ?_⟩, Lib.hid ?_⟩
        · have h1 := HO.out.1.base_le m e
          have h2 := HMB.out
          omega
        · have hg : gl = g := by simpa [Value.ownBlock] using e
          subst hg
          rcases GL.out with q | q
          · exact HO.out.2 gl q
          · intro e2
            have h1 := B3.out.size
            have h2 := HZ.out
            have h3 := HRL.out
            omega
        · have := HL.out.1; have := HLT.out; rw [List.length_append, List.length_singleton]; omega
        · rw [List.nodup_append]
          refine ⟨HL.out.2.1, by simp, fun a ha d hd e => ?_⟩
          rw [List.mem_singleton] at hd
          have := ((HL.out.2.2 a).1 ha).2
          rw [e, hd, HTT.out.1] at this
          cases this
        · rw [List.mem_append, List.mem_singleton, HL.out.2.2]
          by_cases e : x = t
          · subst e
            simp [HTT.out.2]
          · simp [e]
        · exact (auB HB2.out B3.out).trans (F9.out.below (auB HB2.out B3.out).size (fun k hk => HO.out.1.base_le k hk))
end Go.Proofs.Yteeinckmmbdfoaa
