/- The contracts of layer 20 (audit): Clone, Sum. -/
import Derived.Test.YteeinckmmbdfoaaAuT
import Derived.Test.YteeinckmmbdfoaaArSum
import Derived.Lib.SliceRun
namespace Go.Proofs.Yteeinckmmbdfoaa
set_option linter.unusedSimpArgs false
set_option linter.unusedVariables false
set_option maxRecDepth 100000
open Go.ChangeShapes Go.WideShapes Go.ChangeAt Go.RowKit Go.Maps
open Ar (inR)
set_option maxHeartbeats 1000000 in
theorem clone_none (w : World) : Calls Try.prog 19 #[.slice none 0 0] w fun e w' => e = .returned (.slice none 0 0) ∧ w' = w := by
  have hn := Lib.run_eql_slice_nil (P := Try.prog) w 43 45 none 0 0 0 0 Try.underlying43
  go_enter Try.func19, Try.ntmps19
  go_wp2
  go_ret
  exact ⟨rfl, rfl⟩
set_option maxHeartbeats 2000000 in
theorem clone_some (w : World) {base g n c : Nat} {L : List (Int × Int)} (h : OwR w base 45 2 encG (.slice (some ⟨g, 0, none⟩) n c) L) (hn : n = L.length) (h0 : 0 < L.length) (hl : L.length ≤ 1000) :
    Calls Try.prog 19 #[.slice (some ⟨g, 0, none⟩) n c] w fun e w' => ∃ g' c', e = .returned (.slice (some ⟨g', 0, none⟩) n c') ∧ OwR w' w.heap.size 45 2 encG (.slice (some ⟨g', 0, none⟩) n c') L ∧ Below w.heap.size w w' := by
  subst hn
  obtain ⟨i0, hi0, hz0, hz1, hz2⟩ := info_parts infoG
  have HI := Lib.hid (And.intro hi0 (And.intro hz0 (And.intro hz1 hz2)))
  have HH := Lib.hid h
  have HL := Lib.hid (And.intro h0 hl)
  have hnn := fun (w : World) => Lib.run_eql_slice_nil (P := Try.prog) w 43 45 (some ⟨g, 0, none⟩) L.length c 0 0 Try.underlying43
  obtain ⟨n, hnL⟩ : ∃ z, z = L.length := ⟨_, rfl⟩
  rw [← hnL] at hnn ⊢
  have HN := Lib.hid hnL
  clear hi0 hz0 hz1 hz2 h h0 hl hnL
  go_enter Try.func19, Try.ntmps19
  go_upto_region 3 with (fail)
  clear hnn
  have HE := Lib.hid (show (w.alloc (.cells #[] 45)).ownsRow w.heap.size 45 2 (.slice (some ⟨w.heap.size, 0, none⟩) 0 0) 0 [] from ⟨rfl, .inr ⟨w.heap.size, 0, #[], rfl, Nat.le_refl _, heap_alloc_new w _, Nat.le_refl _, Nat.zero_le _, rfl, rfl⟩⟩)
  have HNW := Lib.hid (show ∀ j u, (rws encG L)[j]? = some u → (w.alloc (.cells #[] 45)).cell? ((⟨g, 0, none⟩ : Addr).add j) = some u from fun j u hu => by
    obtain ⟨A, c', hv, h1, h2, h3⟩ := G.own_at HH.out
    injection hv with hv1 hv2 hv3
    obtain ⟨g', e1, _, e2, e3, h4, h5⟩ := h3 (by have := HL.out; omega)
    rw [← hv1] at e1
    injection e1 with e1
    injection e1 with e1
    subst e1
    have hj := (List.getElem?_eq_some_iff.1 hu).1
    rw [rws_length encG_len] at hj
    have := h4 j hj
    rw [show ((⟨g, 0, none⟩ : Addr).add j) = ⟨g, j, none⟩ by simp [Addr.add]; intro q; exact q.symm]
    rw [← hu, ← this]
    exact ((Below.refl _ _).alloc (Nat.le_refl _) _ : Below w.heap.size w _).cell (p := ⟨g, j, none⟩) e3)
  have H1C := Lib.hid (show ∀ u ∈ rws encG L, u.oneCell' = true from fun u hu => by
    unfold rws at hu
    rw [List.mem_flatMap] at hu
    obtain ⟨a, _, ha⟩ := hu
    simp [encG] at ha
    rcases ha with rfl | rfl <;> rfl)
  go_wp2_with (at_builtin; refine wpList_append_lies _ (by rfl) _ _ 43 (by rfl) w.heap.size 45 i0 (.agg #[.int .i64 0, .int .i64 0]) 2 16 (by rfl) HI.out.1 HI.out.2.1 HI.out.2.2.1 HI.out.2.2.2 (by rfl) (by omega) (.slice (some ⟨w.heap.size, 0, none⟩) 0 0) 0 [] (by rfl) HE.out ⟨g, 0, none⟩ n c (rws encG L) (by rfl) (by rw [rws_length encG_len, HN.out]) HNW.out H1C.out (by rw [HN.out]; exact HL.out.1) (by have := HL.out.2; rw [HN.out]; unfold maxLen; omega) (by have := HL.out.2; rw [HN.out]; omega) (by simp) _ rfl ?_; intro gl cl w9 hown9 hgr9 hat9 hlt9; have O9 := Lib.hid hown9; have G9 := Lib.hid (G.fr_row hgr9); clear hown9 hgr9 hat9 hlt9)
  go_ret
  have hO := O9.out
  rw [Nat.zero_add, List.nil_append, HN.out] at hO
  have hF : ∀ k, (Value.slice (some ⟨w.heap.size, 0, none⟩) 0 0).ownBlock = some k → w.heap.size ≤ k := fun k hk => by
    have : w.heap.size = k := by simpa [Value.ownBlock] using hk
    omega
  have hB : Below w.heap.size w w9 := ((Below.refl _ _).alloc (Nat.le_refl _) _ : Below w.heap.size w _).trans (G9.out.below (by simp) hF)
  exact ⟨gl, cl, rfl, by rw [HN.out]; exact hO, hB⟩
theorem auB {W0 w w' : World} (h : Below W0.heap.size W0 w) (b : Below w.heap.size w w') : Below W0.heap.size W0 w' := h.trans (b.mono h.size)
/-- what was allowed from a time on, ahead of another one. -/
def sumIn (f t : Int) : List (Int × Int) → Int
  | [] => 0
  | x :: r => (if f ≤ x.1 ∧ x.1 < t then x.2 else 0) + sumIn f t r
def costs (l : List (Int × Int)) : Prop := ∀ x ∈ l, (0 ≤ x.2 ∧ x.2 ≤ 1023) ∧ 0 ≤ x.1 ∧ x.1 ≤ 1023
theorem sumIn_bd (f t : Int) : ∀ l, costs l → 0 ≤ sumIn f t l ∧ sumIn f t l ≤ 1023 * l.length
  | [], _ => by simp [sumIn]
  | x :: r, h => by
    have h1 := (h x (List.mem_cons_self)).1
    have h2 := sumIn_bd f t r (fun y hy => h y (List.mem_cons_of_mem _ hy))
    rw [sumIn, List.length_cons]
    split <;> omega
theorem sumIn_app (f t : Int) (m : List (Int × Int)) : ∀ l, sumIn f t (l ++ m) = sumIn f t l + sumIn f t m
  | [] => by simp [sumIn]
  | x :: r => by rw [List.cons_append, sumIn, sumIn, sumIn_app f t m r]; omega
theorem sumIn_perm {f t : Int} {l m : List (Int × Int)} (h : l.Perm m) : sumIn f t l = sumIn f t m := by
  induction h with
  | nil => rfl
  | cons x _ ih => rw [sumIn, sumIn, ih]
  | swap x y l => rw [sumIn, sumIn, sumIn, sumIn]; omega
  | trans _ _ h1 h2 => rw [h1, h2]
theorem costs_take {l : List (Int × Int)} (h : costs l) (n : Nat) : costs (l.take n) := fun x hx => h x (List.mem_of_mem_take hx)
theorem costs_perm {l m : List (Int × Int)} (h : l.Perm m) (hm : costs m) : costs l := fun x hx => hm x (h.mem_iff.1 hx)
theorem costs_nil : costs [] := fun _ h => by cases h
set_option maxHeartbeats 4000000 in
theorem ledsum_any (k : Who) (f t : Int) (w : World) {b m c : Nat} {V : VM} {G : GM} (h : LedAt w b m c V G) (hc : costs (G k)) (hn : (G k).length ≤ 1000) :
    Calls Try.prog 12 #[.pointer (some ⟨b, 0, none⟩), .agg #[.int .i64 k.r, .string k.s], .int .i64 f, .int .i64 t] w fun e w' => e = .returned (.int .i64 (sumIn f t (G k))) ∧ Below w.heap.size w w' := by
  have HC := Lib.hid (And.intro hc hn)
  clear hc hn
  obtain ⟨w1, hw1, k1, l1, s1⟩ := box_new w #[.int .i64 k.r, .string k.s] 31
  have H1 := Lib.hid (h.keep l1)
  have HL1 := Lib.hid l1
  have K1 := Lib.hid k1
  have kl := H1.out.l.rd
  have kb := K1.out.rd
  clear h l1 s1 k1
  go_enter Try.func12, Try.ntmps12
  go_upto_region 4 with (fail)
  obtain ⟨A, cc, hv, hcc, hcm, hAg⟩ := (H1.out.get k).slice
  obtain ⟨nl, hnl⟩ : ∃ z, z = (G k).length := ⟨_, rfl⟩
  rw [← hnl] at hv
  have hlk := H1.out.mp.look Try.underlying40 (C := whoC) (z := .slice none 0 0) (zeroG _) (s := k) trivial
  rw [hv] at hlk
  change (Instr.lookup _ _ (.agg #[.int .i64 k.r, .string k.s]) _).run _ _ = _ at hlk
  have hlk2 : (Instr.lookup 40 (.map (some m)) (.agg #[.int .i64 k.r, .string k.s]) false).run Try.prog w1.drew = .ok (.slice A nl cc) w1.drew := by
    have := (H1.out.keep (below_draws (Below.refl _ _) 1)).mp.look Try.underlying40 (C := whoC) (z := .slice none 0 0) (zeroG _) (s := k) trivial
    rw [hv] at this
    exact this
  have HR := Lib.hid (And.intro hv (And.intro hnl hAg))
  clear hv hnl hAg hcm hcc
  go_region
  go_wp2
  clear hlk hlk2 kl kb
  obtain ⟨ls, hls⟩ : ∃ z, z = G k := ⟨_, rfl⟩
  have HR2 := Lib.hid (show OwG w1 (.slice A nl cc) ls ∧ ls.length = nl ∧ costs ls ∧ nl ≤ 1000 from ⟨by rw [hls, ← HR.out.1]; exact H1.out.get k, by rw [hls]; exact HR.out.2.1.symm, by rw [hls]; exact HC.out.1, by rw [HR.out.2.1]; exact HC.out.2⟩)
  have HLS := Lib.hid hls
  have hnb : (nl : Int) ≤ 1000 := by have := HR2.out.2.2.2; omega
  clear hls
  go_loopg [21, 9] nl (fun kk sj sm wq => ∃ j : Nat, j ≤ nl ∧ Hid (kk = nl - j) ∧ sj = .int .i64 (j : Int) ∧ sm = .int .i64 (sumIn f t (ls.take j)) ∧ Hid (Below w1.heap.size w1 wq))
  case atStart => exact ⟨0, Nat.zero_le _, Lib.hid rfl, rfl, rfl, Lib.hid (below_draws (Below.refl _ _) 1)⟩
  case round =>
    obtain ⟨j, hj, HKJ, rfl, rfl, HBQ⟩ := hrel
    have hsb := sumIn_bd f t (ls.take j) (costs_take HR2.out.2.2.1 j)
    have htl : (ls.take j).length ≤ j := List.length_take_le _ _
    by_cases hjl : j < nl
    · have hjl' : j < ls.length := by rw [HR2.out.2.1]; exact hjl
      obtain ⟨g, rfl, hg0, hgl⟩ := HR.out.2.2 (by rw [← HLS.out, HR2.out.2.1]; omega)
      have c0 : wr.cell? ⟨g, j * 2, none⟩ = some (.int .i64 (ls[j]).1) := (HBQ.out.cell (p := ⟨g, j * 2, none⟩) hgl).trans (HR2.out.1.cell encG_len (List.getElem?_eq_getElem hjl') (j := 0) (by omega))
      have c1 : wr.cell? ⟨g, j * 2 + 1, none⟩ = some (.int .i64 (ls[j]).2) := (HBQ.out.cell (p := ⟨g, j * 2 + 1, none⟩) hgl).trans (HR2.out.1.cell encG_len (List.getElem?_eq_getElem hjl') (j := 1) (by omega))
      have hsx := HR2.out.2.2.1 _ (List.getElem_mem hjl')
      have s1 : sumIn f t (ls.take (j + 1)) = sumIn f t (ls.take j) + (if f ≤ (ls[j]).1 ∧ (ls[j]).1 < t then (ls[j]).2 else 0) := by
        rw [List.take_add_one, List.getElem?_eq_getElem hjl', sumIn_app]
        show _ + (_ + 0) = _
        rw [Int.add_zero]
      obtain ⟨xa, hxa⟩ : ∃ z, z = (ls[j]).1 := ⟨_, rfl⟩
      obtain ⟨xc, hxc⟩ : ∃ z, z = (ls[j]).2 := ⟨_, rfl⟩
      rw [← hxa] at c0 s1 hsx
      rw [← hxc] at c1 s1 hsx
      obtain ⟨sg, hsg⟩ : ∃ z, z = sumIn f t (ls.take j) := ⟨_, rfl⟩
      rw [← hsg] at s1 hsb ⊢
      have hji2 : (j : Int) < (nl : Int) := by omega
      have hb1 : 0 ≤ sg ∧ sg ≤ 1023000 := by omega
      have hxb : 0 ≤ xc ∧ xc ≤ 1023 := hsx.1
      have S12 := Lib.hid s1
      have hjb2 : (j : Int) ≤ 1000 := by omega
      have CS := Lib.hid (fun wx => sum_any sg xc (by unfold inR; omega) (by unfold inR; omega) wx)
      have hcl : clamp (sg + xc) = sg + xc := by unfold clamp; omega
      obtain ⟨s2, hs2⟩ : ∃ z, z = sg + xc := ⟨_, rfl⟩
      rw [hcl, ← hs2] at CS
      have HS2 := Lib.hid hs2
      clear hxa hxc hsg s1 htl hgl hg0 hjl' hcl hs2 hsx hsb
      have d1 : decide (f ≤ xa) = true ∨ decide (f ≤ xa) = false := by cases decide (f ≤ xa) <;> simp
      have d2 : decide (xa < t) = true ∨ decide (xa < t) = false := by cases decide (xa < t) <;> simp
      rcases d1 with d1 | d1 <;> rcases d2 with d2 | d2
      all_goals
        go_wp2_with (go_at_call 18; ((with_reducible refine (CS.out _).mono ?_); rintro e w' ⟨rfl, rfl⟩))
        go_roundg (nl - (j + 1))
        case measure => have := HKJ.out; omega
        case rel =>
          have s12 := S12.out
          simp only [decide_eq_true_eq, decide_eq_false_iff_not] at d1 d2
          by_cases q : f ≤ xa ∧ xa < t
          · rw [if_pos q] at s12
            refine ⟨j + 1, by omega, Lib.hid rfl, by go_num, ?_, Lib.hid (auB HBQ.out ((Below.refl _ _).alloc (Nat.le_refl _) _))⟩
            first | rw [s12, HS2.out] | (exfalso; omega)
          · rw [if_neg q, Int.add_zero] at s12
            refine ⟨j + 1, by omega, Lib.hid rfl, by go_num, ?_, Lib.hid (auB HBQ.out ((Below.refl _ _).alloc (Nat.le_refl _) _))⟩
            rw [s12]; try (exfalso; omega)
    · have hje : j = nl := by omega
      have hfull : ls.take j = ls := List.take_of_length_le (by rw [HR2.out.2.1]; omega)
      rw [hfull, HLS.out]
      have hjx : ¬ (j : Int) < (nl : Int) := by omega
      clear hsb htl hfull hje
      go_wp2
      go_ret
      exact ⟨rfl, HL1.out.trans (HBQ.out.mono HL1.out.size)⟩
end Go.Proofs.Yteeinckmmbdfoaa
