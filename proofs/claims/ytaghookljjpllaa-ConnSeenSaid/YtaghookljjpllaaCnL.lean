/- The laws of layer 16 (conn): what they share. -/
import Derived.Test.YtaghookljjpllaaCnW
namespace Go.Proofs.Ytaghookljjpllaa
set_option linter.unusedSimpArgs false
set_option linter.unusedVariables false
open Go.ChangeShapes Go.WideShapes Go.ChangeAt Go.RowKit
/-- may a byte come? (the law's host) -/
def fitsH (rules : Int) (size : Nat) (σ : CnS) (x : Int) : Bool :=
  if σ.err ≠ 0 then false
  else if (parseZ (σ.z ++ [x]) rules).2.2 ≠ 0 then decide (6 ≤ ((size - σ.out.length : Nat) : Int))
  else if 0 < (parseZ (σ.z ++ [x]) rules).2.1 then decide ((parseZ (σ.z ++ [x]) rules).1.cost % 30 + 1 ≤ ((size - σ.out.length : Nat) : Int))
  else true
/-- what it leaves, and the request that it ends. -/
def comeH (rules : Int) (σ : CnS) (x : Int) : CnS × List Req :=
  if (parseZ (σ.z ++ [x]) rules).2.2 ≠ 0 then (⟨nextZ rules σ.z x, (parseZ (σ.z ++ [x]) rules).2.2, σ.out ++ frmZ (errZ (parseZ (σ.z ++ [x]) rules).2.2), σ.op⟩, [])
  else if 0 < (parseZ (σ.z ++ [x]) rules).2.1 then (⟨nextZ rules σ.z x, 0, σ.out ++ hoA (parseZ (σ.z ++ [x]) rules).1, σ.op⟩, [(parseZ (σ.z ++ [x]) rules).1])
  else (⟨nextZ rules σ.z x, 0, σ.out, σ.op⟩, [])
def accH (rules : Int) (size : Nat) : CnS → List Int → Nat × CnS × List Req
  | σ, [] => (0, σ, [])
  | σ, x :: r => if fitsH rules size σ x = true then ((accH rules size (comeH rules σ x).1 r).1 + 1, (accH rules size (comeH rules σ x).1 r).2.1, (comeH rules σ x).2 ++ (accH rules size (comeH rules σ x).1 r).2.2) else (0, σ, [])
theorem acc_step {rules : Int} {size : Nat} {σ : CnS} {x : Int} {r : List Int} (h : fitsH rules size σ x = true) : accH rules size σ (x :: r) = ((accH rules size (comeH rules σ x).1 r).1 + 1, (accH rules size (comeH rules σ x).1 r).2.1, (comeH rules σ x).2 ++ (accH rules size (comeH rules σ x).1 r).2.2) := by
  conv => lhs; unfold accH
  rw [if_pos h]
theorem acc_stop {rules : Int} {size : Nat} {σ : CnS} {x : Int} {r : List Int} (h : fitsH rules size σ x = false) : accH rules size σ (x :: r) = (0, σ, []) := by
  unfold accH
  rw [if_neg (by simp [h])]
theorem fits_host (hb B : Nat) (Kn : CnN) (σ : CnS) (x : Int) : fitsB (hostH hb B Kn.rules) Kn σ x = fitsH Kn.rules Kn.size σ x := rfl
theorem come_host (hb B : Nat) (Kn : CnN) (σ : CnS) (s : List Req) (x : Int) : comeC (hostH hb B Kn.rules) Kn σ s x = ((comeH Kn.rules σ x).1, s ++ (comeH Kn.rules σ x).2, (comeH Kn.rules σ x).2) := by
  unfold comeC comeH
  split
  · show ((_ : CnS), s, ([] : List Req)) = (_, s ++ [], []); rw [List.append_nil]
  · split
    · rfl
    · show ((_ : CnS), s, ([] : List Req)) = (_, s ++ [], []); rw [List.append_nil]
theorem accept_host (hb B : Nat) (Kn : CnN) : ∀ (zs : List Int) (σ : CnS) (s : List Req), acceptC (hostH hb B Kn.rules) Kn σ s zs = ((accH Kn.rules Kn.size σ zs).1, (accH Kn.rules Kn.size σ zs).2.1, s ++ (accH Kn.rules Kn.size σ zs).2.2, (accH Kn.rules Kn.size σ zs).2.2)
  | [], σ, s => by show (0, σ, s, ([] : List Req)) = (0, σ, s ++ [], []); rw [List.append_nil]
  | x :: r, σ, s => by
    cases hf : fitsH Kn.rules Kn.size σ x with
    | false =>
      refine (accept_stop (H := hostH hb B Kn.rules) (Kn := Kn) (σ := σ) (s := s) (x := x) (r := r) (by rw [fits_host]; exact hf)).trans ?_
      rw [acc_stop hf]
      show (0, σ, s, ([] : List Req)) = (0, σ, s ++ [], [])
      rw [List.append_nil]
    | true =>
      refine (accept_step (H := hostH hb B Kn.rules) (Kn := Kn) (σ := σ) (s := s) (x := x) (r := r) (by rw [fits_host]; exact hf)).trans ?_
      rw [acc_step hf, come_host]
      have ih := accept_host hb B Kn r (comeH Kn.rules σ x).1 (s ++ (comeH Kn.rules σ x).2)
      show ((acceptC (hostH hb B Kn.rules) Kn (comeH Kn.rules σ x).1 (s ++ (comeH Kn.rules σ x).2) r).1 + 1, (acceptC (hostH hb B Kn.rules) Kn (comeH Kn.rules σ x).1 (s ++ (comeH Kn.rules σ x).2) r).2.1, (acceptC (hostH hb B Kn.rules) Kn (comeH Kn.rules σ x).1 (s ++ (comeH Kn.rules σ x).2) r).2.2.1, (comeH Kn.rules σ x).2 ++ (acceptC (hostH hb B Kn.rules) Kn (comeH Kn.rules σ x).1 (s ++ (comeH Kn.rules σ x).2) r).2.2.2) = _
      rw [ih]
      show (_, _, (s ++ (comeH Kn.rules σ x).2) ++ (accH Kn.rules Kn.size (comeH Kn.rules σ x).1 r).2.2, _) = (_, _, s ++ ((comeH Kn.rules σ x).2 ++ (accH Kn.rules Kn.size (comeH Kn.rules σ x).1 r).2.2), _)
      rw [List.append_assoc]
/-- a connection with the law's host. -/
structure C1 (W w : World) (Kn : CnN) (hb B : Nat) (σ : CnS) (s : List Req) (v : Value) : Prop where
  ch : CH (hostH hb B Kn.rules) w Kn σ s v
  lo : ∀ k, (Kn.F k ∨ k = hb ∨ v.ownBlock = some k) → W.heap.size ≤ k
  bl : Below W.heap.size W w
section
variable {W w w' : World} {Kn : CnN} {hb B : Nat} {σ σ' : CnS} {s s' : List Req} {v v' : Value}
theorem C1.keep (h : C1 W w Kn hb B σ s v) (hbw : Below w.heap.size w w') : C1 W w' Kn hb B σ s v := ⟨h.ch.keep hbw, h.lo, h.bl.trans (hbw.mono h.bl.size)⟩
theorem C1.cn (h : C1 W w Kn hb B σ s v) (hc : CnAt w' Kn σ') (hf : Fr Kn.F w w') : C1 W w' Kn hb B σ' s v :=
  ⟨⟨hc, (hostH hb B Kn.rules).fr h.ch.h hf (fun k hk hF => h.ch.ap k hF hk), h.ch.ap⟩, h.lo, h.bl.trans (hf.below h.bl.size (fun k hk => h.lo k (Or.inl hk)))⟩
theorem C1.acc (h : C1 W w Kn hb B σ s v) (hc : CH (hostH hb B Kn.rules) w' Kn σ' s' v') (hf : Fr (fun k => Kn.F k ∨ k = hb ∨ v.ownBlock = some k) w w') (hg : ∀ k, v'.ownBlock = some k → (k = hb ∨ v.ownBlock = some k) ∨ w.heap.size ≤ k) : C1 W w' Kn hb B σ' s' v' :=
  ⟨hc, fun k hk => by
    rcases hk with hk | hk | hk
    · exact h.lo k (Or.inl hk)
    · exact h.lo k (Or.inr (Or.inl hk))
    · rcases hg k hk with h1 | h1
      · exact h.lo k (Or.inr h1)
      · exact Nat.le_trans h.bl.size h1, h.bl.trans (hf.below h.bl.size h.lo)⟩
theorem hoaccept (A : Option Addr) (n c : Nat) (zs : List Int) (w : World) (h : C1 W w Kn hb B σ s v) (hbud : s.length + n ≤ 1000000) (ho : σ.op = true) (hz : RdI W .u8 A n c zs) :
    Calls Try.prog 13 #[.pointer (some ⟨Kn.c, 0, none⟩), .slice A n c, .iface 30 (.pointer (some ⟨hb, 0, none⟩))] w fun e w' => e = .returned (.int .i64 ((accH Kn.rules Kn.size σ zs).1 : Int)) ∧ ∃ v', C1 W w' Kn hb B (accH Kn.rules Kn.size σ zs).2.1 (s ++ (accH Kn.rules Kn.size σ zs).2.2) v' := by
  have hlt : ∀ b off, 0 < n → A = some ⟨b, off, none⟩ → b < W.heap.size := fun b off hn e => by
    obtain ⟨b', off', e', hlt, _⟩ := hz.at_ hn
    rw [e] at e'
    injection e' with e'
    injection e' with e1 e2
    omega
  have H := caccept_yes (H := hostH hb B Kn.rules) A n c zs w s v h.ch rfl hbud ho (hz.below h.bl) (fun b off hn e => by
    have h1 := hlt b off hn e
    refine ⟨fun hk => ?_, fun hk => ?_⟩
    · have := h.lo b (Or.inl hk); omega
    · have := h.lo b (Or.inr hk); omega)
  rw [accept_host] at H
  refine H.mono (fun e w' ⟨v', h1, h2, h3, h4⟩ => ⟨h1, v', ?_⟩)
  exact C1.acc h h2 h3 (fun k hk => h4 k (Or.inr hk))
theorem c1_no (A : Option Addr) (n c : Nat) (u : Value) (w : World) (h : C1 W w Kn hb B σ s v) (ho : σ.op = false) : Calls Try.prog 13 #[.pointer (some ⟨Kn.c, 0, none⟩), .slice A n c, u] w fun e w' => e = .returned (.int .i64 0) ∧ w = w' := caccept_no A n c u w h.ch.c ho
theorem c1_len (h : C1 W w Kn hb B σ s v) : w.cell? ⟨hb, 0, none⟩ = some v ∧ ∃ A c, v = .slice A s.length c ∧ c ≤ maxLen := by
  obtain ⟨h1, h2, _⟩ := h.ch.h
  refine ⟨by rw [blk_cell h1]; rfl, ?_⟩
  obtain ⟨A, c, e, _, hm, _⟩ := G.own_at h2
  exact ⟨A, c, e, hm⟩
/-- a new host beside a connection. -/
theorem c1_new (hc : CnAt w Kn σ) (hlo : ∀ k, Kn.F k → W.heap.size ≤ k) (hbl : Below W.heap.size W w) : C1 W (w.alloc (.cells #[.slice none 0 0] 33)) Kn w.heap.size (w.heap.size + 1) σ [] (.slice none 0 0) := by
  have b : Below w.heap.size w (w.alloc (.cells #[.slice none 0 0] 33)) := (Below.refl _ _).alloc (Nat.le_refl _) _
  refine ⟨⟨hc.keep b, ⟨heap_alloc_new w _, World.ownsRow_nil _ _ _ _, (fun e => by cases e), by simp⟩, fun k hk hF => ?_⟩, fun k hk => ?_, hbl.trans (b.mono hbl.size)⟩
  · have h1 := hc.lt k hk
    rcases hF with h | h
    · omega
    · cases h
  · rcases hk with hk | hk | hk
    · exact hlo k hk
    · rw [hk]; exact hbl.size
    · cases hk
end
theorem cnew_z (rules z : Int) (n : Nat) (hz : z = (n : Int)) (h1 : 1 ≤ n) (h2 : n ≤ 65536) (w : World) : Calls Try.prog 11 #[.int .i64 rules, .int .i64 z] w fun e w' => ∃ K : CnN, e = .returned (.pointer (some ⟨K.c, 0, none⟩)) ∧ K.size = n ∧ K.rules = rules ∧ CnAt w' K ⟨[], 0, [], false⟩ ∧ (∀ b, K.F b → w.heap.size ≤ b) ∧ Below w.heap.size w w' := by
  subst hz
  exact cnew_yes rules n h1 h2 w
theorem cnfit_any (w : World) : Calls Try.prog 10 #[] w fun e w' => e = .returned (.bool true) ∧ Below w.heap.size w w' := by
  have CN := Lib.hid (cnew_z 1 30 30 rfl (by omega) (by omega) w)
  go_enter Try.func10, Try.ntmps10
  go_upto_region 2 with (go_at_call 11; ((with_reducible refine CN.out.mono ?_); rintro e w1 ⟨Kn, rfl, hs, hr, h1, lo, b1⟩; have H1 := Lib.hid h1; have LO := Lib.hid lo; have B1 := Lib.hid b1; have HS := Lib.hid hs; clear h1 lo b1 hs hr))
  have CO := Lib.hid (copen_yes w1 H1.out rfl)
  go_upto_region 3 with (go_at_call 15; first
    | ((with_reducible refine CO.out.mono ?_); rintro e w2 ⟨rfl, h2, f2⟩; have H2 := Lib.hid h2; have B2 := Lib.hid (B1.out.trans (f2.below B1.out.size LO.out)); have CO2 := Lib.hid (copen_no w2 h2 rfl); clear h2 f2)
    | ((with_reducible refine CO2.out.mono ?_); rintro e w3 ⟨rfl, rfl⟩))
  have CI := Lib.hid (cisopen_any w2 H2.out)
  have CR := Lib.hid (croom_any w2 H2.out)
  have CW := Lib.hid (fun wx (hb : Below w2.heap.size w2 wx) => cwaits_any wx (H2.out.keep hb))
  have e30 : ((Kn.size - ([] : List Int).length : Nat) : Int) = 30 := by rw [HS.out]; rfl
  rw [e30] at CR
  clear e30
  go_wp2_with (first
    | (go_at_call 17; ((with_reducible refine CI.out.mono ?_); rintro e w4 ⟨rfl, rfl⟩))
    | (go_at_call 19; ((with_reducible refine CR.out.mono ?_); rintro e w5 ⟨rfl, b5⟩; have B5 := Lib.hid b5; clear b5))
    | (go_at_call 18; ((with_reducible refine (CW.out _ B5.out).mono ?_); rintro e w6 ⟨rfl, rfl⟩)))
  go_ret
  exact ⟨rfl, G.below_on B2.out B5.out⟩
end Go.Proofs.Ytaghookljjpllaa
