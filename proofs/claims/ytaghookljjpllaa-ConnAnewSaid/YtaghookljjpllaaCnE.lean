/- Two connections, each with a host of the law's, apart from each other. -/
import Derived.Test.YtaghookljjpllaaCnS
namespace Go.Proofs.Ytaghookljjpllaa
set_option linter.unusedSimpArgs false
set_option linter.unusedVariables false
open Go.ChangeShapes Go.WideShapes Go.ChangeAt Go.RowKit
/-- what a connection with the law's host changes. -/
def ft (Kn : CnN) (hb : Nat) (v : Value) (k : Nat) : Prop := Kn.F k ∨ k = hb ∨ v.ownBlock = some k
section
variable {W w w' : World} {Kn K2 : CnN} {hb B h2 B2 : Nat} {σ σ' τ τ' : CnS} {s s' t t' : List Req} {v v' u u' : Value}
theorem C1.lt (h : C1 W w Kn hb B σ s v) : ∀ k, ft Kn hb v k → k < w.heap.size := by
  rintro k (h1 | h1)
  · exact h.ch.c.lt k h1
  · exact (hostH hb B Kn.rules).lt h.ch.h h1
theorem C1.fr {F : Nat → Prop} (h : C1 W w Kn hb B σ s v) (hf : Fr F w w') (hF : ∀ k, ft Kn hb v k → ¬ F k) (hl : ∀ k, F k → W.heap.size ≤ k) : C1 W w' Kn hb B σ s v :=
  ⟨⟨h.ch.c.fr hf (fun k hk => hF k (Or.inl hk)), (hostH hb B Kn.rules).fr h.ch.h hf (fun k hk => hF k (Or.inr hk)), h.ch.ap⟩, h.lo, h.bl.trans (hf.below h.bl.size hl)⟩
theorem hoaccept_fr (A : Option Addr) (n c : Nat) (zs : List Int) (R : Int) (Z : Nat) (w : World) (h : C1 W w Kn hb B σ s v) (hR : Kn.rules = R) (hZ : Kn.size = Z) (hbud : s.length + n ≤ 1000000) (ho : σ.op = true) (hz : RdI W .u8 A n c zs) :
    Calls Try.prog 13 #[.pointer (some ⟨Kn.c, 0, none⟩), .slice A n c, .iface 30 (.pointer (some ⟨hb, 0, none⟩))] w fun e w' => e = .returned (.int .i64 ((accH R Z σ zs).1 : Int)) ∧ ∃ v', C1 W w' Kn hb B (accH R Z σ zs).2.1 (s ++ (accH R Z σ zs).2.2) v' ∧ Fr (ft Kn hb v) w w' ∧ (∀ k, ft Kn hb v' k → ft Kn hb v k ∨ w.heap.size ≤ k) := by
  subst hR hZ
  have hlt : ∀ b off, 0 < n → A = some ⟨b, off, none⟩ → b < W.heap.size := fun b off hn e => by
    obtain ⟨b', off', e', hlt, _⟩ := hz.at_ hn
    rw [e] at e'
    injection e' with e'
    injection e' with e1 e2
    omega
  have H := caccept_yes (H := hostH hb B Kn.rules) A n c zs w s v h.ch rfl hbud ho (hz.below h.bl) (fun b off hn e => by
    have h1 := hlt b off hn e
    refine ⟨fun hk => ?_, fun hk => ?_⟩
    · have := h.lo b (Or.inl hk); omega
    · have := h.lo b (Or.inr hk); omega)
  rw [accept_host] at H
  refine H.mono (fun e w' ⟨v', h1, h2, h3, h4⟩ => ⟨h1, v', C1.acc h h2 h3 (fun k hk => h4 k (Or.inr hk)), h3, fun k hk => ?_⟩)
  rcases hk with hk | hk
  · exact Or.inl (Or.inl hk)
  · rcases h4 k hk with h5 | h5
    · exact Or.inl (Or.inr h5)
    · exact Or.inr h5
/-- two of them, apart. -/
structure C2 (W w : World) (Kn : CnN) (hb B : Nat) (σ : CnS) (s : List Req) (v : Value) (K2 : CnN) (h2 B2 : Nat) (τ : CnS) (t : List Req) (u : Value) : Prop where
  a : C1 W w Kn hb B σ s v
  b : C1 W w K2 h2 B2 τ t u
  ap : ∀ k, ft Kn hb v k → ¬ ft K2 h2 u k
theorem C2.swap (h : C2 W w Kn hb B σ s v K2 h2 B2 τ t u) : C2 W w K2 h2 B2 τ t u Kn hb B σ s v := ⟨h.b, h.a, fun k h1 h2 => h.ap k h2 h1⟩
theorem C2.keep (h : C2 W w Kn hb B σ s v K2 h2 B2 τ t u) (hbw : Below w.heap.size w w') : C2 W w' Kn hb B σ s v K2 h2 B2 τ t u := ⟨h.a.keep hbw, h.b.keep hbw, h.ap⟩
theorem C2.onA (h : C2 W w Kn hb B σ s v K2 h2 B2 τ t u) (ha : C1 W w' Kn hb B σ' s' v') (hf : Fr (ft Kn hb v) w w') (hg : ∀ k, ft Kn hb v' k → ft Kn hb v k ∨ w.heap.size ≤ k) : C2 W w' Kn hb B σ' s' v' K2 h2 B2 τ t u :=
  ⟨ha, h.b.fr hf (fun k h1 h2 => h.ap k h2 h1) (fun k hk => h.a.lo k hk), fun k h1 h2 => by
    rcases hg k h1 with h3 | h3
    · exact h.ap k h3 h2
    · have := h.b.lt k h2; omega⟩
theorem C2.cnA (h : C2 W w Kn hb B σ s v K2 h2 B2 τ t u) (hc : CnAt w' Kn σ') (hf : Fr Kn.F w w') : C2 W w' Kn hb B σ' s v K2 h2 B2 τ t u :=
  h.onA (h.a.cn hc hf) (hf.mono (fun _ hk => Or.inl hk)) (fun _ hk => Or.inl hk)
theorem C2.onB (h : C2 W w Kn hb B σ s v K2 h2 B2 τ t u) (ha : C1 W w' K2 h2 B2 τ' t' u') (hf : Fr (ft K2 h2 u) w w') (hg : ∀ k, ft K2 h2 u' k → ft K2 h2 u k ∨ w.heap.size ≤ k) : C2 W w' Kn hb B σ s v K2 h2 B2 τ' t' u' :=
  (h.swap.onA ha hf hg).swap
theorem C2.cnB (h : C2 W w Kn hb B σ s v K2 h2 B2 τ t u) (hc : CnAt w' K2 τ') (hf : Fr K2.F w w') : C2 W w' Kn hb B σ s v K2 h2 B2 τ' t u :=
  (h.swap.cnA hc hf).swap
/-- two connections and two hosts, all new. -/
theorem c2_new {w3 w4 w5 : World} (h1 : CnAt w4 Kn σ) (l1 : ∀ k, Kn.F k → w3.heap.size ≤ k) (b1 : Below w3.heap.size w3 w4) (h2 : CnAt w5 K2 τ) (l2 : ∀ k, K2.F k → w4.heap.size ≤ k) (b2 : Below w4.heap.size w4 w5) (b0 : Below W.heap.size W w3) :
    C2 W ((w5.alloc (.cells #[.slice none 0 0] 33)).alloc (.cells #[.slice none 0 0] 33)) Kn w5.heap.size (w5.heap.size + 1) σ [] (.slice none 0 0) K2 (w5.alloc (.cells #[.slice none 0 0] 33)).heap.size ((w5.alloc (.cells #[.slice none 0 0] 33)).heap.size + 1) τ [] (.slice none 0 0) := by
  have s34 := b1.size
  have s45 := b2.size
  have s0 := b0.size
  have e5 : Below W.heap.size W w5 := G.below_on (G.below_on b0 b1) b2
  have c1 := c1_new (h1.keep b2) (fun k hk => Nat.le_trans b0.size (l1 k hk)) e5
  have sz : (w5.alloc (.cells #[.slice none 0 0] 33)).heap.size = w5.heap.size + 1 := by simp
  have bn : Below w5.heap.size w5 (w5.alloc (.cells #[.slice none 0 0] 33)) := (Below.refl _ _).alloc (Nat.le_refl _) _
  have c2 := c1_new (h2.keep bn) (fun k hk => Nat.le_trans (Nat.le_trans b0.size s34) (l2 k hk)) (G.below_on e5 bn)
  refine ⟨c1.keep ((Below.refl _ _).alloc (Nat.le_refl _) _), c2, ?_⟩
  rintro k (k1 | k1 | k1) (k2 | k2 | k2)
  · have := h1.lt k k1; have := l2 k k2; omega
  · have := h1.lt k k1; omega
  · cases k2
  · have := h2.lt k k2; omega
  · omega
  · cases k2
  · cases k1
  · cases k1
  · cases k1
end
end Go.Proofs.Ytaghookljjpllaa
