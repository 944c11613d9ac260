/- The law ConnSeen of layer 16, walked. -/
import Derived.Test.YtaghookljjpllaaCnU
import Derived.Test.YtaghookljjpllaaCnS
import Derived.Test.YtaghookljjpllaaDcG
import Derived.Test.YtaghookljjpllaaHw
import Derived.BigQuiet
namespace Go.Proofs.Ytaghookljjpllaa
set_option linter.unusedSimpArgs false
set_option linter.unusedVariables false
open Go.ChangeShapes Go.WideShapes Go.ChangeAt Go.RowKit
/-- a connection with any host. -/
structure CG (H : HostC) (W w : World) (Kn : CnN) (σ : CnS) (s : H.S) (l : H.L) : Prop where
  ch : CH H w Kn σ s l
  lo : ∀ k, (Kn.F k ∨ H.F l k) → W.heap.size ≤ k
  bl : Below W.heap.size W w
section
variable {H H2 : HostC} {W w w' : World} {Kn K2 : CnN} {σ σ' τ τ' : CnS} {s s' : H.S} {l l' : H.L} {t t' : H2.S} {u u' : H2.L}
theorem CG.lt (h : CG H W w Kn σ s l) : ∀ k, (Kn.F k ∨ H.F l k) → k < w.heap.size := by
  rintro k (h1 | h1)
  · exact h.ch.c.lt k h1
  · exact H.lt h.ch.h h1
theorem CG.fr {F : Nat → Prop} (h : CG H W w Kn σ s l) (hf : Fr F w w') (hF : ∀ k, (Kn.F k ∨ H.F l k) → ¬ F k) (hl : ∀ k, F k → W.heap.size ≤ k) : CG H W w' Kn σ s l :=
  ⟨⟨h.ch.c.fr hf (fun k hk => hF k (Or.inl hk)), H.fr h.ch.h hf (fun k hk => hF k (Or.inr hk)), h.ch.ap⟩, h.lo, h.bl.trans (hf.below h.bl.size hl)⟩
theorem CG.keep (h : CG H W w Kn σ s l) (hbw : Below w.heap.size w w') : CG H W w' Kn σ s l := ⟨h.ch.keep hbw, h.lo, h.bl.trans (hbw.mono h.bl.size)⟩
theorem CG.cn (h : CG H W w Kn σ s l) (hc : CnAt w' Kn σ') (hf : Fr Kn.F w w') : CG H W w' Kn σ' s l :=
  ⟨⟨hc, H.fr h.ch.h hf (fun k hk hF => h.ch.ap k hF hk), h.ch.ap⟩, h.lo, h.bl.trans (hf.below h.bl.size (fun k hk => h.lo k (Or.inl hk)))⟩
theorem gaccept (A : Option Addr) (n c : Nat) (zs : List Int) (w : World) (h : CG H W w Kn σ s l) (hr : H.rules = Kn.rules) (hbud : H.bud s n) (ho : σ.op = true) (hz : RdI W .u8 A n c zs) :
    Calls Try.prog 13 #[.pointer (some ⟨Kn.c, 0, none⟩), .slice A n c, .iface H.T H.pv] w fun e w' => e = .returned (.int .i64 ((acceptC H Kn σ s zs).1 : Int)) ∧ ∃ l', CG H W w' Kn (acceptC H Kn σ s zs).2.1 (acceptC H Kn σ s zs).2.2.1 l' ∧ Fr (fun k => Kn.F k ∨ H.F l k) w w' ∧ (∀ k, (Kn.F k ∨ H.F l' k) → (Kn.F k ∨ H.F l k) ∨ w.heap.size ≤ k) := by
  have hlt : ∀ b off, 0 < n → A = some ⟨b, off, none⟩ → b < W.heap.size := fun b off hn e => by
    obtain ⟨b', off', e', hlt, _⟩ := hz.at_ hn
    rw [e] at e'
    injection e' with e'
    injection e' with e1 e2
    omega
  refine (caccept_yes (H := H) A n c zs w s l h.ch hr hbud ho (hz.below h.bl) (fun b off hn e => by
    have h1 := hlt b off hn e
    refine ⟨fun hk => ?_, fun hk => ?_⟩
    · have := h.lo b (Or.inl hk); omega
    · have := h.lo b (Or.inr hk); omega)).mono (fun e w' ⟨v', h1, h2, h3, h4⟩ => ?_)
  have g : ∀ k, (Kn.F k ∨ H.F v' k) → (Kn.F k ∨ H.F l k) ∨ w.heap.size ≤ k := fun k hk => by
    rcases hk with hk | hk
    · exact Or.inl (Or.inl hk)
    · rcases h4 k hk with h5 | h5
      · exact Or.inl (Or.inr h5)
      · exact Or.inr h5
  exact ⟨h1, v', ⟨h2, fun k hk => by
    rcases g k hk with h5 | h5
    · exact h.lo k h5
    · exact Nat.le_trans h.bl.size h5, h.bl.trans (h3.below h.bl.size h.lo)⟩, h3, g⟩
theorem gaccept_host {hb B : Nat} {s : List Req} {l : Value} (A : Option Addr) (n c : Nat) (zs : List Int) (R : Int) (Z : Nat) (w : World) (h : CG (hostH hb B Kn.rules) W w Kn σ s l) (hR : Kn.rules = R) (hZ : Kn.size = Z) (hbud : s.length + n ≤ 1000000) (ho : σ.op = true) (hz : RdI W .u8 A n c zs) :
    Calls Try.prog 13 #[.pointer (some ⟨Kn.c, 0, none⟩), .slice A n c, .iface 30 (.pointer (some ⟨hb, 0, none⟩))] w fun e w' => e = .returned (.int .i64 ((accH R Z σ zs).1 : Int)) ∧ ∃ l' : Value, CG (hostH hb B Kn.rules) W w' Kn (accH R Z σ zs).2.1 (s ++ (accH R Z σ zs).2.2) l' ∧ Fr (fun k => Kn.F k ∨ (hostH hb B Kn.rules).F l k) w w' ∧ (∀ k, (Kn.F k ∨ (hostH hb B Kn.rules).F l' k) → (Kn.F k ∨ (hostH hb B Kn.rules).F l k) ∨ w.heap.size ≤ k) := by
  subst hR hZ
  have H := gaccept A n c zs w h rfl hbud ho hz
  rw [accept_host] at H
  exact H
theorem gaccept_watch {hb B : Nat} {s t : List Req} {l : Value × Value} (A : Option Addr) (n c : Nat) (zs : List Int) (R : Int) (Z : Nat) (w : World) (h : CG (hostW hb B Kn.rules) W w Kn σ (s, t) l) (hR : Kn.rules = R) (hZ : Kn.size = Z) (hbud : s.length + n ≤ 1000000 ∧ t.length + n ≤ 1000000) (ho : σ.op = true) (hz : RdI W .u8 A n c zs) :
    Calls Try.prog 13 #[.pointer (some ⟨Kn.c, 0, none⟩), .slice A n c, .iface 59 (.pointer (some ⟨hb, 0, none⟩))] w fun e w' => e = .returned (.int .i64 ((accH R Z σ zs).1 : Int)) ∧ ∃ l' : Value × Value, CG (hostW hb B Kn.rules) W w' Kn (accH R Z σ zs).2.1 (s ++ (accH R Z σ zs).2.2, t ++ (accH R Z σ zs).2.2) l' ∧ Fr (fun k => Kn.F k ∨ (hostW hb B Kn.rules).F l k) w w' ∧ (∀ k, (Kn.F k ∨ (hostW hb B Kn.rules).F l' k) → (Kn.F k ∨ (hostW hb B Kn.rules).F l k) ∨ w.heap.size ≤ k) := by
  subst hR hZ
  have H := gaccept A n c zs w h rfl hbud ho hz
  rw [accept_watch] at H
  exact H
/-- two of them, apart. -/
structure CT (H H2 : HostC) (W w : World) (Kn : CnN) (σ : CnS) (s : H.S) (l : H.L) (K2 : CnN) (τ : CnS) (t : H2.S) (u : H2.L) : Prop where
  a : CG H W w Kn σ s l
  b : CG H2 W w K2 τ t u
  ap : ∀ k, (Kn.F k ∨ H.F l k) → ¬ (K2.F k ∨ H2.F u k)
theorem CT.swap (h : CT H H2 W w Kn σ s l K2 τ t u) : CT H2 H W w K2 τ t u Kn σ s l := ⟨h.b, h.a, fun k h1 h2 => h.ap k h2 h1⟩
theorem CT.keep (h : CT H H2 W w Kn σ s l K2 τ t u) (hbw : Below w.heap.size w w') : CT H H2 W w' Kn σ s l K2 τ t u := ⟨h.a.keep hbw, h.b.keep hbw, h.ap⟩
theorem CT.onA (h : CT H H2 W w Kn σ s l K2 τ t u) (ha : CG H W w' Kn σ' s' l') (hf : Fr (fun k => Kn.F k ∨ H.F l k) w w') (hg : ∀ k, (Kn.F k ∨ H.F l' k) → (Kn.F k ∨ H.F l k) ∨ w.heap.size ≤ k) : CT H H2 W w' Kn σ' s' l' K2 τ t u :=
  ⟨ha, h.b.fr hf (fun k h1 h2 => h.ap k h2 h1) (fun k hk => h.a.lo k hk), fun k h1 h2 => by
    rcases hg k h1 with h3 | h3
    · exact h.ap k h3 h2
    · have := h.b.lt k h2; omega⟩
theorem CT.cnA (h : CT H H2 W w Kn σ s l K2 τ t u) (hc : CnAt w' Kn σ') (hf : Fr Kn.F w w') : CT H H2 W w' Kn σ' s l K2 τ t u :=
  h.onA (h.a.cn hc hf) (hf.mono (fun _ hk => Or.inl hk)) (fun _ hk => Or.inl hk)
theorem CT.onB (h : CT H H2 W w Kn σ s l K2 τ t u) (ha : CG H2 W w' K2 τ' t' u') (hf : Fr (fun k => K2.F k ∨ H2.F u k) w w') (hg : ∀ k, (K2.F k ∨ H2.F u' k) → (K2.F k ∨ H2.F u k) ∨ w.heap.size ≤ k) : CT H H2 W w' Kn σ s l K2 τ' t' u' :=
  (h.swap.onA ha hf hg).swap
theorem CT.cnB (h : CT H H2 W w Kn σ s l K2 τ t u) (hc : CnAt w' K2 τ') (hf : Fr K2.F w w') : CT H H2 W w' Kn σ s l K2 τ' t u :=
  (h.swap.cnA hc hf).swap
end
/-- two connections, a host and a watcher, all new. -/
theorem ct_new {W w5 : World} {Kn K2 : CnN} {σ τ : CnS} (h1 : CnAt w5 Kn σ) (l1 : ∀ k, Kn.F k → W.heap.size ≤ k) (h2 : CnAt w5 K2 τ) (l2 : ∀ k, K2.F k → W.heap.size ≤ k) (ap : ∀ k, Kn.F k → ¬ K2.F k) (e5 : Below W.heap.size W w5) (hb : Nat) (hhb : hb = w5.heap.size) :
    CT (hostH hb (hb + 1) Kn.rules) (hostW (hb + 1) (hb + 2) K2.rules) W ((w5.alloc (.cells #[.slice none 0 0] 33)).alloc (.cells #[.slice none 0 0, .slice none 0 0] 61)) Kn σ ([] : List Req) (.slice none 0 0 : Value) K2 τ (([], []) : List Req × List Req) ((.slice none 0 0, .slice none 0 0) : Value × Value) := by
  have s5 := e5.size
  have bn : Below w5.heap.size w5 (w5.alloc (.cells #[.slice none 0 0] 33)) := (Below.refl _ _).alloc (Nat.le_refl _) _
  have nw := heap_alloc_new w5 (.cells #[.slice none 0 0] 33)
  have sz : (w5.alloc (.cells #[.slice none 0 0] 33)).heap.size = w5.heap.size + 1 := by simp
  generalize w5.alloc (.cells #[.slice none 0 0] 33) = w6 at bn nw sz ⊢
  have bm : Below w6.heap.size w6 (w6.alloc (.cells #[.slice none 0 0, .slice none 0 0] 61)) := (Below.refl _ _).alloc (Nat.le_refl _) _
  have nm := heap_alloc_new w6 (.cells #[.slice none 0 0, .slice none 0 0] 61)
  have sz2 : (w6.alloc (.cells #[.slice none 0 0, .slice none 0 0] 61)).heap.size = w6.heap.size + 1 := by simp
  generalize w6.alloc (.cells #[.slice none 0 0, .slice none 0 0] 61) = w7 at bm nm sz2 ⊢
  rw [← hhb] at nw sz
  rw [sz] at nm sz2
  have e7 : Below W.heap.size W w7 := G.below_on (G.below_on e5 bn) bm
  have lt1 := h1.lt
  have lt2 := h2.lt
  refine ⟨⟨⟨h1.keep (bn.trans (bm.mono bn.size)), ⟨Blk.keep nw bm, World.ownsRow_nil _ _ _ _, (fun e => by cases e), by omega⟩, ?_⟩, ?_, e7⟩, ⟨⟨h2.keep (bn.trans (bm.mono bn.size)), ⟨nm, World.ownsRow_nil _ _ _ _, World.ownsRow_nil _ _ _ _, (fun e => by cases e), (fun e => by cases e), (fun k e => by cases e), by omega⟩, ?_⟩, ?_, e7⟩, ?_⟩
  · rintro k hk (h | h)
    · have := lt1 k hk; omega
    · cases h
  · rintro k (hk | hk | hk)
    · have := l1 k hk; omega
    · omega
    · cases hk
  · rintro k hk (h | h | h)
    · have := lt2 k hk; omega
    · cases h
    · cases h
  · rintro k (hk | hk | hk | hk)
    · have := l2 k hk; omega
    · omega
    · cases hk
    · cases hk
  · rintro k (k1 | k1 | k1) (k2 | k2 | k2 | k2)
    · exact ap k k1 k2
    · have := lt1 k k1; omega
    · cases k2
    · cases k2
    · have := lt2 k k2; omega
    · omega
    · cases k2
    · cases k2
    · cases k1
    · cases k1
    · cases k1
    · cases k1
end Go.Proofs.Ytaghookljjpllaa
