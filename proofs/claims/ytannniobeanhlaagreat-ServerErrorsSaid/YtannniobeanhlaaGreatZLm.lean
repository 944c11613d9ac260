import Derived.Test.YtannniobeanhlaaGreatPlI
import Derived.Test.YtannniobeanhlaaGreatZSlL
import Derived.Test.YtannniobeanhlaaGreatZSlN
import Derived.Test.YtannniobeanhlaaGreatZCellB
import Derived.BigQuiet
import Derived.Test.YtannniobeanhlaaGreatZPlA
import Derived.Test.YtannniobeanhlaaGreatZGen
import Derived.Deep.AppendLies
import Derived.Laws.OwnMore
import Derived.Test.YtannniobeanhlaaGreatZSmP
import Derived.Test.YtannniobeanhlaaGreatSvA
import Derived.Test.YtannniobeanhlaaGreatZCfH
import Derived.Test.YtannniobeanhlaaGreatZPhase
import Derived.Test.YtannniobeanhlaaGreatZObj
import Derived.Laws.CopyRow
/- The contracts of layer 12 (limiter): a limiter in memory; its small functions. -/
namespace Go.Proofs.YtannniobeanhlaaGreat
set_option linter.unusedSimpArgs false
set_option linter.unusedVariables false
set_option maxRecDepth 100000
open Go.ChangeShapes Go.WideShapes Go.ChangeAt Go.RowKit
open Ar (inR)
/-- where a limiter lies, and what of it never changes. -/
structure LmN where
  l : Nat
  rows : Value
  U : Int
  W : Int
  B : Int
  L : Int
  Q : PlN
  R : RgN
  S : SmN
/-- what a limiter has: its pool's keys and cells, its ring, its summary, how many checks came to what. -/
structure LmS where
  σ : KSt
  C : List Cel
  r : RgS
  M : List Tri
  tot : Int
  al : Int
  de : Int
  ba : Int
abbrev limC (N : LmN) (al de ba : Int) : Array Value := #[.int .i64 N.U, .int .i64 N.W, .int .i64 N.B, .int .i64 N.L, N.rows, .pointer (some ⟨N.Q.p, 0, none⟩), .pointer (some ⟨N.R.x, 0, none⟩), .pointer (some ⟨N.S.s, 0, none⟩), .int .i64 al, .int .i64 de, .int .i64 ba, .int .i64 0, .int .i64 0]
/-- the blocks of a limiter's parts. -/
def LmN.parts (N : LmN) (k : Nat) : Prop := N.Q.all k ∨ N.R.all k ∨ N.S.all k
def LmN.all (N : LmN) (k : Nat) : Prop := N.parts k ∨ k = N.l
/-- a limiter in memory. -/
structure LmAt (w : World) (N : LmN) (s : LmS) : Prop where
  hl : Blk w N.l 144 (limC N s.al s.de s.ba)
  hp : PlAt w N.Q s.σ s.C
  hr : RgAt w N.R s.r
  hm : SmM w N.S s.M s.tot
  nl : ∀ k, N.parts k → k ≠ N.l
  n1 : ∀ k, N.Q.all k → ¬ N.R.all k ∧ ¬ N.S.all k
  n2 : ∀ k, N.R.all k → ¬ N.S.all k
section
variable {w W : World} {N : LmN} {s : LmS}
theorem LmAt.fr {F : Nat → Prop} (h : LmAt W N s) (hf : Fr F W w) (hF : ∀ k, N.all k → ¬ F k) : LmAt w N s :=
  ⟨h.hl.fr hf (hF _ (Or.inr rfl)), h.hp.fr hf (fun k hk => hF k (Or.inl (Or.inl hk))), h.hr.fr hf (fun k hk => hF k (Or.inl (Or.inr (Or.inl hk)))), h.hm.fr hf (fun k hk => hF k (Or.inl (Or.inr (Or.inr hk)))), h.nl, h.n1, h.n2⟩
theorem LmAt.keep (h : LmAt W N s) (hb : Below W.heap.size W w) : LmAt w N s := h.fr (F := fun _ => False) (Fr.of_below hb) (fun _ _ => id)
theorem LmAt.lt (h : LmAt w N s) : ∀ k, N.all k → k < w.heap.size := by
  intro k hk
  rcases hk with (hk | hk | hk) | rfl
  · exact h.hp.lt k hk
  · exact h.hr.lt k hk
  · obtain ⟨L, σ, g, _⟩ := h.hm
    exact g.lt k hk
  · exact lt_of_block h.hl
end
end Go.Proofs.YtannniobeanhlaaGreat
/- The contracts of layer 12 (limiter): refuse, count, left. -/
namespace Go.Proofs.YtannniobeanhlaaGreat
set_option linter.unusedSimpArgs false
set_option linter.unusedVariables false
set_option maxRecDepth 100000
open Go.ChangeShapes Go.WideShapes Go.ChangeAt Go.RowKit
open Ar (inR)
section
variable {N : LmN} {s : LmS}
end
end Go.Proofs.YtannniobeanhlaaGreat
/- The contracts of layer 12 (limiter): a pool's cells are taken from; left, judge. -/
namespace Go.Proofs.YtannniobeanhlaaGreat
set_option linter.unusedSimpArgs false
set_option linter.unusedVariables false
set_option maxRecDepth 100000
open Go.ChangeShapes Go.WideShapes Go.ChangeAt Go.RowKit
open Ar (inR)
section
variable {Q : PlN} {σ : KSt} {C : List Cel} {U W B L t cost : Int} {c : Cel} {i : Nat}
abbrev celG (c : Cel) (U W B L t : Int) : Prop := Rng c.1 c.2.1 c.2.2.1 c.2.2.2 U W B L t
end
section
variable {N : LmN} {s : LmS}
/-- how much the ring leaves a key at once. -/
def LmS.left (s : LmS) (N : LmN) (key : ByteArray) : Int := max 0 (min (N.L - estZ N.R s.r key) N.B)
end
end Go.Proofs.YtannniobeanhlaaGreat
/- The contracts of layer 12 (limiter): judge. -/
namespace Go.Proofs.YtannniobeanhlaaGreat
set_option linter.unusedSimpArgs false
set_option linter.unusedVariables false
set_option maxRecDepth 100000
open Go.ChangeShapes Go.WideShapes Go.ChangeAt Go.RowKit
open Ar (inR)
section
variable {N : LmN} {s : LmS}
/-- the numbers of a limiter that its calls ask for. -/
structure LmG (N : LmN) (s : LmS) (now : Int) : Prop where
  c : ∀ c ∈ s.C, celG c N.U N.W N.B N.L now ∧ c.2.2.2 ≤ 576460752303423488
  t : s.r.t ≤ 4611686018427387904
  n : 0 ≤ now ∧ now ≤ 4611686018427387904
  U : 1 ≤ N.U ∧ N.U ≤ 1048576
  W : 1 ≤ N.W ∧ N.W ≤ 1048576
  B : 1 ≤ N.B ∧ N.B ≤ 1048576
  L : 1 ≤ N.L ∧ N.L ≤ 1048576
end
end Go.Proofs.YtannniobeanhlaaGreat
/- The contracts of layer 12 (limiter): lightest. -/
namespace Go.Proofs.YtannniobeanhlaaGreat
set_option linter.unusedSimpArgs false
set_option linter.unusedVariables false
set_option maxRecDepth 100000
open Go.ChangeShapes Go.WideShapes Go.ChangeAt Go.RowKit Go.Shelf
open Ar (inR)
attribute [local go_sem] Oper.semAt_some
section
variable {N : LmN} {s : LmS}
/-- the keys of the pool, by their cells' places. -/
abbrev LmS.res (s : LmS) (N : LmN) : List (ByteArray × Cel) := plL s.σ.K s.C N.Q.N.n
end
end Go.Proofs.YtannniobeanhlaaGreat
/- The contracts of layer 12 (limiter): giver, evict. -/
namespace Go.Proofs.YtannniobeanhlaaGreat
set_option linter.unusedSimpArgs false
set_option linter.unusedVariables false
set_option maxRecDepth 100000
open Go.ChangeShapes Go.WideShapes Go.ChangeAt Go.RowKit
open Ar (inR)
section
variable {N : LmN} {s : LmS}
end
end Go.Proofs.YtannniobeanhlaaGreat
/- The contracts of layer 12 (limiter): evict. -/
namespace Go.Proofs.YtannniobeanhlaaGreat
set_option linter.unusedSimpArgs false
set_option linter.unusedVariables false
set_option maxRecDepth 100000
open Go.ChangeShapes Go.WideShapes Go.ChangeAt Go.RowKit
open Ar (inR)
section
variable {N : LmN} {s : LmS}
/-- the cell that Remove answers. -/
def remC (C : List Cel) : Option Nat → Cel
  | some i => C.getD i (0, 0, 0, 0)
  | none => (0, 0, 0, 0)
theorem LmG.rem {now : Int} (hg : LmG N s now) (o : Option Nat) : celG (remC s.C o) N.U N.W N.B N.L now := by
  have hz : celG (0, 0, 0, 0) N.U N.W N.B N.L now := ⟨by decide, by decide, by decide, by decide, hg.U, hg.W, hg.B, hg.L, hg.n⟩
  cases o with
  | none => exact hz
  | some i =>
    show celG (s.C.getD i (0, 0, 0, 0)) _ _ _ _ _
    rw [List.getD_eq_getElem?_getD]
    cases hc : s.C[i]? with
    | none => exact hz
    | some c => exact (hg.c c (List.mem_of_getElem? hc)).1
end
end Go.Proofs.YtannniobeanhlaaGreat
/- The contracts of layer 12 (limiter): admit. -/
namespace Go.Proofs.YtannniobeanhlaaGreat
set_option linter.unusedSimpArgs false
set_option linter.unusedVariables false
set_option maxRecDepth 100000
open Go.ChangeShapes Go.WideShapes Go.ChangeAt Go.RowKit
open Ar (inR)
theorem Lm.own_fr {w w' : World} {F : Nat → Prop} {base : Nat} {e : TypeId} {size n : Nat} {v : Value} {xs : List Value} (h : w.ownsRow base e size v n xs) (hf : Fr F w w') (hF : ∀ k, F k → k < base) : w'.ownsRow base e size v n xs := by
  refine ⟨h.1, ?_⟩
  rcases h.2 with h0 | ⟨g, cap, cur, hv, hbg, hg, h1⟩
  · exact Or.inl h0
  · exact Or.inr ⟨g, cap, cur, hv, hbg, by rw [hf.block g (lt_of_block hg) (fun hk => by have := hF g hk; omega)]; exact hg, h1⟩
theorem Lm.own_base {w : World} {base : Nat} {e : TypeId} {size n : Nat} {v : Value} {xs : List Value} (h : w.ownsRow base e size v n xs) : ∀ g, v.ownBlock = some g → base ≤ g := by
  intro g hg
  rcases h.2 with ⟨rfl, _⟩ | ⟨g', cap, cur, rfl, hb, _⟩
  · cases hg
  · have : g' = g := by simpa [Value.ownBlock] using hg
    omega
section
variable {N : LmN} {s : LmS}
/-- a key gets a cell. -/
def LmS.put (s : LmS) (N : LmN) (now : Int) (key : ByteArray) : LmS :=
  { s with σ := (s.σ.put N.Q.N.n key).1, C := plSet s.C (now, now, estZ N.R s.r key, 0) (s.σ.put N.Q.N.n key).2 }
end
end Go.Proofs.YtannniobeanhlaaGreat
/- The contracts of layer 12 (limiter): the cell that a key has, or would get. -/
namespace Go.Proofs.YtannniobeanhlaaGreat
set_option linter.unusedSimpArgs false
set_option linter.unusedVariables false
set_option maxRecDepth 100000
open Go.ChangeShapes Go.WideShapes Go.ChangeAt Go.RowKit
open Ar (inR)
section
variable {N : LmN} {s : LmS}
end
end Go.Proofs.YtannniobeanhlaaGreat
/- The contracts of layer 12 (limiter): Totals, Resident, Mass. -/
namespace Go.Proofs.YtannniobeanhlaaGreat
set_option linter.unusedSimpArgs false
set_option linter.unusedVariables false
set_option maxRecDepth 100000
open Go.ChangeShapes Go.WideShapes Go.ChangeAt Go.RowKit
open Ar (inR)
section
variable {N : LmN} {s : LmS}
/-- how many of the pool's cells are keys'. -/
def LmS.len (s : LmS) (N : LmN) : Int := ((N.Q.N.n - s.σ.fl.length : Nat) : Int)
end
end Go.Proofs.YtannniobeanhlaaGreat
/- The contracts of layer 12 (limiter): Top, Peek. -/
namespace Go.Proofs.YtannniobeanhlaaGreat
set_option linter.unusedSimpArgs false
set_option linter.unusedVariables false
set_option maxRecDepth 100000
open Go.ChangeShapes Go.WideShapes Go.ChangeAt Go.RowKit
open Ar (inR)
section
variable {N : LmN} {s : LmS}
end
end Go.Proofs.YtannniobeanhlaaGreat
/- The contracts of layer 12 (limiter): Check. -/
namespace Go.Proofs.YtannniobeanhlaaGreat
set_option linter.unusedSimpArgs false
set_option linter.unusedVariables false
set_option maxRecDepth 100000
open Go.ChangeShapes Go.WideShapes Go.ChangeAt Go.RowKit
open Ar (inR)
section
variable {N : LmN} {s : LmS}
/-- a time has come, and a key was offered a cost. -/
def LmS.seen (s : LmS) (N : LmN) (now : Int) (key : ByteArray) (cost : Int) : LmS :=
  { s with r := ⟨max s.r.t now, s.r.num, s.r.F⟩, M := (offerM N.S.N.n s.M s.tot key cost).1, tot := (offerM N.S.N.n s.M s.tot key cost).2 }
end
end Go.Proofs.YtannniobeanhlaaGreat
/- The contracts of layer 12 (limiter): Peek. -/
namespace Go.Proofs.YtannniobeanhlaaGreat
set_option linter.unusedSimpArgs false
set_option linter.unusedVariables false
set_option maxRecDepth 100000
open Go.ChangeShapes Go.WideShapes Go.ChangeAt Go.RowKit
open Ar (inR)
section
variable {N : LmN} {s : LmS}
end
end Go.Proofs.YtannniobeanhlaaGreat
/- What stays true of a limiter while it is called: its numbers. -/
namespace Go.Proofs.YtannniobeanhlaaGreat
set_option linter.unusedSimpArgs false
set_option linter.unusedVariables false
set_option maxRecDepth 100000
open Go.ChangeShapes Go.WideShapes Go.ChangeAt Go.RowKit
open Ar (inR)
section
variable {R : RgN} {σ : RgS} {T : Int}
/-- a ring that may lie somewhere. -/
def RgOk (R : RgN) (σ : RgS) : Prop := ∃ w, RgAt w R σ
theorem RgOk.to (h : RgOk R σ) {t : Int} (ht : t ≤ 9223372036854775807) : RgOk R ⟨max σ.t t, σ.num, σ.F⟩ := by
  obtain ⟨w, h⟩ := h
  have hf : Fr (fun b => b = R.x) w (setObj w R.x (.cells (ringC R (max σ.t t)) 230 (0, 0))) := Fr.setObj (F := fun b => b = R.x) (Fr.refl _ _) rfl _
  exact ⟨_, setObj_at (lt_of_block h.hx) _, h.hp.fr hf (fun e => h.nx e.symm), fun i hi => (h.hs i hi).fr hf (h.ns i hi).1.1 (h.ns i hi).2.1, h.nx, h.ns, h.ng, h.bd, (by have := h.ht; show 0 ≤ max σ.t t ∧ max σ.t t ≤ _; omega), h.hn⟩
theorem okC_zero : Sk.okC (fun _ _ => 0) := fun _ _ => by show (0 : Int) ≤ 0 ∧ (0 : Int) ≤ 9223372036854775807; omega
theorem RgOk.add (h : RgOk R σ) (s : ByteArray) {c : Int} (hc : c ≤ 9223372036854775807) : RgOk R (σ.add R s c) := by
  obtain ⟨w, h⟩ := h
  have hpl := h.pl_lt.1
  have h1 := h.putN (i := σ.pl R) (v := σ.now R) hpl h.now_in
  have h0 : Sk.okC (if σ.num (σ.pl R) = σ.now R then σ.F (σ.pl R) else fun _ _ => 0) := by
    split
    · exact h.ok _ hpl
    · exact okC_zero
  have h2 := h0.add R.P R.k s hc
  have h3 := (h1.hs (σ.pl R) hpl).put h2
  exact ⟨_, h1.putF hpl h3 (Fr.setObj (F := fun b => b = R.gs (σ.pl R)) (Fr.refl _ _) rfl _)⟩
theorem RgOk.est (h : RgOk R σ) (hf : FewR R σ T) (hT : T ≤ 9223372036854775807) (s : ByteArray) : 0 ≤ estZ R σ s ∧ estZ R σ s ≤ T := by
  obtain ⟨w, h⟩ := h
  obtain ⟨p1, p2, p3, p4⟩ := est_parts (s := s) h hf hT
  have hn := h.bd.1
  have ha := hf.all s
  have sp := rsum_split (R := R) (σ := σ) (s := s) (a := σ.now R - ((R.n : Int) - 1)) (b := σ.now R) (c := σ.now R - ((R.n : Int) - 1)) (by omega) (by omega) R.n
  have r3 := rsum_in (R := R) (σ := σ) (s := s) h.ok (σ.now R - ((R.n : Int) - 1)) (σ.now R)
  have r4 := rsum_in (R := R) (σ := σ) (s := s) h.ok (σ.now R - ((R.n : Int) - 1) + 1) (σ.now R)
  omega
end
theorem FewR.mono {R : RgN} {σ : RgS} {T T' : Int} (h : FewR R σ T) (hT : T ≤ T') : FewR R σ T' := ⟨fun s => Int.le_trans (h.all s) hT, h.now⟩
/-- what the laws know of a limiter: its numbers are so large at most. -/
structure LmI (N : LmN) (s : LmS) (t m : Int) : Prop where
  rg : RgOk N.R s.r
  few : FewR N.R s.r m
  cnt : ∀ i j p, s.r.F i j p ≤ m
  t1 : s.r.t ≤ t
  t0 : 0 ≤ t ∧ t ≤ 4611686018427387904
  c : ∀ c ∈ s.C, (0 ≤ c.1 ∧ c.1 ≤ t + 1099511627776) ∧ (0 ≤ c.2.1 ∧ c.2.1 ≤ t) ∧ (0 ≤ c.2.2.1 ∧ c.2.2.1 ≤ m) ∧ 0 ≤ c.2.2.2 ∧ c.2.2.2 ≤ m
  al : 0 ≤ s.al ∧ s.al ≤ m
  de : 0 ≤ s.de ∧ s.de ≤ m
  ba : 0 ≤ s.ba ∧ s.ba ≤ m
  m : 0 ≤ m ∧ m ≤ 576460752303423488
  U : 1 ≤ N.U ∧ N.U ≤ 1048576
  W : 1 ≤ N.W ∧ N.W ≤ 1048576
  B : 1 ≤ N.B ∧ N.B ≤ 1048576
  L : 1 ≤ N.L ∧ N.L ≤ 1048576
section
variable {N : LmN} {s : LmS} {t m now : Int}
theorem LmI.g (h : LmI N s now m) : LmG N s now := by
  have t0 := h.t0
  have hm := h.m
  refine ⟨fun c hc => ?_, by have := h.t1; omega, t0, h.U, h.W, h.B, h.L⟩
  obtain ⟨h1, h2, h3, h4⟩ := h.c c hc
  exact ⟨⟨by omega, by omega, by omega, by omega, h.U, h.W, h.B, h.L, t0⟩, by omega⟩
theorem LmI.mono (h : LmI N s t m) {t' m' : Int} (ht : t ≤ t' ∧ t' ≤ 4611686018427387904) (hm : m ≤ m' ∧ m' ≤ 576460752303423488) : LmI N s t' m' := by
  have t0 := h.t0
  have m0 := h.m
  refine ⟨h.rg, h.few.mono hm.1, fun i j p => Int.le_trans (h.cnt i j p) hm.1, by have := h.t1; omega, by omega, fun c hc => ?_, by have := h.al; omega, by have := h.de; omega, by have := h.ba; omega, by omega, h.U, h.W, h.B, h.L⟩
  obtain ⟨h1, h2, h3, h4⟩ := h.c c hc
  omega
theorem LmI.to (h : LmI N s now m) : LmI N { s with r := ⟨max s.r.t now, s.r.num, s.r.F⟩ } now m := by
  obtain ⟨rg, few, cnt, t1, t0, c, al, de, ba, hm, U, W, B, L⟩ := h
  have hs : 1 ≤ N.R.s := by obtain ⟨w, hw⟩ := rg; exact hw.bd.2.1.1
  exact ⟨rg.to (by omega), few.to hs (by omega), cnt, by show max s.r.t now ≤ now; omega, t0, c, al, de, ba, hm, U, W, B, L⟩
theorem LmI.seen (h : LmI N s now m) (key : ByteArray) (cost : Int) : LmI N (s.seen N now key cost) now m := by
  obtain ⟨rg, few, cnt, t1, t0, c, al, de, ba, hm, U, W, B, L⟩ := h.to
  exact ⟨rg, few, cnt, t1, t0, c, al, de, ba, hm, U, W, B, L⟩
theorem LmI.est (h : LmI N s now m) (key : ByteArray) : 0 ≤ estZ N.R s.r key ∧ estZ N.R s.r key ≤ m := h.rg.est h.few (by have := h.m; omega) key
theorem plSet_mem {C : List Cel} {c x : Cel} {o : Option Nat} (h : x ∈ plSet C c o) : x = c ∨ x ∈ C := by
  cases o with
  | none => exact Or.inr h
  | some i =>
    rcases List.mem_or_eq_of_mem_set h with h | h
    · exact Or.inr h
    · exact Or.inl h
theorem LmI.put (h : LmI N s now m) (key : ByteArray) : LmI N (s.put N now key) now m := by
  have he := h.est key
  have ht := h.t0
  obtain ⟨rg, few, cnt, t1, t0, c, al, de, ba, hm, U, W, B, L⟩ := h
  refine ⟨rg, few, cnt, t1, t0, fun x hx => ?_, al, de, ba, hm, U, W, B, L⟩
  rcases plSet_mem hx with rfl | hx
  · exact ⟨by show 0 ≤ now ∧ now ≤ _; omega, by show 0 ≤ now ∧ now ≤ _; omega, he, by show (0 : Int) ≤ 0 ∧ 0 ≤ m; omega⟩
  · exact c x hx
theorem LmAt.keys {w : World} (h : LmAt w N s) : ∀ x ∈ s.res N, x.1.size ≤ 64 := by
  intro x hx
  obtain ⟨i, _, he⟩ := List.mem_filterMap.1 hx
  cases hk : s.σ.K i with
  | none => rw [hk] at he; cases he
  | some y =>
    rw [hk] at he
    injection he with he
    rw [← he]
    exact (h.hp.ix.uni.2.1 i y hk).2
end
end Go.Proofs.YtannniobeanhlaaGreat
/- The contracts of layer 12 (limiter): New. -/
namespace Go.Proofs.YtannniobeanhlaaGreat
set_option linter.unusedSimpArgs false
set_option linter.unusedVariables false
set_option maxRecDepth 100000
open Go.ChangeShapes Go.WideShapes Go.ChangeAt Go.RowKit
open Ar (inR)
/-- a limiter as it is made. -/
def lmZ (Ce : Nat) : LmS := ⟨kNew Ce, List.replicate Ce (0, 0, 0, 0), ⟨0, fun _ => 0, fun _ _ _ => 0⟩, [], 0, 0, 0, 0⟩
/-- what a limiter has of its rule. -/
structure LmP (N : LmN) (L Wd Bu : Int) (Sl s k W Ce Tr : Nat) (sm : Bool) (X A B : Nat → Nat) : Prop where
  pU : N.U = unitZ Wd (L + 1 - Bu)
  pW : N.W = Wd
  pB : N.B = Bu
  pL : N.L = L
  pC : N.Q.N.n = Ce
  pT : N.S.N.n = Tr
  pn : N.R.n = Sl + 1
  ps : N.R.s = s
  pRL : N.R.L = L
  psm : N.R.sm = sm
  pk : N.R.k = k
  pRW : N.R.W = W
  pX : N.R.X = X
  pA : N.R.A = A
  pRB : N.R.B = B
set_option maxHeartbeats 4000000 in
theorem lmnew_any (L Wd Bu : Int) (Sl s k W Ce Tr : Nat) (sm : Bool) (hL : 1 ≤ L ∧ L ≤ 9223372036854775000) (hBu : 1 ≤ Bu ∧ Bu ≤ L) (hWd : 0 ≤ Wd ∧ Wd ≤ 9223372036854775807) (hSl : 1 ≤ Sl ∧ Sl ≤ 64) (hs : Wd / (Sl : Int) = (s : Int) ∧ 1 ≤ s) (hk : 1 ≤ k ∧ k ≤ 8) (hW : 1 ≤ W ∧ (Sl + 1) * (8 * (k * W)) ≤ 2147483647)
    (hCe : 1 ≤ Ce ∧ Ce ≤ 1024) (hTr : 1 ≤ Tr ∧ Tr ≤ 64) (A0 : Option Addr) (n0 c0 : Nat) (zs : List Int) (w : World) (hr : RdI w .u64 A0 n0 c0 zs) :
    Calls Tryz.prog 65 #[rlV L Wd Bu Sl Ce k W Tr sm, .slice A0 n0 c0] w fun e w' => ∃ N : LmN, e = .returned (.pointer (some ⟨N.l, 0, none⟩)) ∧ LmAt w' N (lmZ Ce) ∧ LmP N L Wd Bu Sl s k W Ce Tr sm (rX zs) (rA zs) (rB zs) ∧ (∀ b, N.all b → w.heap.size ≤ b) ∧ Below w.heap.size w w' := by
  obtain ⟨w1, hw1, k1, l1, s1⟩ := box_new w (rlC L Wd Bu Sl Ce k W Tr sm) 52
  obtain ⟨rb, hrb⟩ : ∃ rb, rb = w.heap.size := ⟨_, rfl⟩
  rw [← hrb] at k1
  have kr := k1.rd
  have K1 := Lib.hid (And.intro k1 l1)
  have HRB := Lib.hid hrb
  obtain ⟨m, hm⟩ : ∃ m, m = k + 1 := ⟨_, rfl⟩
  have CH := Lib.hid (fun wx (hb : Below w.heap.size w wx) => rows_any wx A0 n0 c0 zs (hr.below hb) m (by omega))
  have CO := Lib.hid (fun wx => of_any L Wd Bu (Sl : Int) (Ce : Int) (k : Int) (W : Int) (Tr : Int) sm (by unfold inR; omega) (by unfold inR; omega) (by unfold inR; omega) wx)
  have e1 : min (k : Int) 8 = (k : Int) := by omega
  have e2 : max 0 (k : Int) = (k : Int) := by omega
  have e3 : IntKind.i64.wrap ((k : Int) + 1) = (m : Int) := by rw [IntKind.wrap_i64]; omega
  have e4 : (k : Int) < (m : Int) := by omega
  have e5 : (k : Int) ≤ (m : Int) := by omega
  have e6 : (0 : Int) ≤ (k : Int) := by omega
  have HM := Lib.hid hm
  obtain ⟨u, hu⟩ : ∃ u, u = unitZ Wd (L + 1 - Bu) := ⟨_, rfl⟩
  rw [← hu] at CO
  have HU := Lib.hid hu
  obtain ⟨Xk, hXk⟩ : ∃ x, x = rX zs k := ⟨_, rfl⟩
  obtain ⟨Ak, hAk⟩ : ∃ x, x = rA zs k := ⟨_, rfl⟩
  obtain ⟨Bk, hBk⟩ : ∃ x, x = rB zs k := ⟨_, rfl⟩
  have hlt := rows_lt zs m
  have hltk := hlt k (by omega)
  rw [← hXk, ← hAk, ← hBk] at hltk
  have HX := Lib.hid (And.intro hXk (And.intro hAk hBk))
  have CP := Lib.hid (fun wx => plnew_any Xk Ak Bk hltk.1 hltk.2.1 hltk.2.2 Ce hCe.1 hCe.2 wx)
  have CS := Lib.hid (fun wx => smnew_any Xk Ak Bk hltk.1 hltk.2.1 hltk.2.2 Tr hTr.1 hTr.2 wx)
  have CR := Lib.hid (fun b0 wx (hx : RowsGe wx b0 k (rX zs) (rA zs) (rB zs)) => show Calls Tryz.prog 93 #[rlV L Wd Bu Sl Ce k W Tr sm, .slice (some ⟨b0, 0, none⟩) k m] wx _ from by rw [hm]; exact rnew_cap L Wd Bu Ce k Tr Sl s k W sm (by unfold inR; omega) hWd hSl hs hk hW b0 (rX zs) (rA zs) (rB zs) wx hx (fun j hj => hlt j (by omega)))
  clear k1 l1 s1 hr hrb hm hu hXk hAk hBk hlt hltk hs hW hL hBu hWd hSl hk hCe hTr
  go_enter Tryz.func65, Tryz.ntmps65
  go_upto_region 1 with (fail)
  rw [← HRB.out]
  clear hw1
  go_upto_region 3 with (go_at_call 90; ((with_reducible refine (CH.out _ K1.out.2).mono ?_); rintro e w2 ⟨rfl, r2, b2⟩; have R2 := Lib.hid r2; have K2 := Lib.hid (K1.out.1.keep b2); have B2 := Lib.hid (below_in K1.out.2 b2); have G2 := Lib.hid (show rb < w1.heap.size from lt_of_block K1.out.1); clear r2 b2))
  clear kr CH
  obtain ⟨rwb, hrw⟩ : ∃ x, x = w1.heap.size := ⟨_, rfl⟩
  rw [← hrw] at R2 G2 ⊢
  have SB := Lib.hid (fun wx (hb : Below w2.heap.size w2 wx) => show (∀ i, wx.cell? ⟨rb, i, none⟩ = (rlC L Wd Bu Sl Ce k W Tr sm)[i]?) ∧ wx.cell? ⟨rwb, k * 3, none⟩ = some (.int .u64 (Xk : Int)) ∧ wx.cell? ⟨rwb, k * 3 + 1, none⟩ = some (.int .u64 (Ak : Int)) ∧ wx.cell? ⟨rwb, k * 3 + 2, none⟩ = some (.int .u64 (Bk : Int)) from by
    obtain ⟨C, hC, _, hj⟩ := (rows_keep R2.out hb).blk
    have h3 := hj k (by have := HM.out; omega)
    rw [Nat.mul_comm 3 k, ← HX.out.1, ← HX.out.2.1, ← HX.out.2.2] at h3
    exact ⟨(K2.out.keep hb).rd, (blk_cell hC).trans h3.1, (blk_cell hC).trans h3.2.1, (blk_cell hC).trans h3.2.2⟩)
  have BN := Lib.hid (show Below w2.heap.size w2 w2.drew from below_draws (Below.refl _ _) 1)
  have st := SB.out _ BN.out
  clear hrw
  refine wp_region_held_drew (S := fun wx => (∀ i, wx.cell? ⟨rb, i, none⟩ = (rlC L Wd Bu Sl Ce k W Tr sm)[i]?) ∧ wx.cell? ⟨rwb, k * 3, none⟩ = some (.int .u64 (Xk : Int)) ∧ wx.cell? ⟨rwb, k * 3 + 1, none⟩ = some (.int .u64 (Ak : Int)) ∧ wx.cell? ⟨rwb, k * 3 + 2, none⟩ = some (.int .u64 (Bk : Int))) (by kernel_rfl) st (fun hHeld => ?_)
  clear st
  refine wpAnyH_take (i := 0) (oi := ?_) (v := ?_) ?_ ?_ ?_ ?_ ?_ ?_ ?_ ?_
  rotate_left 2
  · simp only [List.getElem?_toArray, List.getElem?_cons_succ, List.getElem?_cons_zero]; rfl
  · kernel_rfl
  · kernel_rfl
  · kernel_rfl
  · exact fun _ _ _ h => h
  · refine Or.inl ⟨by rfl, ?_⟩
    intro w' hSw
    (try dsimp only at hSw)
    go_simp
    all_goals (with_reducible rfl)
  · assumption
  try simp only [Act.put, List.setIfInBounds_toArray, List.set_cons_zero, List.set_cons_succ]
  refine wpAnyH_take (i := 2) (oi := ?_) (v := ?_) ?_ ?_ ?_ ?_ ?_ ?_ ?_ ?_
  rotate_left 2
  · simp only [List.getElem?_toArray, List.getElem?_cons_succ, List.getElem?_cons_zero]; rfl
  · kernel_rfl
  · kernel_rfl
  · kernel_rfl
  · exact fun _ _ _ h => h
  · refine Or.inl ⟨by rfl, ?_⟩
    intro w' hSw
    (try dsimp only at hSw)
    go_simp
    all_goals (with_reducible rfl)
  · assumption
  try simp only [Act.put, List.setIfInBounds_toArray, List.set_cons_zero, List.set_cons_succ]
  refine wpAnyH_take (i := 3) (oi := ?_) (v := ?_) ?_ ?_ ?_ ?_ ?_ ?_ ?_ ?_
  rotate_left 2
  · simp only [List.getElem?_toArray, List.getElem?_cons_succ, List.getElem?_cons_zero]; rfl
  · kernel_rfl
  · kernel_rfl
  · kernel_rfl
  · exact fun _ _ _ h => h
  · refine Or.inl ⟨by rfl, ?_⟩
    intro w' hSw
    (try dsimp only at hSw)
    go_simp
    all_goals (with_reducible rfl)
  · assumption
  try simp only [Act.put, List.setIfInBounds_toArray, List.set_cons_zero, List.set_cons_succ]
  refine wpAnyH_take (i := 4) (oi := ?_) (v := ?_) ?_ ?_ ?_ ?_ ?_ ?_ ?_ ?_
  rotate_left 2
  · simp only [List.getElem?_toArray, List.getElem?_cons_succ, List.getElem?_cons_zero]; rfl
  · kernel_rfl
  · kernel_rfl
  · kernel_rfl
  · exact fun _ _ _ h => h
  · refine Or.inl ⟨by rfl, ?_⟩
    intro w' hSw
    (try dsimp only at hSw)
    go_simp
    all_goals (with_reducible rfl)
  · assumption
  try simp only [Act.put, List.setIfInBounds_toArray, List.set_cons_zero, List.set_cons_succ]
  refine wpAnyH_take (i := 5) (oi := ?_) (v := ?_) ?_ ?_ ?_ ?_ ?_ ?_ ?_ ?_
  rotate_left 2
  · simp only [List.getElem?_toArray, List.getElem?_cons_succ, List.getElem?_cons_zero]; rfl
  · kernel_rfl
  · kernel_rfl
  · kernel_rfl
  · exact fun _ _ _ h => h
  · refine Or.inl ⟨by rfl, ?_⟩
    intro w' hSw
    (try dsimp only at hSw)
    go_simp
    all_goals (with_reducible rfl)
  · assumption
  try simp only [Act.put, List.setIfInBounds_toArray, List.set_cons_zero, List.set_cons_succ]
  refine wpAnyH_take (i := 6) (oi := ?_) (v := ?_) ?_ ?_ ?_ ?_ ?_ ?_ ?_ ?_
  rotate_left 2
  · simp only [List.getElem?_toArray, List.getElem?_cons_succ, List.getElem?_cons_zero]; rfl
  · kernel_rfl
  · kernel_rfl
  · kernel_rfl
  · exact fun _ _ _ h => h
  · refine Or.inl ⟨by rfl, ?_⟩
    intro w' hSw
    (try dsimp only at hSw)
    go_simp
    all_goals (with_reducible rfl)
  · assumption
  try simp only [Act.put, List.setIfInBounds_toArray, List.set_cons_zero, List.set_cons_succ]
  refine wpAnyH_take (i := 7) (oi := ?_) (v := ?_) ?_ ?_ ?_ ?_ ?_ ?_ ?_ ?_
  rotate_left 2
  · simp only [List.getElem?_toArray, List.getElem?_cons_succ, List.getElem?_cons_zero]; rfl
  · kernel_rfl
  · kernel_rfl
  · kernel_rfl
  · exact fun _ _ _ h => h
  · refine Or.inl ⟨by rfl, ?_⟩
    intro w' hSw
    (try dsimp only at hSw)
    go_simp
    all_goals (with_reducible rfl)
  · assumption
  try simp only [Act.put, List.setIfInBounds_toArray, List.set_cons_zero, List.set_cons_succ]
  refine wpAnyH_take (i := 8) (oi := ?_) (v := ?_) ?_ ?_ ?_ ?_ ?_ ?_ ?_ ?_
  rotate_left 2
  · simp only [List.getElem?_toArray, List.getElem?_cons_succ, List.getElem?_cons_zero]; rfl
  · kernel_rfl
  · kernel_rfl
  · kernel_rfl
  · exact fun _ _ _ h => h
  · refine Or.inl ⟨by rfl, ?_⟩
    intro w' hSw
    (try dsimp only at hSw)
    go_simp
    all_goals (with_reducible rfl)
  · assumption
  try simp only [Act.put, List.setIfInBounds_toArray, List.set_cons_zero, List.set_cons_succ]
  refine wpAnyH_take (i := 10) (oi := ?_) (v := ?_) ?_ ?_ ?_ ?_ ?_ ?_ ?_ ?_
  rotate_left 2
  · simp only [List.getElem?_toArray, List.getElem?_cons_succ, List.getElem?_cons_zero]; rfl
  · kernel_rfl
  · kernel_rfl
  · kernel_rfl
  · exact fun _ _ _ h => h
  · refine Or.inl ⟨by rfl, ?_⟩
    intro w' hSw
    (try dsimp only at hSw)
    go_simp
    all_goals (with_reducible rfl)
  · assumption
  try simp only [Act.put, List.setIfInBounds_toArray, List.set_cons_zero, List.set_cons_succ]
  refine wpAnyH_take (i := 11) (oi := ?_) (v := ?_) ?_ ?_ ?_ ?_ ?_ ?_ ?_ ?_
  rotate_left 2
  · simp only [List.getElem?_toArray, List.getElem?_cons_succ, List.getElem?_cons_zero]; rfl
  · kernel_rfl
  · kernel_rfl
  · kernel_rfl
  · exact fun _ _ _ h => h
  · refine Or.inl ⟨by rfl, ?_⟩
    intro w' hSw
    (try dsimp only at hSw)
    go_simp
    all_goals (with_reducible rfl)
  · assumption
  try simp only [Act.put, List.setIfInBounds_toArray, List.set_cons_zero, List.set_cons_succ]
  refine wpAnyH_take (i := 12) (oi := ?_) (v := ?_) ?_ ?_ ?_ ?_ ?_ ?_ ?_ ?_
  rotate_left 2
  · simp only [List.getElem?_toArray, List.getElem?_cons_succ, List.getElem?_cons_zero]; rfl
  · kernel_rfl
  · kernel_rfl
  · kernel_rfl
  · exact fun _ _ _ h => h
  · refine Or.inl ⟨by rfl, ?_⟩
    intro w' hSw
    (try dsimp only at hSw)
    go_simp
    all_goals (with_reducible rfl)
  · assumption
  try simp only [Act.put, List.setIfInBounds_toArray, List.set_cons_zero, List.set_cons_succ]
  refine wpAnyH_take (i := 13) (oi := ?_) (v := ?_) ?_ ?_ ?_ ?_ ?_ ?_ ?_ ?_
  rotate_left 2
  · simp only [List.getElem?_toArray, List.getElem?_cons_succ, List.getElem?_cons_zero]; rfl
  · kernel_rfl
  · kernel_rfl
  · kernel_rfl
  · exact fun _ _ _ h => h
  · refine Or.inl ⟨by rfl, ?_⟩
    intro w' hSw
    (try dsimp only at hSw)
    go_simp
    all_goals (with_reducible rfl)
  · assumption
  try simp only [Act.put, List.setIfInBounds_toArray, List.set_cons_zero, List.set_cons_succ]
  refine wpAnyH_take (i := 15) (oi := ?_) (v := ?_) ?_ ?_ ?_ ?_ ?_ ?_ ?_ ?_
  rotate_left 2
  · simp only [List.getElem?_toArray, List.getElem?_cons_succ, List.getElem?_cons_zero]; rfl
  · kernel_rfl
  · kernel_rfl
  · kernel_rfl
  · exact fun _ _ _ h => h
  · refine Or.inl ⟨by rfl, ?_⟩
    intro w' hSw
    (try dsimp only at hSw)
    go_simp
    all_goals (with_reducible rfl)
  · assumption
  try simp only [Act.put, List.setIfInBounds_toArray, List.set_cons_zero, List.set_cons_succ]
  refine wpAnyH_take (i := 16) (oi := ?_) (v := ?_) ?_ ?_ ?_ ?_ ?_ ?_ ?_ ?_
  rotate_left 2
  · simp only [List.getElem?_toArray, List.getElem?_cons_succ, List.getElem?_cons_zero]; rfl
  · kernel_rfl
  · kernel_rfl
  · kernel_rfl
  · exact fun _ _ _ h => h
  · refine Or.inl ⟨by rfl, ?_⟩
    intro w' hSw
    (try dsimp only at hSw)
    go_simp
    all_goals (with_reducible rfl)
  · assumption
  try simp only [Act.put, List.setIfInBounds_toArray, List.set_cons_zero, List.set_cons_succ]
  refine wpAnyH_take (i := 17) (oi := ?_) (v := ?_) ?_ ?_ ?_ ?_ ?_ ?_ ?_ ?_
  rotate_left 2
  · simp only [List.getElem?_toArray, List.getElem?_cons_succ, List.getElem?_cons_zero]; rfl
  · kernel_rfl
  · kernel_rfl
  · kernel_rfl
  · exact fun _ _ _ h => h
  · refine Or.inl ⟨by rfl, ?_⟩
    intro w' hSw
    (try dsimp only at hSw)
    go_simp
    all_goals (with_reducible rfl)
  · assumption
  try simp only [Act.put, List.setIfInBounds_toArray, List.set_cons_zero, List.set_cons_succ]
  refine wpAnyH_take (i := 18) (oi := ?_) (v := ?_) ?_ ?_ ?_ ?_ ?_ ?_ ?_ ?_
  rotate_left 2
  · simp only [List.getElem?_toArray, List.getElem?_cons_succ, List.getElem?_cons_zero]; rfl
  · kernel_rfl
  · kernel_rfl
  · kernel_rfl
  · exact fun _ _ _ h => h
  · refine Or.inl ⟨by rfl, ?_⟩
    intro w' hSw
    (try dsimp only at hSw)
    go_simp
    all_goals (with_reducible rfl)
  · assumption
  try simp only [Act.put, List.setIfInBounds_toArray, List.set_cons_zero, List.set_cons_succ]
  refine wpAnyH_take (i := 19) (oi := ?_) (v := ?_) ?_ ?_ ?_ ?_ ?_ ?_ ?_ ?_
  rotate_left 2
  · simp only [List.getElem?_toArray, List.getElem?_cons_succ, List.getElem?_cons_zero]; rfl
  · kernel_rfl
  · kernel_rfl
  · kernel_rfl
  · exact fun _ _ _ h => h
  · refine Or.inl ⟨by rfl, ?_⟩
    intro w' hSw
    (try dsimp only at hSw)
    go_simp
    all_goals (with_reducible rfl)
  · assumption
  try simp only [Act.put, List.setIfInBounds_toArray, List.set_cons_zero, List.set_cons_succ]
  refine wpAnyH_take (i := 20) (oi := ?_) (v := ?_) ?_ ?_ ?_ ?_ ?_ ?_ ?_ ?_
  rotate_left 2
  · simp only [List.getElem?_toArray, List.getElem?_cons_succ, List.getElem?_cons_zero]; rfl
  · kernel_rfl
  · kernel_rfl
  · kernel_rfl
  · exact fun _ _ _ h => h
  · refine Or.inl ⟨by rfl, ?_⟩
    intro w' hSw
    (try dsimp only at hSw)
    go_simp
    all_goals (with_reducible rfl)
  · assumption
  try simp only [Act.put, List.setIfInBounds_toArray, List.set_cons_zero, List.set_cons_succ]
  refine wpAnyH_ready (rs := [1]) (by kernel_rfl) (by simp) ?_
  refine AllReadyH.cons (o := ?_) ?_ ?_ ?_
  rotate_left 1
  · simp only [List.getElem?_toArray, List.getElem?_cons_succ, List.getElem?_cons_zero]; rfl
  rotate_left 1
  · exact AllReadyH.nil
  intro K hK
  go_simp
  ((with_reducible refine (CO.out _).mono ?_); rintro e w3 ⟨rfl, be⟩; have N1 := Lib.hid (G.below_on BN.out be); clear be)
  refine hK.out _ _ (SB.out _ N1.out) (fun hHeld => ?_)
  clear hK K
  try simp only [Act.put, List.setIfInBounds_toArray, List.set_cons_zero, List.set_cons_succ]
  refine wpAnyH_ready (rs := [9]) (by kernel_rfl) (by simp) ?_
  refine AllReadyH.cons (o := ?_) ?_ ?_ ?_
  rotate_left 1
  · simp only [List.getElem?_toArray, List.getElem?_cons_succ, List.getElem?_cons_zero]; rfl
  rotate_left 1
  · exact AllReadyH.nil
  intro K hK
  go_simp
  ((with_reducible refine (CP.out _).mono ?_); rintro e w4 ⟨Q, rfl, p4, n4, a4, be⟩; have N2 := Lib.hid (G.below_on N1.out be); have Q4 := Lib.hid (And.intro p4 (And.intro n4 (fun k hk => Nat.le_trans N1.out.size (a4 k hk)))); clear p4 n4 a4 be)
  refine hK.out _ _ (SB.out _ N2.out) (fun hHeld => ?_)
  clear hK K
  try simp only [Act.put, List.setIfInBounds_toArray, List.set_cons_zero, List.set_cons_succ]
  refine wpAnyH_ready (rs := [14]) (by kernel_rfl) (by simp) ?_
  refine AllReadyH.cons (o := ?_) ?_ ?_ ?_
  rotate_left 1
  · simp only [List.getElem?_toArray, List.getElem?_cons_succ, List.getElem?_cons_zero]; rfl
  rotate_left 1
  · exact AllReadyH.nil
  intro K hK
  go_simp
  ((with_reducible refine (CR.out _ _ ((rows_keep R2.out N2.out).ge (by have := HM.out; omega))).mono ?_); rintro e w5 ⟨R, rfl, p5, n5, a5, be⟩; have N3 := Lib.hid (G.below_on N2.out be); have Q5 := Lib.hid (Q4.out.1.keep be); have R5 := Lib.hid (And.intro p5 (And.intro n5 (And.intro a5 (show w4.heap.size ≤ w5.heap.size from be.size)))); clear p5 n5 a5 be)
  refine hK.out _ _ (SB.out _ N3.out) (fun hHeld => ?_)
  clear hK K
  try simp only [Act.put, List.setIfInBounds_toArray, List.set_cons_zero, List.set_cons_succ]
  refine wpAnyH_ready (rs := [21]) (by kernel_rfl) (by simp) ?_
  refine AllReadyH.cons (o := ?_) ?_ ?_ ?_
  rotate_left 1
  · simp only [List.getElem?_toArray, List.getElem?_cons_succ, List.getElem?_cons_zero]; rfl
  rotate_left 1
  · exact AllReadyH.nil
  intro K hK
  go_simp
  ((with_reducible refine (CS.out _).mono ?_); rintro e w6 ⟨T, rfl, p6, n6, a6, be⟩; have N4 := Lib.hid (G.below_on N3.out be); have Q6 := Lib.hid (Q5.out.keep be); have R6 := Lib.hid (R5.out.1.keep be); have S6 := Lib.hid (And.intro p6 (And.intro n6 (And.intro a6 be.size))); clear p6 n6 a6 be)
  refine hK.out _ _ (SB.out _ N4.out) (fun hHeld => ?_)
  clear hK K
  try simp only [Act.put, List.setIfInBounds_toArray, List.set_cons_zero, List.set_cons_succ]
  refine wpAnyH_take (i := 22) (oi := ?_) (v := ?_) ?_ ?_ ?_ ?_ ?_ ?_ ?_ ?_
  rotate_left 2
  · simp only [List.getElem?_toArray, List.getElem?_cons_succ, List.getElem?_cons_zero]; rfl
  · kernel_rfl
  · kernel_rfl
  · kernel_rfl
  · exact fun _ _ _ h => h
  · refine Or.inl ⟨by rfl, ?_⟩
    intro w' hSw
    (try dsimp only at hSw)
    go_simp
    all_goals (with_reducible rfl)
  · assumption
  try simp only [Act.put, List.setIfInBounds_toArray, List.set_cons_zero, List.set_cons_succ]
  refine wpAnyH_ready (rs := [23]) (by kernel_rfl) (by simp) ?_
  refine AllReadyH.cons (o := ?_) ?_ ?_ ?_
  rotate_left 1
  · simp only [List.getElem?_toArray, List.getElem?_cons_succ, List.getElem?_cons_zero]; rfl
  rotate_left 1
  · exact AllReadyH.nil
  intro K hK
  go_simp
  (obtain ⟨w7, hw7, k7, l7, s7⟩ := box_new w6 #[.int .i64 u, .int .i64 Wd, .int .i64 Bu, .int .i64 L, .slice (some ⟨rwb, 0, none⟩) m m, .pointer (some ⟨Q.p, 0, none⟩), .pointer (some ⟨R.x, 0, none⟩), .pointer (some ⟨T.s, 0, none⟩), .int .i64 0, .int .i64 0, .int .i64 0, .int .i64 0, .int .i64 0] 144; rw [hw7]; have N5 := Lib.hid (G.below_on N4.out l7); have K7 := Lib.hid (And.intro k7 l7); clear hw7 k7 l7 s7)
  refine hK.out _ _ (SB.out _ N5.out) (fun hHeld => ?_)
  clear hK K
  try simp only [Act.put, List.setIfInBounds_toArray, List.set_cons_zero, List.set_cons_succ]
  refine wpAnyH_take (i := 24) (oi := ?_) (v := ?_) ?_ ?_ ?_ ?_ ?_ ?_ ?_ ?_
  rotate_left 2
  · simp only [List.getElem?_toArray, List.getElem?_cons_succ, List.getElem?_cons_zero]; rfl
  · kernel_rfl
  · kernel_rfl
  · kernel_rfl
  · exact fun _ _ _ h => h
  · refine Or.inl ⟨by rfl, ?_⟩
    intro w' hSw
    (try dsimp only at hSw)
    go_simp
    all_goals (with_reducible rfl)
  · assumption
  try simp only [Act.put, List.setIfInBounds_toArray, List.set_cons_zero, List.set_cons_succ]
  refine wpAnyH_done (by kernel_rfl) ?_ _
  clear hHeld
  go_wp2
  go_ret
  have q4 := Q4.out.1.lt
  have r5 := R5.out.1.lt
  have s6 := S6.out.1.lt
  have z1 := R5.out.2.2.2
  have z2 := S6.out.2.2.2
  have z3 := N4.out.size
  have z4 := B2.out.size
  have a4 := Q4.out.2.2
  have a5 := R5.out.2.2.1
  have a6 := S6.out.2.2.1
  have z5 := N2.out.size
  have hn := R5.out.2.1
  refine ⟨⟨w6.heap.size, .slice (some ⟨rwb, 0, none⟩) m m, u, Wd, Bu, L, Q, R, T⟩, rfl, ⟨K7.out.1, Q6.out.keep K7.out.2, R6.out.keep K7.out.2, ⟨[], _, S6.out.1.keep K7.out.2, rfl⟩, ?_, ?_, ?_⟩, ⟨HU.out, rfl, rfl, rfl, Q4.out.2.1, S6.out.2.1, hn.1, hn.2.1, hn.2.2.1, hn.2.2.2.1, hn.2.2.2.2.1, hn.2.2.2.2.2.1, hn.2.2.2.2.2.2.1, hn.2.2.2.2.2.2.2.1, hn.2.2.2.2.2.2.2.2⟩, ?_, ?_⟩
  · rintro j (hj | hj | hj) e
    · have := q4 j hj
      have e : j = w6.heap.size := e
      omega
    · have := r5 j hj
      have e : j = w6.heap.size := e
      omega
    · have := s6 j hj
      have e : j = w6.heap.size := e
      omega
  · intro j hj
    have h1 := q4 j hj
    exact ⟨fun h => by have := a5 j h; omega, fun h => by have := a6 j h; omega⟩
  · intro j hj h
    have h1 := r5 j hj
    have := a6 j h
    omega
  · rintro j ((hj | hj | hj) | hj)
    · have := a4 j hj; omega
    · have := a5 j hj; omega
    · have := a6 j hj; omega
    · have e : j = w6.heap.size := hj
      omega
  · exact below_in B2.out N5.out
end Go.Proofs.YtannniobeanhlaaGreat
/- The contracts of layer 18 (server): draws; a limiter of a rule that may be. -/
namespace Go.Proofs.YtannniobeanhlaaGreat
set_option linter.unusedSimpArgs false
set_option linter.unusedVariables false
set_option maxRecDepth 100000
open Go.ChangeShapes Go.WideShapes Go.ChangeAt Go.RowKit
theorem svdraws_nil (ru : Int) (n : Nat) (hn : n ≤ 1000) (w : World) :
    Calls Tryz.prog 66 #[.slice none 0 0, .int .i64 ru, .int .i64 (n : Int)] w fun e w' => ∃ g, e = .returned (.slice (some ⟨g, 0, none⟩) n n) ∧ RdI w' .u64 (some ⟨g, 0, none⟩) n n (List.replicate n 0) ∧ Below w.heap.size w w' := by
  have hmk := fun w => G.make_one (P := Tryz.prog) (t := 23) (e := 69) (z := .int .u64 0) (B := 8) Tryz.underlying23 (i := (Tryz.prog.info? 69).get (by kernel_rfl)) (by rfl) (by kernel_rfl) rfl (by kernel_rfl) (by kernel_rfl) n (by omega) (by omega) w
  obtain ⟨w1, hw1, k1, b1, s1⟩ := box_new w (List.replicate n (.int .u64 0)).toArray 69
  have H1 := Lib.hid (And.intro k1 b1)
  have HM := Lib.hid hn
  obtain ⟨z0, hz0⟩ : ∃ z, z = (List.replicate n (Value.int .u64 0)).toArray := ⟨_, rfl⟩
  simp only [← hz0] at hmk
  rw [← hz0] at hw1
  have HZ := Lib.hid hz0
  clear k1 b1 s1 hn hz0
  go_enter Tryz.func66, Tryz.ntmps66
  go_wp2
  go_ret
  refine ⟨_, rfl, rd_blk (zs := List.replicate n 0) (by have := H1.out.1; rw [List.map_replicate]; exact this) (List.length_replicate) (by have := HM.out; unfold maxLen; omega) (fun z hz => by rw [List.eq_of_mem_replicate hz]; rfl), H1.out.2⟩
/-- a limiter of a rule that may be. -/
theorem lmnew_ru (r : RuZ) (hp : r.p) (A0 : Option Addr) (n0 c0 : Nat) (zs : List Int) (w : World) (hr : RdI w .u64 A0 n0 c0 zs) :
    Calls Tryz.prog 65 #[.agg r.c, .slice A0 n0 c0] w fun e w' => ∃ N : LmN, e = .returned (.pointer (some ⟨N.l, 0, none⟩)) ∧ LmAt w' N (lmZ r.Ce.toNat) ∧ LmP N r.L r.W r.B r.Sl.toNat (r.W / r.Sl).toNat r.Ro.toNat r.Wi.toNat r.Ce.toNat r.Tr.toNat r.sm (rX zs) (rA zs) (rB zs) ∧ (∀ b, N.all b → w.heap.size ≤ b) ∧ Below w.heap.size w w' := by
  obtain ⟨h1, h2, h3, h4, h5, h6, h7, h8, h9, h10, h11⟩ := hp
  have hs0 : 0 ≤ r.W / r.Sl := Int.ediv_nonneg (by omega) (by omega)
  have hs1 : 1 ≤ r.W / r.Sl := by
    have h := Int.mul_ediv_add_emod r.W r.Sl
    rw [h5] at h
    rcases Int.lt_or_le 0 (r.W / r.Sl) with q | q
    · omega
    · have : r.W / r.Sl = 0 := by omega
      rw [this] at h
      omega
  have hb : r.Wi.toNat ≤ 4096 := by omega
  have hk : r.Ro.toNat ≤ 8 := by omega
  have m1 : r.Ro.toNat * r.Wi.toNat ≤ 8 * 4096 := Nat.mul_le_mul hk hb
  have m2 : (r.Sl.toNat + 1) * (8 * (r.Ro.toNat * r.Wi.toNat)) ≤ 65 * (8 * (8 * 4096)) := Nat.mul_le_mul (by omega) (by omega)
  have := lmnew_any r.L r.W r.B r.Sl.toNat (r.W / r.Sl).toNat r.Ro.toNat r.Wi.toNat r.Ce.toNat r.Tr.toNat r.sm (by omega) (by omega) (by omega) (by omega) ⟨by rw [Int.toNat_of_nonneg (by omega), Int.toNat_of_nonneg hs0], by omega⟩ (by omega) ⟨by omega, by omega⟩ (by omega) (by omega) A0 n0 c0 zs w hr
  rw [Int.toNat_of_nonneg (show 0 ≤ r.Sl by omega), Int.toNat_of_nonneg (show 0 ≤ r.Ce by omega), Int.toNat_of_nonneg (show 0 ≤ r.Ro by omega), Int.toNat_of_nonneg (show 0 ≤ r.Wi by omega), Int.toNat_of_nonneg (show 0 ≤ r.Tr by omega)] at this
  exact this
end Go.Proofs.YtannniobeanhlaaGreat
/- The contracts of layer 18 (server): judge: each rule has a new limiter. -/
namespace Go.Proofs.YtannniobeanhlaaGreat
set_option linter.unusedSimpArgs false
set_option linter.unusedVariables false
set_option maxRecDepth 100000
open Go.ChangeShapes Go.WideShapes Go.ChangeAt Go.RowKit
abbrev pcL (N : LmN) : Value := .pointer (some ⟨N.l, 0, none⟩)
/-- limiters in memory, each apart from the others. -/
structure JdAt (w : World) (base : Nat) (Ns : List LmN) (Ss : List LmS) : Prop where
  ln : Ns.length = Ss.length
  at_ : ∀ (i : Nat) N s, Ns[i]? = some N → Ss[i]? = some s → LmAt w N s
  lo : ∀ (i : Nat) N, Ns[i]? = some N → ∀ b, N.all b → base ≤ b
  ap : ∀ (i j : Nat) N M, i ≠ j → Ns[i]? = some N → Ns[j]? = some M → ∀ b, N.all b → ¬ M.all b
section
variable {w w' W : World} {base : Nat} {Ns : List LmN} {Ss : List LmS}
theorem JdAt.fr {F : Nat → Prop} (h : JdAt w base Ns Ss) (hf : Fr F w w') (hF : ∀ (i : Nat) N, Ns[i]? = some N → ∀ b, N.all b → ¬ F b) : JdAt w' base Ns Ss :=
  ⟨h.ln, fun i N s hN hs => (h.at_ i N s hN hs).fr hf (hF i N hN), h.lo, h.ap⟩
theorem JdAt.keep (h : JdAt w base Ns Ss) (hb : Below w.heap.size w w') : JdAt w' base Ns Ss := h.fr (F := fun _ => False) (Fr.of_below hb) (fun _ _ _ _ _ => id)
theorem JdAt.nil (w : World) (base : Nat) : JdAt w base [] [] := ⟨rfl, fun i N s h => by simp at h, fun i N h => by simp at h, fun i j N M _ h => by simp at h⟩
theorem JdAt.lt (h : JdAt w base Ns Ss) {i : Nat} {N : LmN} (hN : Ns[i]? = some N) : ∀ b, N.all b → b < w.heap.size := by
  have hi : i < Ns.length := by
    rcases Nat.lt_or_ge i Ns.length with q | q
    · exact q
    · rw [List.getElem?_eq_none q] at hN; cases hN
  exact (h.at_ i N (Ss[i]'(by rw [← h.ln]; exact hi)) hN (List.getElem?_eq_getElem _)).lt
theorem snoc_get {α : Type} {l : List α} {a x : α} {i : Nat} (h : (l ++ [a])[i]? = some x) : (i < l.length ∧ l[i]? = some x) ∨ (i = l.length ∧ x = a) := by
  rcases Nat.lt_or_ge i l.length with q | q
  · rw [List.getElem?_append_left q] at h; exact Or.inl ⟨q, h⟩
  · rw [List.getElem?_append_right q] at h
    rcases Nat.eq_zero_or_pos (i - l.length) with q2 | q2
    · rw [q2] at h; simp at h; exact Or.inr ⟨by omega, h.symm⟩
    · rw [List.getElem?_eq_none (by simp; omega)] at h; cases h
/-- one more limiter. -/
theorem JdAt.snoc (h : JdAt w base Ns Ss) {N : LmN} {s : LmS} (hN : LmAt w N s) (hlo : ∀ b, N.all b → base ≤ b) (hap : ∀ (i : Nat) M, Ns[i]? = some M → ∀ b, M.all b → ¬ N.all b) : JdAt w base (Ns ++ [N]) (Ss ++ [s]) := by
  refine ⟨by rw [List.length_append, List.length_append, h.ln]; rfl, fun i M t hM ht => ?_, fun i M hM => ?_, fun i j M M' hij hM hM' => ?_⟩
  · rcases snoc_get hM with ⟨q1, q2⟩ | ⟨q1, q2⟩
    · rcases snoc_get ht with ⟨q3, q4⟩ | ⟨q3, q4⟩
      · exact h.at_ i M t q2 q4
      · have := h.ln; omega
    · rcases snoc_get ht with ⟨q3, q4⟩ | ⟨q3, q4⟩
      · have := h.ln; omega
      · rw [q2, q4]; exact hN
  · rcases snoc_get hM with ⟨q1, q2⟩ | ⟨q1, q2⟩
    · exact h.lo i M q2
    · rw [q2]; exact hlo
  · rcases snoc_get hM with ⟨q1, q2⟩ | ⟨q1, q2⟩
    · rcases snoc_get hM' with ⟨q3, q4⟩ | ⟨q3, q4⟩
      · exact h.ap i j M M' hij q2 q4
      · rw [q4]; exact hap i M q2
    · rcases snoc_get hM' with ⟨q3, q4⟩ | ⟨q3, q4⟩
      · rw [q2]; exact fun b h1 h2 => hap j M' q4 b h2 h1
      · omega
end
theorem jl_get {Ns : List LmN} {J : List Value} {i : Nat} (h : Ns.length = i) : (Ns.map pcL ++ J.drop i)[i]? = J[i]? := by
  rw [List.getElem?_append_right (by rw [List.length_map, h]; omega), List.length_map, h, List.getElem?_drop]
  simp
theorem jl_set {Ns : List LmN} {J : List Value} {i : Nat} (h : Ns.length = i) (hi : i < J.length) (N : LmN) : (Ns.map pcL ++ J.drop i).set i (pcL N) = (Ns ++ [N]).map pcL ++ J.drop (i + 1) := by
  have e : J.drop i = J[i] :: J.drop (i + 1) := (List.drop_eq_getElem_cons hi)
  rw [e, List.set_append_right _ _ (by rw [List.length_map, h]; omega), List.length_map, h, Nat.sub_self, List.set_cons_zero, List.map_append]
  simp
/-- a limiter is of a rule, with draws. -/
def LmR (r : RuZ) (zs : List Int) (N : LmN) : Prop := LmP N r.L r.W r.B r.Sl.toNat (r.W / r.Sl).toNat r.Ro.toNat r.Wi.toNat r.Ce.toNat r.Tr.toNat r.sm (rX zs) (rA zs) (rB zs)
def rsZ (rs : List RuZ) : List LmS := rs.map fun r => lmZ r.Ce.toNat
section
variable {w w' W : World} {s : Nat} {c : SvC} {rs : List RuZ} {zf : Nat → List Int}
set_option maxHeartbeats 4000000 in
theorem svjudge_any (seeds : Value) (w : World) (h : Sv w s c) (hm : c.many = (rs.length : Int)) (hl : rs.length ≤ 8) (hp : ∀ r ∈ rs, r.p)
    (hR : ∀ (i : Nat) r, rs[i]? = some r → ∀ j, j < 9 → c.R[i * 9 + j]? = r.c[j]?)
    (hd : ∀ (i : Nat) r wx, rs[i]? = some r → Fr (fun k => k = s) w wx → Calls Tryz.prog 66 #[seeds, .int .i64 (i : Int), .int .i64 (3 * (r.Ro + 1))] wx fun e w' => ∃ A n c, e = .returned (.slice A n c) ∧ RdI w' .u64 A n c (zf i) ∧ Below wx.heap.size wx w') :
    Calls Tryz.prog 37 #[.pointer (some ⟨s, 0, none⟩), seeds] w fun e w' => e = .returned (.tuple #[]) ∧ ∃ Ns : List LmN, Sv w' s { c with J := Ns.map pcL ++ c.J.drop rs.length } ∧ JdAt w' w.heap.size Ns (rsZ rs) ∧ (∀ (k : Nat) r N, rs[k]? = some r → Ns[k]? = some N → LmR r (zf k) N) ∧ Fr (fun k => k = s) w w' := by
  have H0 := Lib.hid h
  have k5 := h.c5
  rw [hm] at k5
  have HL := Lib.hid hl
  have HPR := Lib.hid hp
  have HRC := Lib.hid hR
  have HD := Lib.hid hd
  obtain ⟨n, hn⟩ : ∃ z, z = rs.length := ⟨_, rfl⟩
  rw [← hn] at k5
  have HN := Lib.hid hn
  clear h hm hl hp hR hd hn
  go_enter Tryz.func37, Tryz.ntmps37
  go_wp2
  clear k5
  go_loopg [9] n (fun kk si wr => ∃ (i : Nat) (Ns : List LmN), i ≤ n ∧ Hid (kk = n - i) ∧ si = .int .i64 (i : Int) ∧ Hid (Ns.length = i) ∧ Hid (Sv wr s { c with J := Ns.map pcL ++ c.J.drop i }) ∧ Hid (JdAt wr w.heap.size Ns (rsZ (rs.take i))) ∧ Hid (∀ (k : Nat) r N, rs[k]? = some r → Ns[k]? = some N → LmR r (zf k) N) ∧ Hid (Fr (fun k => k = s) w wr))
  case atStart => exact ⟨0, [], by omega, Lib.hid rfl, rfl, Lib.hid rfl, Lib.hid (by have := H0.out; cases c; exact this), Lib.hid (by rw [List.take_zero]; exact JdAt.nil _ _), Lib.hid (fun k r N _ h => by simp at h), Lib.hid (Fr.refl _ _)⟩
  case round =>
    obtain ⟨i, Ns, hi, HKK, rfl, HNL, HS, HJ, HPs, HF⟩ := hrel
    by_cases hin : i < n
    · have hir : i < rs.length := by have := HN.out; omega
      obtain ⟨r, hr⟩ : ∃ r, rs[i]? = some r := ⟨_, List.getElem?_eq_getElem hir⟩
      have hrc := HRC.out i r hr
      have hi8 : i < 8 := by have := HN.out; have := HL.out; omega
      have q (j : Nat) (hj : j < 9) : ∀ wx J', Sv wx s { c with J := J' } → wx.cell? ⟨s, 6 + i * 9 + j, none⟩ = r.c[j]? := fun wx J' hx => by
        rw [show 6 + i * 9 + j = 6 + (i * 9 + j) by omega]
        exact (hx.cR (by omega)).trans (hrc j hj)
      have ST := Lib.hid (fun wx J' (hx : Sv wx s { c with J := J' }) => show wx.cell? ⟨s, 6 + i * 9, none⟩ = some (.int .i64 r.L) ∧ wx.cell? ⟨s, 6 + i * 9 + 1, none⟩ = some (.int .i64 r.W) ∧ wx.cell? ⟨s, 6 + i * 9 + 2, none⟩ = some (.int .i64 r.B) ∧ wx.cell? ⟨s, 6 + i * 9 + 3, none⟩ = some (.int .i64 r.Sl) ∧ wx.cell? ⟨s, 6 + i * 9 + 4, none⟩ = some (.int .i64 r.Ce) ∧ wx.cell? ⟨s, 6 + i * 9 + 5, none⟩ = some (.int .i64 r.Ro) ∧ wx.cell? ⟨s, 6 + i * 9 + 6, none⟩ = some (.int .i64 r.Wi) ∧ wx.cell? ⟨s, 6 + i * 9 + 7, none⟩ = some (.int .i64 r.Tr) ∧ wx.cell? ⟨s, 6 + i * 9 + 8, none⟩ = some (.bool r.sm) from
        ⟨q 0 (by omega) wx J' hx, q 1 (by omega) wx J' hx, q 2 (by omega) wx J' hx, q 3 (by omega) wx J' hx, q 4 (by omega) wx J' hx, q 5 (by omega) wx J' hx, q 6 (by omega) wx J' hx, q 7 (by omega) wx J' hx, q 8 (by omega) wx J' hx⟩)
      have hrp := HPR.out r (List.mem_of_getElem? hr)
      have hRo : 1 ≤ r.Ro ∧ r.Ro ≤ 8 := hrp.2.2.2.2.2.2.1
      have HRP := Lib.hid hrp
      have e1 : IntKind.i64.wrap (r.Ro + 1) = r.Ro + 1 := by rw [IntKind.wrap_i64]; omega
      have e2 : IntKind.i64.wrap (3 * (r.Ro + 1)) = 3 * (r.Ro + 1) := by rw [IntKind.wrap_i64]; omega
      have t1 : (i : Int) < (n : Int) := by omega
      have t2 : ¬ (i : Int) < 0 := by omega
      have t3 : (i : Int) < 8 := by omega
      have HI8 := Lib.hid hi8
      have HRI := Lib.hid hr
      have HIN := Lib.hid hin
      clear hrc q hrp hir hr hi8 hin
      go_upto_region 3 with (fail)
      have N0 := Lib.hid (show Below wr.heap.size wr wr.drew from below_draws (Below.refl _ _) 1)
      have CD := Lib.hid (HD.out i r wr.drew HRI.out (HF.out.trans ((Fr.of_below N0.out).mono (fun k (hk : False) => hk.elim))))
      have st := ST.out _ _ (HS.out.keep N0.out)
      refine wp_region_held_drew (S := fun wx => wx.cell? ⟨s, 6 + i * 9, none⟩ = some (.int .i64 r.L) ∧ wx.cell? ⟨s, 6 + i * 9 + 1, none⟩ = some (.int .i64 r.W) ∧ wx.cell? ⟨s, 6 + i * 9 + 2, none⟩ = some (.int .i64 r.B) ∧ wx.cell? ⟨s, 6 + i * 9 + 3, none⟩ = some (.int .i64 r.Sl) ∧ wx.cell? ⟨s, 6 + i * 9 + 4, none⟩ = some (.int .i64 r.Ce) ∧ wx.cell? ⟨s, 6 + i * 9 + 5, none⟩ = some (.int .i64 r.Ro) ∧ wx.cell? ⟨s, 6 + i * 9 + 6, none⟩ = some (.int .i64 r.Wi) ∧ wx.cell? ⟨s, 6 + i * 9 + 7, none⟩ = some (.int .i64 r.Tr) ∧ wx.cell? ⟨s, 6 + i * 9 + 8, none⟩ = some (.bool r.sm)) (by kernel_rfl) st (fun hHeld => ?_)
      clear st
      refine wpAnyH_take (i := 0) (oi := ?_) (v := ?_) ?_ ?_ ?_ ?_ ?_ ?_ ?_ ?_
      rotate_left 2
      · simp only [List.getElem?_toArray, List.getElem?_cons_succ, List.getElem?_cons_zero]; rfl
      · kernel_rfl
      · kernel_rfl
      · kernel_rfl
      · exact fun _ _ _ h => h
      · refine Or.inl ⟨by rfl, ?_⟩
        intro w' hSw
        (try dsimp only at hSw)
        go_simp
        all_goals (with_reducible rfl)
      · assumption
      try simp only [Act.put, List.setIfInBounds_toArray, List.set_cons_zero, List.set_cons_succ]
      refine wpAnyH_take (i := 1) (oi := ?_) (v := ?_) ?_ ?_ ?_ ?_ ?_ ?_ ?_ ?_
      rotate_left 2
      · simp only [List.getElem?_toArray, List.getElem?_cons_succ, List.getElem?_cons_zero]; rfl
      · kernel_rfl
      · kernel_rfl
      · kernel_rfl
      · exact fun _ _ _ h => h
      · refine Or.inl ⟨by rfl, ?_⟩
        intro w' hSw
        (try dsimp only at hSw)
        go_simp
        all_goals (with_reducible rfl)
      · assumption
      try simp only [Act.put, List.setIfInBounds_toArray, List.set_cons_zero, List.set_cons_succ]
      refine wpAnyH_take (i := 2) (oi := ?_) (v := ?_) ?_ ?_ ?_ ?_ ?_ ?_ ?_ ?_
      rotate_left 2
      · simp only [List.getElem?_toArray, List.getElem?_cons_succ, List.getElem?_cons_zero]; rfl
      · kernel_rfl
      · kernel_rfl
      · kernel_rfl
      · exact fun _ _ _ h => h
      · refine Or.inl ⟨by rfl, ?_⟩
        intro w' hSw
        (try dsimp only at hSw)
        go_simp
        all_goals (with_reducible rfl)
      · assumption
      try simp only [Act.put, List.setIfInBounds_toArray, List.set_cons_zero, List.set_cons_succ]
      refine wpAnyH_take (i := 3) (oi := ?_) (v := ?_) ?_ ?_ ?_ ?_ ?_ ?_ ?_ ?_
      rotate_left 2
      · simp only [List.getElem?_toArray, List.getElem?_cons_succ, List.getElem?_cons_zero]; rfl
      · kernel_rfl
      · kernel_rfl
      · kernel_rfl
      · exact fun _ _ _ h => h
      · refine Or.inl ⟨by rfl, ?_⟩
        intro w' hSw
        (try dsimp only at hSw)
        go_simp
        all_goals (with_reducible rfl)
      · assumption
      try simp only [Act.put, List.setIfInBounds_toArray, List.set_cons_zero, List.set_cons_succ]
      refine wpAnyH_take (i := 4) (oi := ?_) (v := ?_) ?_ ?_ ?_ ?_ ?_ ?_ ?_ ?_
      rotate_left 2
      · simp only [List.getElem?_toArray, List.getElem?_cons_succ, List.getElem?_cons_zero]; rfl
      · kernel_rfl
      · kernel_rfl
      · kernel_rfl
      · exact fun _ _ _ h => h
      · refine Or.inl ⟨by rfl, ?_⟩
        intro w' hSw
        (try dsimp only at hSw)
        go_simp
        all_goals (with_reducible rfl)
      · assumption
      try simp only [Act.put, List.setIfInBounds_toArray, List.set_cons_zero, List.set_cons_succ]
      refine wpAnyH_take (i := 5) (oi := ?_) (v := ?_) ?_ ?_ ?_ ?_ ?_ ?_ ?_ ?_
      rotate_left 2
      · simp only [List.getElem?_toArray, List.getElem?_cons_succ, List.getElem?_cons_zero]; rfl
      · kernel_rfl
      · kernel_rfl
      · kernel_rfl
      · exact fun _ _ _ h => h
      · refine Or.inl ⟨by rfl, ?_⟩
        intro w' hSw
        (try dsimp only at hSw)
        go_simp
        all_goals (with_reducible rfl)
      · assumption
      try simp only [Act.put, List.setIfInBounds_toArray, List.set_cons_zero, List.set_cons_succ]
      refine wpAnyH_take (i := 6) (oi := ?_) (v := ?_) ?_ ?_ ?_ ?_ ?_ ?_ ?_ ?_
      rotate_left 2
      · simp only [List.getElem?_toArray, List.getElem?_cons_succ, List.getElem?_cons_zero]; rfl
      · kernel_rfl
      · kernel_rfl
      · kernel_rfl
      · exact fun _ _ _ h => h
      · refine Or.inl ⟨by rfl, ?_⟩
        intro w' hSw
        (try dsimp only at hSw)
        go_simp
        all_goals (with_reducible rfl)
      · assumption
      try simp only [Act.put, List.setIfInBounds_toArray, List.set_cons_zero, List.set_cons_succ]
      refine wpAnyH_take (i := 7) (oi := ?_) (v := ?_) ?_ ?_ ?_ ?_ ?_ ?_ ?_ ?_
      rotate_left 2
      · simp only [List.getElem?_toArray, List.getElem?_cons_succ, List.getElem?_cons_zero]; rfl
      · kernel_rfl
      · kernel_rfl
      · kernel_rfl
      · exact fun _ _ _ h => h
      · refine Or.inl ⟨by rfl, ?_⟩
        intro w' hSw
        (try dsimp only at hSw)
        go_simp
        all_goals (with_reducible rfl)
      · assumption
      try simp only [Act.put, List.setIfInBounds_toArray, List.set_cons_zero, List.set_cons_succ]
      refine wpAnyH_take (i := 8) (oi := ?_) (v := ?_) ?_ ?_ ?_ ?_ ?_ ?_ ?_ ?_
      rotate_left 2
      · simp only [List.getElem?_toArray, List.getElem?_cons_succ, List.getElem?_cons_zero]; rfl
      · kernel_rfl
      · kernel_rfl
      · kernel_rfl
      · exact fun _ _ _ h => h
      · refine Or.inl ⟨by rfl, ?_⟩
        intro w' hSw
        (try dsimp only at hSw)
        go_simp
        all_goals (with_reducible rfl)
      · assumption
      try simp only [Act.put, List.setIfInBounds_toArray, List.set_cons_zero, List.set_cons_succ]
      refine wpAnyH_take (i := 9) (oi := ?_) (v := ?_) ?_ ?_ ?_ ?_ ?_ ?_ ?_ ?_
      rotate_left 2
      · simp only [List.getElem?_toArray, List.getElem?_cons_succ, List.getElem?_cons_zero]; rfl
      · kernel_rfl
      · kernel_rfl
      · kernel_rfl
      · exact fun _ _ _ h => h
      · refine Or.inl ⟨by rfl, ?_⟩
        intro w' hSw
        (try dsimp only at hSw)
        go_simp
        all_goals (with_reducible rfl)
      · assumption
      try simp only [Act.put, List.setIfInBounds_toArray, List.set_cons_zero, List.set_cons_succ]
      refine wpAnyH_take (i := 10) (oi := ?_) (v := ?_) ?_ ?_ ?_ ?_ ?_ ?_ ?_ ?_
      rotate_left 2
      · simp only [List.getElem?_toArray, List.getElem?_cons_succ, List.getElem?_cons_zero]; rfl
      · kernel_rfl
      · kernel_rfl
      · kernel_rfl
      · exact fun _ _ _ h => h
      · refine Or.inl ⟨by rfl, ?_⟩
        intro w' hSw
        (try dsimp only at hSw)
        go_simp
        all_goals (with_reducible rfl)
      · assumption
      try simp only [Act.put, List.setIfInBounds_toArray, List.set_cons_zero, List.set_cons_succ]
      refine wpAnyH_take (i := 11) (oi := ?_) (v := ?_) ?_ ?_ ?_ ?_ ?_ ?_ ?_ ?_
      rotate_left 2
      · simp only [List.getElem?_toArray, List.getElem?_cons_succ, List.getElem?_cons_zero]; rfl
      · kernel_rfl
      · kernel_rfl
      · kernel_rfl
      · exact fun _ _ _ h => h
      · refine Or.inl ⟨by rfl, ?_⟩
        intro w' hSw
        (try dsimp only at hSw)
        go_simp
        all_goals (with_reducible rfl)
      · assumption
      try simp only [Act.put, List.setIfInBounds_toArray, List.set_cons_zero, List.set_cons_succ]
      refine wpAnyH_take (i := 12) (oi := ?_) (v := ?_) ?_ ?_ ?_ ?_ ?_ ?_ ?_ ?_
      rotate_left 2
      · simp only [List.getElem?_toArray, List.getElem?_cons_succ, List.getElem?_cons_zero]; rfl
      · kernel_rfl
      · kernel_rfl
      · kernel_rfl
      · exact fun _ _ _ h => h
      · refine Or.inl ⟨by rfl, ?_⟩
        intro w' hSw
        (try dsimp only at hSw)
        go_simp
        all_goals (with_reducible rfl)
      · assumption
      try simp only [Act.put, List.setIfInBounds_toArray, List.set_cons_zero, List.set_cons_succ]
      refine wpAnyH_take (i := 13) (oi := ?_) (v := ?_) ?_ ?_ ?_ ?_ ?_ ?_ ?_ ?_
      rotate_left 2
      · simp only [List.getElem?_toArray, List.getElem?_cons_succ, List.getElem?_cons_zero]; rfl
      · kernel_rfl
      · kernel_rfl
      · kernel_rfl
      · exact fun _ _ _ h => h
      · refine Or.inl ⟨by rfl, ?_⟩
        intro w' hSw
        (try dsimp only at hSw)
        go_simp
        all_goals (with_reducible rfl)
      · assumption
      try simp only [Act.put, List.setIfInBounds_toArray, List.set_cons_zero, List.set_cons_succ]
      refine wpAnyH_take (i := 14) (oi := ?_) (v := ?_) ?_ ?_ ?_ ?_ ?_ ?_ ?_ ?_
      rotate_left 2
      · simp only [List.getElem?_toArray, List.getElem?_cons_succ, List.getElem?_cons_zero]; rfl
      · kernel_rfl
      · kernel_rfl
      · kernel_rfl
      · exact fun _ _ _ h => h
      · refine Or.inl ⟨by rfl, ?_⟩
        intro w' hSw
        (try dsimp only at hSw)
        go_simp
        all_goals (with_reducible rfl)
      · assumption
      try simp only [Act.put, List.setIfInBounds_toArray, List.set_cons_zero, List.set_cons_succ]
      refine wpAnyH_take (i := 15) (oi := ?_) (v := ?_) ?_ ?_ ?_ ?_ ?_ ?_ ?_ ?_
      rotate_left 2
      · simp only [List.getElem?_toArray, List.getElem?_cons_succ, List.getElem?_cons_zero]; rfl
      · kernel_rfl
      · kernel_rfl
      · kernel_rfl
      · exact fun _ _ _ h => h
      · refine Or.inl ⟨by rfl, ?_⟩
        intro w' hSw
        (try dsimp only at hSw)
        go_simp
        all_goals (with_reducible rfl)
      · assumption
      try simp only [Act.put, List.setIfInBounds_toArray, List.set_cons_zero, List.set_cons_succ]
      refine wpAnyH_take (i := 16) (oi := ?_) (v := ?_) ?_ ?_ ?_ ?_ ?_ ?_ ?_ ?_
      rotate_left 2
      · simp only [List.getElem?_toArray, List.getElem?_cons_succ, List.getElem?_cons_zero]; rfl
      · kernel_rfl
      · kernel_rfl
      · kernel_rfl
      · exact fun _ _ _ h => h
      · refine Or.inl ⟨by rfl, ?_⟩
        intro w' hSw
        (try dsimp only at hSw)
        go_simp
        all_goals (with_reducible rfl)
      · assumption
      try simp only [Act.put, List.setIfInBounds_toArray, List.set_cons_zero, List.set_cons_succ]
      refine wpAnyH_take (i := 17) (oi := ?_) (v := ?_) ?_ ?_ ?_ ?_ ?_ ?_ ?_ ?_
      rotate_left 2
      · simp only [List.getElem?_toArray, List.getElem?_cons_succ, List.getElem?_cons_zero]; rfl
      · kernel_rfl
      · kernel_rfl
      · kernel_rfl
      · exact fun _ _ _ h => h
      · refine Or.inl ⟨by rfl, ?_⟩
        intro w' hSw
        (try dsimp only at hSw)
        go_simp
        all_goals (with_reducible rfl)
      · assumption
      try simp only [Act.put, List.setIfInBounds_toArray, List.set_cons_zero, List.set_cons_succ]
      refine wpAnyH_take (i := 18) (oi := ?_) (v := ?_) ?_ ?_ ?_ ?_ ?_ ?_ ?_ ?_
      rotate_left 2
      · simp only [List.getElem?_toArray, List.getElem?_cons_succ, List.getElem?_cons_zero]; rfl
      · kernel_rfl
      · kernel_rfl
      · kernel_rfl
      · exact fun _ _ _ h => h
      · refine Or.inl ⟨by rfl, ?_⟩
        intro w' hSw
        (try dsimp only at hSw)
        go_simp
        all_goals (with_reducible rfl)
      · assumption
      try simp only [Act.put, List.setIfInBounds_toArray, List.set_cons_zero, List.set_cons_succ]
      refine wpAnyH_take (i := 21) (oi := ?_) (v := ?_) ?_ ?_ ?_ ?_ ?_ ?_ ?_ ?_
      rotate_left 2
      · simp only [List.getElem?_toArray, List.getElem?_cons_succ, List.getElem?_cons_zero]; rfl
      · kernel_rfl
      · kernel_rfl
      · kernel_rfl
      · exact fun _ _ _ h => h
      · refine Or.inl ⟨by rfl, ?_⟩
        intro w' hSw
        (try dsimp only at hSw)
        go_simp
        all_goals (with_reducible rfl)
      · assumption
      try simp only [Act.put, List.setIfInBounds_toArray, List.set_cons_zero, List.set_cons_succ]
      refine wpAnyH_take (i := 22) (oi := ?_) (v := ?_) ?_ ?_ ?_ ?_ ?_ ?_ ?_ ?_
      rotate_left 2
      · simp only [List.getElem?_toArray, List.getElem?_cons_succ, List.getElem?_cons_zero]; rfl
      · kernel_rfl
      · kernel_rfl
      · kernel_rfl
      · exact fun _ _ _ h => h
      · refine Or.inl ⟨by rfl, ?_⟩
        intro w' hSw
        (try dsimp only at hSw)
        go_simp
        all_goals (with_reducible rfl)
      · assumption
      try simp only [Act.put, List.setIfInBounds_toArray, List.set_cons_zero, List.set_cons_succ]
      refine wpAnyH_ready (rs := [19]) (by kernel_rfl) (by simp) ?_
      refine AllReadyH.cons (o := ?_) ?_ ?_ ?_
      rotate_left 1
      · simp only [List.getElem?_toArray, List.getElem?_cons_succ, List.getElem?_cons_zero]; rfl
      rotate_left 1
      · exact AllReadyH.nil
      intro K hK
      go_simp
      ((with_reducible refine CD.out.mono ?_); rintro v w1 ⟨A, m, cc, rfl, r1, b1⟩; have N1 := Lib.hid (G.below_on N0.out b1); have CN := Lib.hid (show Calls Tryz.prog 65 #[.agg #[.int .i64 r.L, .int .i64 r.W, .int .i64 r.B, .int .i64 r.Sl, .int .i64 r.Ce, .int .i64 r.Ro, .int .i64 r.Wi, .int .i64 r.Tr, .bool r.sm], .slice A m cc] w1 _ from lmnew_ru r HRP.out A m cc _ w1 r1); clear r1 b1)
      refine hK.out _ _ (ST.out _ _ (HS.out.keep N1.out)) (fun hHeld => ?_)
      clear hK K
      try simp only [Act.put, List.setIfInBounds_toArray, List.set_cons_zero, List.set_cons_succ]
      refine wpAnyH_ready (rs := [20]) (by kernel_rfl) (by simp) ?_
      refine AllReadyH.cons (o := ?_) ?_ ?_ ?_
      rotate_left 1
      · simp only [List.getElem?_toArray, List.getElem?_cons_succ, List.getElem?_cons_zero]; rfl
      rotate_left 1
      · exact AllReadyH.nil
      intro K hK
      go_simp
      ((with_reducible refine CN.out.mono ?_); rintro v w2 ⟨N, rfl, a2, p2, l2, b2⟩; have N2 := Lib.hid (G.below_on N1.out b2); have A2 := Lib.hid a2; have P2 := Lib.hid p2; have L2 := Lib.hid (show ∀ b, N.all b → wr.heap.size ≤ b from fun b hb => Nat.le_trans N1.out.size (l2 b hb)); have S2 := HS.out.keep N2.out; have kw := S2.wr; have kJ := S2.cJ HI8.out; obtain ⟨v0, hv0⟩ : ∃ v0, c.J[i]? = some v0 := ⟨_, List.getElem?_eq_getElem (by rw [H0.out.hJ]; exact HI8.out)⟩; replace kJ := kJ.trans ((jl_get HNL.out).trans hv0); have S2 := Lib.hid S2; clear a2 p2 l2 b2 hv0)
      refine hK.out _ _ (ST.out _ _ (HS.out.keep N2.out)) (fun hHeld => ?_)
      clear hK K
      try simp only [Act.put, List.setIfInBounds_toArray, List.set_cons_zero, List.set_cons_succ]
      refine wpAnyH_take (i := 23) (oi := ?_) (v := ?_) ?_ ?_ ?_ ?_ ?_ ?_ ?_ ?_
      rotate_left 2
      · simp only [List.getElem?_toArray, List.getElem?_cons_succ, List.getElem?_cons_zero]; rfl
      · kernel_rfl
      · kernel_rfl
      · kernel_rfl
      · exact fun _ _ _ h => h
      · refine Or.inl ⟨by rfl, ?_⟩
        intro w' hSw
        (try dsimp only at hSw)
        go_simp
        all_goals (with_reducible rfl)
      · assumption
      try simp only [Act.put, List.setIfInBounds_toArray, List.set_cons_zero, List.set_cons_succ]
      refine wpAnyH_ready (rs := [24]) (by kernel_rfl) (by simp) ?_
      refine AllReadyH.cons (o := ?_) ?_ ?_ ?_
      rotate_left 1
      · simp only [List.getElem?_toArray, List.getElem?_cons_succ, List.getElem?_cons_zero]; rfl
      rotate_left 1
      · exact AllReadyH.nil
      intro K hK
      go_simp
      (obtain ⟨w4, e4, h4, f4⟩ := S2.out.setJ HI8.out (pcL N); (try rw [e4]); have S4 := Lib.hid h4; have F4 := Lib.hid f4; clear e4 h4 f4 kw kJ)
      refine hK.out _ _ (ST.out _ _ S4.out) (fun hHeld => ?_)
      clear hK K
      try simp only [Act.put, List.setIfInBounds_toArray, List.set_cons_zero, List.set_cons_succ]
      refine wpAnyH_done (by kernel_rfl) ?_ _
      clear hHeld
      have hlt : s < w.heap.size := H0.out.lt
      have F5 := Lib.hid (show Fr (fun k => k = s) w w4 from HF.out.trans (((Fr.of_below N2.out).mono (fun k (hk : False) => hk.elim)).trans F4.out))
      have J5 := Lib.hid (show JdAt w4 w.heap.size (Ns ++ [N]) (rsZ (rs.take (i + 1))) from by
        have hir : i < rs.length := by have := HN.out; have := HIN.out; omega
        have e : rsZ (rs.take (i + 1)) = rsZ (rs.take i) ++ [lmZ r.Ce.toNat] := by
          have hg : rs[i] = r := by have := HRI.out; rw [List.getElem?_eq_getElem hir] at this; injection this
          rw [List.take_succ_eq_append_getElem hir, hg]; simp [rsZ]
        rw [e]
        refine ((HJ.out.keep N2.out).fr F4.out (fun k M hM b hb e => by have := HJ.out.lo k M hM b hb; omega)).snoc (A2.out.fr F4.out (fun b hb e => by have := L2.out b hb; have := HF.out.size; omega)) (fun b hb => by have := L2.out b hb; have := HF.out.size; omega) (fun k M hM b hb h2 => by have := HJ.out.lt hM b hb; have := L2.out b h2; omega))
      have P5 := Lib.hid (show ∀ (k : Nat) r N', rs[k]? = some r → (Ns ++ [N])[k]? = some N' → LmR r (zf k) N' from fun k r' N' hr' hN' => by
        rcases snoc_get hN' with ⟨q1, q2⟩ | ⟨q1, q2⟩
        · exact HPs.out k r' N' hr' q2
        · rw [q1, HNL.out] at hr' ⊢
          have := HRI.out
          rw [hr'] at this
          injection this with this
          rw [q2, this]
          exact P2.out)
      have S5 := Lib.hid (show Sv w4 s { c with J := (Ns ++ [N]).map pcL ++ c.J.drop (i + 1) } from by
        have := S4.out
        rw [jl_set HNL.out (by rw [H0.out.hJ]; exact HI8.out) N] at this
        exact this)
      have hi8 : (i : Int) < 8 := by have := HI8.out; omega
      clear hlt
      go_wp2
      go_roundg (n - (i + 1))
      case measure => have := HKK.out; have := HIN.out; omega
      case rel => exact ⟨i + 1, Ns ++ [N], HIN.out, Lib.hid rfl, by go_num, Lib.hid (by rw [List.length_append, HNL.out]; rfl), S5, J5, P5, F5⟩
    · have hie : i = n := by omega
      subst hie
      go_wp2
      go_end0
      refine ⟨rfl, Ns, ?_, ?_, HPs.out, HF.out⟩
      · rw [← HN.out]; exact HS.out
      · have := HJ.out
        rw [HN.out, List.take_length] at this
        exact this
end
end Go.Proofs.YtannniobeanhlaaGreat
/- The contracts of layer 18 (server): the copy of the rules. -/
namespace Go.Proofs.YtannniobeanhlaaGreat
set_option linter.unusedSimpArgs false
set_option linter.unusedVariables false
set_option maxRecDepth 100000
open Go.ChangeShapes Go.WideShapes Go.ChangeAt Go.RowKit
/-- copy, of elements of so many cells each, over a part of a block. -/
theorem run_copy_rowk {P : Program} (w : World) (dT sT ty elem : TypeId) (k n g o dLen dCap : Nat) (a : Addr) (sLen sCap : Nat) (cur : Array Value) (t : TypeId) (cs : List Value)
    (hu : P.underlying dT = some (.slice elem)) (hs : (P.info? elem).map (·.size) = some k)
    (hg : w.heap[g]? = some (.cells cur t (0, 0))) (hm : n = Nat.min sLen dLen) (hn : cs.length = n * k)
    (hsrc : ∀ j v, cs[j]? = some v → w.cell? (a.add j) = some v) (hfit : o + cs.length ≤ cur.size) (h1 : ∀ v ∈ cs, v.oneCell' = true) :
    (Builtin.copy_ #[dT, sT] ty #[.slice (some ⟨g, o, none⟩) dLen dCap, .slice (some a) sLen sCap]).run P w =
      .ok (goInt n) (w.setRow g (cur.toList.take o ++ cs ++ cur.toList.drop (o + cs.length)).toArray) := by
  have hl := run_loadCells_list (P := P) w a cs hsrc
  rw [hn] at hl
  have hst := run_storeCells_at P g o t cs 0 cur w hg (by simpa using hfit) h1
  cases hq : P.info? elem with
  | none => simp [hq] at hs
  | some i =>
    have hi : i.size = k := by simpa [hq] using hs
    simp [Builtin.copy_, run_underlying hu, Builtin.lenOf, Builtin.firstCells, sizeOf, typeInfo, hq, hi, ← hm, hl, hst]
section
variable {w w' : World} {s : Nat} {c : SvC}
/-- the rules' cells. -/
def ruL (rs : List RuZ) : List Value := rws (fun r : RuZ => r.c.toList) rs
theorem ruC_len (r : RuZ) : r.c.toList.length = 9 := rfl
theorem ruL_len (rs : List RuZ) : (ruL rs).length = rs.length * 9 := rws_length ruC_len rs
theorem ruL_get (rs : List RuZ) {i : Nat} {r : RuZ} (hi : rs[i]? = some r) {j : Nat} (hj : j < 9) : (ruL rs)[i * 9 + j]? = r.c[j]? := by
  have := rws_get ruC_len rs i j r hi hj
  exact this.trans (by simp)
theorem ruL_one (rs : List RuZ) : ∀ v ∈ ruL rs, v.oneCell' = true := by
  intro v hv
  obtain ⟨r, _, hr⟩ := List.mem_flatMap.1 hv
  have : r.c.toList = [.int .i64 r.L, .int .i64 r.W, .int .i64 r.B, .int .i64 r.Sl, .int .i64 r.Ce, .int .i64 r.Ro, .int .i64 r.Wi, .int .i64 r.Tr, .bool r.sm] := rfl
  rw [this] at hr
  simp only [List.mem_cons, List.not_mem_nil, or_false] at hr
  rcases hr with rfl | rfl | rfl | rfl | rfl | rfl | rfl | rfl | rfl <;> rfl
/-- the rules are copied into the server. -/
theorem Sv.copy (h : Sv w s c) {A : Option Addr} {n cc : Nat} {rs : List RuZ} (hr : RdRu w A n cc rs) (h1 : 1 ≤ rs.length) (h8 : rs.length ≤ 8) (ty : TypeId) :
    ∃ w', (Builtin.copy_ #[27, 27] ty #[.slice (some ⟨s, 6, none⟩) 8 8, .slice A n cc]).run Tryz.prog w = .ok (goInt n) w' ∧ Sv w' s { c with R := ruL rs ++ c.R.drop (rs.length * 9) } ∧ Fr (fun k => k = s) w w' := by
  have hln := hr.len
  obtain ⟨b, off, rfl, hlt, hcell⟩ := hr.at_ (by omega)
  have hl9 := ruL_len rs
  have hR := h.hR
  have hcp := run_copy_rowk (P := Tryz.prog) w 27 27 ty 52 9 n s 6 8 8 ⟨b, off, none⟩ n cc c.l.toArray _ (ruL rs) Tryz.underlying27 (by kernel_rfl) h.hb (by show n = min n 8; omega) (by rw [hl9, hln]) (fun j v hv => by
      have hjl : j < rs.length * 9 := by
        rcases Nat.lt_or_ge j (rs.length * 9) with q | q
        · exact q
        · rw [List.getElem?_eq_none (by rw [hl9]; exact q)] at hv; cases hv
      have hi : j / 9 < rs.length := by omega
      have := hcell (j / 9) hi (j % 9) (by omega)
      have h3 := ruL_get rs (List.getElem?_eq_getElem hi) (j := j % 9) (by omega)
      rw [show j / 9 * 9 + j % 9 = j by omega, hv] at h3
      rw [show (⟨b, off, none⟩ : Addr).add j = ⟨b, off + j, none⟩ from by simp [Addr.add]]
      rw [show off + j = off + j / 9 * 9 + j % 9 by omega, this, ← h3]) (by rw [hl9]; have := h.len; simp; omega) (ruL_one rs)
  have hnew : (c.l.take 6 ++ ruL rs ++ c.l.drop (6 + (ruL rs).length)) = ({ c with R := ruL rs ++ c.R.drop (rs.length * 9) } : SvC).l := by
    unfold SvC.l
    rw [hl9, List.take_append_of_le_length (by simp), List.drop_append]
    rw [List.drop_of_length_le (show List.length [Value.int .i64 c.now, .int .i64 c.first, .bool c.rd, .bool c.rs, .int .i64 c.out, .int .i64 c.many] ≤ 6 + rs.length * 9 by simp), show 6 + rs.length * 9 - List.length [Value.int .i64 c.now, .int .i64 c.first, .bool c.rd, .bool c.rs, .int .i64 c.out, .int .i64 c.many] = rs.length * 9 by simp, List.drop_append_of_le_length (by omega)]
    simp
  refine ⟨_, hcp, ⟨?_, ?_, h.hJ, h.hK⟩, ?_⟩
  · show Blk _ s _ _
    have := setRow_heap w s c.l.toArray (c.l.toArray.toList.take 6 ++ ruL rs ++ c.l.toArray.toList.drop (6 + (ruL rs).length)).toArray _ _ h.hb
    rw [← hnew]
    exact this
  · show (ruL rs ++ c.R.drop (rs.length * 9)).length = 72
    rw [List.length_append, hl9, List.length_drop, hR]; omega
  · exact ⟨rfl, rfl, rfl, by simp [World.setRow], fun k hk hF => setRow_other w s k _ hF⟩
end
end Go.Proofs.YtannniobeanhlaaGreat
/- The laws of layer 12: a plan's rule, and its limiter. -/
namespace Go.Proofs.YtannniobeanhlaaGreat
set_option linter.unusedSimpArgs false
set_option linter.unusedVariables false
set_option maxRecDepth 100000
open Go.ChangeShapes Go.WideShapes Go.ChangeAt Go.RowKit
open Ar (inR)
def lqL (a : Int) : Int := a % 32 + 1
def lqS (b : Int) : Nat := (b % 32).toNat + 1
def lqB (a c : Int) : Int := c % 32 % (a % 32 + 1) + 1
def lqN (d : Int) : Nat := (d % 8).toNat + 1
def lqC (e : Int) : Nat := (e % 8).toNat + 1
def lqR (f : Int) : Nat := (f % 4).toNat + 1
def lqW (g : Int) : Nat := (g % 16).toNat + 1
def lqT (h : Int) : Nat := (h % 8).toNat + 1
def lqM (sm : Bool) (d : Int) : Bool := sm && decide ((1 : Int) < (lqN d : Int))
abbrev planV (a b c d e f g h : Int) (sm : Bool) : Value := .agg #[.int .i64 a, .int .i64 b, .int .i64 c, .int .i64 d, .int .i64 e, .int .i64 f, .int .i64 g, .int .i64 h, .bool sm]
abbrev planC (a b c d e f g h : Int) (sm : Bool) : Array Value := #[.int .i64 a, .int .i64 b, .int .i64 c, .int .i64 d, .int .i64 e, .int .i64 f, .int .i64 g, .int .i64 h, .bool sm]
theorem lqB_bd (a c : Int) : 1 ≤ lqB a c ∧ lqB a c ≤ lqL a := by
  unfold lqB lqL
  have h1 := Int.emod_nonneg (c % 32) (show a % 32 + 1 ≠ 0 by omega)
  have h2 := Int.emod_lt_of_pos (c % 32) (show 0 < a % 32 + 1 by omega)
  omega
set_option maxHeartbeats 4000000 in
theorem lmrule_any (a b c d e f g h : Int) (sm : Bool) (w : World) :
    Calls Tryz.prog 35 #[planV a b c d e f g h sm] w fun v w' => v = .returned (rlV (lqL a) ((lqS b * lqN d : Nat) : Int) (lqB a c) (lqN d : Nat) (lqC e : Nat) (lqR f : Nat) (lqW g : Nat) (lqT h : Nat) (lqM sm d)) ∧ Below w.heap.size w w' := by
  obtain ⟨L, hL⟩ : ∃ n, n = lqL a := ⟨_, rfl⟩
  obtain ⟨s, hs⟩ : ∃ n, n = lqS b := ⟨_, rfl⟩
  obtain ⟨Bu, hBu⟩ : ∃ n, n = lqB a c := ⟨_, rfl⟩
  obtain ⟨n, hn⟩ : ∃ n, n = lqN d := ⟨_, rfl⟩
  obtain ⟨Ce, hCe⟩ : ∃ n, n = lqC e := ⟨_, rfl⟩
  obtain ⟨k, hk⟩ : ∃ n, n = lqR f := ⟨_, rfl⟩
  obtain ⟨W, hW⟩ : ∃ n, n = lqW g := ⟨_, rfl⟩
  obtain ⟨Tr, hTr⟩ : ∃ n, n = lqT h := ⟨_, rfl⟩
  have hbb := lqB_bd a c
  have eM : lqM sm d = (sm && decide ((1 : Int) < (n : Int))) := by rw [hn]; rfl
  rw [eM, ← hL, ← hs, ← hBu, ← hn, ← hCe, ← hk, ← hW, ← hTr]
  rw [← hBu, ← hL] at hbb
  unfold lqL at hL
  unfold lqS at hs
  unfold lqB at hBu
  unfold lqN at hn
  unfold lqC at hCe
  unfold lqR at hk
  unfold lqW at hW
  unfold lqT at hTr
  obtain ⟨a0, ha0⟩ : ∃ z, z = a % 32 := ⟨_, rfl⟩
  obtain ⟨b0, hb0⟩ : ∃ z, z = b % 32 := ⟨_, rfl⟩
  obtain ⟨c0, hc0⟩ : ∃ z, z = c % 32 := ⟨_, rfl⟩
  obtain ⟨d0, hd0⟩ : ∃ z, z = d % 8 := ⟨_, rfl⟩
  obtain ⟨e0, he0⟩ : ∃ z, z = e % 8 := ⟨_, rfl⟩
  obtain ⟨f0, hf0⟩ : ∃ z, z = f % 4 := ⟨_, rfl⟩
  obtain ⟨g0, hg0⟩ : ∃ z, z = g % 16 := ⟨_, rfl⟩
  obtain ⟨h0, hh0⟩ : ∃ z, z = h % 8 := ⟨_, rfl⟩
  have e1 : bits .and .i64 a 31 = a0 := by rw [ha0]; exact i64_mask5 a
  have e2 : bits .and .i64 b 31 = b0 := by rw [hb0]; exact i64_mask5 b
  have e3 : bits .and .i64 c 31 = c0 := by rw [hc0]; exact i64_mask5 c
  have e4 : bits .and .i64 d 7 = d0 := by rw [hd0]; exact i64_mask3 d
  have e5 : bits .and .i64 e 7 = e0 := by rw [he0]; exact i64_mask3 e
  have e6 : bits .and .i64 f 3 = f0 := by rw [hf0]; exact i64_mask2 f
  have e7 : bits .and .i64 g 15 = g0 := by rw [hg0]; exact i64_mask4 g
  have e8 : bits .and .i64 h 7 = h0 := by rw [hh0]; exact i64_mask3 h
  rw [← ha0] at hL hBu
  rw [← hc0] at hBu
  have f1 : IntKind.i64.wrap (a0 + 1) = L := by rw [IntKind.wrap_i64]; omega
  have f2 : IntKind.i64.wrap (b0 + 1) = (s : Int) := by rw [IntKind.wrap_i64]; omega
  rw [← hL] at hBu
  have hL0 : ¬ L = 0 := by omega
  obtain ⟨x0, hx0⟩ : ∃ z, z = c0 % L := ⟨_, rfl⟩
  rw [← hx0] at hBu
  have m0 : c0.tmod L = x0 := by rw [hx0]; exact Int.tmod_eq_emod_of_nonneg (by omega)
  have f3 : IntKind.i64.wrap (x0 + 1) = Bu := by clear hx0 m0; rw [IntKind.wrap_i64]; omega
  have f4 : IntKind.i64.wrap (d0 + 1) = (n : Int) := by clear hx0 m0; rw [IntKind.wrap_i64]; omega
  have f5 : IntKind.i64.wrap (e0 + 1) = (Ce : Int) := by clear hx0 m0; rw [IntKind.wrap_i64]; omega
  have f6 : IntKind.i64.wrap (f0 + 1) = (k : Int) := by clear hx0 m0; rw [IntKind.wrap_i64]; omega
  have f7 : IntKind.i64.wrap (g0 + 1) = (W : Int) := by clear hx0 m0; rw [IntKind.wrap_i64]; omega
  have f8 : IntKind.i64.wrap (h0 + 1) = (Tr : Int) := by clear hx0 m0; rw [IntKind.wrap_i64]; omega
  have g1 : n ≤ 8 := by clear hx0 m0; omega
  have g2 : s ≤ 32 := by clear hx0 m0; omega
  obtain ⟨m, hm⟩ : ∃ m, m = s * n := ⟨_, rfl⟩
  have hmb : m ≤ 256 := by rw [hm]; exact Nat.le_trans (Nat.mul_le_mul g2 g1) (by decide)
  have f9 : (s : Int) * (n : Int) = (m : Int) := by rw [hm, Int.natCast_mul]
  have f0' : IntKind.i64.wrap (m : Int) = (m : Int) := by clear hx0 m0; rw [IntKind.wrap_i64]; omega
  rw [← hm]
  obtain ⟨w1, hw1, k1, l1, s1⟩ := box_new w (planC a b c d e f g h sm) 113
  obtain ⟨w2, hw2, k2, l2, s2⟩ := box_new w1 (rlC 0 0 0 0 0 0 0 0 false) 52
  obtain ⟨b1, hb1⟩ : ∃ x, x = w.heap.size := ⟨_, rfl⟩
  obtain ⟨b2, hb2⟩ : ∃ x, x = w1.heap.size := ⟨_, rfl⟩
  have k1' := k1.keep l2
  rw [← hb1] at k1'
  rw [← hb2] at k2
  have kr1 := k1'.rd
  have K1 := Lib.hid k1'
  have K2 := Lib.hid k2
  have BL := Lib.hid (below_in l1 l2)
  have HB := Lib.hid (And.intro hb1 (And.intro hb2 (And.intro s1 s2)))
  clear hL hs hBu hn hCe hk hW hTr ha0 hb0 hc0 hd0 he0 hf0 hg0 hh0 hx0 g1 g2 hm hmb k1 k2 k1' l1 l2 s1 s2 hbb eM
  go_enter Tryz.func35, Tryz.ntmps35
  go_upto_region 1 with (fail)
  rw [← HB.out.1, ← HB.out.2.1]
  clear hw1 hw2 hb1 hb2
  go_upto_region 3 with (fail)
  have BN := Lib.hid (show Below w2.heap.size w2 w2.drew from below_draws (Below.refl _ _) 1)
  have SB := Lib.hid (fun wx (hb : Below w2.heap.size w2 wx) => show ∀ i, wx.cell? ⟨b1, i, none⟩ = (planC a b c d e f g h sm)[i]? from (K1.out.keep hb).rd)
  have st := SB.out _ BN.out
  clear kr1
  obtain ⟨w3, hw3, k3, l3, s3⟩ := box_new w2 (rlC 0 0 0 0 0 0 0 0 false) 52
  have N3 := Lib.hid (show Below w2.heap.size w2 w3.drew from below_draws l3 1)
  have N3' := Lib.hid l3
  have K3 := Lib.hid k3
  have k3r := k3.rd
  have k3w := k3.wr
  have H3 := Lib.hid (show b1 < w2.heap.size ∧ b2 < w2.heap.size from ⟨lt_of_block K1.out, lt_of_block K2.out⟩)
  have SX := Lib.hid (fun o => show ∀ i, (setObj w3 w2.heap.size o).drew.cell? ⟨b1, i, none⟩ = (planC a b c d e f g h sm)[i]? from ((K1.out.keep N3'.out).fr (Fr.setObj (F := fun k => k = w2.heap.size) (Fr.refl _ _) rfl o) (by have := H3.out; omega)).drew.rd)
  clear k3 l3 s3
  refine wp_region_held_drew (S := fun wx => ∀ i, wx.cell? ⟨b1, i, none⟩ = (planC a b c d e f g h sm)[i]?) (by kernel_rfl) st (fun hHeld => ?_)
  clear st
  refine wpAnyH_take (i := 0) (oi := ?_) (v := ?_) ?_ ?_ ?_ ?_ ?_ ?_ ?_ ?_
  rotate_left 2
  · simp only [List.getElem?_toArray, List.getElem?_cons_succ, List.getElem?_cons_zero]; rfl
  · kernel_rfl
  · kernel_rfl
  · kernel_rfl
  · exact fun _ _ _ h => h
  · refine Or.inl ⟨by rfl, ?_⟩
    intro w' hSw
    (try dsimp only at hSw)
    go_simp
    all_goals (with_reducible rfl)
  · assumption
  try simp only [Act.put, List.setIfInBounds_toArray, List.set_cons_zero, List.set_cons_succ]
  refine wpAnyH_take (i := 1) (oi := ?_) (v := ?_) ?_ ?_ ?_ ?_ ?_ ?_ ?_ ?_
  rotate_left 2
  · simp only [List.getElem?_toArray, List.getElem?_cons_succ, List.getElem?_cons_zero]; rfl
  · kernel_rfl
  · kernel_rfl
  · kernel_rfl
  · exact fun _ _ _ h => h
  · refine Or.inl ⟨by rfl, ?_⟩
    intro w' hSw
    (try dsimp only at hSw)
    go_simp
    all_goals (with_reducible rfl)
  · assumption
  try simp only [Act.put, List.setIfInBounds_toArray, List.set_cons_zero, List.set_cons_succ]
  refine wpAnyH_take (i := 2) (oi := ?_) (v := ?_) ?_ ?_ ?_ ?_ ?_ ?_ ?_ ?_
  rotate_left 2
  · simp only [List.getElem?_toArray, List.getElem?_cons_succ, List.getElem?_cons_zero]; rfl
  · kernel_rfl
  · kernel_rfl
  · kernel_rfl
  · exact fun _ _ _ h => h
  · refine Or.inl ⟨by rfl, ?_⟩
    intro w' hSw
    (try dsimp only at hSw)
    go_simp
    all_goals (with_reducible rfl)
  · assumption
  try simp only [Act.put, List.setIfInBounds_toArray, List.set_cons_zero, List.set_cons_succ]
  refine wpAnyH_take (i := 3) (oi := ?_) (v := ?_) ?_ ?_ ?_ ?_ ?_ ?_ ?_ ?_
  rotate_left 2
  · simp only [List.getElem?_toArray, List.getElem?_cons_succ, List.getElem?_cons_zero]; rfl
  · kernel_rfl
  · kernel_rfl
  · kernel_rfl
  · exact fun _ _ _ h => h
  · refine Or.inl ⟨by rfl, ?_⟩
    intro w' hSw
    (try dsimp only at hSw)
    go_simp
    all_goals (with_reducible rfl)
  · assumption
  try simp only [Act.put, List.setIfInBounds_toArray, List.set_cons_zero, List.set_cons_succ]
  refine wpAnyH_take (i := 4) (oi := ?_) (v := ?_) ?_ ?_ ?_ ?_ ?_ ?_ ?_ ?_
  rotate_left 2
  · simp only [List.getElem?_toArray, List.getElem?_cons_succ, List.getElem?_cons_zero]; rfl
  · kernel_rfl
  · kernel_rfl
  · kernel_rfl
  · exact fun _ _ _ h => h
  · refine Or.inl ⟨by rfl, ?_⟩
    intro w' hSw
    (try dsimp only at hSw)
    go_simp
    all_goals (with_reducible rfl)
  · assumption
  try simp only [Act.put, List.setIfInBounds_toArray, List.set_cons_zero, List.set_cons_succ]
  refine wpAnyH_take (i := 5) (oi := ?_) (v := ?_) ?_ ?_ ?_ ?_ ?_ ?_ ?_ ?_
  rotate_left 2
  · simp only [List.getElem?_toArray, List.getElem?_cons_succ, List.getElem?_cons_zero]; rfl
  · kernel_rfl
  · kernel_rfl
  · kernel_rfl
  · exact fun _ _ _ h => h
  · refine Or.inl ⟨by rfl, ?_⟩
    intro w' hSw
    (try dsimp only at hSw)
    go_simp
    all_goals (with_reducible rfl)
  · assumption
  try simp only [Act.put, List.setIfInBounds_toArray, List.set_cons_zero, List.set_cons_succ]
  refine wpAnyH_take (i := 6) (oi := ?_) (v := ?_) ?_ ?_ ?_ ?_ ?_ ?_ ?_ ?_
  rotate_left 2
  · simp only [List.getElem?_toArray, List.getElem?_cons_succ, List.getElem?_cons_zero]; rfl
  · kernel_rfl
  · kernel_rfl
  · kernel_rfl
  · exact fun _ _ _ h => h
  · refine Or.inl ⟨by rfl, ?_⟩
    intro w' hSw
    (try dsimp only at hSw)
    go_simp
    all_goals (with_reducible rfl)
  · assumption
  try simp only [Act.put, List.setIfInBounds_toArray, List.set_cons_zero, List.set_cons_succ]
  refine wpAnyH_take (i := 7) (oi := ?_) (v := ?_) ?_ ?_ ?_ ?_ ?_ ?_ ?_ ?_
  rotate_left 2
  · simp only [List.getElem?_toArray, List.getElem?_cons_succ, List.getElem?_cons_zero]; rfl
  · kernel_rfl
  · kernel_rfl
  · kernel_rfl
  · exact fun _ _ _ h => h
  · refine Or.inl ⟨by rfl, ?_⟩
    intro w' hSw
    (try dsimp only at hSw)
    go_simp
    all_goals (with_reducible rfl)
  · assumption
  try simp only [Act.put, List.setIfInBounds_toArray, List.set_cons_zero, List.set_cons_succ]
  refine wpAnyH_take (i := 8) (oi := ?_) (v := ?_) ?_ ?_ ?_ ?_ ?_ ?_ ?_ ?_
  rotate_left 2
  · simp only [List.getElem?_toArray, List.getElem?_cons_succ, List.getElem?_cons_zero]; rfl
  · kernel_rfl
  · kernel_rfl
  · kernel_rfl
  · exact fun _ _ _ h => h
  · refine Or.inl ⟨by rfl, ?_⟩
    intro w' hSw
    (try dsimp only at hSw)
    go_simp
    all_goals (with_reducible rfl)
  · assumption
  try simp only [Act.put, List.setIfInBounds_toArray, List.set_cons_zero, List.set_cons_succ]
  refine wpAnyH_take (i := 9) (oi := ?_) (v := ?_) ?_ ?_ ?_ ?_ ?_ ?_ ?_ ?_
  rotate_left 2
  · simp only [List.getElem?_toArray, List.getElem?_cons_succ, List.getElem?_cons_zero]; rfl
  · kernel_rfl
  · kernel_rfl
  · kernel_rfl
  · exact fun _ _ _ h => h
  · refine Or.inl ⟨by rfl, ?_⟩
    intro w' hSw
    (try dsimp only at hSw)
    go_simp
    all_goals (with_reducible rfl)
  · assumption
  try simp only [Act.put, List.setIfInBounds_toArray, List.set_cons_zero, List.set_cons_succ]
  refine wpAnyH_take (i := 10) (oi := ?_) (v := ?_) ?_ ?_ ?_ ?_ ?_ ?_ ?_ ?_
  rotate_left 2
  · simp only [List.getElem?_toArray, List.getElem?_cons_succ, List.getElem?_cons_zero]; rfl
  · kernel_rfl
  · kernel_rfl
  · kernel_rfl
  · exact fun _ _ _ h => h
  · refine Or.inl ⟨by rfl, ?_⟩
    intro w' hSw
    (try dsimp only at hSw)
    go_simp
    all_goals (with_reducible rfl)
  · assumption
  try simp only [Act.put, List.setIfInBounds_toArray, List.set_cons_zero, List.set_cons_succ]
  refine wpAnyH_take (i := 11) (oi := ?_) (v := ?_) ?_ ?_ ?_ ?_ ?_ ?_ ?_ ?_
  rotate_left 2
  · simp only [List.getElem?_toArray, List.getElem?_cons_succ, List.getElem?_cons_zero]; rfl
  · kernel_rfl
  · kernel_rfl
  · kernel_rfl
  · exact fun _ _ _ h => h
  · refine Or.inl ⟨by rfl, ?_⟩
    intro w' hSw
    (try dsimp only at hSw)
    go_simp
    all_goals (with_reducible rfl)
  · assumption
  try simp only [Act.put, List.setIfInBounds_toArray, List.set_cons_zero, List.set_cons_succ]
  refine wpAnyH_take (i := 12) (oi := ?_) (v := ?_) ?_ ?_ ?_ ?_ ?_ ?_ ?_ ?_
  rotate_left 2
  · simp only [List.getElem?_toArray, List.getElem?_cons_succ, List.getElem?_cons_zero]; rfl
  · kernel_rfl
  · kernel_rfl
  · kernel_rfl
  · exact fun _ _ _ h => h
  · refine Or.inl ⟨by rfl, ?_⟩
    intro w' hSw
    (try dsimp only at hSw)
    go_simp
    all_goals (with_reducible rfl)
  · assumption
  try simp only [Act.put, List.setIfInBounds_toArray, List.set_cons_zero, List.set_cons_succ]
  refine wpAnyH_take (i := 13) (oi := ?_) (v := ?_) ?_ ?_ ?_ ?_ ?_ ?_ ?_ ?_
  rotate_left 2
  · simp only [List.getElem?_toArray, List.getElem?_cons_succ, List.getElem?_cons_zero]; rfl
  · kernel_rfl
  · kernel_rfl
  · kernel_rfl
  · exact fun _ _ _ h => h
  · refine Or.inl ⟨by rfl, ?_⟩
    intro w' hSw
    (try dsimp only at hSw)
    go_simp
    all_goals (with_reducible rfl)
  · assumption
  try simp only [Act.put, List.setIfInBounds_toArray, List.set_cons_zero, List.set_cons_succ]
  refine wpAnyH_take (i := 14) (oi := ?_) (v := ?_) ?_ ?_ ?_ ?_ ?_ ?_ ?_ ?_
  rotate_left 2
  · simp only [List.getElem?_toArray, List.getElem?_cons_succ, List.getElem?_cons_zero]; rfl
  · kernel_rfl
  · kernel_rfl
  · kernel_rfl
  · exact fun _ _ _ h => h
  · refine Or.inl ⟨by rfl, ?_⟩
    intro w' hSw
    (try dsimp only at hSw)
    go_simp
    all_goals (with_reducible rfl)
  · assumption
  try simp only [Act.put, List.setIfInBounds_toArray, List.set_cons_zero, List.set_cons_succ]
  refine wpAnyH_take (i := 15) (oi := ?_) (v := ?_) ?_ ?_ ?_ ?_ ?_ ?_ ?_ ?_
  rotate_left 2
  · simp only [List.getElem?_toArray, List.getElem?_cons_succ, List.getElem?_cons_zero]; rfl
  · kernel_rfl
  · kernel_rfl
  · kernel_rfl
  · exact fun _ _ _ h => h
  · refine Or.inl ⟨by rfl, ?_⟩
    intro w' hSw
    (try dsimp only at hSw)
    go_simp
    all_goals (with_reducible rfl)
  · assumption
  try simp only [Act.put, List.setIfInBounds_toArray, List.set_cons_zero, List.set_cons_succ]
  refine wpAnyH_take (i := 16) (oi := ?_) (v := ?_) ?_ ?_ ?_ ?_ ?_ ?_ ?_ ?_
  rotate_left 2
  · simp only [List.getElem?_toArray, List.getElem?_cons_succ, List.getElem?_cons_zero]; rfl
  · kernel_rfl
  · kernel_rfl
  · kernel_rfl
  · exact fun _ _ _ h => h
  · refine Or.inl ⟨by rfl, ?_⟩
    intro w' hSw
    (try dsimp only at hSw)
    go_simp
    all_goals (with_reducible rfl)
  · assumption
  try simp only [Act.put, List.setIfInBounds_toArray, List.set_cons_zero, List.set_cons_succ]
  refine wpAnyH_take (i := 17) (oi := ?_) (v := ?_) ?_ ?_ ?_ ?_ ?_ ?_ ?_ ?_
  rotate_left 2
  · simp only [List.getElem?_toArray, List.getElem?_cons_succ, List.getElem?_cons_zero]; rfl
  · kernel_rfl
  · kernel_rfl
  · kernel_rfl
  · exact fun _ _ _ h => h
  · refine Or.inl ⟨by rfl, ?_⟩
    intro w' hSw
    (try dsimp only at hSw)
    go_simp
    all_goals (with_reducible rfl)
  · assumption
  try simp only [Act.put, List.setIfInBounds_toArray, List.set_cons_zero, List.set_cons_succ]
  refine wpAnyH_take (i := 18) (oi := ?_) (v := ?_) ?_ ?_ ?_ ?_ ?_ ?_ ?_ ?_
  rotate_left 2
  · simp only [List.getElem?_toArray, List.getElem?_cons_succ, List.getElem?_cons_zero]; rfl
  · kernel_rfl
  · kernel_rfl
  · kernel_rfl
  · exact fun _ _ _ h => h
  · refine Or.inl ⟨by rfl, ?_⟩
    intro w' hSw
    (try dsimp only at hSw)
    go_simp
    all_goals (with_reducible rfl)
  · assumption
  try simp only [Act.put, List.setIfInBounds_toArray, List.set_cons_zero, List.set_cons_succ]
  refine wpAnyH_take (i := 19) (oi := ?_) (v := ?_) ?_ ?_ ?_ ?_ ?_ ?_ ?_ ?_
  rotate_left 2
  · simp only [List.getElem?_toArray, List.getElem?_cons_succ, List.getElem?_cons_zero]; rfl
  · kernel_rfl
  · kernel_rfl
  · kernel_rfl
  · exact fun _ _ _ h => h
  · refine Or.inl ⟨by rfl, ?_⟩
    intro w' hSw
    (try dsimp only at hSw)
    go_simp
    all_goals (with_reducible rfl)
  · assumption
  try simp only [Act.put, List.setIfInBounds_toArray, List.set_cons_zero, List.set_cons_succ]
  refine wpAnyH_take (i := 20) (oi := ?_) (v := ?_) ?_ ?_ ?_ ?_ ?_ ?_ ?_ ?_
  rotate_left 2
  · simp only [List.getElem?_toArray, List.getElem?_cons_succ, List.getElem?_cons_zero]; rfl
  · kernel_rfl
  · kernel_rfl
  · kernel_rfl
  · exact fun _ _ _ h => h
  · refine Or.inl ⟨by rfl, ?_⟩
    intro w' hSw
    (try dsimp only at hSw)
    go_simp
    all_goals (with_reducible rfl)
  · assumption
  try simp only [Act.put, List.setIfInBounds_toArray, List.set_cons_zero, List.set_cons_succ]
  refine wpAnyH_take (i := 21) (oi := ?_) (v := ?_) ?_ ?_ ?_ ?_ ?_ ?_ ?_ ?_
  rotate_left 2
  · simp only [List.getElem?_toArray, List.getElem?_cons_succ, List.getElem?_cons_zero]; rfl
  · kernel_rfl
  · kernel_rfl
  · kernel_rfl
  · exact fun _ _ _ h => h
  · refine Or.inl ⟨by rfl, ?_⟩
    intro w' hSw
    (try dsimp only at hSw)
    go_simp
    all_goals (with_reducible rfl)
  · assumption
  try simp only [Act.put, List.setIfInBounds_toArray, List.set_cons_zero, List.set_cons_succ]
  refine wpAnyH_take (i := 22) (oi := ?_) (v := ?_) ?_ ?_ ?_ ?_ ?_ ?_ ?_ ?_
  rotate_left 2
  · simp only [List.getElem?_toArray, List.getElem?_cons_succ, List.getElem?_cons_zero]; rfl
  · kernel_rfl
  · kernel_rfl
  · kernel_rfl
  · exact fun _ _ _ h => h
  · refine Or.inl ⟨by rfl, ?_⟩
    intro w' hSw
    (try dsimp only at hSw)
    go_simp
    all_goals (with_reducible rfl)
  · assumption
  try simp only [Act.put, List.setIfInBounds_toArray, List.set_cons_zero, List.set_cons_succ]
  refine wpAnyH_take (i := 23) (oi := ?_) (v := ?_) ?_ ?_ ?_ ?_ ?_ ?_ ?_ ?_
  rotate_left 2
  · simp only [List.getElem?_toArray, List.getElem?_cons_succ, List.getElem?_cons_zero]; rfl
  · kernel_rfl
  · kernel_rfl
  · kernel_rfl
  · exact fun _ _ _ h => h
  · refine Or.inl ⟨by rfl, ?_⟩
    intro w' hSw
    (try dsimp only at hSw)
    go_simp
    all_goals (with_reducible rfl)
  · assumption
  try simp only [Act.put, List.setIfInBounds_toArray, List.set_cons_zero, List.set_cons_succ]
  refine wpAnyH_take (i := 24) (oi := ?_) (v := ?_) ?_ ?_ ?_ ?_ ?_ ?_ ?_ ?_
  rotate_left 2
  · simp only [List.getElem?_toArray, List.getElem?_cons_succ, List.getElem?_cons_zero]; rfl
  · kernel_rfl
  · kernel_rfl
  · kernel_rfl
  · exact fun _ _ _ h => h
  · refine Or.inl ⟨by rfl, ?_⟩
    intro w' hSw
    (try dsimp only at hSw)
    go_simp
    all_goals (with_reducible rfl)
  · assumption
  try simp only [Act.put, List.setIfInBounds_toArray, List.set_cons_zero, List.set_cons_succ]
  refine wpAnyH_take (i := 25) (oi := ?_) (v := ?_) ?_ ?_ ?_ ?_ ?_ ?_ ?_ ?_
  rotate_left 2
  · simp only [List.getElem?_toArray, List.getElem?_cons_succ, List.getElem?_cons_zero]; rfl
  · kernel_rfl
  · kernel_rfl
  · kernel_rfl
  · exact fun _ _ _ h => h
  · refine Or.inl ⟨by rfl, ?_⟩
    intro w' hSw
    (try dsimp only at hSw)
    go_simp
    all_goals (with_reducible rfl)
  · assumption
  try simp only [Act.put, List.setIfInBounds_toArray, List.set_cons_zero, List.set_cons_succ]
  refine wpAnyH_take (i := 26) (oi := ?_) (v := ?_) ?_ ?_ ?_ ?_ ?_ ?_ ?_ ?_
  rotate_left 2
  · simp only [List.getElem?_toArray, List.getElem?_cons_succ, List.getElem?_cons_zero]; rfl
  · kernel_rfl
  · kernel_rfl
  · kernel_rfl
  · exact fun _ _ _ h => h
  · refine Or.inl ⟨by rfl, ?_⟩
    intro w' hSw
    (try dsimp only at hSw)
    go_simp
    all_goals (with_reducible rfl)
  · assumption
  try simp only [Act.put, List.setIfInBounds_toArray, List.set_cons_zero, List.set_cons_succ]
  refine wpAnyH_take (i := 27) (oi := ?_) (v := ?_) ?_ ?_ ?_ ?_ ?_ ?_ ?_ ?_
  rotate_left 2
  · simp only [List.getElem?_toArray, List.getElem?_cons_succ, List.getElem?_cons_zero]; rfl
  · kernel_rfl
  · kernel_rfl
  · kernel_rfl
  · exact fun _ _ _ h => h
  · refine Or.inl ⟨by rfl, ?_⟩
    intro w' hSw
    (try dsimp only at hSw)
    go_simp
    all_goals (with_reducible rfl)
  · assumption
  try simp only [Act.put, List.setIfInBounds_toArray, List.set_cons_zero, List.set_cons_succ]
  refine wpAnyH_take (i := 28) (oi := ?_) (v := ?_) ?_ ?_ ?_ ?_ ?_ ?_ ?_ ?_
  rotate_left 2
  · simp only [List.getElem?_toArray, List.getElem?_cons_succ, List.getElem?_cons_zero]; rfl
  · kernel_rfl
  · kernel_rfl
  · kernel_rfl
  · exact fun _ _ _ h => h
  · refine Or.inl ⟨by rfl, ?_⟩
    intro w' hSw
    (try dsimp only at hSw)
    go_simp
    all_goals (with_reducible rfl)
  · assumption
  try simp only [Act.put, List.setIfInBounds_toArray, List.set_cons_zero, List.set_cons_succ]
  refine wpAnyH_take (i := 29) (oi := ?_) (v := ?_) ?_ ?_ ?_ ?_ ?_ ?_ ?_ ?_
  rotate_left 2
  · simp only [List.getElem?_toArray, List.getElem?_cons_succ, List.getElem?_cons_zero]; rfl
  · kernel_rfl
  · kernel_rfl
  · kernel_rfl
  · exact fun _ _ _ h => h
  · refine Or.inl ⟨by rfl, ?_⟩
    intro w' hSw
    (try dsimp only at hSw)
    go_simp
    all_goals (with_reducible rfl)
  · assumption
  try simp only [Act.put, List.setIfInBounds_toArray, List.set_cons_zero, List.set_cons_succ]
  refine wpAnyH_take (i := 30) (oi := ?_) (v := ?_) ?_ ?_ ?_ ?_ ?_ ?_ ?_ ?_
  rotate_left 2
  · simp only [List.getElem?_toArray, List.getElem?_cons_succ, List.getElem?_cons_zero]; rfl
  · kernel_rfl
  · kernel_rfl
  · kernel_rfl
  · exact fun _ _ _ h => h
  · refine Or.inl ⟨by rfl, ?_⟩
    intro w' hSw
    (try dsimp only at hSw)
    go_simp
    all_goals (with_reducible rfl)
  · assumption
  try simp only [Act.put, List.setIfInBounds_toArray, List.set_cons_zero, List.set_cons_succ]
  refine wpAnyH_ready (rs := [31]) (by kernel_rfl) (by simp) ?_
  refine AllReadyH.cons (o := ?_) ?_ ?_ ?_
  rotate_left 1
  · simp only [List.getElem?_toArray, List.getElem?_cons_succ, List.getElem?_cons_zero]; rfl
  rotate_left 1
  · exact AllReadyH.nil
  intro K hK
  go_simp
  skip
  refine hK.out _ _ (SB.out _ N3.out) (fun hHeld => ?_)
  clear hK K
  try simp only [Act.put, List.setIfInBounds_toArray, List.set_cons_zero, List.set_cons_succ]
  refine wpAnyH_ready (rs := [32]) (by kernel_rfl) (by simp) ?_
  refine AllReadyH.cons (o := ?_) ?_ ?_ ?_
  rotate_left 1
  · simp only [List.getElem?_toArray, List.getElem?_cons_succ, List.getElem?_cons_zero]; rfl
  rotate_left 1
  · exact AllReadyH.nil
  intro K hK
  go_simp
  rw [nine_setR K3.out]
  refine hK.out _ _ (SX.out _) (fun hHeld => ?_)
  clear hK K
  try simp only [Act.put, List.setIfInBounds_toArray, List.set_cons_zero, List.set_cons_succ]
  refine wpAnyH_done (by kernel_rfl) ?_ _
  clear hHeld hw3 k3r k3w
  obtain ⟨b3, hb3⟩ : ∃ x, x = w2.heap.size := ⟨_, rfl⟩
  rw [← hb3] at H3 K3 ⊢
  have f4 : Fr (fun k => k = b3) w3 (setObj w3 b3 (.cells (rlC L m Bu n Ce k W Tr false) 52 (0, 0))) := Fr.setObj (F := fun k => k = b3) (Fr.refl _ _) rfl _
  have k4 : Blk (setObj w3 b3 (.cells (rlC L m Bu n Ce k W Tr false) 52 (0, 0))) b3 52 (rlC L m Bu n Ce k W Tr false) := setObj_at (lt_of_block K3.out) _
  change Exit.then _ _ _ _ (setObj w3 b3 (.cells (rlC L m Bu n Ce k W Tr false) 52 (0, 0))).drew
  generalize setObj w3 b3 (.cells (rlC L m Bu n Ce k W Tr false) 52 (0, 0)) = w4 at f4 k4 ⊢
  have Z4 := Lib.hid (And.intro ((K1.out.keep N3'.out).fr f4 (by have := H3.out; omega)).drew (And.intro ((K2.out.keep N3'.out).fr f4 (by have := H3.out; omega)).drew (show Below w2.heap.size w2 w4.drew from below_draws (N3'.out.trans (f4.below N3'.out.size (fun k hk => by omega))) 1)))
  have k4 := k4.drew
  change Exit.then _ _ _ _ w4.drew
  generalize w4.drew = w4 at k4 Z4 ⊢
  have K4 := Lib.hid k4
  have HB3 := Lib.hid hb3
  have z1 := Z4.out.1.rd
  have z2 := Z4.out.2.1.wr
  have z2r := Z4.out.2.1.rd
  have z4 := k4.rd
  have z4w := k4.wr
  clear f4 k4 hb3
  cases sm
  · go_upto_region 5 with (fail)
    rw [setCell_obj K4.out]
    simp only [List.setIfInBounds_toArray, List.set_cons_zero, List.set_cons_succ]
    clear z4 z4w
    have f5 : Fr (fun k => k = b3) w4 (setObj w4 b3 (.cells (rlC L m Bu n Ce k W Tr false) 52 (0, 0))) := Fr.setObj (F := fun k => k = b3) (Fr.refl _ _) rfl _
    have k5 : Blk (setObj w4 b3 (.cells (rlC L m Bu n Ce k W Tr false) 52 (0, 0))) b3 52 (rlC L m Bu n Ce k W Tr false) := setObj_at (lt_of_block K4.out) _
    generalize setObj w4 b3 (.cells (rlC L m Bu n Ce k W Tr false) 52 (0, 0)) = w5 at f5 k5 ⊢
    have Y2 := Lib.hid (Z4.out.2.1.fr f5 (by have := H3.out; omega))
    have q5 : Below w2.heap.size w4 w5 := f5.below Z4.out.2.2.size (fun k hk => by have h1 := HB3.out; have h2 : k = b3 := hk; omega)
    have B5 := Lib.hid (Z4.out.2.2.trans q5)
    have z5 := k5.rd
    have y2 := Y2.out.rd
    have y2w := Y2.out.wr
    clear f5 k5 z1 z2 z2r q5
    go_wp2
    rw [nine_setR Y2.out]
    rw [show (false && decide ((1 : Int) < (n : Int))) = false from rfl]
    refine bodyPost_ret (results_cell_row rfl _ _ b2 _ _ (0, 0) _ rfl (setObj_at (lt_of_block Y2.out) _) Tryz.underlying52 rfl (by kernel_rfl)) rfl ⟨rfl, ?_⟩
    have hb := HB.out
    have b5 := below_in BL.out B5.out
    exact b5.trans ((Fr.setObj (F := fun k => k = b2) (Fr.refl _ _) rfl _).below b5.size (fun k hk => by omega))
  · go_upto_region 5 with (fail)
    rw [setCell_obj K4.out]
    simp only [List.setIfInBounds_toArray, List.set_cons_zero, List.set_cons_succ]
    clear z4 z4w
    obtain ⟨q, hq⟩ : ∃ q, q = decide ((1 : Int) < (n : Int)) := ⟨_, rfl⟩
    have HQ := Lib.hid (show (true && decide ((1 : Int) < (n : Int))) = q from by rw [hq]; rfl)
    rw [← hq]
    clear hq
    have f5 : Fr (fun k => k = b3) w4 (setObj w4 b3 (.cells (rlC L m Bu n Ce k W Tr q) 52 (0, 0))) := Fr.setObj (F := fun k => k = b3) (Fr.refl _ _) rfl _
    have k5 : Blk (setObj w4 b3 (.cells (rlC L m Bu n Ce k W Tr q) 52 (0, 0))) b3 52 (rlC L m Bu n Ce k W Tr q) := setObj_at (lt_of_block K4.out) _
    generalize setObj w4 b3 (.cells (rlC L m Bu n Ce k W Tr q) 52 (0, 0)) = w5 at f5 k5 ⊢
    have Y2 := Lib.hid (Z4.out.2.1.fr f5 (by have := H3.out; omega))
    have q5 : Below w2.heap.size w4 w5 := f5.below Z4.out.2.2.size (fun k hk => by have h1 := HB3.out; have h2 : k = b3 := hk; omega)
    have B5 := Lib.hid (Z4.out.2.2.trans q5)
    have z5 := k5.rd
    have y2 := Y2.out.rd
    have y2w := Y2.out.wr
    clear f5 k5 z1 z2 z2r q5
    go_wp2
    rw [nine_setR Y2.out]
    rw [HQ.out]
    refine bodyPost_ret (results_cell_row rfl _ _ b2 _ _ (0, 0) _ rfl (setObj_at (lt_of_block Y2.out) _) Tryz.underlying52 rfl (by kernel_rfl)) rfl ⟨rfl, ?_⟩
    have hb := HB.out
    have b5 := below_in BL.out B5.out
    exact b5.trans ((Fr.setObj (F := fun k => k = b2) (Fr.refl _ _) rfl _).below b5.size (fun k hk => by omega))
end Go.Proofs.YtannniobeanhlaaGreat
