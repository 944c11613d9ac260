import Derived.Test.YtbgcpljekcagiaaGreatZLm
import Derived.Test.YtbgcpljekcagiaaGreatZCellB
import Derived.Test.YtbgcpljekcagiaaGreatZLiftS
import Derived.Test.YtbgcpljekcagiaaGreatMap
import Derived.Test.YtbgcpljekcagiaaGreatZSlL
import Derived.Test.YtbgcpljekcagiaaGreatZGen
/- The laws of layer 12: what answers tell. -/
namespace Go.Proofs.YtbgcpljekcagiaaGreat
set_option linter.unusedSimpArgs false
set_option linter.unusedVariables false
set_option maxRecDepth 100000
open Go.ChangeShapes Go.WideShapes Go.ChangeAt Go.RowKit
open Ar (inR)
/-- what of a limiter's numbers its answers ask for. -/
structure LmB (N : LmN) : Prop where
  BL : N.B ≤ N.L
  RL : N.R.L = N.L
  ns : (N.R.n : Int) * (N.R.s : Int) ≤ 1152921504606846976
section
variable {N : LmN} {s : LmS} {now m cost : Int}
theorem LmI.wait (h : LmI N s now m) (hb : LmB N) (key : ByteArray) (hc : 1 ≤ cost ∧ cost ≤ N.B) :
    0 ≤ waitR N.R s.r key cost ∧ (waitR N.R s.r key cost = 0 ↔ estZ N.R s.r key + cost ≤ N.L) := by
  obtain ⟨w, hw⟩ := h.rg
  have hm := h.m
  have hB := h.B
  have ht := h.t1
  have h0 := h.t0
  have hl := hb.BL
  have hns := hb.ns
  have hrl := hb.RL
  have hf := wait_facts (s := key) hw h.few (c := cost) (by omega) (by omega) (by omega)
  rcases hf with ⟨h1, h2⟩ | ⟨h1, nx, _, _, _, h2, _⟩
  · rw [h2]; omega
  · omega
theorem clamp_le (a : Int) {L : Int} (ha : 0 ≤ a) (hL : L < 9223372036854775807) : clamp a ≤ L ↔ a ≤ L := by
  unfold clamp
  split
  · omega
  · split <;> omega
end
end Go.Proofs.YtbgcpljekcagiaaGreat
/- The laws of layer 12: a limiter of the law's own. -/
namespace Go.Proofs.YtbgcpljekcagiaaGreat
set_option linter.unusedSimpArgs false
set_option linter.unusedVariables false
set_option maxRecDepth 100000
open Go.ChangeShapes Go.WideShapes Go.ChangeAt Go.RowKit
open Ar (inR)
structure LmLaw (W w : World) (N : LmN) (s : LmS) (t m : Int) : Prop where
  at_ : LmAt w N s
  I : LmI N s t m
  lo : ∀ b, N.all b → W.heap.size ≤ b
  bl : Below W.heap.size W w
section
variable {W w w' : World} {N : LmN} {s s' : LmS} {t t' m m' : Int}
theorem LmLaw.keep (h : LmLaw W w N s t m) (hb : Below w.heap.size w w') : LmLaw W w' N s t m := ⟨h.at_.keep hb, h.I, h.lo, below_in h.bl hb⟩
theorem LmLaw.op {F : Nat → Prop} (h : LmLaw W w N s t m) (h1 : LmAt w' N s') (hI : LmI N s' t' m') (hf : Fr F w w') (hF : ∀ b, F b → N.all b) : LmLaw W w' N s' t' m' := ⟨h1, hI, h.lo, h.bl.trans (hf.below h.bl.size (fun b hb => h.lo b (hF b hb)))⟩
theorem LmLaw.mono (h : LmLaw W w N s t m) (ht : t ≤ t' ∧ t' ≤ 4611686018427387904) (hm : m ≤ m' ∧ m' ≤ 576460752303423488) : LmLaw W w N s t' m' := ⟨h.at_, h.I.mono ht hm, h.lo, h.bl⟩
theorem LmLaw.ne (h : LmLaw W w N s t m) {b : Nat} (hb : w.heap.size ≤ b) : ¬ N.all b := fun g => by have := h.at_.lt b g; omega
end
/-- what the laws know of a plan's limiter. -/
theorem lmplan_B {N : LmN} {a b c d e f g h : Int} {sm : Bool} {X A B : Nat → Nat} (hp : LmP N (lqL a) ((lqS b * lqN d : Nat) : Int) (lqB a c) (lqN d) (lqS b) (lqR f) (lqW g) (lqC e) (lqT h) sm X A B) : LmB N ∧ N.B = lqB a c ∧ 1 ≤ lqB a c ∧ lqB a c ≤ 32 := by
  have h1 : 1 ≤ lqN d ∧ lqN d ≤ 8 := by unfold lqN; omega
  have h2 : 1 ≤ lqS b ∧ lqS b ≤ 32 := by unfold lqS; omega
  have h7 : 1 ≤ lqL a ∧ lqL a ≤ 32 := by unfold lqL; omega
  have hm : (lqN d + 1) * lqS b ≤ 9 * 32 := Nat.mul_le_mul (by omega) h2.2
  have hB := lqB_bd a c
  refine ⟨⟨?_, ?_, ?_⟩, hp.pB, hB.1, by omega⟩
  · rw [hp.pB, hp.pL]; exact hB.2
  · rw [hp.pRL, hp.pL]
  · rw [hp.pn, hp.ps, ← Int.natCast_mul]; omega
/-- a call's answer, laid in a box. -/
theorem boxA (X : World) (a b c : Int) : ∃ w1 w2, X.alloc (.cells #[.int .i64 0, .int .i64 0, .int .i64 0] 40) = w1 ∧
    (∀ j, w1.cell? ⟨X.heap.size, j, none⟩ = (#[.int .i64 0, .int .i64 0, .int .i64 0] : Array Value)[j]?) ∧ (∀ j, w1.frozen? ⟨X.heap.size, j, none⟩ = false) ∧
    ((w1.setCell ⟨X.heap.size, 0, none⟩ (.int .i64 a)).setCell ⟨X.heap.size, 1, none⟩ (.int .i64 b)).setCell ⟨X.heap.size, 2, none⟩ (.int .i64 c) = w2 ∧
    Below X.heap.size X w2 ∧ Blk w2 X.heap.size 40 #[.int .i64 a, .int .i64 b, .int .i64 c] := box3R X 40 _ _ _ _ _ _
end Go.Proofs.YtbgcpljekcagiaaGreat
/- The laws of layer 12: what rows have at least; limiters of one rule; peeks of residents. -/
namespace Go.Proofs.YtbgcpljekcagiaaGreat
set_option linter.unusedSimpArgs false
set_option linter.unusedVariables false
set_option maxRecDepth 100000
open Go.ChangeShapes Go.WideShapes Go.ChangeAt Go.RowKit
open Ar (inR)
/-- two rings of one rule and one row of functions. -/
structure RgE (R1 R2 : RgN) : Prop where
  n : R1.n = R2.n
  s : R1.s = R2.s
  rl : R1.L = R2.L
  sm : R1.sm = R2.sm
  k : R1.k = R2.k
  w : R1.W = R2.W
  x : R1.X = R2.X
  a : R1.A = R2.A
  b : R1.B = R2.B
section
variable {R1 R2 : RgN}
theorem RgE.P (h : RgE R1 R2) : R1.P = R2.P := by unfold RgN.P; rw [h.w, h.x, h.a, h.b]
theorem RgE.now (h : RgE R1 R2) (σ : RgS) : σ.now R1 = σ.now R2 := by unfold RgS.now; rw [h.s]
theorem RgE.lsum (h : RgE R1 R2) (σ : RgS) (s : ByteArray) (a b : Int) : ∀ j, lsum R1 σ s a b j = lsum R2 σ s a b j
  | 0 => rfl
  | j + 1 => by
    unfold Go.Proofs.YtbgcpljekcagiaaGreat.lsum
    rw [RgE.lsum h σ s a b j, h.P, h.k]
theorem RgE.est (h : RgE R1 R2) (σ : RgS) (s : ByteArray) : estZ R1 σ s = estZ R2 σ s := by
  unfold estZ eldZ
  simp only [h.lsum, h.now, h.n, h.sm, h.s]
theorem RgE.room (h : RgE R1 R2) (σ : RgS) (s : ByteArray) (c x : Int) : roomAt R1 σ s c x ↔ roomAt R2 σ s c x := by
  unfold roomAt
  simp only [h.lsum, h.now, h.n, h.rl]
theorem RgE.next (h : RgE R1 R2) (σ : RgS) (s : ByteArray) (c : Int) : ∀ (j : Nat) (x : Int), nextR R1 σ s c j x = nextR R2 σ s c j x
  | 0, _ => rfl
  | j + 1, x => by
    unfold nextR
    rw [RgE.next h σ s c j (x + 1)]
    by_cases hr : roomAt R1 σ s c x
    · rw [if_pos hr, if_pos ((h.room σ s c x).1 hr)]
    · rw [if_neg hr, if_neg (fun g => hr ((h.room σ s c x).2 g))]
theorem RgE.wait (h : RgE R1 R2) (σ : RgS) (s : ByteArray) (c : Int) : waitR R1 σ s c = waitR R2 σ s c := by
  unfold waitR
  simp only [h.est, h.next, h.now, h.n, h.rl, h.s]
theorem RgE.add (h : RgE R1 R2) (σ : RgS) (s : ByteArray) (c : Int) : σ.add R1 s c = σ.add R2 s c := by
  unfold RgS.add RgS.pl
  rw [h.now, h.n, h.P, h.k]
end
/-- two limiters of one rule and one pair of draws. -/
structure LmE (N1 N2 : LmN) : Prop where
  U : N1.U = N2.U
  W : N1.W = N2.W
  B : N1.B = N2.B
  L : N1.L = N2.L
  q : N1.Q.N.n = N2.Q.N.n
  t : N1.S.N.n = N2.S.N.n
  n : N1.R.n = N2.R.n
  s : N1.R.s = N2.R.s
  rl : N1.R.L = N2.R.L
  sm : N1.R.sm = N2.R.sm
  k : N1.R.k = N2.R.k
  rw_ : N1.R.W = N2.R.W
  x : N1.R.X = N2.R.X
  a : N1.R.A = N2.R.A
  b : N1.R.B = N2.R.B
section
variable {N1 N2 : LmN}
theorem LmE.r (h : LmE N1 N2) : RgE N1.R N2.R := ⟨h.n, h.s, h.rl, h.sm, h.k, h.rw_, h.x, h.a, h.b⟩
theorem LmE.ref (h : LmE N1 N2) (now held cost : Int) : refZ N1 now held cost = refZ N2 now held cost := by unfold refZ; rw [h.B]
theorem LmE.left (h : LmE N1 N2) (s : LmS) (key : ByteArray) : s.left N1 key = s.left N2 key := by unfold LmS.left; rw [h.L, h.B, h.r.est]
theorem LmE.judge (h : LmE N1 N2) (s : LmS) (now : Int) (key : ByteArray) (cost : Int) : s.judge N1 now key cost = s.judge N2 now key cost := by
  unfold LmS.judge
  simp only [h.q, h.U, h.W, h.B, h.L, h.r.est, h.r.add, h.r.wait, h.left]
theorem LmE.res (h : LmE N1 N2) (s : LmS) : s.res N1 = s.res N2 := by unfold LmS.res; rw [h.q]
theorem LmE.giver (h : LmE N1 N2) (s : LmS) (now : Int) (key : ByteArray) : s.giver N1 now key = s.giver N2 now key := by
  unfold LmS.giver LmS.light
  have ht : N1.S.N.n = N2.S.N.n := h.t
  simp only [h.res, h.W, ht]
theorem LmE.evict (h : LmE N1 N2) (s : LmS) (now : Int) (key : ByteArray) : s.evict N1 now key = s.evict N2 now key := by
  unfold LmS.evict
  simp only [h.q, h.U, h.W, h.L, h.r.add]
theorem LmE.put (h : LmE N1 N2) (s : LmS) (now : Int) (key : ByteArray) : s.put N1 now key = s.put N2 now key := by
  unfold LmS.put
  simp only [h.q, h.r.est]
theorem LmE.adm (h : LmE N1 N2) (s : LmS) (now : Int) (key : ByteArray) : s.adm N1 now key = s.adm N2 now key := by
  unfold LmS.adm LmS.full
  simp only [h.q, h.giver, h.evict, h.put]
theorem LmE.seen (h : LmE N1 N2) (s : LmS) (now : Int) (key : ByteArray) (cost : Int) : s.seen N1 now key cost = s.seen N2 now key cost := by
  unfold LmS.seen
  rw [h.t]
theorem LmE.check (h : LmE N1 N2) (s : LmS) (now held : Int) (key : ByteArray) (cost : Int) : s.check N1 now held key cost = s.check N2 now held key cost := by
  unfold LmS.check
  rw [h.ref, h.seen, h.adm, h.judge]
theorem LmE.len (h : LmE N1 N2) (s : LmS) : s.len N1 = s.len N2 := by unfold LmS.len; rw [h.q]
end
/-- what two limiters that were made alike have of one rule. -/
theorem LmP.same {N1 N2 : LmN} {L Wd Bu : Int} {Sl s k W Ce Tr : Nat} {sm : Bool} {X A B : Nat → Nat} (h1 : LmP N1 L Wd Bu Sl s k W Ce Tr sm X A B) (h2 : LmP N2 L Wd Bu Sl s k W Ce Tr sm X A B) : LmE N1 N2 :=
  ⟨h1.pU.trans h2.pU.symm, h1.pW.trans h2.pW.symm, h1.pB.trans h2.pB.symm, h1.pL.trans h2.pL.symm, h1.pC.trans h2.pC.symm, h1.pT.trans h2.pT.symm, h1.pn.trans h2.pn.symm, h1.ps.trans h2.ps.symm, h1.pRL.trans h2.pRL.symm, h1.psm.trans h2.psm.symm, h1.pk.trans h2.pk.symm, h1.pRW.trans h2.pRW.symm, h1.pX.trans h2.pX.symm, h1.pA.trans h2.pA.symm, h1.pRB.trans h2.pRB.symm⟩
/-! #### what a key without a cell is answered -/
section
variable {N : LmN} {s : LmS} {now m cost : Int}
end
end Go.Proofs.YtbgcpljekcagiaaGreat
/- The laws of layer 12: two limiters; what peeks leave and tell. -/
namespace Go.Proofs.YtbgcpljekcagiaaGreat
set_option linter.unusedSimpArgs false
set_option linter.unusedVariables false
set_option maxRecDepth 100000
open Go.ChangeShapes Go.WideShapes Go.ChangeAt Go.RowKit
open Ar (inR)
/-- two limiters of the law's own. -/
structure LmTwo (W w : World) (N1 N2 : LmN) (s1 s2 : LmS) (t1 t2 m : Int) : Prop where
  a : LmLaw W w N1 s1 t1 m
  b : LmLaw W w N2 s2 t2 m
  ap : ∀ k, N1.all k → ¬ N2.all k
section
variable {W w w' : World} {N1 N2 : LmN} {s1 s2 s' : LmS} {t1 t2 t1' t2' m m' : Int}
theorem LmTwo.keep (h : LmTwo W w N1 N2 s1 s2 t1 t2 m) (hb : Below w.heap.size w w') : LmTwo W w' N1 N2 s1 s2 t1 t2 m := ⟨h.a.keep hb, h.b.keep hb, h.ap⟩
theorem LmTwo.mono (h : LmTwo W w N1 N2 s1 s2 t1 t2 m) (ht1 : t1 ≤ t1' ∧ t1' ≤ 4611686018427387904) (ht2 : t2 ≤ t2' ∧ t2' ≤ 4611686018427387904) (hm : m ≤ m' ∧ m' ≤ 576460752303423488) : LmTwo W w N1 N2 s1 s2 t1' t2' m' := ⟨h.a.mono ht1 hm, h.b.mono ht2 hm, h.ap⟩
end
/-- a limiter whose ring's time is another. -/
def LmS.at (s : LmS) (x : Int) : LmS := { s with r := ⟨x, s.r.num, s.r.F⟩ }
section
variable {N : LmN} {s : LmS} {now m cost x : Int}
theorem admit_t (key : ByteArray) : (s.adm N now key).1.r.t = s.r.t := by
  unfold LmS.adm
  split
  · rfl
  · split
    · split <;> rfl
    · rfl
end
end Go.Proofs.YtbgcpljekcagiaaGreat
/- The law LimiterPeeks of layer 12 (limiter), walked. -/
namespace Go.Proofs.YtbgcpljekcagiaaGreat
set_option linter.unusedSimpArgs false
set_option linter.unusedVariables false
set_option maxRecDepth 100000
open Go.ChangeShapes Go.WideShapes Go.ChangeAt Go.RowKit
open Ar (inR)
end Go.Proofs.YtbgcpljekcagiaaGreat
/- The law LimiterEvents of layer 12 (limiter): the plain side: which keys get and lose cells. -/
namespace Go.Proofs.YtbgcpljekcagiaaGreat
set_option linter.unusedSimpArgs false
set_option linter.unusedVariables false
set_option maxRecDepth 100000
open Go.ChangeShapes Go.WideShapes Go.ChangeAt Go.RowKit
open Ar (inR)
/-- a pool's keys and free places, and what becomes of them. -/
structure KsOk (n : Nat) (σ : KSt) : Prop where
  pl : Places n σ.fl σ.K
  inj : ∀ i j s, σ.K i = some s → σ.K j = some s → i = j
  bd : ∀ i s, σ.K i = some s → i < n ∧ s.size ≤ 64
theorem LmAt.ks {w : World} {N : LmN} {s : LmS} (h : LmAt w N s) : KsOk N.Q.N.n s.σ := by
  have u := h.hp.ix.uni
  exact ⟨u.2.2.2, u.1, u.2.1⟩
section
variable {n : Nat} {σ : KSt}
theorem posN_iff {K : Nat → Option ByteArray} {k : ByteArray} : (posN n K k).isSome = true ↔ ∃ i, i < n ∧ K i = some k := by
  constructor
  · intro h
    obtain ⟨i, hi⟩ := Option.isSome_iff_exists.1 h
    exact ⟨i, posN_some hi⟩
  · rintro ⟨i, hi, hk⟩
    cases hp : posN n K k with
    | some j => rfl
    | none => exact absurd hk (posN_none hp i hi)
end
section
variable {N : LmN} {s : LmS} {now held cost : Int}
theorem light_in (f : ByteArray → Int) : ∀ (l : List (ByteArray × Cel)) (a : ByteArray × Int × Bool), (l.foldl (fun a x => lightS f a x.1) a).2.2 = true → (l.foldl (fun a x => lightS f a x.1) a) = a ∧ a.2.2 = true ∨ ∃ x ∈ l, x.1 = (l.foldl (fun a x => lightS f a x.1) a).1
  | [], a, h => Or.inl ⟨rfl, h⟩
  | x :: r, a, h => by
    rw [List.foldl_cons] at h ⊢
    rcases light_in f r (lightS f a x.1) h with ⟨h1, h2⟩ | ⟨y, hy, h1⟩
    · rw [h1]
      unfold lightS at h1 h2 ⊢
      split at h2
      · rename_i hc
        rw [if_pos hc]
        exact Or.inr ⟨x, List.mem_cons_self, rfl⟩
      · rename_i hc
        rw [if_neg hc]
        exact Or.inl ⟨rfl, h2⟩
    · exact Or.inr ⟨y, List.mem_cons_of_mem _ hy, h1⟩
/-- who gives a cell has one. -/
theorem giver_res {key o : ByteArray} (h : s.giver N now key = some o) : ∃ i, i < N.Q.N.n ∧ s.σ.K i = some o := by
  have hm : ∃ x ∈ s.res N, x.1 = o := by
    unfold LmS.giver at h
    cases hp : plIdle (s.res N) N.W now with
    | some x =>
      rw [hp] at h
      injection h with h
      exact ⟨x, List.mem_of_find?_eq_some hp, h⟩
    | none =>
      rw [hp] at h
      dsimp only at h
      split at h
      · cases h
      · split at h
        · cases h
        · rename_i hl
          injection h with h
          have h2 : (s.light N).2.2 = true := by
            cases hq : (s.light N).2.2
            · exact absurd (Or.inl hq) hl
            · rfl
          rcases light_in (mostM N.S.N.n s.M) (s.res N) (⟨#[]⟩, 0, false) h2 with ⟨_, h3⟩ | ⟨x, hx, h3⟩
          · cases h3
          · exact ⟨x, hx, h3.trans h⟩
  obtain ⟨x, hx, rfl⟩ := hm
  obtain ⟨i, hi, he⟩ := List.mem_filterMap.1 hx
  refine ⟨i, List.mem_range.1 hi, ?_⟩
  cases hk : s.σ.K i with
  | none => rw [hk] at he; cases he
  | some y =>
    rw [hk] at he
    injection he with he
    rw [← he]
end
end Go.Proofs.YtbgcpljekcagiaaGreat
/- The law LimiterLimit of layer 12 (limiter): the plain side: what all keys were let through. -/
namespace Go.Proofs.YtbgcpljekcagiaaGreat
set_option linter.unusedSimpArgs false
set_option linter.unusedVariables false
set_option maxRecDepth 100000
open Go.ChangeShapes Go.WideShapes Go.ChangeAt Go.RowKit
open Ar (inR)
/-- what the law knows of a limiter's rule. -/
structure LimN (N : LmN) (span : Int) : Prop where
  U : 1 ≤ N.U
  B : 1 ≤ N.B ∧ N.B ≤ 32
  L : N.B ≤ N.L ∧ N.L ≤ 255
  w : N.W ≤ N.U * (N.L + 1 - N.B)
  sp : span = (N.R.s : Int) * ((N.R.n : Int) - 1) - (if N.R.sm then (N.R.s : Int) else 0)
  le : span ≤ N.W
  k : 1 ≤ N.R.k
/-- a limiter, what its ring was told (P), and what each key was let through ahead of its cell (O) and by it (T). -/
structure LmL (N : LmN) (s : LmS) (t span : Int) (P : List (Int × Int × ByteArray)) (O T : ByteArray → List (Int × Int)) : Prop where
  ov : OvR N.R s.r P
  ot : ∀ k, small (O k) ∧ ∀ x ∈ O k, x.1 ≤ t
  rg : ∀ k x, t - N.W ≤ x → sumGt x (O k) ≤ wsum k x P
  cl : ∀ k i, posN N.Q.N.n s.σ.K k = some i → CelL (s.C.getD i (0, 0, 0, 0)).1 (s.C.getD i (0, 0, 0, 0)).2.1 (s.C.getD i (0, 0, 0, 0)).2.2.1 (s.C.getD i (0, 0, 0, 0)).2.2.2 N.U N.W N.B N.L span t (O k) (T k)
  no : ∀ k, posN N.Q.N.n s.σ.K k = none → T k = []
def updK (f : ByteArray → List (Int × Int)) (k : ByteArray) (v : List (Int × Int)) : ByteArray → List (Int × Int) := fun j => if j = k then v else f j
theorem updK_self (f : ByteArray → List (Int × Int)) (k : ByteArray) (v : List (Int × Int)) : updK f k v k = v := if_pos rfl
theorem updK_ne (f : ByteArray → List (Int × Int)) {k j : ByteArray} (v : List (Int × Int)) (h : j ≠ k) : updK f k v j = f j := if_neg h
section
variable {N : LmN} {s : LmS} {t span now m cost : Int} {P : List (Int × Int × ByteArray)} {O T : ByteArray → List (Int × Int)}
/-- a time has come, and a key was offered a cost. -/
theorem LmL.seen (h : LmL N s t span P O T) (I : LmI N s now m) (ht : t ≤ now) (key : ByteArray) : LmL N (s.seen N now key cost) now span P O T := by
  have hs : 1 ≤ N.R.s := by obtain ⟨w, hw⟩ := I.rg; exact hw.bd.2.1.1
  refine ⟨h.ov.to I.few hs (by show s.r.t ≤ max s.r.t now; omega), fun k => ⟨(h.ot k).1, fun x hx => Int.le_trans ((h.ot k).2 x hx) ht⟩, fun k x hx => h.rg k x (by omega), fun k i hi => (h.cl k i hi).later ht, h.no⟩
/-- the ring tells a key no less than it was let through in the window. -/
theorem LmL.est (h : LmL N s now span P O T) (Q : LimN N span) (I : LmI N s now m) (ht : s.r.t = now) (key : ByteArray) : sumGt (now - span) (O key) ≤ estZ N.R s.r key := by
  have hm := I.m
  obtain ⟨w, hw⟩ := I.rg
  have h1 := est_over h.ov I.few hw (by omega) key (z := now - span) (by rw [ht, Q.sp])
  have h2 := h.rg key (now - span) (by have := Q.le; omega)
  omega
/-- a cell is gone: the ring is told what it owes. -/
theorem LmL.evict (h : LmL N s now span P O T) (Q : LimN N span) (I : LmI N s now m) (ht : s.r.t = now) (ks : KsOk N.Q.N.n s.σ) {o : ByteArray} {i : Nat} (hp : posN N.Q.N.n s.σ.K o = some i) :
    ∃ P', LmL N (s.evict N now o) now span P' (updK O o (O o ++ T o)) (updK T o []) := by
  obtain ⟨hin, hK⟩ := posN_some hp
  have hc := h.cl o i hp
  have hb0 := bound_in (I.g.rem (some i))
  have hdel : s.σ.del N.Q.N.n o = (⟨s.σ.fl ++ [i], fun j => if j = i then none else s.σ.K j⟩, some i) := by unfold KSt.del; rw [hp]
  have hev : s.evict N now o = { s with σ := ⟨s.σ.fl ++ [i], fun j => if j = i then none else s.σ.K j⟩, r := s.r.add N.R o (boundP (s.C.getD i (0, 0, 0, 0)).1 (s.C.getD i (0, 0, 0, 0)).2.1 (s.C.getD i (0, 0, 0, 0)).2.2.2 N.U N.W N.L now) } := by
    unfold LmS.evict; rw [hdel]; rfl
  have hbd := fun x (hx : now - N.W ≤ x) => hc.bound Q.U (by have := Q.L; have := Q.B; omega) (by
    have hmem : s.C.getD i (0, 0, 0, 0) ∈ s.C ∨ s.C.getD i (0, 0, 0, 0) = (0, 0, 0, 0) := by
      rw [List.getD_eq_getElem?_getD]
      cases hq : s.C[i]? with
      | none => exact Or.inr rfl
      | some y => exact Or.inl (List.mem_of_getElem? hq)
    rcases hmem with g | g
    · exact (I.c _ g).2.2.1.1
    · rw [g]; exact Int.le_refl _) Q.w hx
  rw [hev]
  have hb0' : 0 ≤ boundP (s.C.getD i (0, 0, 0, 0)).1 (s.C.getD i (0, 0, 0, 0)).2.1 (s.C.getD i (0, 0, 0, 0)).2.2.2 N.U N.W N.L now := hb0.1
  have hbL : boundP (s.C.getD i (0, 0, 0, 0)).1 (s.C.getD i (0, 0, 0, 0)).2.1 (s.C.getD i (0, 0, 0, 0)).2.2.2 N.U N.W N.L now ≤ 255 := by
    have := Q.L
    unfold boundP
    omega
  generalize boundP (s.C.getD i (0, 0, 0, 0)).1 (s.C.getD i (0, 0, 0, 0)).2.1 (s.C.getD i (0, 0, 0, 0)).2.2.2 N.U N.W N.L now = bd at *
  have hm := I.m
  obtain ⟨w, hw⟩ := I.rg
  refine ⟨P ++ [(s.r.t, bd, o)], h.ov.add I.few hw Q.k o ⟨hb0', hbL⟩ (by omega), fun k => ?_, fun k x hx => ?_, fun k j hj => ?_, fun k hk => ?_⟩
  · by_cases e : k = o
    · subst e
      rw [updK_self]
      refine ⟨small_app (h.ot k).1 hc.tk.sm, fun x hx => ?_⟩
      rcases List.mem_append.1 hx with g | g
      · exact (h.ot k).2 x g
      · exact hc.tk.le x g
    · rw [updK_ne _ _ e]; exact h.ot k
  · rw [wsum_app]
    dsimp only
    have h1 := h.rg k x hx
    by_cases e : k = o
    · subst e
      rw [updK_self, sumGt_app, ht]
      by_cases g : x < now
      · rw [if_pos ⟨rfl, g⟩]
        have := hbd x hx
        omega
      · rw [if_neg (fun q => g q.2), sumGt_zero x (T k) (fun y hy => by have := hc.tk.le y hy; omega)]
        omega
    · rw [updK_ne _ _ e, if_neg (fun q => e q.1.symm)]
      omega
  · have hcut := posN_cut (n := N.Q.N.n) (K := s.σ.K) hK ks.inj k
    have hj' : (if k = o then none else posN N.Q.N.n s.σ.K k) = some j := by rw [← hcut]; exact hj
    by_cases e : k = o
    · rw [if_pos e] at hj'; cases hj'
    · rw [if_neg e] at hj'
      rw [updK_ne _ _ e, updK_ne _ _ e]
      exact h.cl k j hj'
  · have hcut := posN_cut (n := N.Q.N.n) (K := s.σ.K) hK ks.inj k
    have hk' : (if k = o then none else posN N.Q.N.n s.σ.K k) = none := by rw [← hcut]; exact hk
    by_cases e : k = o
    · rw [e, updK_self]
    · rw [if_neg e] at hk'
      rw [updK_ne _ _ e]
      exact h.no k hk'
/-- a key gets a cell, at a free place. -/
theorem LmL.put (h : LmL N s now span P O T) (Q : LimN N span) (I : LmI N s now m) (ht : s.r.t = now) (hlen : s.C.length = N.Q.N.n) (hfl : ∀ i ∈ s.σ.fl, i < N.Q.N.n ∧ s.σ.K i = none) (hbd : ∀ i k, s.σ.K i = some k → i < N.Q.N.n) (key : ByteArray) :
    LmL N (s.put N now key) now span P O T := by
  unfold LmS.put
  cases hp : posN N.Q.N.n s.σ.K key with
  | some i =>
    have e : s.σ.put N.Q.N.n key = (s.σ, none) := by unfold KSt.put; rw [hp]
    rw [e]; exact h
  | none =>
    by_cases h64 : 64 < key.size
    · have e : s.σ.put N.Q.N.n key = (s.σ, none) := by unfold KSt.put; rw [hp]; simp only; rw [if_pos h64]
      rw [e]; exact h
    · by_cases hf : s.σ.fl = []
      · have e : s.σ.put N.Q.N.n key = (s.σ, none) := by unfold KSt.put; rw [hp]; simp only; rw [if_neg h64, hf]; rfl
        rw [e]; exact h
      · obtain ⟨j, hj⟩ : ∃ j, j = s.σ.fl.getLast hf := ⟨_, rfl⟩
        have hjm : j ∈ s.σ.fl := by rw [hj]; exact List.getLast_mem hf
        obtain ⟨hjn, hjK⟩ := hfl j hjm
        have e : s.σ.put N.Q.N.n key = (⟨s.σ.fl.dropLast, fun q => if q = j then some key else s.σ.K q⟩, some j) := by
          unfold KSt.put
          rw [hp]
          dsimp only
          rw [if_neg h64, List.getLast?_eq_some_getLast hf, ← hj]
        rw [e]
        have hno : ∀ q, s.σ.K q ≠ some key := fun q hq => posN_none hp q (hbd q key hq) hq
        have hup := fun k => posN_upd (n := N.Q.N.n) (K := s.σ.K) hjn hjK hno k
        have hT : T key = [] := h.no key hp
        refine ⟨h.ov, h.ot, h.rg, fun k i hi => ?_, fun k hk => ?_⟩
        · have hi' : (if k = key then some j else posN N.Q.N.n s.σ.K k) = some i := by rw [← hup k]; exact hi
          show CelL ((s.C.set j (now, now, estZ N.R s.r key, 0)).getD i (0, 0, 0, 0)).1 ((s.C.set j (now, now, estZ N.R s.r key, 0)).getD i (0, 0, 0, 0)).2.1 ((s.C.set j (now, now, estZ N.R s.r key, 0)).getD i (0, 0, 0, 0)).2.2.1 ((s.C.set j (now, now, estZ N.R s.r key, 0)).getD i (0, 0, 0, 0)).2.2.2 N.U N.W N.B N.L span now (O k) (T k)
          by_cases ek : k = key
          · rw [if_pos ek] at hi'
            injection hi' with hi'
            subst hi'
            have g : (s.C.set j (now, now, estZ N.R s.r key, 0)).getD j (0, 0, 0, 0) = (now, now, estZ N.R s.r key, 0) := by
              rw [List.getD_eq_getElem?_getD, List.getElem?_set_self (by rw [hlen]; exact hjn)]; rfl
            rw [g, ek, hT]
            exact CelL.new (h.ot key).1 (Int.mul_nonneg (by have := Q.B; omega) (by have := Q.U; omega)) (h.ot key).2 (h.est Q I ht key)
          · rw [if_neg ek] at hi'
            have hij : i ≠ j := fun q => by
              have := (posN_some hi').2
              rw [q, hjK] at this
              cases this
            have g : (s.C.set j (now, now, estZ N.R s.r key, 0)).getD i (0, 0, 0, 0) = s.C.getD i (0, 0, 0, 0) := by
              rw [List.getD_eq_getElem?_getD, List.getElem?_set_ne (Ne.symm hij), ← List.getD_eq_getElem?_getD]
            rw [g]
            exact h.cl k i hi'
        · have hk' : (if k = key then some j else posN N.Q.N.n s.σ.K k) = none := by rw [← hup k]; exact hk
          by_cases ek : k = key
          · rw [ek]; exact hT
          · rw [if_neg ek] at hk'
            exact h.no k hk'
end
end Go.Proofs.YtbgcpljekcagiaaGreat
/- The law LimiterLimit of layer 12 (limiter): the plain side: no check lets a key through beyond the limit. -/
namespace Go.Proofs.YtbgcpljekcagiaaGreat
set_option linter.unusedSimpArgs false
set_option linter.unusedVariables false
set_option maxRecDepth 100000
open Go.ChangeShapes Go.WideShapes Go.ChangeAt Go.RowKit
open Ar (inR)
section
variable {N : LmN} {s : LmS} {t span now m cost : Int} {P : List (Int × Int × ByteArray)} {O T : ByteArray → List (Int × Int)}
theorem updK_app (k j : ByteArray) : updK O k (O k ++ T k) j ++ updK T k [] j = O j ++ T j := by
  by_cases e : j = k
  · rw [e, updK_self, updK_self, List.append_nil]
  · rw [updK_ne _ _ e, updK_ne _ _ e]
theorem put_len (key : ByteArray) : (s.put N now key).C.length = s.C.length := by
  show (plSet s.C _ (s.σ.put N.Q.N.n key).2).length = _
  cases (s.σ.put N.Q.N.n key).2 with
  | none => rfl
  | some i => exact List.length_set
theorem LmL.adm (h : LmL N s now span P O T) (Q : LimN N span) (I : LmI N s now m) (hm : m + 1048576 ≤ 576460752303423488) (ht : s.r.t = now) (hlen : s.C.length = N.Q.N.n) (ks : KsOk N.Q.N.n s.σ) (key : ByteArray) :
    (s.adm N now key).1.C.length = N.Q.N.n ∧ ∃ P' O' T', LmL N (s.adm N now key).1 now span P' O' T' ∧ ∀ k, O' k ++ T' k = O k ++ T k := by
  unfold LmS.adm
  split
  · exact ⟨hlen, P, O, T, h, fun _ => rfl⟩
  · split
    · split
      · rename_i o ho
        obtain ⟨i0, hi0, hK0⟩ := giver_res ho
        obtain ⟨i, hi⟩ := Option.isSome_iff_exists.1 (posN_iff.2 ⟨i0, hi0, hK0⟩)
        obtain ⟨hin, hK⟩ := posN_some hi
        obtain ⟨P', h'⟩ := h.evict Q I ht ks hi
        have hdel : s.σ.del N.Q.N.n o = (⟨s.σ.fl ++ [i], fun j => if j = i then none else s.σ.K j⟩, some i) := by unfold KSt.del; rw [hi]
        have hev : (s.evict N now o).σ = ⟨s.σ.fl ++ [i], fun j => if j = i then none else s.σ.K j⟩ := by unfold LmS.evict; rw [hdel]
        have hlen' : (s.evict N now o).C.length = N.Q.N.n := hlen
        refine ⟨by rw [put_len]; exact hlen, P', _, _, h'.put Q (I.evict hm o) ht hlen' (fun j hj => ?_) (fun j k hj => ?_) key, updK_app o⟩
        · rw [hev] at hj ⊢
          rcases List.mem_append.1 hj with g | g
          · have hf := ks.pl.free g
            refine ⟨hf.1, ?_⟩
            show (if j = i then none else s.σ.K j) = none
            rw [hf.2]; split <;> rfl
          · rw [List.mem_singleton.1 g]
            exact ⟨hin, if_pos rfl⟩
        · rw [hev] at hj
          have hj' : (if j = i then none else s.σ.K j) = some k := hj
          by_cases e : j = i
          · rw [e]; exact hin
          · rw [if_neg e] at hj'
            exact (ks.bd j k hj').1
      · exact ⟨hlen, P, O, T, h, fun _ => rfl⟩
    · exact ⟨by rw [put_len]; exact hlen, P, O, T, h.put Q I ht hlen (fun j hj => ks.pl.free hj) (fun j k hj => (ks.bd j k hj).1) key, fun _ => rfl⟩
/-- what a cost does to what a key was let through. -/
def LetOK (span now L : Int) (key : ByteArray) (cost v : Int) (H H' : ByteArray → List (Int × Int)) : Prop :=
  (∀ k, k ≠ key → H' k = H k) ∧ (v = 1 → H' key = H key ++ [(now, cost)] ∧ sumGt (now - span) (H' key) ≤ L) ∧ (v ≠ 1 → H' key = H key)
theorem LetOK.no {span now L : Int} {key : ByteArray} {cost v : Int} {H H' : ByteArray → List (Int × Int)} (hv : v ≠ 1) (h : ∀ k, H' k = H k) : LetOK span now L key cost v H H' := ⟨fun k _ => h k, fun g => absurd g hv, fun _ => h key⟩
theorem LmL.judge (h : LmL N s now span P O T) (Q : LimN N span) (I : LmI N s now m) (ht : s.r.t = now) (hlen : s.C.length = N.Q.N.n) (hc : 1 ≤ cost ∧ cost ≤ N.B) (key : ByteArray) :
    ∃ P' O' T', LmL N (s.judge N now key cost).2 now span P' O' T' ∧ LetOK span now N.L key cost (s.judge N now key cost).1.1 (fun k => O k ++ T k) (fun k => O' k ++ T' k) := by
  have hB := Q.B
  have hL := Q.L
  unfold LmS.judge
  cases hp : posN N.Q.N.n s.σ.K key with
  | some i =>
    dsimp only
    obtain ⟨hin, hK⟩ := posN_some hp
    have hcl := h.cl key i hp
    by_cases hle : cost ≤ celR (s.C.getD i (0, 0, 0, 0)) N.U N.W N.B N.L now
    · rw [if_pos hle]
      obtain ⟨c1, c2⟩ := hcl.take Q.U Q.B.2 (by omega) Q.w Q.le hc.1 hle
      refine ⟨P, O, updK T key (T key ++ [(now, cost)]), ⟨h.ov, h.ot, h.rg, fun k j hj => ?_, fun k hk => ?_⟩, fun k hk => ?_, fun _ => ⟨?_, ?_⟩, fun g => absurd rfl g⟩
      · have hj : posN N.Q.N.n s.σ.K k = some j := hj
        show CelL ((s.C.set i (celT (s.C.getD i (0, 0, 0, 0)) N.U now cost)).getD j (0, 0, 0, 0)).1 ((s.C.set i (celT (s.C.getD i (0, 0, 0, 0)) N.U now cost)).getD j (0, 0, 0, 0)).2.1 ((s.C.set i (celT (s.C.getD i (0, 0, 0, 0)) N.U now cost)).getD j (0, 0, 0, 0)).2.2.1 ((s.C.set i (celT (s.C.getD i (0, 0, 0, 0)) N.U now cost)).getD j (0, 0, 0, 0)).2.2.2 N.U N.W N.B N.L span now (O k) _
        by_cases e : k = key
        · rw [e, hp] at hj
          injection hj with hj
          subst hj
          have g : (s.C.set i (celT (s.C.getD i (0, 0, 0, 0)) N.U now cost)).getD i (0, 0, 0, 0) = celT (s.C.getD i (0, 0, 0, 0)) N.U now cost := by
            rw [List.getD_eq_getElem?_getD, List.getElem?_set_self (by rw [hlen]; exact hin)]; rfl
          rw [g, e, updK_self]
          exact c1
        · have hij : j ≠ i := fun q => by
            have h2 := (posN_some hj).2
            rw [q, hK] at h2
            injection h2 with h2
            exact e h2.symm
          have g : (s.C.set i (celT (s.C.getD i (0, 0, 0, 0)) N.U now cost)).getD j (0, 0, 0, 0) = s.C.getD j (0, 0, 0, 0) := by
            rw [List.getD_eq_getElem?_getD, List.getElem?_set_ne (Ne.symm hij), ← List.getD_eq_getElem?_getD]
          rw [g, updK_ne _ _ e]
          exact h.cl k j hj
      · have hk : posN N.Q.N.n s.σ.K k = none := hk
        by_cases e : k = key
        · rw [e, hp] at hk; cases hk
        · rw [updK_ne _ _ e]; exact h.no k hk
      · dsimp only
        rw [updK_ne _ _ hk]
      · dsimp only
        rw [updK_self, List.append_assoc]
      · dsimp only
        rw [updK_self]
        exact c2
    · rw [if_neg hle]
      exact ⟨P, O, T, h, LetOK.no (show (2 : Int) ≠ 1 by decide) (fun _ => rfl)⟩
  | none =>
    dsimp only
    by_cases hle : clamp (estZ N.R s.r key + cost) ≤ N.L
    · rw [if_pos hle]
      have he := I.est key
      have hm := I.m
      have hle2 : estZ N.R s.r key + cost ≤ N.L := (clamp_le _ (by omega) (by omega)).1 hle
      have hT := h.no key hp
      have hov : OvR N.R (s.r.add N.R key cost) (P ++ [(s.r.t, cost, key)]) := by
        obtain ⟨w, hw⟩ := I.rg
        exact h.ov.add I.few hw Q.k key (by omega) (by omega)
      have hest := h.est Q I ht key
      have hsp : 1 ≤ N.R.s ∧ 2 ≤ N.R.n := by obtain ⟨w, hw⟩ := I.rg; exact ⟨hw.bd.2.1.1, hw.bd.1.1⟩
      refine ⟨P ++ [(s.r.t, cost, key)], updK O key (O key ++ [(now, cost)]), T, ⟨hov, fun k => ?_, fun k x hx => ?_, fun k j hj => ?_, h.no⟩, fun k hk => ?_, fun _ => ⟨?_, ?_⟩, fun g => absurd rfl g⟩
      · by_cases e : k = key
        · subst e
          rw [updK_self]
          refine ⟨small_app (h.ot k).1 (fun x hx => ?_), fun x hx => ?_⟩
          · rw [List.mem_singleton.1 hx]
            show 1 ≤ cost ∧ cost ≤ 32
            omega
          · rcases List.mem_append.1 hx with g | g
            · exact (h.ot k).2 x g
            · rw [List.mem_singleton.1 g]; exact Int.le_refl _
        · rw [updK_ne _ _ e]; exact h.ot k
      · rw [wsum_app]
        dsimp only
        have h1 := h.rg k x hx
        by_cases e : k = key
        · subst e
          rw [updK_self, sumGt_snoc, ht]
          dsimp only
          by_cases g : x < now
          · rw [if_pos g, if_pos ⟨rfl, g⟩]; omega
          · rw [if_neg g, if_neg (fun q => g q.2)]; omega
        · rw [updK_ne _ _ e, if_neg (fun q => e q.1.symm)]
          omega
      · have hj : posN N.Q.N.n s.σ.K k = some j := hj
        have e : k ≠ key := fun q => by rw [q, hp] at hj; cases hj
        rw [updK_ne _ _ e]
        exact h.cl k j hj
      · dsimp only
        rw [updK_ne _ _ hk]
      · dsimp only
        rw [updK_self, hT, List.append_nil, List.append_nil]
      · dsimp only
        rw [updK_self, hT, List.append_nil, sumGt_snoc]
        dsimp only
        split <;> omega
    · rw [if_neg hle]
      exact ⟨P, O, T, h, LetOK.no (show (2 : Int) ≠ 1 by decide) (fun _ => rfl)⟩
theorem count_eq (v : Int) : ∃ a d b, s.count v = { s with al := a, de := d, ba := b } := by
  unfold LmS.count
  split
  · exact ⟨_, _, _, rfl⟩
  · split
    · exact ⟨_, _, _, rfl⟩
    · split
      · exact ⟨_, _, _, rfl⟩
      · exact ⟨s.al, s.de, s.ba, rfl⟩
theorem LmL.count (h : LmL N s t span P O T) (v : Int) : LmL N (s.count v) t span P O T := by
  obtain ⟨a, d, b, e⟩ := count_eq (s := s) v
  rw [e]
  exact ⟨h.ov, h.ot, h.rg, h.cl, h.no⟩
theorem refZ_ne (held : Int) (h : (refZ N now held cost).2 = true) : (refZ N now held cost).1.1 ≠ 1 := by
  unfold refZ at h ⊢
  by_cases h1 : cost < 1 ∨ N.B < cost
  · rw [if_pos h1]; decide
  · rw [if_neg h1] at h ⊢
    by_cases h2 : 4611686018427387904 ≤ now
    · rw [if_pos h2]; decide
    · rw [if_neg h2] at h ⊢
      by_cases h3 : 0 < held
      · rw [if_pos h3]
        show (2 : Int) ≠ 1
        decide
      · rw [if_neg h3] at h; cases h
theorem LmL.later (h : LmL N s t span P O T) (ht : t ≤ now) : LmL N s now span P O T :=
  ⟨h.ov, fun k => ⟨(h.ot k).1, fun x hx => Int.le_trans ((h.ot k).2 x hx) ht⟩, fun k x hx => h.rg k x (by omega), fun k i hi => (h.cl k i hi).later ht, h.no⟩
/-- a check: what it lets through stays within the limit. -/
theorem LmL.check (h : LmL N s t span P O T) (Q : LimN N span) (I : LmI N s now m) (hm : m + 2097153 ≤ 576460752303423488) (htn : t ≤ now) (hlen : s.C.length = N.Q.N.n) (ks : KsOk N.Q.N.n s.σ) (key : ByteArray) :
    ∃ P' O' T', LmL N (s.check N now 0 key cost).1 now span P' O' T' ∧ LetOK span now N.L key cost (s.check N now 0 key cost).2.1.1 (fun k => O k ++ T k) (fun k => O' k ++ T' k) := by
  unfold LmS.check
  by_cases hr : (refZ N now 0 cost).2 = true
  · rw [if_pos hr]
    exact ⟨P, O, T, (h.later htn).count _, LetOK.no (refZ_ne 0 hr) (fun _ => rfl)⟩
  · rw [if_neg hr]
    have hc := (refZ_no N now 0 cost (by cases hq : (refZ N now 0 cost).2; rfl; exact absurd hq hr)).1
    have i1 := I.seen key cost
    have h1 := h.seen (cost := cost) I htn key
    have ht1 : (s.seen N now key cost).r.t = now := by
      have := I.t1
      show max s.r.t now = now
      omega
    obtain ⟨hl2, P2, O2, T2, h2, hs2⟩ := h1.adm Q i1 (by omega) ht1 hlen ks key
    have i2 := i1.adm (by omega) key
    obtain ⟨P3, O3, T3, h3, g1, g2, g3⟩ := h2.judge Q i2 (by rw [admit_t]; exact ht1) hl2 hc key
    refine ⟨P3, O3, T3, h3.count _, fun k hk => (g1 k hk).trans (hs2 k), fun g => ?_, fun g => (g3 g).trans (hs2 key)⟩
    obtain ⟨q1, q2⟩ := g2 g
    refine ⟨?_, q2⟩
    dsimp only at q1 ⊢
    rw [q1, hs2 key]
/-- a new limiter. -/
theorem LmL.new (n : Nat) (N : LmN) : LmL N (lmZ n) 0 span [] (fun _ => []) (fun _ => []) := by
  refine ⟨OvR.new N.R, fun k => ⟨(fun x hx => by cases hx), (fun x hx => by cases hx)⟩, fun k x _ => Int.le_refl _, fun k i hi => ?_, fun _ _ => rfl⟩
  have := (posN_some hi).2
  cases this
end
end Go.Proofs.YtbgcpljekcagiaaGreat
/- The law LimiterLimit of layer 12 (limiter): the law's own rule. -/
namespace Go.Proofs.YtbgcpljekcagiaaGreat
set_option linter.unusedSimpArgs false
set_option linter.unusedVariables false
set_option maxRecDepth 100000
open Go.ChangeShapes Go.WideShapes Go.ChangeAt Go.RowKit
open Ar (inR)
/-- the window that the law looks at. -/
def lspan (b d : Int) (sm : Bool) : Int := ((lqS b * lqN d : Nat) : Int) - (if sm then ((lqS b : Nat) : Int) else 0)
theorem lmplan_N {N : LmN} {a b c d e f g h : Int} {sm : Bool} {X A B : Nat → Nat} (hp : LmP N (lqL a) ((lqS b * lqN d : Nat) : Int) (lqB a c) (lqN d) (lqS b) (lqR f) (lqW g) (lqC e) (lqT h) sm X A B) : LimN N (lspan b d sm) := by
  have h1 : 1 ≤ lqN d ∧ lqN d ≤ 8 := by unfold lqN; omega
  have h2 : 1 ≤ lqS b ∧ lqS b ≤ 32 := by unfold lqS; omega
  have h7 : 1 ≤ lqL a ∧ lqL a ≤ 32 := by unfold lqL; omega
  have h8 := lqB_bd a c
  have h9 : 1 ≤ lqR f := by unfold lqR; omega
  have hm : 1 * 1 ≤ lqS b * lqN d := Nat.mul_le_mul h2.1 h1.1
  have hu := cunit_facts (W := ((lqS b * lqN d : Nat) : Int)) (n := lqL a + 1 - lqB a c) (by omega) (by omega)
  refine ⟨by rw [hp.pU]; exact hu.1, by rw [hp.pB]; omega, by rw [hp.pB, hp.pL]; omega, by rw [hp.pU, hp.pW, hp.pL, hp.pB]; exact hu.2.2.1, ?_, ?_, by rw [hp.pk]; exact h9⟩
  · rw [hp.ps, hp.pn, hp.psm]
    unfold lspan
    rw [Int.natCast_mul, show ((lqN d + 1 : Nat) : Int) - 1 = (lqN d : Int) by omega]
  · rw [hp.pW]
    unfold lspan
    have h3 : ((lqS b : Nat) : Int) ≤ ((lqS b * lqN d : Nat) : Int) := by
      have := Nat.mul_le_mul (Nat.le_refl (lqS b)) h1.1
      omega
    split <;> omega
end Go.Proofs.YtbgcpljekcagiaaGreat
/- The law LimiterLimit of layer 12 (limiter): a map of strings to rows of pairs that the call owns, each in a block of its own. -/
namespace Go.Proofs.YtbgcpljekcagiaaGreat
set_option linter.unusedSimpArgs false
set_option linter.unusedVariables false
set_option maxRecDepth 100000
open Go.ChangeShapes Go.WideShapes Go.ChangeAt Go.RowKit
open Ar (inR)
def encLt (a : Int × Int) : List Value := [.int .i64 a.1, .int .i64 a.2]
theorem encLt_len : ∀ a, (encLt a).length = 2 := fun _ => rfl
abbrev OwL (w : World) (base : Nat) (v : Value) (l : List (Int × Int)) : Prop := OwR w base 57 2 encLt v l
/-- the map lies in block b (ahead of base); its rows lie behind base. -/
structure HadM (w : World) (b base c : Nat) (V : ByteArray → Option Value) (H : ByteArray → List (Int × Int)) : Prop where
  mp : Mp.MapS Tryz.prog 9 w b c V
  lo : b < base ∧ base ≤ w.heap.size
  no : ∀ k, V k = none → H k = []
  row : ∀ k v, V k = some v → OwL w base v (H k)
  ap : ∀ k k' v v' g, k ≠ k' → V k = some v → V k' = some v' → v.ownBlock = some g → v'.ownBlock ≠ some g
section
variable {w w' : World} {b base c : Nat} {V : ByteArray → Option Value} {H : ByteArray → List (Int × Int)}
theorem HadM.keep (h : HadM w b base c V H) (hb : Below w.heap.size w w') : HadM w' b base c V H :=
  ⟨h.mp.keep hb, ⟨h.lo.1, Nat.le_trans h.lo.2 hb.size⟩, h.no, fun k v hv => (h.row k v hv).keep hb, h.ap⟩
/-- another's blocks change. -/
theorem HadM.fr {F : Nat → Prop} (h : HadM w b base c V H) (hf : Fr F w w') (hF : ∀ k, F k → k ≠ b ∧ k < base) : HadM w' b base c V H :=
  ⟨h.mp.fr hf (fun g => (hF b g).1 rfl), ⟨h.lo.1, Nat.le_trans h.lo.2 hf.size⟩, h.no, fun k v hv => (h.row k v hv).fr hf (fun g hg gF => by have h1 := (h.row k v hv).base_le g hg; have h2 := (hF g gF).2; omega), h.ap⟩
/-- what a key has: its row, or none. -/
theorem HadM.get (h : HadM w b base c V H) (k : ByteArray) : OwL w base ((V k).getD (.slice none 0 0)) (H k) := by
  cases hv : V k with
  | none =>
    rw [h.no k hv]
    exact OwR.nil
  | some v => exact h.row k v hv
/-- a key's row has grown, in its place or in a new block, and the map is told. -/
theorem HadM.push (h : HadM w b base c V H) {k : ByteArray} {v' : Value} {y : Int × Int} (hr : OwL w' base v' (H k ++ [y])) (hf : Fr (fun j => ((V k).getD (.slice none 0 0)).ownBlock = some j) w w')
    (hg : ∀ g, v'.ownBlock = some g → ((V k).getD (.slice none 0 0)).ownBlock = some g ∨ w.heap.size ≤ g) {w2 : World} {c' : Nat} (hm : Mp.MapS Tryz.prog 9 w2 b c' (fun x => if x = k then some v' else V x)) (hf2 : Fr (fun j => j = b) w' w2) :
    HadM w2 b base c' (fun x => if x = k then some v' else V x) (updK H k (H k ++ [y])) := by
  have hold : ∀ g, ((V k).getD (.slice none 0 0)).ownBlock = some g → ∃ v, V k = some v ∧ v.ownBlock = some g := by
    intro g hgo
    cases hv : V k with
    | none => rw [hv] at hgo; cases hgo
    | some v => rw [hv] at hgo; exact ⟨v, rfl, hgo⟩
  have hnb : ∀ (v : Value) (l : List (Int × Int)) (wx : World), OwL wx base v l → ∀ g, v.ownBlock = some g → ¬ g = b := fun v l wx ho g hgo e => by
    have := ho.base_le g hgo
    have := h.lo.1
    omega
  have hap : ∀ x v g, x ≠ k → V x = some v → v.ownBlock = some g → v'.ownBlock ≠ some g := by
    intro x v g hx hv hgo hgv
    rcases hg g hgv with q | q
    · obtain ⟨v0, hv0, hq⟩ := hold g q
      exact h.ap x k v v0 g hx hv hv0 hgo hq
    · have := (h.row x v hv).lt g hgo
      omega
  refine ⟨hm, ⟨h.lo.1, Nat.le_trans h.lo.2 (Nat.le_trans hf.size hf2.size)⟩, fun x hx => ?_, fun x v hx => ?_, fun x x' v1 v2 g hne hv1 hv2 hgo hg2 => ?_⟩
  · by_cases e : x = k
    · rw [if_pos e] at hx; cases hx
    · rw [if_neg e] at hx
      rw [updK_ne _ _ e]
      exact h.no x hx
  · by_cases e : x = k
    · rw [if_pos e] at hx
      injection hx with hx
      subst hx
      rw [e, updK_self]
      exact hr.fr hf2 (hnb _ _ _ hr)
    · rw [if_neg e] at hx
      rw [updK_ne _ _ e]
      have h1 := h.row x v hx
      have h2 : OwL w' base v (H x) := h1.fr hf (fun g hgo q => by
        obtain ⟨v0, hv0, hq⟩ := hold g q
        exact h.ap x k v v0 g e hx hv0 hgo hq)
      exact h2.fr hf2 (hnb _ _ _ h2)
  · by_cases e1 : x = k
    · rw [if_pos e1] at hv1
      injection hv1 with hv1
      subst hv1
      have e2 : x' ≠ k := fun q => hne (by rw [e1, q])
      rw [if_neg e2] at hv2
      exact hap x' v2 g e2 hv2 hg2 hgo
    · rw [if_neg e1] at hv1
      by_cases e2 : x' = k
      · rw [if_pos e2] at hv2
        injection hv2 with hv2
        subst hv2
        exact hap x v1 g e1 hv1 hgo hg2
      · rw [if_neg e2] at hv2
        exact h.ap x x' v1 v2 g hne hv1 hv2 hgo hg2
end
end Go.Proofs.YtbgcpljekcagiaaGreat
