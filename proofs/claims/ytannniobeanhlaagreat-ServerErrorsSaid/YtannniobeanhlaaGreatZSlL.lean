import Derived.Test.YtannniobeanhlaaGreatZSlN
import Derived.Test.YtannniobeanhlaaGreatZLiftS
import Derived.Test.YtannniobeanhlaaGreatZObj
import Derived.Test.YtannniobeanhlaaGreatZDiv
import Derived.Test.YtannniobeanhlaaGreatBits
import Derived.Test.YtannniobeanhlaaGreatZGen
/- What the laws of layer 6 (slot) share: the example, light calls, sketches made of draws. -/
namespace Go.Proofs.YtannniobeanhlaaGreat
set_option linter.unusedSimpArgs false
set_option linter.unusedVariables false
set_option maxRecDepth 100000
open Go.ChangeShapes Go.WideShapes Go.ChangeAt Go.RowKit
open Ar (inR)
theorem rB_lt' (zs : List Int) (i : Nat) : rB zs i < 2305843009213693951 := by unfold rB; exact Nat.mod_lt _ (by omega)
theorem rows_lt (zs : List Int) (k : Nat) : ∀ j, j < k → rX zs j < 2305843009213693951 ∧ rA zs j < 2305843009213693951 ∧ rB zs j < 2305843009213693951 := fun j _ => ⟨rX_lt zs j, rA_lt zs j, rB_lt' zs j⟩
theorem clamp_nn {z : Int} (h : 0 ≤ z ∧ z ≤ 9223372036854775807) : clamp z = z := by
  unfold clamp
  split
  · omega
  · split <;> omega
end Go.Proofs.YtannniobeanhlaaGreat
/- The contracts of layer 7 (ring): where a ring lies, what it has. -/
namespace Go.Proofs.YtannniobeanhlaaGreat
set_option linter.unusedSimpArgs false
set_option linter.unusedVariables false
set_option maxRecDepth 100000
open Go.ChangeShapes Go.WideShapes Go.ChangeAt Go.RowKit
open Ar (inR)
/-- where a ring lies, and what does not change of it. -/
structure RgN where
  x : Nat
  pb : Nat
  n : Nat
  s : Nat
  L : Int
  sm : Bool
  k : Nat
  W : Nat
  X : Nat → Nat
  A : Nat → Nat
  B : Nat → Nat
  bs : Nat → Nat
  gs : Nat → Nat
def RgN.SN (R : RgN) (i : Nat) : SlN := ⟨R.bs i, R.gs i, R.k, R.W, R.X, R.A, R.B⟩
/-- a key's place in a row of each slot. -/
def RgN.P (R : RgN) (j : Nat) (s : ByteArray) : Nat := plc (Ha.hof (R.X j) (R.A j) (R.B j) s.data.toList) (R.W : Int)
/-- what a ring has: its time, the numbers of its parts, their counters. -/
structure RgS where
  t : Int
  num : Nat → Int
  F : Nat → Nat → Nat → Int
def encPt (a : Int × Nat) : List Value := [.int .i64 a.1, .pointer (some ⟨a.2, 0, none⟩)]
def ptL (R : RgN) (num : Nat → Int) : List (Int × Nat) := (List.range R.n).map fun i => (num i, R.bs i)
abbrev ringC (R : RgN) (t : Int) : Array Value := #[.slice (some ⟨R.pb, 0, none⟩) R.n R.n, .int .i64 (R.s : Int), .int .i64 R.L, .int .i64 t, .bool R.sm]
/-- a ring in memory. -/
structure RgAt (w : World) (R : RgN) (σ : RgS) : Prop where
  hx : Blk w R.x 230 (ringC R σ.t)
  hp : Blk w R.pb 234 (rws encPt (ptL R σ.num)).toArray
  hs : ∀ i, i < R.n → SlAt w (R.SN i) (σ.F i)
  nx : R.x ≠ R.pb
  ns : ∀ i, i < R.n → (R.bs i ≠ R.x ∧ R.bs i ≠ R.pb) ∧ R.gs i ≠ R.x ∧ R.gs i ≠ R.pb
  ng : ∀ i j, i < R.n → j < R.n → R.gs i ≠ R.bs j ∧ (i ≠ j → R.gs i ≠ R.gs j)
  bd : (2 ≤ R.n ∧ R.n ≤ 65) ∧ (1 ≤ R.s ∧ R.s ≤ 9223372036854775807) ∧ inR R.L
  ht : 0 ≤ σ.t ∧ σ.t ≤ 9223372036854775807
  hn : ∀ i, 0 ≤ σ.num i ∧ σ.num i ≤ 9223372036854775807
/-- the blocks that its calls change. -/
def RgN.F (R : RgN) (b : Nat) : Prop := b = R.x ∨ b = R.pb ∨ ∃ i, i < R.n ∧ b = R.gs i
def RgN.all (R : RgN) (b : Nat) : Prop := R.F b ∨ ∃ i, i < R.n ∧ b = R.bs i
section
variable {w w' : World} {R : RgN} {σ : RgS}
theorem RgAt.fr {W : World} {F : Nat → Prop} (h : RgAt W R σ) (hf : Fr F W w) (hF : ∀ b, R.all b → ¬ F b) : RgAt w R σ :=
  ⟨h.hx.fr hf (hF _ (Or.inl (Or.inl rfl))), h.hp.fr hf (hF _ (Or.inl (Or.inr (Or.inl rfl)))), fun i hi => (h.hs i hi).fr hf (hF _ (Or.inr ⟨i, hi, rfl⟩)) (hF _ (Or.inl (Or.inr (Or.inr ⟨i, hi, rfl⟩)))), h.nx, h.ns, h.ng, h.bd, h.ht, h.hn⟩
theorem RgAt.keep {W : World} (h : RgAt W R σ) (hb : Below W.heap.size W w) : RgAt w R σ := h.fr (F := fun _ => False) (Fr.of_below hb) (fun _ _ => id)
theorem RgAt.lt (h : RgAt w R σ) : ∀ b, R.all b → b < w.heap.size := by
  rintro b ((rfl | rfl | ⟨i, hi, rfl⟩) | ⟨i, hi, rfl⟩)
  · exact lt_of_block h.hx
  · exact lt_of_block h.hp
  · exact lt_of_block (h.hs i hi).hg
  · obtain ⟨C, c1, _⟩ := (h.hs i hi).hb; exact lt_of_block c1
/-- what a key has in the first j parts of those numbered from one to another. -/
def lsum (R : RgN) (σ : RgS) (s : ByteArray) (a b : Int) : Nat → Int
  | 0 => 0
  | j + 1 => if a ≤ σ.num j ∧ σ.num j ≤ b then clamp (lsum R σ s a b j + Sk.leastR (σ.F j) R.P s (R.k - 1)) else lsum R σ s a b j
end
end Go.Proofs.YtannniobeanhlaaGreat
/- The contracts of layer 7 (ring): what reads. -/
namespace Go.Proofs.YtannniobeanhlaaGreat
set_option linter.unusedSimpArgs false
set_option linter.unusedVariables false
set_option maxRecDepth 100000
open Go.ChangeShapes Go.WideShapes Go.ChangeAt Go.RowKit
open Ar (inR)
section
variable {w w' : World} {R : RgN} {σ : RgS}
/-- the number of the slot that is now. -/
def RgS.now (σ : RgS) (R : RgN) : Int := σ.t / (R.s : Int)
theorem RgAt.now_in (h : RgAt w R σ) : 0 ≤ σ.now R ∧ σ.now R ≤ 9223372036854775807 := by
  have h1 := h.ht
  have h2 := h.bd.2.1
  have h3 := Int.ediv_le_self (R.s : Int) h1.1
  unfold RgS.now
  exact ⟨Int.ediv_nonneg h1.1 (by omega), by omega⟩
end
end Go.Proofs.YtannniobeanhlaaGreat
/- The contracts of layer 7 (ring): estimates. -/
namespace Go.Proofs.YtannniobeanhlaaGreat
set_option linter.unusedSimpArgs false
set_option linter.unusedVariables false
set_option maxRecDepth 100000
open Go.ChangeShapes Go.WideShapes Go.ChangeAt Go.RowKit
open Ar (inR)
/-- the part of the eldest slot's that is still in a smooth window. -/
def leftZ (s : Nat) (t v : Int) : Int := (v * ((s : Int) - t % (s : Int)) + (s : Int) - 1) / (s : Int)
theorem upQ_ceil (N s : Nat) (hs : 1 ≤ s) : upQ (N / s) (N % s) = (N + s - 1) / s := by
  have h1 := Nat.div_add_mod N s
  have h2 := Nat.mod_lt N (show 0 < s by omega)
  obtain ⟨q, hq⟩ : ∃ q, q = N / s := ⟨_, rfl⟩
  obtain ⟨r, hr⟩ : ∃ r, r = N % s := ⟨_, rfl⟩
  rw [← hq, ← hr] at h1 ⊢
  rw [← hr] at h2
  unfold upQ
  symm
  by_cases h0 : r = 0
  · rw [if_pos h0, show N + s - 1 = s * q + (s - 1) by omega, Nat.mul_add_div (by omega), Nat.div_eq_of_lt (by omega)]; rfl
  · rw [if_neg h0, show N + s - 1 = s * (q + 1) + (r - 1) by rw [Nat.mul_succ]; omega, Nat.mul_add_div (by omega), Nat.div_eq_of_lt (by omega)]
theorem leftZ_nat (s tm vn rn : Nat) (t : Int) (hs : 1 ≤ s) (ht : t % (s : Int) = (tm : Int)) (hr : rn + tm = s) : leftZ s t (vn : Int) = ((upQ (vn * rn / s) (vn * rn % s) : Nat) : Int) := by
  unfold leftZ
  rw [ht, show (s : Int) - (tm : Int) = (rn : Int) by omega, upQ_ceil _ _ hs, Int.natCast_ediv]
  congr 1
  have : ((vn * rn : Nat) : Int) = (vn : Int) * (rn : Int) := Int.natCast_mul _ _
  omega
theorem leftZ_in {s : Nat} (hs : 1 ≤ s) {t v : Int} (hv : 0 ≤ v) : 0 ≤ leftZ s t v ∧ leftZ s t v ≤ v := by
  obtain ⟨vn, rfl⟩ := Int.eq_ofNat_of_zero_le hv
  have hm := Int.emod_nonneg t (show (s : Int) ≠ 0 by omega)
  have hm2 := Int.emod_lt_of_pos t (show (0 : Int) < (s : Int) by omega)
  obtain ⟨tm, htm⟩ := Int.eq_ofNat_of_zero_le hm
  obtain ⟨rn, hrn⟩ : ∃ rn, rn + tm = s := ⟨s - tm, by omega⟩
  rw [leftZ_nat s tm vn rn t hs htm hrn, upQ_ceil _ _ hs]
  refine ⟨Int.natCast_nonneg _, Int.ofNat_le.2 ?_⟩
  have h1 : vn * rn ≤ vn * s := Nat.mul_le_mul_left _ (by omega)
  have h2 : (vn * rn + s - 1) / s ≤ (vn * s + (s - 1)) / s := Nat.div_le_div_right (by omega)
  rw [Nat.mul_comm vn s, Nat.mul_add_div (by omega), Nat.div_eq_of_lt (by omega : s - 1 < s)] at h2
  omega
section
variable {w w' : World} {R : RgN} {σ : RgS}
/-- the eldest slot's part. -/
def eldZ (R : RgN) (σ : RgS) (s : ByteArray) : Int :=
  let v := lsum R σ s (σ.now R - ((R.n : Int) - 1)) (σ.now R - ((R.n : Int) - 1)) R.n
  if R.sm then leftZ R.s σ.t v else v
/-- how much a key had in the window that ends now, or more. -/
def estZ (R : RgN) (σ : RgS) (s : ByteArray) : Int := clamp (eldZ R σ s + lsum R σ s (σ.now R - ((R.n : Int) - 1) + 1) (σ.now R) R.n)
theorem RgAt.ok (h : RgAt w R σ) : ∀ i, i < R.n → Sk.okC (σ.F i) := fun i hi => (h.hs i hi).ok
end
end Go.Proofs.YtannniobeanhlaaGreat
/- The contracts of layer 7 (ring): Mass, Add. -/
namespace Go.Proofs.YtannniobeanhlaaGreat
set_option linter.unusedSimpArgs false
set_option linter.unusedVariables false
set_option maxRecDepth 100000
open Go.ChangeShapes Go.WideShapes Go.ChangeAt Go.RowKit
open Ar (inR)
section
variable {w w' : World} {R : RgN} {σ : RgS}
/-! #### Add -/
def updN {α : Type} (f : Nat → α) (i : Nat) (v : α) : Nat → α := fun j => if j = i then v else f j
theorem updN_self {α : Type} (f : Nat → α) (i : Nat) (v : α) : updN f i v i = v := if_pos rfl
theorem updN_ne {α : Type} (f : Nat → α) {i j : Nat} (v : α) (h : j ≠ i) : updN f i v j = f j := if_neg h
theorem RgAt.putF {i : Nat} {f : Nat → Nat → Int} (h : RgAt w R σ) (hi : i < R.n) (h1 : SlAt w' (R.SN i) f) (hf : Fr (fun b => b = R.gs i) w w') : RgAt w' R ⟨σ.t, σ.num, updN σ.F i f⟩ := by
  refine ⟨h.hx.fr hf (fun e => (h.ns i hi).2.1 e.symm), h.hp.fr hf (fun e => (h.ns i hi).2.2 e.symm), fun j hj => ?_, h.nx, h.ns, h.ng, h.bd, h.ht, h.hn⟩
  by_cases e : j = i
  · subst e; show SlAt w' (R.SN j) (updN σ.F j f j); rw [updN_self]; exact h1
  · show SlAt w' (R.SN j) (updN σ.F i f j)
    rw [updN_ne _ _ e]
    exact (h.hs j hj).fr hf (fun e2 => (h.ng i j hi hj).1 e2.symm) (fun e2 => (h.ng i j hi hj).2 (Ne.symm e) e2.symm)
theorem RgAt.putN {i : Nat} {v : Int} (h : RgAt w R σ) (_hi : i < R.n) (hv : 0 ≤ v ∧ v ≤ 9223372036854775807) : RgAt (setObj w R.pb (.cells (rws encPt (ptL R (updN σ.num i v))).toArray 234 (0, 0))) R ⟨σ.t, updN σ.num i v, σ.F⟩ := by
  have hf : Fr (fun b => b = R.pb) w (setObj w R.pb (.cells (rws encPt (ptL R (updN σ.num i v))).toArray 234 (0, 0))) := Fr.setObj (F := fun b => b = R.pb) (Fr.refl _ _) rfl _
  exact ⟨h.hx.fr hf h.nx, setObj_at (lt_of_block h.hp) _, fun j hj => (h.hs j hj).fr hf (h.ns j hj).1.2 (h.ns j hj).2.2, h.nx, h.ns, h.ng, h.bd, h.ht, fun j => by
    show 0 ≤ updN σ.num i v j ∧ updN σ.num i v j ≤ _
    by_cases e : j = i
    · rw [e, updN_self]; exact hv
    · rw [updN_ne _ _ e]; exact h.hn j⟩
/-- the place of the slot that is now. -/
def RgS.pl (σ : RgS) (R : RgN) : Nat := (σ.now R % (R.n : Int)).toNat
/-- a key has so much more now. -/
def RgS.add (σ : RgS) (R : RgN) (s : ByteArray) (c : Int) : RgS :=
  ⟨σ.t, updN σ.num (σ.pl R) (σ.now R), updN σ.F (σ.pl R) (Sk.add (if σ.num (σ.pl R) = σ.now R then σ.F (σ.pl R) else fun _ _ => 0) R.P R.k s c)⟩
theorem RgAt.pl_lt (h : RgAt w R σ) : σ.pl R < R.n ∧ σ.now R % (R.n : Int) = (σ.pl R : Int) := by
  have hn := h.bd.1
  have h1 := Int.emod_nonneg (σ.now R) (show (R.n : Int) ≠ 0 by omega)
  have h2 := Int.emod_lt_of_pos (σ.now R) (show (0 : Int) < (R.n : Int) by omega)
  unfold RgS.pl
  omega
end
end Go.Proofs.YtannniobeanhlaaGreat
/- The contracts of layer 7 (ring): Wait. -/
namespace Go.Proofs.YtannniobeanhlaaGreat
set_option linter.unusedSimpArgs false
set_option linter.unusedVariables false
set_option maxRecDepth 100000
open Go.ChangeShapes Go.WideShapes Go.ChangeAt Go.RowKit
open Ar (inR)
/-- has a key room for a cost at the beginning of a slot? -/
def roomAt (R : RgN) (σ : RgS) (s : ByteArray) (c x : Int) : Prop := clamp (lsum R σ s (x - ((R.n : Int) - 1)) (σ.now R) R.n + c) ≤ R.L
instance (R : RgN) (σ : RgS) (s : ByteArray) (c x : Int) : Decidable (roomAt R σ s c x) := by unfold roomAt; infer_instance
section
variable {w w' : World} {R : RgN} {σ : RgS}
end
end Go.Proofs.YtannniobeanhlaaGreat
/- The contracts of layer 7 (ring): New, Bytes. -/
namespace Go.Proofs.YtannniobeanhlaaGreat
set_option linter.unusedSimpArgs false
set_option linter.unusedVariables false
set_option maxRecDepth 100000
open Go.ChangeShapes Go.WideShapes Go.ChangeAt Go.RowKit
open Ar (inR)
/-- a rule as the calls have it. -/
abbrev rlV (L Wd B Sl Ce Ro Wi Tr : Int) (sm : Bool) : Value := .agg #[.int .i64 L, .int .i64 Wd, .int .i64 B, .int .i64 Sl, .int .i64 Ce, .int .i64 Ro, .int .i64 Wi, .int .i64 Tr, .bool sm]
abbrev rlC (L Wd B Sl Ce Ro Wi Tr : Int) (sm : Bool) : Array Value := #[.int .i64 L, .int .i64 Wd, .int .i64 B, .int .i64 Sl, .int .i64 Ce, .int .i64 Ro, .int .i64 Wi, .int .i64 Tr, .bool sm]
def encPv (a : Int × Value) : List Value := [.int .i64 a.1, a.2]
theorem encPv_len (a : Int × Value) : (encPv a).length = 2 := rfl
theorem rows_fr {w w' : World} {b k : Nat} {X A B : Nat → Nat} {F : Nat → Prop} (h : RowsAt w b k X A B) (hf : Fr F w w') (hF : ¬ F b) : RowsAt w' b k X A B := by
  obtain ⟨C, h1, h2, h3⟩ := h.blk
  exact ⟨C, (hf.block b (lt_of_block h1) hF).trans h1, h2, h3⟩
theorem rows_keep {w w' : World} {b k : Nat} {X A B : Nat → Nat} (h : RowsAt w b k X A B) (hb : Below w.heap.size w w') : RowsAt w' b k X A B := rows_fr (F := fun _ => False) h (Fr.of_below hb) id
/-- the parts while they are made. -/
def ptV (n j : Nat) (bs : Nat → Nat) : List (Int × Value) := (List.range n).map fun i => (0, if i < j then .pointer (some ⟨bs i, 0, none⟩) else .pointer none)
theorem ptV_len (n j : Nat) (bs : Nat → Nat) : (ptV n j bs).length = n := by simp [ptV]
theorem ptV_zero (n : Nat) (bs : Nat → Nat) : ptV n 0 bs = List.replicate n (0, .pointer none) := by
  unfold ptV
  apply List.ext_getElem
  · simp
  · intro i h1 h2; simp
theorem ptV_get {n j : Nat} (bs : Nat → Nat) {i : Nat} (h : i < n) : (ptV n j bs)[i]? = some (0, if i < j then .pointer (some ⟨bs i, 0, none⟩) else .pointer none) := by
  unfold ptV
  rw [List.getElem?_map, List.getElem?_range h]; rfl
theorem ptV_set {n j : Nat} (bs : Nat → Nat) (hj : j < n) (b : Nat) : (ptV n j bs).set j (0, .pointer (some ⟨b, 0, none⟩)) = ptV n (j + 1) (updN bs j b) := by
  apply List.ext_getElem?
  intro i
  by_cases hi : i < n
  · rw [List.getElem?_set]
    by_cases e : j = i
    · subst e; rw [if_pos rfl, if_pos (by rw [ptV_len]; exact hi), ptV_get _ hi, if_pos (by omega), updN_self]
    · rw [if_neg e, ptV_get _ hi, ptV_get _ hi]
      by_cases hij : i < j
      · rw [if_pos hij, if_pos (by omega), updN_ne _ _ (Ne.symm e)]
      · rw [if_neg hij, if_neg (by omega)]
  · rw [List.getElem?_eq_none (by rw [List.length_set, ptV_len]; omega), List.getElem?_eq_none (by rw [ptV_len]; omega)]
theorem ptV_done {R : RgN} {n : Nat} {bs : Nat → Nat} (hn : R.n = n) (hb : R.bs = bs) : (rws encPv (ptV n n bs)) = rws encPt (ptL R fun _ => 0) := by
  have : ptV n n bs = (ptL R fun _ => 0).map fun a => (a.1, Value.pointer (some ⟨a.2, 0, none⟩)) := by
    unfold ptV ptL
    rw [hn, List.map_map]
    apply List.map_congr_left
    intro i hi
    rw [if_pos (List.mem_range.1 hi), hb]; rfl
  rw [this]
  unfold rws
  rw [List.flatMap_map]
  rfl
/-- the slots that were made. -/
structure MadeP (w : World) (B0 j k W : Nat) (X A B : Nat → Nat) (bs gs : Nat → Nat) : Prop where
  at_ : ∀ i, i < j → SlAt w ⟨bs i, gs i, k, W, X, A, B⟩ (fun _ _ => 0)
  lo : ∀ i, i < j → B0 ≤ bs i ∧ B0 ≤ gs i
  hi : ∀ i, i < j → bs i < w.heap.size ∧ gs i < w.heap.size
  ap : ∀ i i', i < j → i' < j → gs i ≠ bs i' ∧ (i ≠ i' → gs i ≠ gs i')
theorem MadeP.fr {w w' : World} {B0 j k W : Nat} {X A B : Nat → Nat} {bs gs : Nat → Nat} {F : Nat → Prop} (h : MadeP w B0 j k W X A B bs gs) (hf : Fr F w w') (hF : ∀ b, F b → b < B0) : MadeP w' B0 j k W X A B bs gs :=
  ⟨fun i hi => (h.at_ i hi).fr hf (fun e => by have h1 := hF _ e; have h2 := h.lo i hi; have : bs i < B0 := h1; omega) (fun e => by have h1 := hF _ e; have h2 := h.lo i hi; have : gs i < B0 := h1; omega), h.lo, fun i hi => by have := h.hi i hi; have := hf.size; omega, h.ap⟩
theorem MadeP.keep {w w' : World} {B0 j k W : Nat} {X A B : Nat → Nat} {bs gs : Nat → Nat} (h : MadeP w B0 j k W X A B bs gs) (hb : Below w.heap.size w w') : MadeP w' B0 j k W X A B bs gs := h.fr (F := fun _ => False) (Fr.of_below hb) (fun _ => False.elim)
theorem MadeP.step {w w' : World} {B0 j k W : Nat} {X A B : Nat → Nat} {bs gs : Nat → Nat} (h : MadeP w B0 j k W X A B bs gs) (hb : Below w.heap.size w w') (hB : B0 ≤ w.heap.size) {N : SlN} (hN : SlAt w' N (fun _ _ => 0)) (h1 : N.k = k ∧ N.W = W ∧ N.X = X ∧ N.A = A ∧ N.B = B) (h2 : w.heap.size ≤ N.b ∧ w.heap.size ≤ N.g) :
    MadeP w' B0 (j + 1) k W X A B (updN bs j N.b) (updN gs j N.g) := by
  have hk := h.keep hb
  have hlt : N.b < w'.heap.size ∧ N.g < w'.heap.size := by obtain ⟨C, c1, _⟩ := hN.hb; exact ⟨lt_of_block c1, lt_of_block hN.hg⟩
  have hne := hN.ne
  refine ⟨fun i hi => ?_, fun i hi => ?_, fun i hi => ?_, fun i i' hi hi' => ?_⟩
  · by_cases e : i = j
    · subst e
      rw [updN_self, updN_self]
      obtain ⟨r1, r2, r3, r4, r5⟩ := h1
      rw [← r1, ← r2, ← r3, ← r4, ← r5]; exact hN
    · rw [updN_ne _ _ e, updN_ne _ _ e]; exact hk.at_ i (by omega)
  · by_cases e : i = j
    · subst e; rw [updN_self, updN_self]; omega
    · rw [updN_ne _ _ e, updN_ne _ _ e]; exact hk.lo i (by omega)
  · by_cases e : i = j
    · subst e; rw [updN_self, updN_self]; exact hlt
    · rw [updN_ne _ _ e, updN_ne _ _ e]; exact hk.hi i (by omega)
  · by_cases e : i = j
    · by_cases e' : i' = j
      · subst e; subst e'; rw [updN_self, updN_self]; exact ⟨fun q => hne q.symm, fun q => absurd rfl q⟩
      · subst e
        rw [updN_self, updN_ne _ _ e', updN_ne _ _ e']
        have := h.hi i' (by omega)
        exact ⟨by omega, fun _ => by omega⟩
    · by_cases e' : i' = j
      · subst e'
        rw [updN_self, updN_ne _ _ e, updN_self]
        have := h.hi i (by omega)
        exact ⟨by omega, fun _ => by omega⟩
      · rw [updN_ne _ _ e, updN_ne _ _ e', updN_ne _ _ e']; exact h.ap i i' (by omega) (by omega)
theorem info_part : (Tryz.prog.info? 234).map (fun i => (i.zero, i.size, i.bytes)) = some (some (.agg #[.int .i64 0, .pointer none]), 2, 16) := by kernel_rfl
/-- the numbers of a ring that is made. -/
theorem new_nums {Sl k W : Nat} (hSl : Sl ≤ 64) (hk : 1 ≤ k) (hW : (Sl + 1) * (8 * (k * W)) ≤ 2147483647) : ∃ m q : Nat, m = k * W ∧ q ≤ 2147483647 ∧ 8 * m ≤ 2147483647 ∧ W ≤ m ∧ ((Sl + 1 : Nat) : Int) * (8 * (m : Int)) = (q : Int) := by
  have hbb : 8 * (k * W) ≤ (Sl + 1) * (8 * (k * W)) := Nat.le_mul_of_pos_left _ (Nat.succ_pos _)
  have hWk : W ≤ k * W := Nat.le_mul_of_pos_left _ hk
  refine ⟨k * W, (Sl + 1) * (8 * (k * W)), rfl, hW, Nat.le_trans hbb hW, hWk, ?_⟩
  simp only [Int.natCast_mul]; rfl
end Go.Proofs.YtannniobeanhlaaGreat
/- What the laws of layer 7 (ring) share: the example, plans, gaps, light calls. -/
namespace Go.Proofs.YtannniobeanhlaaGreat
set_option linter.unusedSimpArgs false
set_option linter.unusedVariables false
set_option maxRecDepth 100000
open Go.ChangeShapes Go.WideShapes Go.ChangeAt Go.RowKit
open Ar (inR)
section
variable {R : RgN} {σ : RgS}
end
theorem least_zero (P : Nat → ByteArray → Nat) (s : ByteArray) (r : Nat) : Sk.leastR (fun _ _ => 0) P s r = 0 := by obtain ⟨_, _, he⟩ := Sk.leastR_is (fun _ _ => (0 : Int)) P s r; exact he
end Go.Proofs.YtannniobeanhlaaGreat
/- What the laws of layer 7 (ring) share: plans, gaps, light calls. -/
namespace Go.Proofs.YtannniobeanhlaaGreat
set_option linter.unusedSimpArgs false
set_option linter.unusedVariables false
set_option maxRecDepth 100000
open Go.ChangeShapes Go.WideShapes Go.ChangeAt Go.RowKit
open Ar (inR)
theorem nine_setR {w : World} {b : Nat} {t : TypeId} {a0 a1 a2 a3 a4 a5 a6 a7 a8 : Value} (hb : Blk w b t #[a0, a1, a2, a3, a4, a5, a6, a7, a8]) (c0 c1 c2 c3 c4 c5 c6 c7 c8 : Value) :
    ((((((((w.setCell ⟨b, 0, none⟩ c0).setCell ⟨b, 1, none⟩ c1).setCell ⟨b, 2, none⟩ c2).setCell ⟨b, 3, none⟩ c3).setCell ⟨b, 4, none⟩ c4).setCell ⟨b, 5, none⟩ c5).setCell ⟨b, 6, none⟩ c6).setCell ⟨b, 7, none⟩ c7).setCell ⟨b, 8, none⟩ c8 = setObj w b (.cells #[c0, c1, c2, c3, c4, c5, c6, c7, c8] t (0, 0)) := by
  have hl := lt_of_block hb
  rw [setCell_obj hb]
  simp only [setCell_in hl, List.setIfInBounds_toArray, List.set_cons_zero, List.set_cons_succ]
end Go.Proofs.YtannniobeanhlaaGreat
/- The law RingCosts of layer 7 (ring), walked. -/
namespace Go.Proofs.YtannniobeanhlaaGreat
set_option linter.unusedSimpArgs false
set_option linter.unusedVariables false
set_option maxRecDepth 100000
open Go.ChangeShapes Go.WideShapes Go.ChangeAt Go.RowKit
open Ar (inR)
/-- a ring of the law's own. -/
structure GA (W w : World) (R : RgN) (σ : RgS) : Prop where
  at_ : RgAt w R σ
  lo : ∀ b, R.all b → W.heap.size ≤ b
  bl : Below W.heap.size W w
theorem GA.keep {W w w' : World} {R : RgN} {σ : RgS} (h : GA W w R σ) (hb : Below w.heap.size w w') : GA W w' R σ := ⟨h.at_.keep hb, h.lo, h.bl.trans (hb.mono h.bl.size)⟩
theorem GA.op {W w w' : World} {R : RgN} {σ τ : RgS} (h : GA W w R σ) (h1 : RgAt w' R τ) (hf : Fr R.F w w') : GA W w' R τ := ⟨h1, h.lo, h.bl.trans (hf.below h.bl.size (fun b hb => h.lo b (Or.inl hb)))⟩
end Go.Proofs.YtannniobeanhlaaGreat
/- Rings whose costs are few: sums that do not run over. -/
namespace Go.Proofs.YtannniobeanhlaaGreat
set_option linter.unusedSimpArgs false
set_option linter.unusedVariables false
set_option maxRecDepth 100000
open Go.ChangeShapes Go.WideShapes Go.ChangeAt Go.RowKit
open Ar (inR)
/-- what a key has in the first j parts of those numbered from one to another, as it is. -/
def rsum (R : RgN) (σ : RgS) (s : ByteArray) (a b : Int) : Nat → Int
  | 0 => 0
  | j + 1 => rsum R σ s a b j + (if a ≤ σ.num j ∧ σ.num j ≤ b then Sk.leastR (σ.F j) R.P s (R.k - 1) else 0)
/-- what it has in all of them. -/
def rall (R : RgN) (F : Nat → Nat → Nat → Int) (s : ByteArray) : Nat → Int
  | 0 => 0
  | j + 1 => rall R F s j + Sk.leastR (F j) R.P s (R.k - 1)
section
variable {R : RgN} {σ : RgS} {s : ByteArray}
theorem rsum_in {j : Nat} (h : ∀ i, i < j → Sk.okC (σ.F i)) (a b : Int) : 0 ≤ rsum R σ s a b j ∧ rsum R σ s a b j ≤ rall R σ.F s j := by
  induction j with
  | zero => exact ⟨Int.le_refl _, Int.le_refl _⟩
  | succ j ih =>
    have ih := ih (fun i hi => h i (by omega))
    have hv := (h j (by omega)).least R.P s (R.k - 1)
    unfold rsum rall
    split <;> omega
theorem lsum_eq {j : Nat} (h : ∀ i, i < j → Sk.okC (σ.F i)) (ht : rall R σ.F s j ≤ 9223372036854775807) (a b : Int) : lsum R σ s a b j = rsum R σ s a b j := by
  induction j with
  | zero => rfl
  | succ j ih =>
    have hv := (h j (by omega)).least R.P s (R.k - 1)
    have hall : rall R σ.F s (j + 1) = rall R σ.F s j + Sk.leastR (σ.F j) R.P s (R.k - 1) := rfl
    have ih := ih (fun i hi => h i (by omega)) (by omega)
    have hr := rsum_in (R := R) (s := s) (fun i hi => h i (by omega) : ∀ i, i < j → Sk.okC (σ.F i)) a b
    unfold lsum rsum
    rw [ih]
    by_cases hc : a ≤ σ.num j ∧ σ.num j ≤ b
    · rw [if_pos hc, if_pos hc, clamp_nn (by omega)]
    · rw [if_neg hc, if_neg hc, Int.add_zero]
theorem rsum_split {a b c : Int} (h1 : a ≤ c + 1) (h2 : c ≤ b) (j : Nat) : rsum R σ s a b j = rsum R σ s a c j + rsum R σ s (c + 1) b j := by
  induction j with
  | zero => rfl
  | succ j ih =>
    unfold rsum
    rw [ih]
    by_cases ha : a ≤ σ.num j ∧ σ.num j ≤ b
    · rw [if_pos ha]
      by_cases hc : σ.num j ≤ c
      · rw [if_pos ⟨ha.1, hc⟩, if_neg (fun hh => by omega)]; omega
      · rw [if_neg (fun hh => hc hh.2), if_pos ⟨by omega, ha.2⟩]; omega
    · rw [if_neg ha, if_neg (fun hh => ha ⟨hh.1, by omega⟩), if_neg (fun hh => ha ⟨by omega, hh.2⟩)]; omega
/-- what is added changes the sum of a key by no more than that. -/
theorem least_add_le {f : Nat → Nat → Int} (hf : Sk.okC f) (P : Nat → ByteArray → Nat) (k : Nat) (ky s : ByteArray) {c : Int} (hc : 0 ≤ c ∧ c ≤ 9223372036854775807) (r : Nat) : Sk.leastR (Sk.add f P k ky c) P s r ≤ Sk.leastR f P s r + c := by
  obtain ⟨j, hj, he⟩ := Sk.leastR_is f P s r
  rw [he]
  exact Int.le_trans (Sk.leastR_le _ _ _ _ j hj) (Sk.add_le hf P ky hc j (P j s))
theorem rall_upd {F : Nat → Nat → Nat → Int} {i : Nat} {g : Nat → Nat → Int} {c : Int} (hc : 0 ≤ c) (hg : Sk.leastR g R.P s (R.k - 1) ≤ Sk.leastR (F i) R.P s (R.k - 1) + c) : ∀ j, rall R (updN F i g) s j ≤ rall R F s j + c
  | 0 => by show (0 : Int) ≤ 0 + c; omega
  | j + 1 => by
    show rall R (updN F i g) s j + Sk.leastR (updN F i g j) R.P s (R.k - 1) ≤ rall R F s j + Sk.leastR (F j) R.P s (R.k - 1) + c
    by_cases e : j = i
    · subst e
      rw [updN_self]
      have : rall R (updN F j g) s j = rall R F s j := by
        have key : ∀ m, m ≤ j → rall R (updN F j g) s m = rall R F s m := by
          intro m
          induction m with
          | zero => intro _; rfl
          | succ m ih =>
            intro hm
            show rall R (updN F j g) s m + Sk.leastR (updN F j g m) R.P s (R.k - 1) = rall R F s m + Sk.leastR (F m) R.P s (R.k - 1)
            rw [ih (by omega), updN_ne _ _ (by omega)]
        exact key j (Nat.le_refl _)
      omega
    · rw [updN_ne _ _ e]
      have := rall_upd (F := F) (i := i) (g := g) hc hg j
      omega
/-- what the laws know of a ring to which costs are added: no more than so much in all, and none later than now. -/
structure FewR (R : RgN) (σ : RgS) (T : Int) : Prop where
  all : ∀ s, rall R σ.F s R.n ≤ T
  now : ∀ i, i < R.n → σ.num i ≤ σ.now R
theorem FewR.new (R : RgN) : FewR R ⟨0, fun _ => 0, fun _ _ _ => 0⟩ 0 := by
  refine ⟨fun s => ?_, fun i _ => ?_⟩
  · have key : ∀ j, rall R (fun _ _ _ => 0) s j = 0 := by
      intro j
      induction j with
      | zero => rfl
      | succ j ih =>
        show rall R (fun _ _ _ => 0) s j + Sk.leastR (fun _ _ => 0) R.P s (R.k - 1) = 0
        rw [ih, least_zero]; rfl
    exact Int.le_of_eq (key R.n)
  · show (0 : Int) ≤ 0 / (R.s : Int)
    rw [Int.zero_ediv]; exact Int.le_refl _
theorem FewR.to {T t : Int} (h : FewR R σ T) (hs : 1 ≤ R.s) (ht : σ.t ≤ t) : FewR R ⟨t, σ.num, σ.F⟩ T :=
  ⟨h.all, fun i hi => Int.le_trans (h.now i hi) (Int.ediv_le_ediv (by omega) ht)⟩
theorem FewR.add {T c : Int} {w : World} (h : FewR R σ T) (hg : RgAt w R σ) (ky : ByteArray) (hc : 0 ≤ c ∧ c ≤ 9223372036854775807) : FewR R (σ.add R ky c) (T + c) := by
  have hpl := hg.pl_lt.1
  have hok := hg.ok (σ.pl R) hpl
  refine ⟨fun s => ?_, fun i hi => ?_⟩
  · have hbase : Sk.leastR (if σ.num (σ.pl R) = σ.now R then σ.F (σ.pl R) else fun _ _ => 0) R.P s (R.k - 1) ≤ Sk.leastR (σ.F (σ.pl R)) R.P s (R.k - 1) := by
      split
      · exact Int.le_refl _
      · rw [least_zero]; exact (hok.least R.P s (R.k - 1)).1
    have hok2 : Sk.okC (if σ.num (σ.pl R) = σ.now R then σ.F (σ.pl R) else fun _ _ => 0) := by
      split
      · exact hok
      · intro _ _; show (0 : Int) ≤ 0 ∧ (0 : Int) ≤ 9223372036854775807; omega
    have h1 := least_add_le hok2 R.P R.k ky s hc (R.k - 1)
    have h2 := rall_upd (R := R) (s := s) (F := σ.F) (i := σ.pl R) hc.1 (Int.le_trans h1 (Int.add_le_add_right hbase c)) R.n
    have h3 := h.all s
    show rall R (updN σ.F (σ.pl R) _) s R.n ≤ T + c
    omega
  · show updN σ.num (σ.pl R) (σ.now R) i ≤ σ.now R
    by_cases e : i = σ.pl R
    · rw [e, updN_self]; exact Int.le_refl _
    · rw [updN_ne _ _ e]; exact h.now i hi
end
end Go.Proofs.YtannniobeanhlaaGreat
/- Estimates of rings whose costs are few. -/
namespace Go.Proofs.YtannniobeanhlaaGreat
set_option linter.unusedSimpArgs false
set_option linter.unusedVariables false
set_option maxRecDepth 100000
open Go.ChangeShapes Go.WideShapes Go.ChangeAt Go.RowKit
open Ar (inR)
section
variable {R : RgN} {σ : RgS} {s : ByteArray} {w : World} {T : Int}
/-- the parts of an estimate. -/
theorem est_parts (h : RgAt w R σ) (hf : FewR R σ T) (hT : T ≤ 9223372036854775807) :
    estZ R σ s = eldZ R σ s + rsum R σ s (σ.now R - ((R.n : Int) - 1) + 1) (σ.now R) R.n ∧
    eldZ R σ s = (if R.sm then leftZ R.s σ.t (rsum R σ s (σ.now R - ((R.n : Int) - 1)) (σ.now R - ((R.n : Int) - 1)) R.n) else rsum R σ s (σ.now R - ((R.n : Int) - 1)) (σ.now R - ((R.n : Int) - 1)) R.n) ∧
    0 ≤ eldZ R σ s ∧ eldZ R σ s ≤ rsum R σ s (σ.now R - ((R.n : Int) - 1)) (σ.now R - ((R.n : Int) - 1)) R.n := by
  have hn := h.bd.1
  have ha := hf.all s
  have hle : rall R σ.F s R.n ≤ 9223372036854775807 := by omega
  have e1 := lsum_eq (R := R) (s := s) h.ok hle (σ.now R - ((R.n : Int) - 1)) (σ.now R - ((R.n : Int) - 1))
  have e2 := lsum_eq (R := R) (s := s) h.ok hle (σ.now R - ((R.n : Int) - 1) + 1) (σ.now R)
  have r1 := rsum_in (R := R) (σ := σ) (s := s) h.ok (σ.now R - ((R.n : Int) - 1)) (σ.now R - ((R.n : Int) - 1))
  have r2 := rsum_in (R := R) (σ := σ) (s := s) h.ok (σ.now R - ((R.n : Int) - 1) + 1) (σ.now R)
  have r3 := rsum_in (R := R) (σ := σ) (s := s) h.ok (σ.now R - ((R.n : Int) - 1)) (σ.now R)
  have sp := rsum_split (R := R) (σ := σ) (s := s) (a := σ.now R - ((R.n : Int) - 1)) (b := σ.now R) (c := σ.now R - ((R.n : Int) - 1)) (by omega) (by omega) R.n
  have hd : eldZ R σ s = (if R.sm then leftZ R.s σ.t (rsum R σ s (σ.now R - ((R.n : Int) - 1)) (σ.now R - ((R.n : Int) - 1)) R.n) else rsum R σ s (σ.now R - ((R.n : Int) - 1)) (σ.now R - ((R.n : Int) - 1)) R.n) := by
    unfold eldZ; simp only [e1]
  have hl := leftZ_in (s := R.s) h.bd.2.1.1 (t := σ.t) r1.1
  have hb : 0 ≤ eldZ R σ s ∧ eldZ R σ s ≤ rsum R σ s (σ.now R - ((R.n : Int) - 1)) (σ.now R - ((R.n : Int) - 1)) R.n := by
    rw [hd]
    split
    · exact hl
    · exact ⟨r1.1, Int.le_refl _⟩
  refine ⟨?_, hd, hb⟩
  unfold estZ
  rw [e2, clamp_nn (by omega)]
end
end Go.Proofs.YtannniobeanhlaaGreat
/- Waits of rings whose costs are few. -/
namespace Go.Proofs.YtannniobeanhlaaGreat
set_option linter.unusedSimpArgs false
set_option linter.unusedVariables false
set_option maxRecDepth 100000
open Go.ChangeShapes Go.WideShapes Go.ChangeAt Go.RowKit
open Ar (inR)
section
variable {R : RgN} {σ : RgS} {s : ByteArray} {w : World} {T : Int}
end
end Go.Proofs.YtannniobeanhlaaGreat
/- The contracts of layer 7 (ring): New, of a slice of functions with one more behind (XRgN's, with a capacity; made of it by hand). -/
namespace Go.Proofs.YtannniobeanhlaaGreat
set_option linter.unusedSimpArgs false
set_option linter.unusedVariables false
set_option maxRecDepth 100000
open Go.ChangeShapes Go.WideShapes Go.ChangeAt Go.RowKit
open Ar (inR)
set_option maxRecDepth 100000 in
set_option maxHeartbeats 4000000 in
theorem rnew_cap (L Wd Bu Ce Ro Tr : Int) (Sl s k W : Nat) (sm : Bool) (hL : inR L) (hWd : 0 ≤ Wd ∧ Wd ≤ 9223372036854775807) (hSl : 1 ≤ Sl ∧ Sl ≤ 64) (hs : Wd / (Sl : Int) = (s : Int) ∧ 1 ≤ s) (hk : 1 ≤ k ∧ k ≤ 8) (hW : 1 ≤ W ∧ (Sl + 1) * (8 * (k * W)) ≤ 2147483647)
    (b0 : Nat) (X A B : Nat → Nat) (w : World) (hr : RowsGe w b0 k X A B) (hl : ∀ j, j < k → X j < 2305843009213693951 ∧ A j < 2305843009213693951 ∧ B j < 2305843009213693951) :
    Calls Tryz.prog 93 #[rlV L Wd Bu Sl Ce Ro W Tr sm, .slice (some ⟨b0, 0, none⟩) k (k + 1)] w fun e w' => ∃ R : RgN, e = .returned (.pointer (some ⟨R.x, 0, none⟩)) ∧ RgAt w' R ⟨0, fun _ => 0, fun _ _ _ => 0⟩ ∧ (R.n = Sl + 1 ∧ R.s = s ∧ R.L = L ∧ R.sm = sm ∧ R.k = k ∧ R.W = W ∧ R.X = X ∧ R.A = A ∧ R.B = B) ∧ (∀ b, R.all b → w.heap.size ≤ b) ∧ Below w.heap.size w w' := by
  have et : Wd.tdiv (Sl : Int) = (s : Int) := by rw [Int.tdiv_eq_ediv_of_nonneg hWd.1]; exact hs.1
  have hsle : (s : Int) ≤ 9223372036854775807 := by rw [← hs.1]; exact Int.le_trans (Int.ediv_le_self (Sl : Int) hWd.1) hWd.2
  have hs1 := hs.2
  have HSS := Lib.hid hs
  clear hs
  have HET := Lib.hid et
  clear et
  obtain ⟨w1, hw1, k1, l1, s1⟩ := box_new w (rlC L Wd Bu Sl Ce Ro W Tr sm) 52
  obtain ⟨rb, hrb⟩ : ∃ rb, rb = w.heap.size := ⟨_, rfl⟩
  rw [← hrb] at k1
  have kr := k1.rd
  have K1 := Lib.hid (And.intro k1 l1)
  have HRB := Lib.hid hrb
  have HR := Lib.hid hr
  have HL := Lib.hid hl
  obtain ⟨m, q, hm, hq, h8, hWm, hq2⟩ := new_nums hSl.2 hk.1 hW.2
  have HW := Lib.hid (show 1 ≤ W ∧ 8 * (k * W) ≤ 2147483647 from ⟨hW.1, by rw [← hm]; exact h8⟩)
  have hW1 := hW.1
  clear hW
  obtain ⟨n, hn⟩ : ∃ n, n = Sl + 1 := ⟨_, rfl⟩
  rw [← hn] at hq2
  have CB := Lib.hid (fun wx => sbytes_any k W HW.out.2 (Nat.le_trans hk.2 (by decide)) (by omega) wx)
  rw [← hm] at CB
  have HM := Lib.hid hm
  clear hm
  have CP := Lib.hid (fun wx => show Calls Tryz.prog 120 #[.int .i64 (n : Int), .int .i64 (8 * (m : Int))] wx (fun e w' => e = .returned (.int .i64 (q : Int)) ∧ wx = w') from by
    have := product_any (n : Int) (8 * (m : Int)) (by unfold inR; omega) (by unfold inR; omega) wx
    rw [hq2, clamp_nn (by omega)] at this
    exact this)
  clear hq2
  have HN := Lib.hid (And.intro hn (And.intro hSl (And.intro hk (And.intro HW.out (And.intro HSS.out (And.intro hL hWd))))))
  have HSL := Lib.hid hsle
  have ew : IntKind.i64.wrap (s : Int) = (s : Int) := by rw [IntKind.wrap_i64]; omega
  have en : IntKind.i64.wrap ((Sl : Int) + 1) = (n : Int) := by rw [IntKind.wrap_i64]; omega
  have t1 : decide ((Sl : Int) < 1) = false := by rw [decide_eq_false_iff_not]; omega
  have t2 : decide ((64 : Int) < (Sl : Int)) = false := by rw [decide_eq_false_iff_not]; omega
  have t3 : decide ((s : Int) < 1) = false := decide_eq_false (Int.not_lt.2 (Int.ofNat_le.2 hs1))
  have t4 : ((k : Int) == 0) = false := by simp; omega
  have t5 : decide ((W : Int) < 1) = false := by rw [decide_eq_false_iff_not]; omega
  have t6 : decide ((2147483647 : Int) < (q : Int)) = false := by rw [decide_eq_false_iff_not]; omega
  have t7 : ¬ (Sl : Int) = 0 := by omega
  have t8 : ¬ Sl = 0 := by omega
  have t9 : (k : Int) ≤ 8 := by omega
  have tn : (n : Int) ≤ 65 := by omega
  obtain ⟨i0, hi, hz0, hz1, hz2⟩ := info_parts info_part
  have hmk := make_rws encPv_len (by omega) ((0, .pointer none) : Int × Value) (P := Tryz.prog) (t := 228) (e := 234) rfl Tryz.underlying228 hi hz0 hz1 hz2 n (by omega) (by omega)
  have CN := Lib.hid (fun wx (hb : RowsGe wx b0 k X A B) => snew_cap k W hk HW.out b0 X A B wx hb HL.out)
  clear k1 l1 s1 hr hl hrb hn hq h8 hWm hSl hs1 hk hW1 hWd hL hi hz0 hz1 hz2 hsle
  have et := HET.out
  go_enter Tryz.func93, Tryz.ntmps93
  go_upto_region 1 with (fail)
  rw [← HRB.out]
  clear hw1
  go_upto_region 6 with (first
    | (go_at_call 121; ((with_reducible refine (CB.out _).mono ?_); rintro e w2 ⟨rfl, b2⟩; have B2 := Lib.hid b2; clear b2))
    | (go_at_call 120; ((with_reducible refine (CP.out _).mono ?_); rintro e w3 ⟨rfl, rfl⟩)))
  clear kr CB CP t1 t2 t3 t5 t6 en
  have KB := Lib.hid (K1.out.1.keep B2.out)
  have SBx := Lib.hid (fun wx (hb : Below w2.heap.size w2 wx) => show ∀ i, wx.cell? ⟨rb, i, none⟩ = (rlC L Wd Bu Sl Ce Ro W Tr sm)[i]? from (KB.out.keep hb).rd)
  have k2 : ∀ i, w2.drew.cell? ⟨rb, i, none⟩ = (rlC L Wd Bu Sl Ce Ro W Tr sm)[i]? := SBx.out _ (below_draws (Below.refl _ _) 1)
  obtain ⟨w3, hw3, k3, l3, s3⟩ := box_new w2 (rws encPv (List.replicate n ((0, .pointer none) : Int × Value))).toArray 234
  obtain ⟨w4, hw4, k4, l4, s4⟩ := box_new w3 #[.slice (some ⟨w2.heap.size, 0, none⟩) n n, .int .i64 (s : Int), .int .i64 L, .int .i64 0, .bool sm] 230
  have D3 := Lib.hid (show Below w2.heap.size w2 w3.drew from below_draws l3 1)
  have l24 : Below w2.heap.size w2 w4 := l3.trans (l4.mono l3.size)
  have D4 := Lib.hid (show Below w2.heap.size w2 w4.drew from below_draws l24 1)
  go_upto_region 6 with (fail)
  refine wp_region_held_drew (S := fun wx => ∀ i, wx.cell? ⟨rb, i, none⟩ = (rlC L Wd Bu Sl Ce Ro W Tr sm)[i]?) (by kernel_rfl) k2 (fun hHeld => ?_)
  refine wpAnyH_take (i := 0) (oi := ?_) (v := ?_) ?_ ?_ ?_ ?_ ?_ ?_ ?_ ?_
  rotate_left 2
  · simp only [List.getElem?_toArray, List.getElem?_cons_succ, List.getElem?_cons_zero]; rfl
  · kernel_rfl
  · kernel_rfl
  · kernel_rfl
  · exact fun _ _ _ h => h
  · refine Or.inl ⟨by rfl, ?_⟩
    intro w' hSw
    (try dsimp only at hSw)
    go_simp
    all_goals (with_reducible rfl)
  · assumption
  try simp only [Act.put, List.setIfInBounds_toArray, List.set_cons_zero, List.set_cons_succ]
  refine wpAnyH_take (i := 2) (oi := ?_) (v := ?_) ?_ ?_ ?_ ?_ ?_ ?_ ?_ ?_
  rotate_left 2
  · simp only [List.getElem?_toArray, List.getElem?_cons_succ, List.getElem?_cons_zero]; rfl
  · kernel_rfl
  · kernel_rfl
  · kernel_rfl
  · exact fun _ _ _ h => h
  · refine Or.inl ⟨by rfl, ?_⟩
    intro w' hSw
    (try dsimp only at hSw)
    go_simp
    all_goals (with_reducible rfl)
  · assumption
  try simp only [Act.put, List.setIfInBounds_toArray, List.set_cons_zero, List.set_cons_succ]
  refine wpAnyH_take (i := 3) (oi := ?_) (v := ?_) ?_ ?_ ?_ ?_ ?_ ?_ ?_ ?_
  rotate_left 2
  · simp only [List.getElem?_toArray, List.getElem?_cons_succ, List.getElem?_cons_zero]; rfl
  · kernel_rfl
  · kernel_rfl
  · kernel_rfl
  · exact fun _ _ _ h => h
  · refine Or.inl ⟨by rfl, ?_⟩
    intro w' hSw
    (try dsimp only at hSw)
    go_simp
    all_goals (with_reducible rfl)
  · assumption
  try simp only [Act.put, List.setIfInBounds_toArray, List.set_cons_zero, List.set_cons_succ]
  refine wpAnyH_take (i := 4) (oi := ?_) (v := ?_) ?_ ?_ ?_ ?_ ?_ ?_ ?_ ?_
  rotate_left 2
  · simp only [List.getElem?_toArray, List.getElem?_cons_succ, List.getElem?_cons_zero]; rfl
  · kernel_rfl
  · kernel_rfl
  · kernel_rfl
  · exact fun _ _ _ h => h
  · refine Or.inl ⟨by rfl, ?_⟩
    intro w' hSw
    (try dsimp only at hSw)
    go_simp
    all_goals (with_reducible rfl)
  · assumption
  try simp only [Act.put, List.setIfInBounds_toArray, List.set_cons_zero, List.set_cons_succ]
  refine wpAnyH_take (i := 5) (oi := ?_) (v := ?_) ?_ ?_ ?_ ?_ ?_ ?_ ?_ ?_
  rotate_left 2
  · simp only [List.getElem?_toArray, List.getElem?_cons_succ, List.getElem?_cons_zero]; rfl
  · kernel_rfl
  · kernel_rfl
  · kernel_rfl
  · exact fun _ _ _ h => h
  · refine Or.inl ⟨by rfl, ?_⟩
    intro w' hSw
    (try dsimp only at hSw)
    go_simp
    all_goals (with_reducible rfl)
  · assumption
  try simp only [Act.put, List.setIfInBounds_toArray, List.set_cons_zero, List.set_cons_succ]
  refine wpAnyH_take (i := 6) (oi := ?_) (v := ?_) ?_ ?_ ?_ ?_ ?_ ?_ ?_ ?_
  rotate_left 2
  · simp only [List.getElem?_toArray, List.getElem?_cons_succ, List.getElem?_cons_zero]; rfl
  · kernel_rfl
  · kernel_rfl
  · kernel_rfl
  · exact fun _ _ _ h => h
  · refine Or.inl ⟨by rfl, ?_⟩
    intro w' hSw
    (try dsimp only at hSw)
    go_simp
    all_goals (with_reducible rfl)
  · assumption
  try simp only [Act.put, List.setIfInBounds_toArray, List.set_cons_zero, List.set_cons_succ]
  refine wpAnyH_take (i := 7) (oi := ?_) (v := ?_) ?_ ?_ ?_ ?_ ?_ ?_ ?_ ?_
  rotate_left 2
  · simp only [List.getElem?_toArray, List.getElem?_cons_succ, List.getElem?_cons_zero]; rfl
  · kernel_rfl
  · kernel_rfl
  · kernel_rfl
  · exact fun _ _ _ h => h
  · refine Or.inl ⟨by rfl, ?_⟩
    intro w' hSw
    (try dsimp only at hSw)
    go_simp
    all_goals (with_reducible rfl)
  · assumption
  try simp only [Act.put, List.setIfInBounds_toArray, List.set_cons_zero, List.set_cons_succ]
  refine wpAnyH_take (i := 8) (oi := ?_) (v := ?_) ?_ ?_ ?_ ?_ ?_ ?_ ?_ ?_
  rotate_left 2
  · simp only [List.getElem?_toArray, List.getElem?_cons_succ, List.getElem?_cons_zero]; rfl
  · kernel_rfl
  · kernel_rfl
  · kernel_rfl
  · exact fun _ _ _ h => h
  · refine Or.inl ⟨by rfl, ?_⟩
    intro w' hSw
    (try dsimp only at hSw)
    go_simp
    all_goals (with_reducible rfl)
  · assumption
  try simp only [Act.put, List.setIfInBounds_toArray, List.set_cons_zero, List.set_cons_succ]
  refine wpAnyH_take (i := 9) (oi := ?_) (v := ?_) ?_ ?_ ?_ ?_ ?_ ?_ ?_ ?_
  rotate_left 2
  · simp only [List.getElem?_toArray, List.getElem?_cons_succ, List.getElem?_cons_zero]; rfl
  · kernel_rfl
  · kernel_rfl
  · kernel_rfl
  · exact fun _ _ _ h => h
  · refine Or.inl ⟨by rfl, ?_⟩
    intro w' hSw
    (try dsimp only at hSw)
    go_simp
    all_goals (with_reducible rfl)
  · assumption
  try simp only [Act.put, List.setIfInBounds_toArray, List.set_cons_zero, List.set_cons_succ]
  refine wpAnyH_take (i := 10) (oi := ?_) (v := ?_) ?_ ?_ ?_ ?_ ?_ ?_ ?_ ?_
  rotate_left 2
  · simp only [List.getElem?_toArray, List.getElem?_cons_succ, List.getElem?_cons_zero]; rfl
  · kernel_rfl
  · kernel_rfl
  · kernel_rfl
  · exact fun _ _ _ h => h
  · refine Or.inl ⟨by rfl, ?_⟩
    intro w' hSw
    (try dsimp only at hSw)
    go_simp
    all_goals (with_reducible rfl)
  · assumption
  try simp only [Act.put, List.setIfInBounds_toArray, List.set_cons_zero, List.set_cons_succ]
  refine wpAnyH_ready (rs := [1]) (by kernel_rfl) (by simp) ?_
  refine AllReadyH.cons (o := ?_) ?_ ?_ ?_
  rotate_left 1
  · simp only [List.getElem?_toArray, List.getElem?_cons_succ, List.getElem?_cons_zero]; rfl
  rotate_left 1
  · exact AllReadyH.nil
  intro K hK
  go_simp
  skip
  refine hK.out _ _ (SBx.out _ D3.out) (fun hHeld => ?_)
  clear hK K
  try simp only [Act.put, List.setIfInBounds_toArray, List.set_cons_zero, List.set_cons_succ]
  refine wpAnyH_take (i := 11) (oi := ?_) (v := ?_) ?_ ?_ ?_ ?_ ?_ ?_ ?_ ?_
  rotate_left 2
  · simp only [List.getElem?_toArray, List.getElem?_cons_succ, List.getElem?_cons_zero]; rfl
  · kernel_rfl
  · kernel_rfl
  · kernel_rfl
  · exact fun _ _ _ h => h
  · refine Or.inl ⟨by rfl, ?_⟩
    intro w' hSw
    (try dsimp only at hSw)
    go_simp
    all_goals (with_reducible rfl)
  · assumption
  try simp only [Act.put, List.setIfInBounds_toArray, List.set_cons_zero, List.set_cons_succ]
  refine wpAnyH_ready (rs := [12]) (by kernel_rfl) (by simp) ?_
  refine AllReadyH.cons (o := ?_) ?_ ?_ ?_
  rotate_left 1
  · simp only [List.getElem?_toArray, List.getElem?_cons_succ, List.getElem?_cons_zero]; rfl
  rotate_left 1
  · exact AllReadyH.nil
  intro K hK
  go_simp
  skip
  refine hK.out _ _ (SBx.out _ D4.out) (fun hHeld => ?_)
  clear hK K
  try simp only [Act.put, List.setIfInBounds_toArray, List.set_cons_zero, List.set_cons_succ]
  refine wpAnyH_take (i := 13) (oi := ?_) (v := ?_) ?_ ?_ ?_ ?_ ?_ ?_ ?_ ?_
  rotate_left 2
  · simp only [List.getElem?_toArray, List.getElem?_cons_succ, List.getElem?_cons_zero]; rfl
  · kernel_rfl
  · kernel_rfl
  · kernel_rfl
  · exact fun _ _ _ h => h
  · refine Or.inl ⟨by rfl, ?_⟩
    intro w' hSw
    (try dsimp only at hSw)
    go_simp
    all_goals (with_reducible rfl)
  · assumption
  try simp only [Act.put, List.setIfInBounds_toArray, List.set_cons_zero, List.set_cons_succ]
  refine wpAnyH_done (by kernel_rfl) ?_ _
  clear hHeld k2 hmk et ew
  obtain ⟨pb, hpb⟩ : ∃ pb, pb = w2.heap.size := ⟨_, rfl⟩
  obtain ⟨xb, hxb⟩ : ∃ xb, xb = w3.heap.size := ⟨_, rfl⟩
  have e34 : w3.heap.size = w2.heap.size + 1 := s3
  have K4 := Lib.hid (show Blk w4.drew pb 234 (rws encPv (ptV n 0 fun _ => 0)).toArray ∧ Blk w4.drew xb 230 #[.slice (some ⟨pb, 0, none⟩) n n, .int .i64 (s : Int), .int .i64 L, .int .i64 0, .bool sm] from ⟨by rw [ptV_zero, hpb]; exact (k3.keep l4).drew, by rw [hxb, hpb]; exact k4.drew⟩)
  have HPX := Lib.hid (show w.heap.size ≤ rb ∧ rb < pb ∧ pb < xb ∧ xb < w4.drew.heap.size ∧ w4.drew.heap.size = xb + 1 from by
    have h1 := HRB.out
    have h2 := lt_of_block KB.out
    have h3 : w4.drew.heap.size = w4.heap.size := rfl
    omega)
  have D0 := Lib.hid (show Below w.heap.size w w4.drew from (K1.out.2.trans (B2.out.mono K1.out.2.size)).trans (D4.out.mono (Nat.le_trans K1.out.2.size B2.out.size)))
  have KR4 := Lib.hid (KB.out.keep D4.out)
  rw [← hpb]
  generalize w4.drew = w5 at K4 HPX D0 KR4 ⊢
  have hxb' : pb + 1 = xb := by omega
  simp only [hxb']
  have kx := K4.out.2.rd
  have RW0 := Lib.hid (HR.out.keep D0.out)
  have BLr := Lib.hid (HR.out.bl)
  clear hw3 hw4 k3 k4 l3 l4 s3 s4 l24 hpb hxb e34 hxb'
  go_wp2
  clear kx
  go_loopg [63] n (fun kk si wr => ∃ (j : Nat) (bs gs : Nat → Nat), j ≤ n ∧ Hid (kk = n - j) ∧ si = .int .i64 (j : Int) ∧ Hid (MadeP wr (xb + 1) j k W X A B bs gs) ∧ Hid (Blk wr pb 234 (rws encPv (ptV n j bs)).toArray) ∧ Hid (Blk wr xb 230 #[.slice (some ⟨pb, 0, none⟩) n n, .int .i64 (s : Int), .int .i64 L, .int .i64 0, .bool sm]) ∧ Hid (Blk wr rb 52 (rlC L Wd Bu Sl Ce Ro W Tr sm)) ∧ Hid (RowsGe wr b0 k X A B) ∧ Hid (Below w.heap.size w wr) ∧ Hid (xb + 1 ≤ wr.heap.size))
  case atStart => exact ⟨0, fun _ => 0, fun _ => 0, by omega, Lib.hid rfl, rfl, Lib.hid ⟨(fun i h => absurd h (by omega)), (fun i h => absurd h (by omega)), (fun i h => absurd h (by omega)), (fun i i' h => absurd h (by omega))⟩, Lib.hid K4.out.1, Lib.hid K4.out.2, KR4, RW0, D0, Lib.hid (by have := HPX.out; omega)⟩
  case round =>
    obtain ⟨j, bs, gs, hj, HKK, rfl, HM, HPB, HXB, HRL, HRW, HBL, HSZ⟩ := hrel
    have kx := HXB.out.rd
    by_cases hjn : j < n
    · have SB := Lib.hid (fun wx (hb : Below wr.heap.size wr wx) => show (∀ i, wx.cell? ⟨xb, i, none⟩ = (#[.slice (some ⟨pb, 0, none⟩) n n, .int .i64 (s : Int), .int .i64 L, .int .i64 0, .bool sm] : Array Value)[i]?) ∧ (∀ i, wx.cell? ⟨rb, i, none⟩ = (rlC L Wd Bu Sl Ce Ro W Tr sm)[i]?) from ⟨(HXB.out.keep hb).rd, (HRL.out.keep hb).rd⟩)
      have D1 := Lib.hid (show Below wr.heap.size wr wr.drew from below_draws (Below.refl _ _) 1)
      have CN2 := Lib.hid (CN.out wr.drew (HRW.out.keep D1.out))
      have tj : (j : Int) < (n : Int) := by omega
      have HJ := Lib.hid hjn
      clear hjn kx
      go_upto_region 10 with (fail)
      refine wp_region_held_drew (S := fun wx => (∀ i, wx.cell? ⟨xb, i, none⟩ = (#[.slice (some ⟨pb, 0, none⟩) n n, .int .i64 (s : Int), .int .i64 L, .int .i64 0, .bool sm] : Array Value)[i]?) ∧ (∀ i, wx.cell? ⟨rb, i, none⟩ = (rlC L Wd Bu Sl Ce Ro W Tr sm)[i]?)) (by kernel_rfl) (SB.out _ D1.out) (fun hHeld => ?_)
      refine wpAnyH_take (i := 0) (oi := ?_) (v := ?_) ?_ ?_ ?_ ?_ ?_ ?_ ?_ ?_
      rotate_left 2
      · simp only [List.getElem?_toArray, List.getElem?_cons_succ, List.getElem?_cons_zero]; rfl
      · kernel_rfl
      · kernel_rfl
      · kernel_rfl
      · exact fun _ _ _ h => h
      · refine Or.inl ⟨by rfl, ?_⟩
        intro w' hSw
        (try dsimp only at hSw)
        go_simp
        all_goals (with_reducible rfl)
      · assumption
      try simp only [Act.put, List.setIfInBounds_toArray, List.set_cons_zero, List.set_cons_succ]
      refine wpAnyH_take (i := 1) (oi := ?_) (v := ?_) ?_ ?_ ?_ ?_ ?_ ?_ ?_ ?_
      rotate_left 2
      · simp only [List.getElem?_toArray, List.getElem?_cons_succ, List.getElem?_cons_zero]; rfl
      · kernel_rfl
      · kernel_rfl
      · kernel_rfl
      · exact fun _ _ _ h => h
      · refine Or.inl ⟨by rfl, ?_⟩
        intro w' hSw
        (try dsimp only at hSw)
        go_simp
        all_goals (with_reducible rfl)
      · assumption
      try simp only [Act.put, List.setIfInBounds_toArray, List.set_cons_zero, List.set_cons_succ]
      refine wpAnyH_take (i := 2) (oi := ?_) (v := ?_) ?_ ?_ ?_ ?_ ?_ ?_ ?_ ?_
      rotate_left 2
      · simp only [List.getElem?_toArray, List.getElem?_cons_succ, List.getElem?_cons_zero]; rfl
      · kernel_rfl
      · kernel_rfl
      · kernel_rfl
      · exact fun _ _ _ h => h
      · refine Or.inl ⟨by rfl, ?_⟩
        intro w' hSw
        (try dsimp only at hSw)
        go_simp
        all_goals (with_reducible rfl)
      · assumption
      try simp only [Act.put, List.setIfInBounds_toArray, List.set_cons_zero, List.set_cons_succ]
      refine wpAnyH_take (i := 3) (oi := ?_) (v := ?_) ?_ ?_ ?_ ?_ ?_ ?_ ?_ ?_
      rotate_left 2
      · simp only [List.getElem?_toArray, List.getElem?_cons_succ, List.getElem?_cons_zero]; rfl
      · kernel_rfl
      · kernel_rfl
      · kernel_rfl
      · exact fun _ _ _ h => h
      · refine Or.inl ⟨by rfl, ?_⟩
        intro w' hSw
        (try dsimp only at hSw)
        go_simp
        all_goals (with_reducible rfl)
      · assumption
      try simp only [Act.put, List.setIfInBounds_toArray, List.set_cons_zero, List.set_cons_succ]
      refine wpAnyH_take (i := 4) (oi := ?_) (v := ?_) ?_ ?_ ?_ ?_ ?_ ?_ ?_ ?_
      rotate_left 2
      · simp only [List.getElem?_toArray, List.getElem?_cons_succ, List.getElem?_cons_zero]; rfl
      · kernel_rfl
      · kernel_rfl
      · kernel_rfl
      · exact fun _ _ _ h => h
      · refine Or.inl ⟨by rfl, ?_⟩
        intro w' hSw
        (try dsimp only at hSw)
        go_simp
        all_goals (with_reducible rfl)
      · assumption
      try simp only [Act.put, List.setIfInBounds_toArray, List.set_cons_zero, List.set_cons_succ]
      refine wpAnyH_take (i := 5) (oi := ?_) (v := ?_) ?_ ?_ ?_ ?_ ?_ ?_ ?_ ?_
      rotate_left 2
      · simp only [List.getElem?_toArray, List.getElem?_cons_succ, List.getElem?_cons_zero]; rfl
      · kernel_rfl
      · kernel_rfl
      · kernel_rfl
      · exact fun _ _ _ h => h
      · refine Or.inl ⟨by rfl, ?_⟩
        intro w' hSw
        (try dsimp only at hSw)
        go_simp
        all_goals (with_reducible rfl)
      · assumption
      try simp only [Act.put, List.setIfInBounds_toArray, List.set_cons_zero, List.set_cons_succ]
      refine wpAnyH_take (i := 6) (oi := ?_) (v := ?_) ?_ ?_ ?_ ?_ ?_ ?_ ?_ ?_
      rotate_left 2
      · simp only [List.getElem?_toArray, List.getElem?_cons_succ, List.getElem?_cons_zero]; rfl
      · kernel_rfl
      · kernel_rfl
      · kernel_rfl
      · exact fun _ _ _ h => h
      · refine Or.inl ⟨by rfl, ?_⟩
        intro w' hSw
        (try dsimp only at hSw)
        go_simp
        all_goals (with_reducible rfl)
      · assumption
      try simp only [Act.put, List.setIfInBounds_toArray, List.set_cons_zero, List.set_cons_succ]
      refine wpAnyH_take (i := 7) (oi := ?_) (v := ?_) ?_ ?_ ?_ ?_ ?_ ?_ ?_ ?_
      rotate_left 2
      · simp only [List.getElem?_toArray, List.getElem?_cons_succ, List.getElem?_cons_zero]; rfl
      · kernel_rfl
      · kernel_rfl
      · kernel_rfl
      · exact fun _ _ _ h => h
      · refine Or.inl ⟨by rfl, ?_⟩
        intro w' hSw
        (try dsimp only at hSw)
        go_simp
        all_goals (with_reducible rfl)
      · assumption
      try simp only [Act.put, List.setIfInBounds_toArray, List.set_cons_zero, List.set_cons_succ]
      refine wpAnyH_ready (rs := [8]) (by kernel_rfl) (by simp) ?_
      refine AllReadyH.cons (o := ?_) ?_ ?_ ?_
      rotate_left 1
      · simp only [List.getElem?_toArray, List.getElem?_cons_succ, List.getElem?_cons_zero]; rfl
      rotate_left 1
      · exact AllReadyH.nil
      intro K hK
      go_simp
      ((with_reducible refine CN2.out.mono ?_); rintro e wn ⟨N, rfl, sn, n1, n2, n3, n4, n5, o1, o2, bn⟩; have D2 := Lib.hid (D1.out.trans (bn.mono D1.out.size)); have NN := Lib.hid (And.intro sn (And.intro (And.intro n1 (And.intro n2 (And.intro n3 (And.intro n4 n5)))) (And.intro (show wr.heap.size ≤ N.b from o1) (show wr.heap.size ≤ N.g from o2)))); have HP2 := Lib.hid (HPB.out.keep D2.out); have kp1 : wn.cell? ⟨pb, j * 2 + 1, none⟩ = some (.pointer none) := (rws_cell encPv_len HP2.out (ptV_get bs HJ.out) (j := 1) (by omega)).trans (by show some (if j < j then _ else _) = _; rw [if_neg (Nat.lt_irrefl j)]); have kpw := HP2.out.wr; clear sn n1 n2 n3 n4 n5 o1 o2 bn)
      refine hK.out _ _ (SB.out _ D2.out) (fun hHeld => ?_)
      clear hK K
      try simp only [Act.put, List.setIfInBounds_toArray, List.set_cons_zero, List.set_cons_succ]
      refine wpAnyH_take (i := 9) (oi := ?_) (v := ?_) ?_ ?_ ?_ ?_ ?_ ?_ ?_ ?_
      rotate_left 2
      · simp only [List.getElem?_toArray, List.getElem?_cons_succ, List.getElem?_cons_zero]; rfl
      · kernel_rfl
      · kernel_rfl
      · kernel_rfl
      · exact fun _ _ _ h => h
      · refine Or.inl ⟨by rfl, ?_⟩
        intro w' hSw
        (try dsimp only at hSw)
        go_simp
        all_goals (with_reducible rfl)
      · assumption
      try simp only [Act.put, List.setIfInBounds_toArray, List.set_cons_zero, List.set_cons_succ]
      refine wpAnyH_take (i := 10) (oi := ?_) (v := ?_) ?_ ?_ ?_ ?_ ?_ ?_ ?_ ?_
      rotate_left 2
      · simp only [List.getElem?_toArray, List.getElem?_cons_succ, List.getElem?_cons_zero]; rfl
      · kernel_rfl
      · kernel_rfl
      · kernel_rfl
      · exact fun _ _ _ h => h
      · refine Or.inl ⟨by rfl, ?_⟩
        intro w' hSw
        (try dsimp only at hSw)
        go_simp
        all_goals (with_reducible rfl)
      · assumption
      try simp only [Act.put, List.setIfInBounds_toArray, List.set_cons_zero, List.set_cons_succ]
      refine wpAnyH_ready (rs := [11]) (by kernel_rfl) (by simp) ?_
      refine AllReadyH.cons (o := ?_) ?_ ?_ ?_
      rotate_left 1
      · simp only [List.getElem?_toArray, List.getElem?_cons_succ, List.getElem?_cons_zero]; rfl
      rotate_left 1
      · exact AllReadyH.nil
      intro K hK
      go_simp
      (rw [show wn.setCell ⟨pb, j * 2 + 1, none⟩ (.pointer (some ⟨N.b, 0, none⟩)) = setObj wn pb (.cells (rws encPv (ptV n (j + 1) (updN bs j N.b))).toArray 234 (0, 0)) from by (have := rws_store_one (v := .pointer (some ⟨N.b, 0, none⟩)) encPv_len HP2.out (ptV_get bs HJ.out) (j := 1) (a' := (0, .pointer (some ⟨N.b, 0, none⟩))) rfl (by omega); rw [ptV_set bs HJ.out] at this; exact this)]; have F5 := Lib.hid (Fr.setObj (F := fun b => b = pb) (Fr.refl _ wn) rfl (.cells (rws encPv (ptV n (j + 1) (updN bs j N.b))).toArray 234 (0, 0))); have K5 := Lib.hid (show Blk (setObj wn pb (.cells (rws encPv (ptV n (j + 1) (updN bs j N.b))).toArray 234 (0, 0))) pb 234 (rws encPv (ptV n (j + 1) (updN bs j N.b))).toArray from setObj_at (lt_of_block HP2.out) _); have HX5 := Lib.hid ((HXB.out.keep D2.out).fr F5.out (fun e => by have := HPX.out; omega)); have HR5 := Lib.hid ((HRL.out.keep D2.out).fr F5.out (fun e => by have := HPX.out; omega)); have HW5 := Lib.hid (RowsGe.fr (HRW.out.keep D2.out) F5.out (fun e => by have := HPX.out; have := BLr.out; omega)); have HM5 := Lib.hid ((HM.out.step D2.out HSZ.out NN.out.1 NN.out.2.1 NN.out.2.2).fr F5.out (fun b hb => by have := HPX.out; omega)); have HB5 := Lib.hid ((HBL.out.trans (D2.out.mono HBL.out.size)).trans (F5.out.below (Nat.le_trans HBL.out.size D2.out.size) (fun b hb => by have := HPX.out; omega))); have HS5 := Lib.hid (Nat.le_trans HSZ.out (Nat.le_trans D2.out.size F5.out.size)); clear kp1 kpw F5; generalize (setObj wn pb (.cells (rws encPv (ptV n (j + 1) (updN bs j N.b))).toArray 234 (0, 0))) = w9 at K5 HX5 HR5 HW5 HM5 HB5 HS5 ⊢; skip)
      refine hK.out _ _ ⟨HX5.out.rd, HR5.out.rd⟩ (fun hHeld => ?_)
      clear hK K
      try simp only [Act.put, List.setIfInBounds_toArray, List.set_cons_zero, List.set_cons_succ]
      refine wpAnyH_done (by kernel_rfl) ?_ _
      clear hHeld
      go_wp2
      go_roundg (n - (j + 1))
      case measure => have := HKK.out; have := HJ.out; omega
      case rel => exact ⟨j + 1, _, _, HJ.out, Lib.hid rfl, by go_num, HM5, K5, HX5, HR5, HW5, HB5, HS5⟩
    · have hje : j = n := by omega
      have tj : ¬ ((j : Int) < (n : Int)) := by omega
      have HJ := Lib.hid hje
      clear hjn hje
      go_wp2
      go_ret
      have hpx := HPX.out
      obtain ⟨hn, hSl, hk, hW, hs, hL, hWd⟩ := HN.out
      have hj := HJ.out
      have hm := HM.out
      rw [hj] at hm
      have hpb := HPB.out
      rw [hj] at hpb
      have e1 : rws encPv (ptV n n bs) = rws encPt (ptL ⟨xb, pb, n, s, L, sm, k, W, X, A, B, bs, gs⟩ fun _ => 0) := ptV_done (R := ⟨xb, pb, n, s, L, sm, k, W, X, A, B, bs, gs⟩) rfl rfl
      rw [e1] at hpb
      refine ⟨⟨xb, pb, n, s, L, sm, k, W, X, A, B, bs, gs⟩, rfl, ⟨HXB.out, hpb, fun i hi => hm.at_ i hi, Nat.ne_of_gt hpx.2.2.1, fun i hi => ?_, fun i i' hi hi' => hm.ap i i' hi hi', ⟨⟨?_, ?_⟩, ⟨hs.2, Int.ofNat_le.1 HSL.out⟩, hL⟩, ?_, fun i => ?_⟩, ⟨hn, rfl, rfl, rfl, rfl, rfl, rfl, rfl, rfl⟩, ?_, HBL.out⟩
      · have h1 := hm.lo i hi
        show (bs i ≠ xb ∧ bs i ≠ pb) ∧ gs i ≠ xb ∧ gs i ≠ pb
        clear hs
        omega
      · show 2 ≤ n
        clear hs
        omega
      · show n ≤ 65
        clear hs
        omega
      · show (0 : Int) ≤ 0 ∧ (0 : Int) ≤ 9223372036854775807
        clear hs
        omega
      · show (0 : Int) ≤ 0 ∧ (0 : Int) ≤ 9223372036854775807
        clear hs
        omega
      · rintro b ((hb | hb | ⟨i, hi, hb⟩) | ⟨i, hi, hb⟩)
        · have hb : b = xb := hb
          clear hs
          omega
        · have hb : b = pb := hb
          clear hs
          omega
        · have h1 := hm.lo i hi
          have hb : b = gs i := hb
          clear hs
          omega
        · have h1 := hm.lo i hi
          have hb : b = bs i := hb
          clear hs
          omega
end Go.Proofs.YtannniobeanhlaaGreat
