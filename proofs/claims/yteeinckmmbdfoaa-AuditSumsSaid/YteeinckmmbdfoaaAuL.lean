/- The contracts of layer 20 (audit): a ledger as cells; New, Add. -/
import Derived.Test.YteeinckmmbdfoaaRows
import Derived.Test.YteeinckmmbdfoaaAuK
import Derived.Test.YteeinckmmbdfoaaOwnP
import Derived.Test.YteeinckmmbdfoaaByt
import Derived.WalkKit
import Derived.ProofKit
import Derived.OpenShut
import Derived.WalkSpells
import Derived.Deep.RegionHeld3
import Derived.BigQuiet
import Derived.Deep.CutRange
import Derived.Test.YteeinckmmbdfoaaPhase
namespace Go.Proofs.Yteeinckmmbdfoaa
set_option linter.unusedSimpArgs false
set_option linter.unusedVariables false
set_option maxRecDepth 100000
open Go.ChangeShapes Go.WideShapes Go.ChangeAt Go.RowKit Go.Maps
def encG (a : Int × Int) : List Value := [.int .i64 a.1, .int .i64 a.2]
theorem encG_len : ∀ a, (encG a).length = 2 := fun _ => rfl
abbrev OwG (w : World) (v : Value) (l : List (Int × Int)) : Prop := OwR w 0 45 2 encG v l
theorem owg_new {w : World} {g c : Nat} {l : List (Int × Int)} {a b : Int} (h : w.ownsRow 0 45 2 (.slice (some ⟨g, 0, none⟩) (l.length + 1) c) (l.length + 1) (rws encG l ++ [.int .i64 a, .int .i64 b])) : OwG w (.slice (some ⟨g, 0, none⟩) (l.length + 1) c) (l ++ [(a, b)]) := by
  unfold OwG OwR
  rw [rws_app, List.length_append, List.length_singleton]
  exact h
abbrev VM := Who → Option Value
abbrev GM := Who → List (Int × Int)
def updG (G : GM) (k : Who) (l : List (Int × Int)) : GM := fun x => if x = k then l else G x
theorem updG_self (G : GM) (k : Who) (l : List (Int × Int)) : updG G k l k = l := if_pos rfl
theorem updG_ne (G : GM) {k x : Who} (l : List (Int × Int)) (h : x ≠ k) : updG G k l x = G x := if_neg h
/-- a ledger in block b, its map in block m, of c keys: V has the rows, G what they hold. -/
structure LedAt (w : World) (b m c : Nat) (V : VM) (G : GM) : Prop where
  l : Blk w b 42 #[.map (some m)]
  mp : Mg.MapS whoC w m c V
  ne : b ≠ m
  no : ∀ k, V k = none → G k = []
  nz : ∀ k v, V k = some v → G k ≠ []
  row : ∀ k v, V k = some v → OwG w v (G k)
  rn : ∀ k v g, V k = some v → v.ownBlock = some g → g ≠ b ∧ g ≠ m
  ap : ∀ k k' v v' g, k ≠ k' → V k = some v → V k' = some v' → v.ownBlock = some g → v'.ownBlock ≠ some g
/-- the blocks of a ledger. -/
def LedAll (b m : Nat) (V : VM) (g : Nat) : Prop := g = b ∨ g = m ∨ ∃ k v, V k = some v ∧ v.ownBlock = some g
section
variable {w w' w2 : World} {b m c c' : Nat} {V : VM} {G : GM}
theorem LedAt.lt (h : LedAt w b m c V G) : ∀ g, LedAll b m V g → g < w.heap.size := by
  rintro g (rfl | rfl | ⟨k, v, hv, hg⟩)
  · exact lt_of_block h.l
  · exact h.mp.lt
  · exact (h.row k v hv).lt g hg
theorem LedAt.fr {F : Nat → Prop} (h : LedAt w b m c V G) (hf : Fr F w w') (hF : ∀ g, LedAll b m V g → ¬ F g) : LedAt w' b m c V G :=
  ⟨h.l.fr hf (hF _ (.inl rfl)), h.mp.fr hf (hF _ (.inr (.inl rfl))), h.ne, h.no, h.nz, fun k v hv => (h.row k v hv).fr hf (fun g hg => hF g (.inr (.inr ⟨k, v, hv, hg⟩))), h.rn, h.ap⟩
theorem LedAt.keep (h : LedAt w b m c V G) (hb : Below w.heap.size w w') : LedAt w' b m c V G := h.fr (F := fun _ => False) (Fr.of_below hb) (fun _ _ => id)
theorem LedAt.get (h : LedAt w b m c V G) (k : Who) : OwG w ((V k).getD (.slice none 0 0)) (G k) := by
  cases hv : V k with
  | none => rw [h.no k hv]; exact OwR.nil
  | some v => exact h.row k v hv
theorem LedAt.own (h : LedAt w b m c V G) {k : Who} {g : Nat} (hg : ((V k).getD (.slice none 0 0)).ownBlock = some g) : LedAll b m V g ∧ g ≠ b ∧ g ≠ m := by
  cases hv : V k with
  | none => rw [hv] at hg; cases hg
  | some v => rw [hv] at hg; exact ⟨.inr (.inr ⟨k, v, hv, hg⟩), h.rn k v g hv hg⟩
/-- a key's row has grown, in its place or in a new block, and the map is told. -/
theorem LedAt.push (h : LedAt w b m c V G) {k : Who} {v' : Value} {y : Int × Int} (hr : OwG w' v' (G k ++ [y])) (hf : Fr (fun j => j = m ∨ ((V k).getD (.slice none 0 0)).ownBlock = some j) w w')
    (hg : ∀ g, v'.ownBlock = some g → ((V k).getD (.slice none 0 0)).ownBlock = some g ∨ w.heap.size ≤ g) (hm : Mg.MapS whoC w2 m c' (fun x => if x = k then some v' else V x)) (hf2 : Fr (fun j => j = m) w' w2) :
    LedAt w2 b m c' (fun x => if x = k then some v' else V x) (updG G k (G k ++ [y])) ∧ Fr (LedAll b m V) w w2 ∧ ∀ g, LedAll b m (fun x => if x = k then some v' else V x) g → LedAll b m V g ∨ w.heap.size ≤ g := by
  have hold : ∀ g, ((V k).getD (.slice none 0 0)).ownBlock = some g → ∃ v, V k = some v ∧ v.ownBlock = some g := by
    intro g hgo
    cases hv : V k with
    | none => rw [hv] at hgo; cases hgo
    | some v => rw [hv] at hgo; exact ⟨v, rfl, hgo⟩
  have hnew : ∀ g, v'.ownBlock = some g → g ≠ b ∧ g ≠ m := by
    intro g e
    rcases hg g e with q | q
    · exact (h.own q).2
    · have h1 := lt_of_block h.l
      have h2 := h.mp.lt
      exact ⟨by omega, by omega⟩
  have hap : ∀ x v g, x ≠ k → V x = some v → v.ownBlock = some g → v'.ownBlock ≠ some g := by
    intro x v g hx hv hgo hgv
    rcases hg g hgv with q | q
    · obtain ⟨v0, hv0, hq⟩ := hold g q
      exact h.ap x k v v0 g hx hv hv0 hgo hq
    · have := (h.row x v hv).lt g hgo
      omega
  have hl' := (h.l.fr hf (fun e => by rcases e with e | e; exact h.ne e; exact (h.own e).2.1 rfl)).fr hf2 h.ne
  refine ⟨⟨hl', hm, h.ne, fun x hx => ?_, fun x v hx => ?_, fun x v hx => ?_, fun x v g hx hgo => ?_, fun x x' v1 v2 g hne hv1 hv2 hgo hg2 => ?_⟩, ?_, ?_⟩
  · by_cases e : x = k
    · rw [if_pos e] at hx; cases hx
    · rw [if_neg e] at hx
      rw [updG_ne _ _ e]
      exact h.no x hx
  · by_cases e : x = k
    · rw [e, updG_self]; simp
    · rw [if_neg e] at hx
      rw [updG_ne _ _ e]
      exact h.nz x v hx
  · by_cases e : x = k
    · rw [if_pos e] at hx
      injection hx with hx
      subst hx
      rw [e, updG_self]
      exact hr.fr hf2 (fun g e1 e2 => (hnew g e1).2 e2)
    · rw [if_neg e] at hx
      rw [updG_ne _ _ e]
      refine ((h.row x v hx).fr hf (fun g hgo q => ?_)).fr hf2 (fun g e1 e2 => (h.rn x v g hx e1).2 e2)
      rcases q with q | q
      · exact (h.rn x v g hx hgo).2 q
      · obtain ⟨v0, hv0, hq⟩ := hold g q
        exact h.ap x k v v0 g e hx hv0 hgo hq
  · by_cases e : x = k
    · rw [if_pos e] at hx
      injection hx with hx
      subst hx
      exact hnew g hgo
    · rw [if_neg e] at hx
      exact h.rn x v g hx hgo
  · by_cases e1 : x = k
    · rw [if_pos e1] at hv1
      injection hv1 with hv1
      subst hv1
      have e2 : x' ≠ k := fun q => hne (by rw [e1, q])
      rw [if_neg e2] at hv2
      exact hap x' v2 g e2 hv2 hg2 hgo
    · rw [if_neg e1] at hv1
      by_cases e2 : x' = k
      · rw [if_pos e2] at hv2
        injection hv2 with hv2
        subst hv2
        exact hap x v1 g e1 hv1 hgo hg2
      · rw [if_neg e2] at hv2
        exact h.ap x x' v1 v2 g hne hv1 hv2 hgo hg2
  · refine (hf.mono ?_).trans (hf2.mono ?_)
    · rintro g (e | e)
      · exact .inr (.inl e)
      · exact (h.own e).1
    · intro g e; exact .inr (.inl e)
  · rintro g (e | e | ⟨x, v, hx, hgo⟩)
    · exact .inl (.inl e)
    · exact .inl (.inr (.inl e))
    · dsimp only at hx
      by_cases e : x = k
      · rw [if_pos e] at hx
        injection hx with hx
        subst hx
        rcases hg g hgo with q | q
        · exact .inl (h.own q).1
        · exact .inr q
      · rw [if_neg e] at hx
        exact .inl (.inr (.inr ⟨x, v, hx, hgo⟩))
end
theorem infoG : (Try.prog.info? 45).map (fun i => (i.zero, i.size, i.bytes)) = some (some (.agg #[.int .i64 0, .int .i64 0]), 2, 16) := by kernel_rfl
theorem zeroG : ∀ u : World, (zeroValue 43).run Try.prog u = .ok (.slice none 0 0) u := fun _ => by kernel_rfl
set_option maxHeartbeats 1000000 in
theorem lednew_any (w : World) :
    Calls Try.prog 9 #[] w fun e w' => e = .returned (.pointer (some ⟨w.heap.size + 1, 0, none⟩)) ∧ LedAt w' (w.heap.size + 1) w.heap.size 0 (fun _ => none) (fun _ => []) ∧ Below w.heap.size w w' := by
  have hmm := @run_makeMap Try.prog
  go_enter Try.func9, Try.ntmps9
  go_wp2
  go_ret
  have hm0 : Mg.MapS whoC (w.alloc (.map #[] 0)) w.heap.size 0 (fun _ => none) := Mg.MapS.new w
  have hb : Below (w.alloc (.map #[] 0)).heap.size (w.alloc (.map #[] 0)) ((w.alloc (.map #[] 0)).alloc (.cells #[.map (some w.heap.size)] 42)) := (Below.refl _ _).alloc (Nat.le_refl _) _
  have hl := heap_alloc_new (w.alloc (.map #[] 0)) (.cells #[.map (some w.heap.size)] 42)
  rw [show (w.alloc (.map #[] 0)).heap.size = w.heap.size + 1 by simp] at hl
  refine ⟨rfl, ⟨?_, hm0.keep hb, by omega, fun _ _ => rfl, (fun _ _ h => by cases h), (fun _ _ h => by cases h), (fun _ _ _ h => by cases h), (fun _ _ _ _ _ _ h => by cases h)⟩, ?_⟩
  · exact hl
  · exact (((Below.refl _ _).alloc (Nat.le_refl _) _).alloc (by simp) _)
/-- so many keys there are behind a key's being put, and their rows. -/
def cntV (V : VM) (k : Who) (c : Nat) : Nat := if (V k).isSome then c else c + 1
def putV (V : VM) (k : Who) (v : Value) : VM := fun x => if x = k then some v else V x
theorem lt_of_lt_eq {a b c : Nat} (h : a < b ∧ c = b) : a < c := by omega
set_option maxHeartbeats 4000000 in
theorem ledadd_any (k : Who) (at_ co : Int) (w : World) {b m c : Nat} {V : VM} {G : GM} (h : LedAt w b m c V G) (hc : c < 1000) (hn : (G k).length < 1000) :
    Calls Try.prog 10 #[.pointer (some ⟨b, 0, none⟩), .agg #[.int .i64 k.r, .string k.s], .int .i64 at_, .int .i64 co] w fun e w' => e = .returned (.tuple #[]) ∧ ∃ v',
      LedAt w' b m (cntV V k c) (putV V k v') (updG G k (G k ++ [(at_, co)])) ∧ Fr (LedAll b m V) w w' ∧ ∀ g, LedAll b m (putV V k v') g → LedAll b m V g ∨ w.heap.size ≤ g := by
  obtain ⟨i0, hi0, hz0, hz1, hz2⟩ := info_parts infoG
  have HI := Lib.hid (And.intro hi0 (And.intro hz0 (And.intro hz1 hz2)))
  have HC := Lib.hid (And.intro hc hn)
  clear hi0 hz0 hz1 hz2 hc hn
  obtain ⟨w1, hw1, k1, l1, s1⟩ := box_new w #[.int .i64 k.r, .string k.s] 31
  have H1 := Lib.hid (h.keep l1)
  have HL1 := Lib.hid l1
  obtain ⟨bx, hbx⟩ : ∃ z, z = w.heap.size := ⟨_, rfl⟩
  have HBX := Lib.hid (show bx ≠ b ∧ bx ≠ m ∧ ∀ g, LedAll b m V g → g ≠ bx from ⟨fun e => by have := lt_of_block h.l; omega, fun e => by have := h.mp.lt; omega, fun g hg e => by have := h.lt g hg; omega⟩)
  rw [← hbx] at k1
  have K1 := Lib.hid k1
  have HB := Lib.hid hbx
  have kl := H1.out.l.rd
  have kb := K1.out.rd
  clear h l1 s1 k1 hbx
  have hnm := run_eql_map_nil (P := Try.prog) w1 40 31 43 (some m) Try.underlying40
  go_enter Try.func10, Try.ntmps10
  go_upto_region 4 with (fail)
  rw [← HB.out]
  clear hnm kl kb hw1
  have D1 := Lib.hid (show LedAt w1.drew b m c V G from H1.out.keep (below_draws (Below.refl _ _) 1))
  have KD := Lib.hid (show Blk w1.drew bx 31 #[.int .i64 k.r, .string k.s] from K1.out)
  have HNE := Lib.hid (show b ≠ m ∧ bx ≠ m from ⟨H1.out.ne, HBX.out.2.1⟩)
  obtain ⟨v0, hv0⟩ : ∃ z, z = (V k).getD (.slice none 0 0) := ⟨_, rfl⟩
  have HV0 := Lib.hid hv0
  have VN := Lib.hid (show ∀ g, v0.ownBlock = some g → g ≠ b ∧ g ≠ m ∧ g ≠ bx from fun g e => by
    rw [hv0] at e
    exact ⟨(H1.out.own e).2.1, (H1.out.own e).2.2, HBX.out.2.2 g (H1.out.own e).1⟩)
  have W1 := Lib.hid (show OwG w1.drew v0 (G k) from by rw [hv0]; exact D1.out.get k)
  have st : (∀ j, w1.drew.cell? ⟨b, j, none⟩ = (#[.map (some m)] : Array Value)[j]?) ∧ ∀ j, w1.drew.cell? ⟨bx, j, none⟩ = (#[.int .i64 k.r, .string k.s] : Array Value)[j]? := ⟨D1.out.l.rd, KD.out.rd⟩
  clear hv0
  refine wp_region_held_drew (S := fun wx => (∀ j, wx.cell? ⟨b, j, none⟩ = (#[.map (some m)] : Array Value)[j]?) ∧ ∀ j, wx.cell? ⟨bx, j, none⟩ = (#[.int .i64 k.r, .string k.s] : Array Value)[j]?) (by kernel_rfl) st (fun hHeld => ?_)
  clear st
  refine wpAnyH_take (i := 0) (oi := ?_) (v := ?_) ?_ ?_ ?_ ?_ ?_ ?_ ?_ ?_
  rotate_left 2
  · simp only [List.getElem?_toArray, List.getElem?_cons_succ, List.getElem?_cons_zero]; rfl
  · kernel_rfl
  · kernel_rfl
  · kernel_rfl
  · exact fun _ _ _ h => h
  · refine Or.inl ⟨by rfl, ?_⟩
    intro w' hSw
    (try dsimp only at hSw)
    go_simp
    all_goals (with_reducible rfl)
  · assumption
  try simp only [Act.put, List.setIfInBounds_toArray, List.set_cons_zero, List.set_cons_succ]
  refine wpAnyH_take (i := 1) (oi := ?_) (v := ?_) ?_ ?_ ?_ ?_ ?_ ?_ ?_ ?_
  rotate_left 2
  · simp only [List.getElem?_toArray, List.getElem?_cons_succ, List.getElem?_cons_zero]; rfl
  · kernel_rfl
  · kernel_rfl
  · kernel_rfl
  · exact fun _ _ _ h => h
  · refine Or.inl ⟨by rfl, ?_⟩
    intro w' hSw
    (try dsimp only at hSw)
    go_simp
    all_goals (with_reducible rfl)
  · assumption
  try simp only [Act.put, List.setIfInBounds_toArray, List.set_cons_zero, List.set_cons_succ]
  refine wpAnyH_take (i := 2) (oi := ?_) (v := ?_) ?_ ?_ ?_ ?_ ?_ ?_ ?_ ?_
  rotate_left 2
  · simp only [List.getElem?_toArray, List.getElem?_cons_succ, List.getElem?_cons_zero]; rfl
  · kernel_rfl
  · kernel_rfl
  · kernel_rfl
  · exact fun _ _ _ h => h
  · refine Or.inl ⟨by rfl, ?_⟩
    intro w' hSw
    (try dsimp only at hSw)
    go_simp
    all_goals (with_reducible rfl)
  · assumption
  try simp only [Act.put, List.setIfInBounds_toArray, List.set_cons_zero, List.set_cons_succ]
  refine wpAnyH_take (i := 3) (oi := ?_) (v := ?_) ?_ ?_ ?_ ?_ ?_ ?_ ?_ ?_
  rotate_left 2
  · simp only [List.getElem?_toArray, List.getElem?_cons_succ, List.getElem?_cons_zero]; rfl
  · kernel_rfl
  · kernel_rfl
  · kernel_rfl
  · exact fun _ _ _ h => h
  · refine Or.inl ⟨by rfl, ?_⟩
    intro w' hSw
    (try dsimp only at hSw)
    go_simp
    all_goals (with_reducible rfl)
  · assumption
  try simp only [Act.put, List.setIfInBounds_toArray, List.set_cons_zero, List.set_cons_succ]
  refine wpAnyH_take (i := 4) (oi := ?_) (v := ?_) ?_ ?_ ?_ ?_ ?_ ?_ ?_ ?_
  rotate_left 2
  · simp only [List.getElem?_toArray, List.getElem?_cons_succ, List.getElem?_cons_zero]; rfl
  · kernel_rfl
  · kernel_rfl
  · kernel_rfl
  · exact fun _ _ _ h => h
  · refine Or.inl ⟨by rfl, ?_⟩
    intro w' hSw
    (try dsimp only at hSw)
    go_simp
    all_goals (with_reducible rfl)
  · assumption
  try simp only [Act.put, List.setIfInBounds_toArray, List.set_cons_zero, List.set_cons_succ]
  refine wpAnyH_take (i := 5) (oi := ?_) (v := ?_) ?_ ?_ ?_ ?_ ?_ ?_ ?_ ?_
  rotate_left 2
  · simp only [List.getElem?_toArray, List.getElem?_cons_succ, List.getElem?_cons_zero]; rfl
  · kernel_rfl
  · kernel_rfl
  · kernel_rfl
  · exact fun _ _ _ h => h
  · refine Or.inl ⟨by rfl, ?_⟩
    intro w' hSw
    (try dsimp only at hSw)
    go_simp
    all_goals (with_reducible rfl)
  · assumption
  try simp only [Act.put, List.setIfInBounds_toArray, List.set_cons_zero, List.set_cons_succ]
  refine wpAnyH_take (i := 6) (oi := ?_) (v := ?_) ?_ ?_ ?_ ?_ ?_ ?_ ?_ ?_
  rotate_left 2
  · simp only [List.getElem?_toArray, List.getElem?_cons_succ, List.getElem?_cons_zero]; rfl
  · kernel_rfl
  · kernel_rfl
  · kernel_rfl
  · exact fun _ _ _ h => h
  · refine Or.inl ⟨by rfl, ?_⟩
    intro w' hSw
    (try dsimp only at hSw)
    go_simp
    all_goals (with_reducible rfl)
  · assumption
  try simp only [Act.put, List.setIfInBounds_toArray, List.set_cons_zero, List.set_cons_succ]
  refine wpAnyH_take (i := 7) (oi := ?_) (v := ?_) ?_ ?_ ?_ ?_ ?_ ?_ ?_ ?_
  rotate_left 2
  · simp only [List.getElem?_toArray, List.getElem?_cons_succ, List.getElem?_cons_zero]; rfl
  · kernel_rfl
  · kernel_rfl
  · kernel_rfl
  · exact fun _ _ _ h => h
  · refine Or.inl ⟨by rfl, ?_⟩
    intro w' hSw
    (try dsimp only at hSw)
    go_simp
    all_goals (with_reducible rfl)
  · assumption
  try simp only [Act.put, List.setIfInBounds_toArray, List.set_cons_zero, List.set_cons_succ]
  have BA := Lib.hid (show Below w1.drew.heap.size w1.drew (w1.alloc (.cells #[.int .i64 at_, .int .i64 co] 45)).drew from (Below.refl _ _).alloc (Nat.le_refl _) _)
  have LA := Lib.hid (D1.out.keep BA.out)
  have KA := Lib.hid (KD.out.keep BA.out)
  have NA := Lib.hid (show Blk (w1.alloc (.cells #[.int .i64 at_, .int .i64 co] 45)).drew w1.heap.size 45 #[.int .i64 at_, .int .i64 co] from heap_alloc_new w1.drew _)
  have WA := Lib.hid (W1.out.keep BA.out)
  refine wpAnyH_ready (rs := [8]) (by kernel_rfl) (by simp) ?_
  refine AllReadyH.cons (o := ?_) ?_ ?_ ?_
  rotate_left 1
  · simp only [List.getElem?_toArray, List.getElem?_cons_succ, List.getElem?_cons_zero]; rfl
  rotate_left 1
  · exact AllReadyH.nil
  intro K hK
  go_simp
  skip
  refine hK.out _ _ ⟨LA.out.l.rd, KA.out.rd⟩ (fun hHeld => ?_)
  clear hK K
  try simp only [Act.put, List.setIfInBounds_toArray, List.set_cons_zero, List.set_cons_succ]
  obtain ⟨sn, w6, hent, f6, z6, hnx⟩ := LA.out.mp.entry (C := whoC) who_law Try.underlying40 (by have := HC.out; unfold maxLen; omega) zeroG (s := k) trivial
  rw [← HV0.out] at hent
  change (Instr.mapEntry _ _ (.agg #[.int .i64 k.r, .string k.s])).run _ _ = _ at hent
  have L6 := Lib.hid (LA.out.l.fr f6 HNE.out.1)
  have K6 := Lib.hid (KA.out.fr f6 HNE.out.2)
  have N6 := Lib.hid (NA.out.fr f6 (fun e => by have := H1.out.mp.lt; omega))
  have OW := Lib.hid (show OwG w6 v0 (G k) from WA.out.fr f6 (fun g e e2 => (VN.out g e).2.1 e2))
  have F6 := Lib.hid (show Fr (fun j => j = m ∨ v0.ownBlock = some j) w1 w6 from ((Fr.refl _ _).alloc _).drew.trans (f6.mono (fun _ e => Or.inl e)))
  have Z6 := Lib.hid (show w1.heap.size ≤ w6.heap.size from F6.out.size)
  have M6 := Lib.hid (And.intro LA.out.mp.lt z6)
  have HNX := Lib.hid hnx
  clear hnx z6 f6
  refine wpAnyH_ready (rs := [9]) (by kernel_rfl) (by simp) ?_
  refine AllReadyH.cons (o := ?_) ?_ ?_ ?_
  rotate_left 1
  · simp only [List.getElem?_toArray, List.getElem?_cons_succ, List.getElem?_cons_zero]; rfl
  rotate_left 1
  · exact AllReadyH.nil
  intro K hK
  go_simp
  skip
  refine hK.out _ _ ⟨L6.out.rd, K6.out.rd⟩ (fun hHeld => ?_)
  clear hK K
  try simp only [Act.put, List.setIfInBounds_toArray, List.set_cons_zero, List.set_cons_succ]
  clear hent
  refine wpAnyH_take (i := 10) (oi := ?_) (v := ?_) ?_ ?_ ?_ ?_ ?_ ?_ ?_ ?_
  rotate_left 2
  · simp only [List.getElem?_toArray, List.getElem?_cons_succ, List.getElem?_cons_zero]; rfl
  · kernel_rfl
  · kernel_rfl
  · kernel_rfl
  · exact fun _ _ _ h => h
  · refine Or.inl ⟨by rfl, ?_⟩
    intro w' hSw
    (try dsimp only at hSw)
    go_simp
    all_goals (with_reducible rfl)
  · assumption
  try simp only [Act.put, List.setIfInBounds_toArray, List.set_cons_zero, List.set_cons_succ]
  refine wpAnyH_take (i := 12) (oi := ?_) (v := ?_) ?_ ?_ ?_ ?_ ?_ ?_ ?_ ?_
  rotate_left 2
  · simp only [List.getElem?_toArray, List.getElem?_cons_succ, List.getElem?_cons_zero]; rfl
  · kernel_rfl
  · kernel_rfl
  · kernel_rfl
  · exact fun _ _ _ h => h
  · refine Or.inl ⟨by rfl, ?_⟩
    intro w' hSw
    (try dsimp only at hSw)
    go_simp
    all_goals (with_reducible rfl)
  · assumption
  try simp only [Act.put, List.setIfInBounds_toArray, List.set_cons_zero, List.set_cons_succ]
  refine wpAnyH_ready (rs := [11]) (by kernel_rfl) (by simp) ?_
  refine AllReadyH.cons (o := ?_) ?_ ?_ ?_
  rotate_left 1
  · simp only [List.getElem?_toArray, List.getElem?_cons_succ, List.getElem?_cons_zero]; rfl
  rotate_left 1
  · exact AllReadyH.nil
  intro K hK
  refine step_append_lies _ (by rfl) _ _ 43 (by rfl) 0 45 i0 (.agg #[.int .i64 0, .int .i64 0]) 2 16 (by rfl) HI.out.1 HI.out.2.1 HI.out.2.2.1 HI.out.2.2.2 (by rfl) (by omega) v0 (G k).length (rws encG (G k)) (by rfl) OW.out ⟨w1.heap.size, 0, none⟩ 1 1 [.int .i64 at_, .int .i64 co] (by rfl) (by rfl) (World.news_of_block N6.out) (by simp [Value.oneCell']) (by omega) (by have := HC.out; unfold maxLen; omega) (by have := HC.out; omega) (Nat.zero_le _) _ rfl ?_; intro gl cl w11 hown11 hgr11 hat11 hlt11; have R11 := Lib.hid (owg_new hown11); have G11 := Lib.hid (_root_.Go.Proofs.Yteeinckmmbdfoaa.G.fr_row hgr11); have A11 := Lib.hid hat11; have L11 := Lib.hid (L6.out.fr G11.out (fun e => (VN.out b e).1 rfl)); have K11 := Lib.hid (K6.out.fr G11.out (fun e => (VN.out bx e).2.2 rfl)); obtain ⟨w12, hst, m12, f12, z12⟩ := HNX.out w11 (.slice (some ⟨gl, 0, none⟩) ((G k).length + 1) cl) (G11.out.block m (lt_of_lt_eq M6.out) (fun e => (VN.out m e).2.1 rfl)); have L12 := Lib.hid (L11.out.fr f12 HNE.out.1); have K12 := Lib.hid (K11.out.fr f12 HNE.out.2); have MM12 := Lib.hid (And.intro m12 f12); clear hown11 hgr11 hat11 hlt11 m12 f12 z12
  refine hK.out _ _ ⟨L11.out.rd, K11.out.rd⟩ (fun hHeld => ?_)
  clear hK K
  try simp only [Act.put, List.setIfInBounds_toArray, List.set_cons_zero, List.set_cons_succ]
  refine wpAnyH_ready (rs := [13]) (by kernel_rfl) (by simp) ?_
  refine AllReadyH.cons (o := ?_) ?_ ?_ ?_
  rotate_left 1
  · simp only [List.getElem?_toArray, List.getElem?_cons_succ, List.getElem?_cons_zero]; rfl
  rotate_left 1
  · exact AllReadyH.nil
  intro K hK
  go_simp
  skip
  refine hK.out _ _ ⟨L12.out.rd, K12.out.rd⟩ (fun hHeld => ?_)
  clear hK K
  try simp only [Act.put, List.setIfInBounds_toArray, List.set_cons_zero, List.set_cons_succ]
  refine wpAnyH_done (by kernel_rfl) ?_ _
  clear hHeld hst
  go_wp2
  go_end0
  have P := H1.out.push (k := k) R11.out (by rw [← HV0.out]; exact F6.out.trans (G11.out.mono (fun _ e => .inr e))) (by rw [← HV0.out]; intro g e; injection e with e; rw [← e]; rcases A11.out with q | q; exact .inl q; exact .inr (by rw [q]; exact Z6.out)) MM12.out.1 MM12.out.2
  exact ⟨rfl, _, P.1, (Fr.of_below HL1.out).trans P.2.1, fun g hg => (P.2.2 g hg).imp id (fun q => Nat.le_trans HL1.out.size q)⟩
end Go.Proofs.Yteeinckmmbdfoaa
