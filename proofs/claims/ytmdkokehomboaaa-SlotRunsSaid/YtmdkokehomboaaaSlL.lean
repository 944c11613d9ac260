/- What the laws of layer 6 (slot) share: the example, light calls, sketches made of draws. -/
import Derived.Test.YtmdkokehomboaaaSlN
import Derived.Test.YtmdkokehomboaaaRdL
import Derived.Test.YtmdkokehomboaaaLiftS
namespace Go.Proofs.Ytmdkokehomboaaa
set_option linter.unusedSimpArgs false
set_option linter.unusedVariables false
set_option maxRecDepth 100000
open Go.ChangeShapes Go.WideShapes Go.ChangeAt Go.RowKit
open Ar (inR)
theorem rdI_none (w : World) (k : IntKind) : RdI w k none 0 0 [] := ⟨rfl, Nat.le_refl _, Nat.zero_le _, fun h => absurd h (by omega), fun z hz => by simp at hz⟩
theorem rB_lt' (zs : List Int) (i : Nat) : rB zs i < 2305843009213693951 := by unfold rB; exact Nat.mod_lt _ (by omega)
theorem rows_lt (zs : List Int) (k : Nat) : ∀ j, j < k → rX zs j < 2305843009213693951 ∧ rA zs j < 2305843009213693951 ∧ rB zs j < 2305843009213693951 := fun j _ => ⟨rX_lt zs j, rA_lt zs j, rB_lt' zs j⟩
theorem clamp_nn {z : Int} (h : 0 ≤ z ∧ z ≤ 9223372036854775807) : clamp z = z := by
  unfold clamp
  split
  · omega
  · split <;> omega
/-- what one key has of an empty sketch. -/
theorem first_at (P : Nat → ByteArray → Nat) {k : Nat} (s : ByteArray) {c : Int} (hc : 1 ≤ c ∧ c ≤ 9223372036854775807) {j : Nat} (hj : j < k) : Sk.add (fun _ _ => 0) P k s c j (P j s) = c := by
  have h0 : Sk.leastR (fun _ _ => 0) P s (k - 1) = 0 := by obtain ⟨_, _, he⟩ := Sk.leastR_is (fun _ _ => (0 : Int)) P s (k - 1); exact he
  unfold Sk.add
  rw [if_neg (by omega), h0, Int.zero_add, clamp_nn (by omega)]
  unfold Sk.raise
  rw [if_pos ⟨hj, rfl⟩]
  show max 0 c = c
  omega
theorem first_least (P : Nat → ByteArray → Nat) {k : Nat} (hk : 1 ≤ k) (s : ByteArray) {c : Int} (hc : 1 ≤ c ∧ c ≤ 9223372036854775807) : Sk.leastR (Sk.add (fun _ _ => 0) P k s c) P s (k - 1) = c := by
  obtain ⟨j, hj, he⟩ := Sk.leastR_is (Sk.add (fun _ _ => 0) P k s c) P s (k - 1)
  rw [he]; exact first_at P s hc (by omega)
set_option maxHeartbeats 2000000 in
theorem slfit_any (w : World) : Calls Try.prog 9 #[] w fun e w' => e = .returned (.bool true) ∧ Below w.heap.size w w' := by
  have CR := Lib.hid (show Calls Try.prog 12 #[.slice none 0 0, .int .i64 2] w (fun e w' => e = .returned (.slice (some ⟨w.heap.size, 0, none⟩) 2 2) ∧ RowsAt w' w.heap.size 2 (rX []) (rA []) (rB []) ∧ Below w.heap.size w w') from rows_any w none 0 0 [] (rdI_none w _) 2 (by omega))
  have CN := Lib.hid (fun wx (hr : RowsAt wx w.heap.size 2 (rX []) (rA []) (rB [])) => show Calls Try.prog 11 #[.slice (some ⟨w.heap.size, 0, none⟩) 2 2, .int .i64 3] wx _ from snew_any 2 3 (by omega) (by omega) w.heap.size _ _ _ wx hr (rows_lt [] 2))
  have hs : (⟨#[97]⟩ : ByteArray).size ≤ maxLen := by show 1 ≤ maxLen; unfold maxLen; omega
  have HS := Lib.hid hs
  have CB := Lib.hid (fun wx => show Calls Try.prog 21 #[.int .i64 2, .int .i64 3] wx (fun e w' => e = .returned (.int .i64 48) ∧ Below wx.heap.size wx w') from sbytes_any 2 3 (by omega) (by omega) (by omega) wx)
  clear hs
  go_enter Try.func9, Try.ntmps9
  go_upto_region 4 with (first
    | (go_at_call 12; ((with_reducible refine CR.out.mono ?_); rintro e w1 ⟨rfl, r1, b1⟩; have R1 := Lib.hid r1; have B1 := Lib.hid b1; clear r1 b1))
    | (go_at_call 11; ((with_reducible refine (CN.out _ R1.out).mono ?_); rintro e w2 ⟨N, rfl, s2, n1, n2, n3, n4, n5, o1, o2, b2⟩; have S2 := Lib.hid s2; have N2 := Lib.hid (And.intro n1 (And.intro (Nat.le_trans B1.out.size o1) (Nat.le_trans B1.out.size o2))); have B2 := Lib.hid (B1.out.trans (b2.mono B1.out.size)); clear s2 n1 n2 n3 n4 n5 o1 o2 b2)))
  clear CR CN
  have CA := Lib.hid (sadd_any ⟨#[97]⟩ HS.out 5 (by omega) w2 S2.out)
  have h1 := first_least N.P (k := N.k) (by rw [N2.out.1]; omega) ⟨#[97]⟩ (c := 5) (by omega)
  have h2 := first_at N.P (k := N.k) ⟨#[97]⟩ (c := 5) (by omega) (j := 1) (by rw [N2.out.1]; omega)
  have HA := Lib.hid (And.intro h1 h2)
  clear h1 h2
  go_upto_region 5 with (go_at_call 17; ((with_reducible refine CA.out.mono ?_); rintro e w3 ⟨rfl, s3, f3⟩; have S3 := Lib.hid s3; have B3 := Lib.hid (B2.out.trans (f3.below B2.out.size (fun k hk => by have := N2.out.2.2; omega))); clear s3 f3))
  have CL := Lib.hid (sleast_any ⟨#[97]⟩ HS.out w3 S3.out)
  rw [HA.out.1] at CL
  have CC := Lib.hid (fun wx (hb : Below w3.heap.size w3 wx) => scount_z 1 1 rfl ⟨#[97]⟩ HS.out wx (S3.out.keep hb) (by rw [N2.out.1]; omega))
  rw [HA.out.2] at CC
  go_wp2_with (first
    | (go_at_call 19; ((with_reducible refine CL.out.mono ?_); rintro e w4 ⟨rfl, b4⟩; have B4 := Lib.hid b4; clear b4))
    | (go_at_call 18; ((with_reducible refine (CC.out _ B4.out).mono ?_); rintro e w5 ⟨rfl, b5⟩; have B5 := Lib.hid (B4.out.trans (b5.mono B4.out.size)); clear b5))
    | (go_at_call 21; ((with_reducible refine (CB.out _).mono ?_); rintro e w6 ⟨rfl, b6⟩; have B6 := Lib.hid (B5.out.trans (b6.mono B5.out.size)); clear b6)))
  go_ret
  exact ⟨rfl, B3.out.trans (B6.out.mono B3.out.size)⟩
/-- a loop's own pair, in a box of its own. -/
theorem box2 (X : World) (t : TypeId) (z0 z1 a b : Value) : ∃ w1 w2, X.alloc (.cells #[z0, z1] t) = w1 ∧
    (∀ j, w1.cell? ⟨X.heap.size, j, none⟩ = (#[z0, z1] : Array Value)[j]?) ∧ (∀ j, w1.frozen? ⟨X.heap.size, j, none⟩ = false) ∧
    (w1.setCell ⟨X.heap.size, 0, none⟩ a).setCell ⟨X.heap.size, 1, none⟩ b = w2 ∧
    Below X.heap.size X w2 ∧ Blk w2 X.heap.size t #[a, b] := by
  obtain ⟨w1, hw1, kc1, l1, s1⟩ := box_new X #[z0, z1] t
  have hl := lt_of_block kc1
  have hset : (w1.setCell ⟨X.heap.size, 0, none⟩ a).setCell ⟨X.heap.size, 1, none⟩ b = setObj w1 X.heap.size (.cells #[a, b] t (0, 0)) := by
    rw [setCell_obj kc1]
    simp only [setCell_in hl, List.setIfInBounds_toArray, List.set_cons_zero, List.set_cons_succ]
  exact ⟨w1, _, hw1, kc1.rd, kc1.wr, hset, l1.trans ((Fr.setObj (F := fun k => k = X.heap.size) (Fr.refl _ _) rfl _).below l1.size (fun k hk => by omega)), setObj_at hl _⟩
/-- are calls light? -/
def lightB (L : List (ByteArray × Int)) : Bool := decide (L.length ≤ 100) && L.all fun a => decide (a.1.size ≤ 100)
theorem lightB_pre {L : List (ByteArray × Int)} (h : ¬ 100 < L.length) : lightB L = L.all fun a => decide (a.1.size ≤ 100) := by
  unfold lightB; rw [decide_eq_true (by omega)]; rfl
theorem allS_up {L : List (ByteArray × Int)} {i : Nat} {a : ByteArray × Int} (h : L[i]? = some a) (hs : a.1.size ≤ 100) (hp : ∀ j b, j < i → L[j]? = some b → b.1.size ≤ 100) : ∀ j b, j < i + 1 → L[j]? = some b → b.1.size ≤ 100 := by
  intro j b hj hb
  by_cases e : j = i
  · subst e; rw [h] at hb; cases hb; exact hs
  · exact hp j b (by omega) hb
set_option maxHeartbeats 1000000 in
theorem light_any (A : Option Addr) (n c : Nat) (L : List (ByteArray × Int)) (w : World) (hr : RdL w A n c 2 encSI L) (hok : ∀ a ∈ L, okSI a) :
    Calls Try.prog 10 #[.slice A n c] w fun e w' => e = .returned (.bool (lightB L)) ∧ Below w.heap.size w w' := by
  have hmx := hr.max
  unfold maxLen at hmx
  have hcp := hr.cap
  have hlen := hr.len
  by_cases hn : 100 < n
  · have e : lightB L = false := by unfold lightB; rw [hlen, decide_eq_false (by omega)]; rfl
    rw [e]
    have t1 : decide ((100 : Int) < (n : Int)) = true := by rw [decide_eq_true_iff]; omega
    clear hr hok hlen e
    go_enter Try.func10, Try.ntmps10
    go_wp2
    go_ret
    exact ⟨rfl, Below.refl _ _⟩
  have HR := Lib.hid hr
  have HO := Lib.hid hok
  have HE := Lib.hid (lightB_pre (L := L) (by omega))
  have t1 : decide ((100 : Int) < (n : Int)) = false := by rw [decide_eq_false_iff_not]; omega
  have HLn := Lib.hid hlen
  clear hr hok hlen
  go_enter Try.func10, Try.ntmps10
  go_wp2
  go_loopg [10] n (fun kk si wr => ∃ i : Nat, i ≤ n ∧ Hid (kk = n - i) ∧ si = .int .i64 (i : Int) ∧ Hid (Below w.heap.size w wr) ∧ Hid (∀ j b, j < i → L[j]? = some b → b.1.size ≤ 100))
  case atStart => exact ⟨0, by omega, Lib.hid rfl, rfl, Lib.hid (Below.refl _ _), Lib.hid (fun j b h => absurd h (by omega))⟩
  case round =>
    obtain ⟨i, hi, HKK, rfl, HB, HA⟩ := hrel
    by_cases hin : i < n
    · obtain ⟨b, off, rfl, hbl, hc⟩ := (HR.out.below HB.out).at_ (by omega)
      obtain ⟨⟨ky, cs⟩, ha⟩ : ∃ a, L[i]? = some a := ⟨_, List.getElem?_eq_getElem (by rw [HLn.out]; exact hin)⟩
      have hoka := HO.out _ (List.mem_of_getElem? ha)
      have kr0 : wr.cell? ⟨b, off + i * 2, none⟩ = some (.string ky) := hc i _ ha 0 (by omega)
      have kr1 : wr.cell? ⟨b, off + i * 2 + 1, none⟩ = some (.int .i64 cs) := hc i _ ha 1 (by omega)
      unfold okSI maxLen at hoka
      simp only at hoka
      obtain ⟨hky, hcs⟩ := hoka
      obtain ⟨x1, x2, ex1, kr, kw, ex2, bl2, kc2⟩ := box2 wr 35 (.string ⟨#[]⟩) (.int .i64 0) (.string ky) (.int .i64 cs)
      have BL := Lib.hid (HB.out.trans (bl2.mono HB.out.size))
      have kc3 := kc2.rd
      have t2 : (i : Int) < (n : Int) := by omega
      have t3 : (n : Int) ≤ 100 := by omega
      have HIA := Lib.hid (And.intro ha hin)
      clear hc hbl ha bl2 kc2 hcs
      go_upto_region 6 with (fail)
      clear kr kw ex1 kr0 kr1 ex2
      by_cases h1 : (100 : Int) < (ky.size : Int)
      · have H1 := Lib.hid h1
        go_wp2
        go_ret
        have e : lightB L = false := by
          rw [HE.out, List.all_eq_false]
          exact ⟨(ky, cs), List.mem_of_getElem? HIA.out.1, by have := H1.out; simp; omega⟩
        exact ⟨by rw [e]; rfl, BL.out⟩
      · have H1 := Lib.hid h1
        go_wp2
        go_roundg (n - (i + 1))
        case measure => have := HKK.out; have := HIA.out.2; omega
        case rel => exact ⟨i + 1, HIA.out.2, Lib.hid rfl, by go_num, BL, Lib.hid (allS_up HIA.out.1 (by show ky.size ≤ 100; have := H1.out; omega) HA.out)⟩
    · have hie : i = n := by omega
      subst hie
      have e : lightB L = true := by
        rw [HE.out, List.all_eq_true]
        intro a ha
        obtain ⟨j, hj, he⟩ := List.getElem_of_mem ha
        have := HA.out j a (by have := HLn.out; omega) (by rw [List.getElem?_eq_getElem hj, he])
        simpa using this
      have HE2 := Lib.hid e
      clear e
      go_wp2
      go_ret
      exact ⟨by rw [HE2.out]; rfl, HB.out⟩
end Go.Proofs.Ytmdkokehomboaaa
