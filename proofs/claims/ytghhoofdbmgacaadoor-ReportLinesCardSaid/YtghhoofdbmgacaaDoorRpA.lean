/- The contracts of layer 21 (report): numbers, words. -/
import Derived.Test.YtghhoofdbmgacaaDoorFaW
import Derived.Test.YtghhoofdbmgacaaDoorRpM
import Derived.Test.YtghhoofdbmgacaaDoorShelf
import Derived.Lib.AppendIntMem
import Derived.WalkSmall
namespace Go.Proofs.YtghhoofdbmgacaaDoor
set_option linter.unusedSimpArgs false
set_option linter.unusedVariables false
open Go.ChangeShapes Go.WideShapes Go.ChangeAt Go.RowKit Go.Deep
/-- the library's table of powers of ten. -/
def Tb (w : World) : Prop := Lib.TabIs Tryd.prog w "internal/strconv.uint64pow10" .u64 Lib.pow10Tab
theorem Tb.below {w w' : World} (h : Tb w) (hb : Below w.heap.size w w') : Tb w' := by
  unfold Tb Lib.TabIs at h ⊢
  have hg : ∃ g, Tryd.prog.globalNamed "internal/strconv.uint64pow10" = some g := by
    cases hg : Tryd.prog.globalNamed "internal/strconv.uint64pow10" with
    | none => unfold World.var? at h; rw [hg] at h; cases h
    | some g => exact ⟨g, rfl⟩
  obtain ⟨g, hg⟩ := hg
  refine var?_below hb hg ?_ h
  unfold World.var? at h
  rw [hg] at h
  rcases Nat.lt_or_ge g w.heap.size with h1 | h1
  · exact h1
  · simp [Array.getElem?_eq_none h1] at h
theorem itoa_str (x : Int) : (⟨(Lib.itoa x).toArray⟩ : ByteArray) = strOfNums (decZ x) := by
  have := str_nums ⟨(Lib.itoa x).toArray⟩
  rw [← this]
  congr 1
theorem format_any (x : Int) (hx : i64P x) (w : World) (ht : Tb w) :
    Calls Tryd.prog 21 #[.int .i64 x, .int .i64 10] w fun e w' => e = .returned (.string (strOfNums (decZ x))) ∧ Below w.heap.size w w' := by
  refine (Tryd.strconv_FormatInt_10 x hx.1 hx.2 w ht).mono ?_
  rintro e w' ⟨rfl, k, os, rfl⟩
  rw [itoa_str]
  exact ⟨rfl, Lib.below_grow _ _ (Nat.le_refl _) _ _⟩
theorem str_lit1 (x : UInt8) : (⟨#[x]⟩ : ByteArray) = strOfNums [(x.toNat : Int)] := by
  apply ByteArray.ext
  simp [strOfNums]
theorem dec_len (x : Int) (hx : i64P x) : (decZ x).length ≤ 20 := by
  have h : ∀ (k : Nat) (u : Nat), u < 10 ^ (k + 1) → (Lib.decDigits u).length ≤ k + 1 := by
    intro k
    induction k with
    | zero => intro u hu; rw [Lib.decDigits, dif_pos (by simpa using hu)]; simp
    | succ k ih =>
      intro u hu
      by_cases h10 : u < 10
      · rw [Lib.decDigits, dif_pos h10]; simp
      · rw [Lib.decDigits, dif_neg h10, List.length_append]
        have := ih (u / 10) (by rw [Nat.pow_succ] at hu; omega)
        simp
        omega
  unfold decZ
  rw [List.length_map]
  unfold Lib.itoa
  have hx1 := hx.1
  have hx2 := hx.2
  split
  · have := h 18 x.natAbs (by have : (10 : Nat) ^ 19 = 10000000000000000000 := by decide
                              omega)
    simp
    omega
  · have := h 18 x.toNat (by have : (10 : Nat) ^ 19 = 10000000000000000000 := by decide
                             omega)
    omega
theorem nums_len : ∀ (l : List Int), (∀ x ∈ l, i64P x) → (numsZ l).length ≤ 21 * l.length
  | [], _ => by simp [numsZ]
  | x :: l, h => by
    have h1 := dec_len x (h x (by simp))
    have h2 := nums_len l (fun y hy => h y (by simp [hy]))
    rw [numsZ, List.length_cons, List.length_append, List.length_cons]
    omega
set_option maxHeartbeats 4000000 in
theorem rnums_any (g n : Nat) (xs : List Int) (hxs : ∀ x ∈ xs, i64P x) (hl : xs.length = n) (hn : n ≤ 10) (w : World) (ht : Tb w) (hg : Blk w g 2 (xs.map (Value.int .i64)).toArray) :
    Calls Tryd.prog 15 #[.slice (some ⟨g, 0, none⟩) n n] w fun e w' => e = .returned (.string (strOfNums (numsZ xs))) ∧ Below w.heap.size w w' := by
  have HG := Lib.hid hg
  have HL := Lib.hid hl
  have HX := Lib.hid hxs
  have HT := Lib.hid ht
  have hnb : (n : Int) ≤ 10 := by omega
  clear hg hl hxs ht
  go_enter Tryd.func15, Tryd.ntmps15
  go_wp2
  go_loopg [3, 8] n (fun k s3 s8 wr => ∃ i : Nat, i ≤ n ∧ k = n - i ∧ s8 = .int .i64 (i : Int) ∧ s3 = .string (strOfNums (numsZ (xs.take i))) ∧ Below w.heap.size w wr)
  case atStart => exact ⟨0, by omega, by omega, rfl, rfl, Below.refl _ _⟩
  case round =>
    obtain ⟨i, hi, hkk, rfl, rfl, hb⟩ := hrel
    have HK := Lib.hid hkk
    have HB := Lib.hid hb
    clear hkk hb
    by_cases hin : i < n
    · have hix : i < xs.length := by rw [HL.out]; exact hin
      obtain ⟨x, hx⟩ : ∃ x, x = xs[i] := ⟨_, rfl⟩
      have HXI := Lib.hid (HX.out x (by rw [hx]; exact List.getElem_mem hix))
      have HS := Lib.hid (show strOfNums (numsZ (xs.take i)) ++ ((⟨#[32]⟩ : ByteArray) ++ strOfNums (decZ x)) = strOfNums (numsZ (xs.take (i + 1))) from by
        rw [str_lit1, str_append, str_append, List.take_succ_eq_append_getElem hix, numsZ_app, ← hx]
        congr 1
        simp [numsZ])
      have hb := (HG.out.below HB.out (lt_of_block HG.out)).rd i
      rw [List.getElem?_toArray, List.getElem?_map, List.getElem?_eq_getElem hix, ← hx] at hb
      simp only [Option.map_some] at hb
      have hz1 := nums_len (xs.take i) (fun y hy => HX.out y (List.mem_of_mem_take hy))
      rw [List.length_take] at hz1
      have hz2 := dec_len x HXI.out
      have HZ1 := Lib.hid hz1
      have HZ2 := Lib.hid hz2
      obtain ⟨s0, hs0⟩ : ∃ s, s = strOfNums (numsZ (xs.take i)) := ⟨_, rfl⟩
      obtain ⟨s1, hs1⟩ : ∃ s, s = strOfNums (decZ x) := ⟨_, rfl⟩
      have hsz0 : s0.size ≤ 210 := by rw [hs0, str_size]; omega
      have hsz1 : s1.size ≤ 20 := by rw [hs1, str_size]; exact hz2
      have CF := Lib.hid (fun w (h : Tb w) => show Calls Tryd.prog 21 #[.int .i64 x, .int .i64 10] w (fun e w' => e = .returned (.string s1) ∧ Below w.heap.size w w') from by rw [hs1]; exact format_any x HXI.out w h)
      rw [← hs0]
      rw [← hs0, ← hs1] at HS
      clear hx hs0 hs1 hz1 hz2
      go_wp2_with (go_at_call 21; ((with_reducible refine (CF.out _ (HT.out.below HB.out)).mono ?_); rintro e w4 ⟨rfl, b4⟩; have B4 := Lib.hid (HB.out.trans (b4.mono HB.out.size)); clear b4))
      go_roundg (n - (i + 1))
      case measure => have := HK.out; omega
      case rel => exact ⟨i + 1, by omega, by omega, by go_num, by rw [HS.out], B4.out⟩
    · have hie : i = n := by omega
      subst hie
      go_wp2
      go_ret
      refine ⟨?_, HB.out⟩
      rw [List.take_of_length_le (by rw [HL.out]; exact Nat.le_refl _)]
      rfl
end Go.Proofs.YtghhoofdbmgacaaDoor
