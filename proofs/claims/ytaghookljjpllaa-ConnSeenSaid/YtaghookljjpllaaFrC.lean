/- The contracts of layer 13 (frame): what reads numbers, one behind the other. -/
import Derived.Test.YtaghookljjpllaaFr
namespace Go.Proofs.Ytaghookljjpllaa
set_option linter.unusedSimpArgs false
set_option linter.unusedVariables false
open Go.ChangeShapes Go.WideShapes Go.ChangeAt Go.RowKit
theorem or_byte (n c : Nat) (hc : c < 256) (h : n < 72057594037927936) : bits .or .u64 ((n : Int) * 256) (c : Int) = ((n * 256 + c : Nat) : Int) := by
  have e : (n : Int) * 256 = ((n * 256 : Nat) : Int) := by omega
  rw [e, bits_or_u64_nat _ _ (by omega) (by omega)]
  have := Nat.two_pow_add_eq_or_of_lt (i := 8) (b := c) hc n
  rw [show (2 : Nat) ^ 8 = 256 from rfl, Nat.mul_comm 256 n] at this
  rw [this]
/-- the bytes that a reader at block b has left, in block d. -/
def SrcAt (w : World) (b d : Nat) (q : List Int) : Prop := ∃ A n c, Blk w b 27 #[.slice A n c] ∧ RdI w .u8 A n c q ∧ (0 < n → ∃ off, A = some ⟨d, off, none⟩)
theorem SrcAt.keep {W w : World} {b d : Nat} {q : List Int} (h : SrcAt W b d q) (hb : Below W.heap.size W w) : SrcAt w b d q := by
  obtain ⟨A, n, c, h1, h2, h3⟩ := h
  exact ⟨A, n, c, h1.keep hb, h2.below hb, h3⟩
theorem rdI_fr {W w : World} {F : Nat → Prop} {k : IntKind} {A : Option Addr} {n c d : Nat} {q : List Int} (h : RdI W k A n c q) (hA : 0 < n → ∃ off, A = some ⟨d, off, none⟩) (hf : Fr F W w) (hd : ¬ F d) : RdI w k A n c q :=
  ⟨h.len, h.cap, h.max, fun hn => by
    obtain ⟨b, off, e, hlt, hc⟩ := h.at_ hn
    obtain ⟨off', e'⟩ := hA hn
    have hbd : b = d := by rw [e] at e'; injection e' with e'; injection e'
    exact ⟨b, off, e, Nat.lt_of_lt_of_le hlt hf.size, fun i hi => by rw [hf.cell hlt (by rw [hbd]; exact hd)]; exact hc i hi⟩, h.wf⟩
theorem SrcAt.fr {W w : World} {F : Nat → Prop} {b d : Nat} {q : List Int} (h : SrcAt W b d q) (hf : Fr F W w) (hb : ¬ F b) (hd : ¬ F d) : SrcAt w b d q := by
  obtain ⟨A, n, c, h1, h2, h3⟩ := h
  exact ⟨A, n, c, h1.fr hf hb, rdI_fr h2 h3 hf hd, h3⟩
theorem SrcAt.byt {w : World} {b d : Nat} {q : List Int} (h : SrcAt w b d q) : byt q := by
  obtain ⟨A, n, c, h1, h2, h3⟩ := h
  exact fun z hz => wf_u8 (h2.wf z hz)
theorem rdI_none {w : World} {k : IntKind} {A : Option Addr} {c : Nat} (hc : c ≤ maxLen) : RdI w k A 0 c [] := ⟨rfl, Nat.zero_le _, hc, fun h => absurd h (by omega), (fun z hz => by cases hz)⟩
set_option maxHeartbeats 2000000 in
theorem next_any (b d : Nat) (q : List Int) (nn : Nat) (hnn : nn ≤ 8) (hq : nn ≤ q.length) (hn1 : 1 ≤ nn) (w : World) (h : SrcAt w b d q) (hdb : d ≠ b) :
    Calls Try.prog 45 #[.int .i64 (nn : Int), .pointer (some ⟨b, 0, none⟩)] w fun e w' => e = .returned (.int .u64 (preZ q nn)) ∧ SrcAt w' b d (q.drop nn) ∧ Fr (fun k => k = b) w w' := by
  have HBY := Lib.hid h.byt
  obtain ⟨A, n, c, h1, h2, h3⟩ := h
  have hl := h2.len
  have hcp := h2.cap
  have hmx := h2.max
  unfold maxLen at hmx
  have k1 := h1.rd
  have k0 := h1.wr
  obtain ⟨off, rfl⟩ := h3 (by omega)
  obtain ⟨d', off', e', hlt, hcs⟩ := h2.at_ (by omega)
  injection e' with e'; injection e' with e1 e2
  subst e1 e2
  have H1 := Lib.hid h1
  have H2 := Lib.hid h2
  have HD := Lib.hid hdb
  have HCS := Lib.hid hcs
  have HL := Lib.hid hl
  have g1 : (nn : Int) ≤ (c : Int) := by omega
  have g2 : (nn : Int) ≤ (n : Int) := by omega
  have g3 : (nn : Int) ≤ 8 := by omega
  clear h1 h2 h3 hcs hdb hl
  go_enter Try.func45, Try.ntmps45
  go_wp2
  go_loopg [4, 11] nn (fun k s4 s11 wr => ∃ i : Nat, i ≤ nn ∧ k = nn - i ∧ s11 = .int .i64 (i : Int) ∧ s4 = .int .u64 (preZ q i) ∧ wr = w)
  case atStart => exact ⟨0, by omega, by omega, rfl, rfl, rfl⟩
  case round =>
    obtain ⟨i, hi, hkk, rfl, rfl, rfl⟩ := hrel
    have HK := Lib.hid hkk
    clear hkk
    by_cases hin : i < nn
    · obtain ⟨x, hx⟩ : ∃ x : Nat, preZ q i = (x : Int) := ⟨(preZ q i).toNat, by have := (pre_bd HBY.out i).1; omega⟩
      have hxb : x < 72057594037927936 := by
        have h1 := (pre_bd HBY.out i).2
        have h2 : (256 : Int) ^ i ≤ 72057594037927936 := by
          match i, hin, hnn with
          | 0, _, _ => decide
          | 1, _, _ => decide
          | 2, _, _ => decide
          | 3, _, _ => decide
          | 4, _, _ => decide
          | 5, _, _ => decide
          | 6, _, _ => decide
          | 7, _, _ => decide
          | j + 8, h, h' => omega
        omega
      rw [hx]
      have ex : IntKind.u64.wrap ((x : Int) * 256) = (x : Int) * 256 := by rw [IntKind.wrap_u64]; omega
      have hb := byt_getD HBY.out i
      obtain ⟨cz, hcz⟩ : ∃ cz : Nat, q.getD i 0 = (cz : Int) := ⟨(q.getD i 0).toNat, by omega⟩
      have hc0 := HCS.out i (by omega)
      rw [hcz] at hc0
      have HEC := Lib.hid (show IntKind.u64.wrap (cz : Int) = (cz : Int) by rw [IntKind.wrap_u64]; omega)
      have eo := or_byte x cz (by omega) hxb
      obtain ⟨y, hy⟩ : ∃ y : Int, y = ((x * 256 + cz : Nat) : Int) := ⟨_, rfl⟩
      rw [← hy] at eo
      have HY := Lib.hid (show preZ q (i + 1) = y by rw [preZ, hx, hcz, hy]; omega)
      have g4 : (i : Int) < (nn : Int) := by omega
      clear hx hb hcz hy
      go_wp2
      go_roundg (nn - (i + 1))
      case measure => have := HK.out; omega
      case rel => exact ⟨i + 1, by omega, by omega, by go_num, by rw [HY.out, HEC.out, eo], rfl⟩
    · have hie : i = nn := by omega
      subst hie
      by_cases hci : c = i
      · subst hci
        have hnc : n = c := by omega
        subst hnc
        go_wp2
        go_ret
        have hl := lt_of_block H1.out
        rw [setCell_obj H1.out]
        refine ⟨rfl, ⟨_, 0, _, setObj_at hl _, ?_, fun h => absurd h (by omega)⟩, Fr.setObj (F := fun k => k = b) (Fr.refl _ _) rfl _⟩
        rw [List.drop_eq_nil_of_le (by rw [HL.out]; exact Nat.le_refl _)]
        exact rdI_none (by unfold maxLen; omega)
      · go_wp2
        go_ret
        have hl := lt_of_block H1.out
        rw [setCell_obj H1.out]
        refine ⟨rfl, ⟨_, _, _, setObj_at hl _, ?_, fun _ => ⟨_, rfl⟩⟩, Fr.setObj (F := fun k => k = b) (Fr.refl _ _) rfl _⟩
        have E := rdI_end H2.out (show i ≤ n by omega)
        exact rdI_fr E (fun _ => ⟨_, rfl⟩) (Fr.setObj (F := fun k => k = b) (Fr.refl _ _) rfl _) HD.out
theorem next_x (b d : Nat) (q q2 : List Int) (X z : Int) (nn : Nat) (hz : z = (nn : Int)) (hnn : nn ≤ 8) (hq : nn ≤ q.length) (hn1 : 1 ≤ nn) (w : World) (h : SrcAt w b d q) (hdb : d ≠ b) (hX : preZ q nn = X) (hq2 : q.drop nn = q2) :
    Calls Try.prog 45 #[.int .i64 z, .pointer (some ⟨b, 0, none⟩)] w fun e w' => e = .returned (.int .u64 X) ∧ SrcAt w' b d q2 ∧ Fr (fun k => k = b) w w' := by
  rw [← hX, ← hq2, hz]
  exact next_any b d q nn hnn hq hn1 w h hdb
end Go.Proofs.Ytaghookljjpllaa
