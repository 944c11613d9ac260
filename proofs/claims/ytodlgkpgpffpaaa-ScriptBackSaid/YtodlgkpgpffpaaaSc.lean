/- The contracts of layer 19 (script): the source. -/
import Derived.Test.YtodlgkpgpffpaaaByt
import Derived.Test.YtodlgkpgpffpaaaScM
import Derived.Test.YtodlgkpgpffpaaaBits
import Derived.Deep.RegionHeld3
import Derived.StillTailTactics
import Derived.BigQuiet
import Derived.Below
import Derived.Deep.LoopGhost
import Derived.Deep.QuietTactic
import Derived.Outline
import Derived.Deep.Cut
import Derived.Deep.AppendLies
import Derived.Lib.Strings
import Derived.Lib.IndexBytes
namespace Go.Proofs.Ytodlgkpgpffpaaa
open Go.ChangeShapes Go.WideShapes Go.ChangeAt Go.RowKit
theorem or_byte (n c : Nat) (hc : c < 256) (h : n < 72057594037927936) : bits .or .u64 ((n : Int) * 256) (c : Int) = ((n * 256 + c : Nat) : Int) := by
  have e : (n : Int) * 256 = ((n * 256 : Nat) : Int) := by omega
  rw [e, bits_or_u64_nat _ _ (by omega) (by omega)]
  have := Nat.two_pow_add_eq_or_of_lt (i := 8) (b := c) hc n
  rw [show (2 : Nat) ^ 8 = 256 from rfl, Nat.mul_comm 256 n] at this
  rw [this]
/-- what is left of a source at block b, its bytes at block d. -/
def SrcAt (w : World) (b d : Nat) (q : List Int) : Prop := ∃ A n c, Blk w b 42 #[.slice A n c] ∧ RdI w .u8 A n c q ∧ (0 < n → ∃ off, A = some ⟨d, off, none⟩)
theorem SrcAt.keep {W w : World} {b d : Nat} {q : List Int} (h : SrcAt W b d q) (hb : Below W.heap.size W w) : SrcAt w b d q := by
  obtain ⟨A, n, c, h1, h2, h3⟩ := h
  exact ⟨A, n, c, h1.keep hb, h2.below hb, h3⟩
theorem SrcAt.lt {w : World} {b d : Nat} {q : List Int} (h : SrcAt w b d q) : b < w.heap.size := by
  obtain ⟨A, n, c, h1, _⟩ := h; exact lt_of_block h1
theorem rdI_fr {W w : World} {F : Nat → Prop} {k : IntKind} {A : Option Addr} {n c d : Nat} {q : List Int} (h : RdI W k A n c q) (hA : 0 < n → ∃ off, A = some ⟨d, off, none⟩) (hf : Fr F W w) (hd : ¬ F d) : RdI w k A n c q :=
  ⟨h.len, h.cap, h.max, fun hn => by
    obtain ⟨b, off, e, hlt, hc⟩ := h.at_ hn
    obtain ⟨off', e'⟩ := hA hn
    have hbd : b = d := by rw [e] at e'; injection e' with e'; injection e'
    exact ⟨b, off, e, Nat.lt_of_lt_of_le hlt hf.size, fun i hi => by rw [hf.cell hlt (by rw [hbd]; exact hd)]; exact hc i hi⟩, h.wf⟩
theorem SrcAt.fr {W w : World} {F : Nat → Prop} {b d : Nat} {q : List Int} (h : SrcAt W b d q) (hf : Fr F W w) (hb : ¬ F b) (hd : ¬ F d) : SrcAt w b d q := by
  obtain ⟨A, n, c, h1, h2, h3⟩ := h
  exact ⟨A, n, c, h1.fr hf hb, rdI_fr h2 h3 hf hd, h3⟩
theorem SrcAt.byt {w : World} {b d : Nat} {q : List Int} (h : SrcAt w b d q) : byt q := by
  obtain ⟨A, n, c, h1, h2, h3⟩ := h
  exact fun z hz => wf_u8 (h2.wf z hz)
theorem wf_drop {zs : List Int} {k : IntKind} (h : ∀ z ∈ zs, (Lit.int k z).wf = true) (n : Nat) : ∀ z ∈ zs.drop n, (Lit.int k z).wf = true := fun z hz => h z (List.mem_of_mem_drop hz)
/-- a slice's end, where its room isn't its beginning's. -/
theorem rdI_end {w : World} {k : IntKind} {d off n c : Nat} {zs : List Int} (h : RdI w k (some ⟨d, off, none⟩) n c zs) {m : Nat} (hm : m ≤ n) : RdI w k (some ⟨d, off + m, none⟩) (n - m) (c - m) (zs.drop m) := by
  have hl := h.len
  have hc := h.cap
  have hx := h.max
  refine ⟨by rw [List.length_drop]; omega, by omega, by omega, fun h0 => ?_, wf_drop h.wf m⟩
  obtain ⟨b', off', e, hlt, hcs⟩ := h.at_ (by omega)
  injection e with e; injection e with e1 e2
  subst e1 e2
  exact ⟨d, off + m, rfl, hlt, fun i hi => by rw [Nat.add_assoc, hcs (m + i) (by omega)]; simp [List.getD]⟩
theorem rdI_none {w : World} {k : IntKind} {A : Option Addr} {c : Nat} (hc : c ≤ maxLen) : RdI w k A 0 c [] := ⟨rfl, Nat.zero_le _, hc, fun h => absurd h (by omega), (fun z hz => by cases hz)⟩
set_option maxHeartbeats 2000000 in
theorem number_any (b d : Nat) (q : List Int) (nn : Nat) (hnn : nn ≤ 8) (w : World) (h : SrcAt w b d q) (hdb : d ≠ b) :
    Calls Try.prog 13 #[.pointer (some ⟨b, 0, none⟩), .int .i64 (nn : Int)] w fun e w' => e = .returned (.int .u64 (preZ q nn)) ∧ SrcAt w' b d (q.drop nn) ∧ Fr (fun k => k = b) w w' := by
  have hby := Lib.hid h.byt
  have hni : (nn : Int) ≤ 8 := by omega
  have H0 := Lib.hid h
  have HN := Lib.hid hnn
  have HD := Lib.hid hdb
  clear h hnn hdb
  go_enter Try.func13, Try.ntmps13
  go_wp2
  go_loopg [5, 7] nn (fun k xv si wr => ∃ j : Nat, j ≤ nn ∧ k = nn - j ∧ si = .int .i64 (j : Int) ∧ xv = .int .u64 (preZ q j) ∧ SrcAt wr b d (q.drop j) ∧ Fr (fun k => k = b) w wr)
  case atStart => exact ⟨0, by omega, by omega, rfl, rfl, H0.out, Fr.refl _ _⟩
  case round =>
    obtain ⟨j, hj, hkk, rfl, rfl, hs, hf⟩ := hrel
    have HK := Lib.hid hkk
    have HF := Lib.hid hf
    clear hkk hf
    by_cases hin : j < nn
    · obtain ⟨x, hx⟩ : ∃ x : Nat, preZ q j = (x : Int) := ⟨(preZ q j).toNat, by have := (pre_bd hby.out j).1; omega⟩
      have hxb : x < 72057594037927936 := by
        have h1 := (pre_bd hby.out j).2
        have hn := HN.out
        have h2 : (256 : Int) ^ j ≤ 72057594037927936 := by
          match j, hin, hn with
          | 0, _, _ => decide
          | 1, _, _ => decide
          | 2, _, _ => decide
          | 3, _, _ => decide
          | 4, _, _ => decide
          | 5, _, _ => decide
          | 6, _, _ => decide
          | 7, _, _ => decide
          | j + 8, h, h' => omega
        omega
      rw [hx]
      obtain ⟨A, n, c, h1, h2, h3⟩ := hs
      have hl := h2.len
      rw [List.length_drop] at hl
      have hmx := h2.max
      unfold maxLen at hmx
      have hcp := h2.cap
      have k := h1.rd
      have k0 := h1.wr
      have ex : IntKind.u64.wrap ((x : Int) * 256) = (x : Int) * 256 := by rw [IntKind.wrap_u64]; omega
      have HX := Lib.hid hx
      have H1 := Lib.hid h1
      rcases Nat.eq_zero_or_pos n with hn0 | hn0
      · subst hn0
        have hg : q.getD j 0 = 0 := by simp [List.getD, List.getElem?_eq_none (show q.length ≤ j by omega)]
        have hdr : q.drop (j + 1) = [] := List.drop_eq_nil_of_le (by omega)
        have HG := Lib.hid (And.intro hg hdr)
        have HS := Lib.hid (show SrcAt wr b d [] from ⟨A, 0, c, h1, rdI_none h2.max, fun h => absurd h (by omega)⟩)
        clear h1 h2 h3 hg hdr hx
        go_wp2
        go_roundg (nn - (j + 1))
        case measure => have := HK.out; omega
        case rel => exact ⟨j + 1, by omega, by omega, by go_num, by rw [preZ, HX.out, HG.out.1, Int.add_zero], by rw [HG.out.2]; exact HS.out, HF.out⟩
      · obtain ⟨off, rfl⟩ := h3 hn0
        obtain ⟨d', off', e', hlt, hcs⟩ := h2.at_ hn0
        injection e' with e'; injection e' with e1 e2
        subst e1 e2
        have hc0 := hcs 0 hn0
        rw [Nat.add_zero] at hc0
        have hg : (q.drop j).getD 0 0 = q.getD j 0 := by simp [List.getD]
        rw [hg] at hc0
        have hb := byt_getD hby.out j
        obtain ⟨cz, hcz⟩ : ∃ cz : Nat, q.getD j 0 = (cz : Int) := ⟨(q.getD j 0).toNat, by omega⟩
        rw [hcz] at hc0
        have HEC := Lib.hid (show IntKind.u64.wrap (cz : Int) = (cz : Int) by rw [IntKind.wrap_u64]; omega)
        have eo := or_byte x cz (by omega) hxb
        obtain ⟨y, hy⟩ : ∃ y : Int, y = ((x * 256 + cz : Nat) : Int) := ⟨_, rfl⟩
        rw [← hy] at eo
        have HY := Lib.hid (show preZ q (j + 1) = y by rw [preZ, HX.out, hcz, hy]; omega)
        have hdr : (q.drop j).drop 1 = q.drop (j + 1) := by rw [List.drop_drop]
        have HE := Lib.hid (show RdI wr .u8 (some ⟨d, off + 1, none⟩) (n - 1) (c - 1) (q.drop (j + 1)) from by rw [← hdr]; exact rdI_end h2 hn0)
        have t1 : (0 : Int) < (n : Int) := by omega
        have t2 : (1 : Int) ≤ (n : Int) := by omega
        have t3 : (n : Int) ≤ (c : Int) := by omega
        have t4 : 1 ≤ n := hn0
        have t5 : (1 : Int) ≤ (c : Int) := by omega
        clear h1 h2 h3 hg hcz hy hb hdr hcs hx
        by_cases hc1 : c = 1
        · subst hc1
          have hn1 : n = 1 := by omega
          subst hn1
          go_wp2
          go_roundg (nn - (j + 1))
          case measure => have := HK.out; omega
          case rel =>
            have hl := lt_of_block H1.out
            rw [setCell_obj H1.out]
            have hemp : q.drop (j + 1) = [] := List.drop_eq_nil_of_le (by omega)
            refine ⟨j + 1, by omega, by omega, by go_num, by rw [HY.out, HEC.out, eo], ⟨_, 0, 0, setObj_at hl _, by rw [hemp]; exact rdI_none (by decide), fun h => absurd h (by omega)⟩, HF.out.trans (Fr.setObj (F := fun k => k = b) (Fr.refl _ _) rfl _)⟩
        · go_wp2
          go_roundg (nn - (j + 1))
          case measure => have := HK.out; omega
          case rel =>
            have hl := lt_of_block H1.out
            rw [setCell_obj H1.out]
            refine ⟨j + 1, by omega, by omega, by go_num, by rw [HY.out, HEC.out, eo], ⟨_, _, _, setObj_at hl _, rdI_fr HE.out (fun _ => ⟨_, rfl⟩) (Fr.setObj (F := fun k => k = b) (Fr.refl _ _) rfl _) HD.out, fun _ => ⟨_, rfl⟩⟩, HF.out.trans (Fr.setObj (F := fun k => k = b) (Fr.refl _ _) rfl _)⟩
    · have hje : j = nn := by omega
      subst hje
      go_wp2
      go_ret
      exact ⟨rfl, hs, HF.out⟩
end Go.Proofs.Ytodlgkpgpffpaaa
