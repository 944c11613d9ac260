/- The contracts of layer 13 (frame): numbers and texts written; no block of another type is touched. -/
import Derived.Test.YtaghookljjpllaaFrE
import Derived.Test.YtaghookljjpllaaFaM
namespace Go.Proofs.Ytaghookljjpllaa
set_option linter.unusedSimpArgs false
set_option linter.unusedVariables false
open Go.ChangeShapes Go.WideShapes Go.ChangeAt Go.RowKit
/-- the block has bytes. -/
def U8 (w : World) (k : Nat) : Prop := ∃ c f, w.heap[k]? = some (.cells c 5 f)
/-- only blocks of bytes from B on have changed. -/
def FrU (B : Nat) (w w' : World) : Prop := Fr (fun k => B ≤ k ∧ U8 w k) w w'
theorem FrU.fr {B : Nat} {w w' : World} (h : FrU B w w') : Fr (fun k => B ≤ k) w w' := h.mono (fun _ hk => hk.1)
theorem FrU.size {B : Nat} {w w' : World} (h : FrU B w w') : w.heap.size ≤ w'.heap.size := Fr.size h
theorem FrU.refl (B : Nat) (w : World) : FrU B w w := Fr.refl _ _
theorem FrU.trans {B : Nat} {w w1 w2 : World} (h : FrU B w w1) (g : FrU B w1 w2) : FrU B w w2 :=
  ⟨g.os.trans h.os, g.tape.trans h.tape, g.output.trans h.output, Nat.le_trans h.size g.size, fun k hk hF => by
    have e := h.block k hk hF
    refine (g.block k (Nat.lt_of_lt_of_le hk h.size) (fun hG => hF ⟨hG.1, ?_⟩)).trans e
    obtain ⟨c, f, hc⟩ := hG.2
    exact ⟨c, f, by rw [← e]; exact hc⟩⟩
theorem FrU.of_below {B : Nat} {w w' : World} (h : Below w.heap.size w w') : FrU B w w' := Fr.of_below h
theorem FrU.alloc {B : Nat} {w : World} (_h : B ≤ w.heap.size) (o : Obj) : FrU B w (w.alloc o) := (Fr.refl _ w).alloc o
theorem Own.u8 {w : World} {B : Nat} {v : Value} {xs : List Int} (h : Own w B v xs) : ∀ g, v.ownBlock = some g → B ≤ g ∧ U8 w g := by
  intro g hg
  rcases h.2 with ⟨rfl, _⟩ | ⟨g', cap, cur, rfl, hb, hh, _⟩
  · cases hg
  · have : g' = g := by simpa [Value.ownBlock] using hg
    subst this
    exact ⟨hb, cur, _, hh⟩
theorem FrU.row {B : Nat} {w w' : World} {v : Value} {xs : List Int} (h : Own w B v xs) (hg : w.grownBy w' v.ownBlock) : FrU B w w' := (fr_row hg).mono (fun k hk => h.u8 k hk)
theorem FrU.blk {B d : Nat} {w w' : World} {t : TypeId} {c : Array Value} (h : FrU B w w') (hb : Blk w d t c) (hd : d < B ∨ t ≠ 5) : Blk w' d t c := by
  refine hb.fr h (fun hF => ?_)
  rcases hd with hd | hd
  · have := hF.1; omega
  · obtain ⟨c', f, hc⟩ := hF.2
    rw [hb] at hc
    injection hc with hc
    injection hc with _ hc
    exact hd hc
theorem FrU.more {B B' : Nat} {w w' : World} (h : FrU B w w') (hB : B' ≤ B) : FrU B' w w' := h.mono (fun k hk => ⟨Nat.le_trans hB hk.1, hk.2⟩)
theorem FrU.below {B : Nat} {w w' : World} (h : FrU B w w') (hB : B ≤ w.heap.size) : Below B w w' := h.fr.below hB (fun _ hk => hk)
theorem fru_end {B ab : Nat} {w w1 wr w9 : World} {v : Value} {bs : List Int} (_hB : B ≤ w.heap.size) (ho : Own w B v bs) (hab : ab = w.heap.size) (f1 : Below w.heap.size w w1) (hf : Fr (fun k => k = ab) w1 wr) (hg : wr.grownBy w9 v.ownBlock) : FrU B w w9 := by
  have h1 : Fr (fun _ => False) w wr := Fr.drop_new (s := ab) (((Fr.of_below (F := fun k => False ∨ k = ab) f1).trans (hf.mono (fun k hk => Or.inr hk)))) (by omega)
  have h2 : Own wr B v bs := ho.fr h1 (fun _ _ h => h)
  have h3 : FrU B w wr := h1.mono (fun _ h => h.elim)
  exact h3.trans (FrU.row h2 hg)
set_option maxHeartbeats 4000000 in
theorem number_u (B : Nat) (v : Value) (bs : List Int) (x : Int) (n : Nat) (hx : 0 ≤ x ∧ x < 18446744073709551616) (hn : 1 ≤ n ∧ n ≤ 8) (hm : bs.length ≤ 1000000) (w : World) (ho : Own w B v bs) (hB : B ≤ w.heap.size) :
    Calls Try.prog 41 #[v, .int .u64 x, .int .i64 (n : Int)] w fun e w' => ∃ v', e = .returned v' ∧ Own w' B v' (bs ++ be n x) ∧ FrU B w w' := by
  have HO := Lib.hid ho
  have HBS := Lib.hid hB
  have HX := Lib.hid hx
  clear ho hB hx
  go_enter Try.func41, Try.ntmps41
  go_wp2
  obtain ⟨w1, hw1, hbk, hbl, hsz⟩ := box_new w (byC (numAll x 0)) 96
  change Code.wp _ _ _ _ (w.alloc (.cells (byC (numAll x 0)) 96))
  rw [hw1]
  obtain ⟨ab, hab⟩ : ∃ ab, ab = w.heap.size := ⟨_, rfl⟩
  rw [← hab] at hbk ⊢
  have HAB := Lib.hid hab
  have B1 := Lib.hid hbk
  have F1 := Lib.hid hbl
  clear hw1 hbk hbl hsz hab
  go_loopg [9] 8 (fun k s9 wr => ∃ i : Nat, i ≤ 8 ∧ k = 8 - i ∧ s9 = .int .i64 (i : Int) ∧ Blk wr ab 96 (byC (numAll x i)) ∧ Fr (fun k => k = ab) w1 wr)
  case atStart => exact ⟨0, by omega, by omega, rfl, B1.out, Fr.refl _ _⟩
  case round =>
    obtain ⟨i, hi, hkk, rfl, hb, hf⟩ := hrel
    have HK := Lib.hid hkk
    have HB := Lib.hid hb
    have HF := Lib.hid hf
    clear hkk hf
    by_cases hin : i < 8
    · obtain ⟨P, hP⟩ : ∃ P, P = (2 : Int) ^ (8 * (i : Int)).toNat := ⟨_, rfl⟩
      have e1 : (2 : Int) ^ (8 * (i : Int)).toNat = P := hP.symm
      have hP2 : P = 256 ^ i := by rw [hP, show (8 * (i : Int)).toNat = 8 * i by omega, Int.pow_mul]; rfl
      obtain ⟨y, hy⟩ : ∃ y, y = x / P := ⟨_, rfl⟩
      have e2 : x / P = y := hy.symm
      have hy0 : 0 ≤ y ∧ y < 18446744073709551616 := by
        have hp : 0 < P := by rw [hP2]; exact Int.pow_pos (by decide)
        have hx := HX.out
        rw [hy]
        exact ⟨Int.ediv_nonneg hx.1 (by omega), Int.lt_of_le_of_lt (Int.ediv_le_self _ hx.1) hx.2⟩
      obtain ⟨z, hz⟩ : ∃ z, z = y % 256 := ⟨_, rfl⟩
      have e3 : IntKind.u8.wrap y = z := by rw [IntKind.wrap_u8, hz]
      have hxb := HX.out
      have HS := Lib.hid (show (numAll x i).set (7 - i) z = numAll x (i + 1) from by rw [hz, hy, hP2]; exact numAll_set x i hin)
      have kw := hb.wr
      have kr := hb.rd
      have hsz := numAll_length x i (by omega)
      have kc : (byC (numAll x i)).size = 8 := by unfold byC; simp [hsz]
      obtain ⟨j, hj⟩ : ∃ j : Nat, (7 : Int) - (i : Int) = (j : Int) := ⟨7 - i, by omega⟩
      have hj7 : j ≤ 7 := by omega
      have HJ := Lib.hid hj
      have kx : wr.cell? ⟨ab, j, none⟩ = some (.int .u8 ((numAll x i).getD j 0)) := by rw [kr]; exact byC_get _ _ (by omega)
      clear hP hP2 hy hz hb kr hsz kc
      go_wp2
      go_roundg (8 - (i + 1))
      case measure => have := HK.out; omega
      case rel =>
        have hl := lt_of_block HB.out
        have hj := HJ.out
        have ej : j = 7 - i := by omega
        rw [setCell_obj HB.out, byC_set, ej, HS.out]
        exact ⟨i + 1, by omega, by omega, by go_num, setObj_at hl _, HF.out.trans (Fr.setObj (F := fun k => k = ab) (Fr.refl _ _) rfl _)⟩
    · have hie : i = 8 := by omega
      subst hie
      obtain ⟨d, hd⟩ : ∃ d : Nat, (8 : Int) - (n : Int) = (d : Int) := ⟨8 - n, by omega⟩
      have hd8 : d + n = 8 := by omega
      have hsl := slice_arr ab d n hd8 hn.1
      have HR := Lib.hid (show RdI wr .u8 (some ⟨ab, d, none⟩) n n (be n x) from by
        have h0 : RdI wr .u8 (some ⟨ab, 0, none⟩) 8 8 (be 8 x) := rd_blk hb (be_length 8 x) (by decide) (fun z hz => u8_wf (be_byt _ _ z hz))
        have h1 := rdI_end h0 (m := d) (by omega)
        rw [Nat.zero_add, show 8 - d = n by omega, show (8 : Nat) = n + d by omega, be_drop] at h1
        exact h1)
      have HO2 := Lib.hid ((HO.out.below F1.out).fr HF.out (fun g hg => by have := (HO.out.lt g hg).2; have := HAB.out; omega))
      clear hb
      go_wp2_with (at_builtin; refine wpList_appI (by rfl) _ _ n (by rfl) (by rfl) (by rfl) HO2.out HR.out (by omega) (by have := HBS.out; have := F1.out.size; have := HF.out.size; omega) ?_; intro v' w9 hown9 hgrow9; have HO9 := Lib.hid hown9; have HG9 := Lib.hid hgrow9; clear hown9 hgrow9)
      go_ret
      refine ⟨v', rfl, HO9.out, ?_⟩
      exact fru_end HBS.out HO.out HAB.out F1.out HF.out HG9.out
theorem number_v (B : Nat) (v : Value) (bs : List Int) (x : Int) (hx : i64P x) (hm : bs.length ≤ 1000000) (w : World) (ho : Own w B v bs) (hB : B ≤ w.heap.size) :
    Calls Try.prog 41 #[v, .int .u64 (IntKind.u64.wrap x), .int .i64 8] w fun e w' => ∃ v', e = .returned v' ∧ Own w' B v' (bs ++ be 8 x) ∧ FrU B w w' := by
  have h := number_u B v bs (IntKind.u64.wrap x) 8 (by rw [IntKind.wrap_u64]; omega) (by omega) hm w ho hB
  rw [IntKind.wrap_u64, be_wrap] at h
  rw [IntKind.wrap_u64]
  exact h
theorem own_rdn {w : World} {base : Nat} {v : Value} {zs : List Int} (h : Own w base v zs) (hb : byt zs) (n : Nat) (hn : zs.length = n) (h1 : 0 < n) : ∃ g c, v = .slice (some ⟨g, 0, none⟩) n c ∧ RdI w .u8 (some ⟨g, 0, none⟩) n c zs ∧ base ≤ g ∧ g < w.heap.size := by
  subst hn
  obtain ⟨A, c, rfl, hr, hA⟩ := h.rd hb
  obtain ⟨g, rfl, hg⟩ := hA h1
  obtain ⟨l1, l2⟩ := h.lt g hg
  exact ⟨g, c, rfl, hr, l1, l2⟩
def be8s : List Int → List Int
  | [] => []
  | x :: l => be 8 x ++ be8s l
theorem be8s_app : ∀ l m, be8s (l ++ m) = be8s l ++ be8s m
  | [], _ => rfl
  | x :: l, m => by rw [List.cons_append, be8s, be8s, be8s_app l m, List.append_assoc]
theorem be8s_length : ∀ l, (be8s l).length = 8 * l.length
  | [] => rfl
  | x :: l => by rw [be8s, List.length_append, be_length, be8s_length l, List.length_cons]; omega
theorem i64_wf {z : Int} (h : i64P z) : (Lit.int .i64 z).wf = true := by
  unfold i64P at h
  simp [Lit.wf, IntKind.min, IntKind.max, IntKind.signed, IntKind.bits]
  omega
theorem wf_i64 {z : Int} (h : (Lit.int .i64 z).wf = true) : i64P z := by
  unfold i64P
  simp [Lit.wf, IntKind.min, IntKind.max, IntKind.signed, IntKind.bits] at h
  omega
end Go.Proofs.Ytaghookljjpllaa
