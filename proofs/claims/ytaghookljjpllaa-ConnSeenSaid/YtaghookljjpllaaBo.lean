/- The contracts of layer 15 (outbuf). -/
import Derived.Test.YtaghookljjpllaaByt
import Derived.Test.YtaghookljjpllaaBm
import Derived.Deep.RegionHeld3
import Derived.StillTailTactics
import Derived.BigQuiet
import Derived.Below
import Derived.Deep.LoopGhost
import Derived.Deep.QuietTactic
import Derived.Outline
import Derived.Deep.Cut
namespace Go.Proofs.Ytaghookljjpllaa
set_option linter.unusedSimpArgs false
set_option linter.unusedVariables false
open Go.ChangeShapes Go.WideShapes Go.ChangeAt Go.RowKit
/-- a Buf's block. -/
abbrev bufC (g size first m : Nat) : Array Value := #[.slice (some ⟨g, 0, none⟩) size size, .int .i64 (first : Int), .int .i64 (m : Int)]
abbrev obbyC (arr : List Int) : Array Value := (arr.map (Value.int .u8)).toArray
theorem obbyC_get (arr : List Int) (i : Nat) (h : i < arr.length) : (obbyC arr)[i]? = some (.int .u8 (arr.getD i 0)) := by
  unfold obbyC
  rw [List.getElem?_toArray, List.getElem?_map, List.getElem?_eq_getElem h]
  simp [List.getD, h]
/-- a Buf at block b, its bytes at block g. -/
def BufAt (w : World) (b g size : Nat) (q : List Int) : Prop :=
  ∃ (first : Nat) (arr : List Int), Blk w b 75 (bufC g size first q.length) ∧ Blk w g 5 (obbyC arr) ∧ Ring arr size first q ∧ b ≠ g ∧ size ≤ 65536
theorem BufAt.keep {W w : World} {b g size : Nat} {q : List Int} (h : BufAt W b g size q) (hb : Below W.heap.size W w) : BufAt w b g size q := by
  obtain ⟨first, arr, h1, h2, h3⟩ := h
  exact ⟨first, arr, h1.keep hb, h2.keep hb, h3⟩
theorem BufAt.fr {W w : World} {F : Nat → Prop} {b g size : Nat} {q : List Int} (h : BufAt W b g size q) (hf : Fr F W w) (h1 : ¬ F b) (h2 : ¬ F g) : BufAt w b g size q := by
  obtain ⟨first, arr, k1, k2, k3⟩ := h
  exact ⟨first, arr, k1.fr hf h1, k2.fr hf h2, k3⟩
theorem BufAt.lt {w : World} {b g size : Nat} {q : List Int} (h : BufAt w b g size q) : b < w.heap.size ∧ g < w.heap.size := by
  obtain ⟨first, arr, h1, h2, h3⟩ := h
  exact ⟨lt_of_block h1, lt_of_block h2⟩
theorem BufAt.le {w : World} {b g size : Nat} {q : List Int} (h : BufAt w b g size q) : q.length ≤ size ∧ 1 ≤ size ∧ size ≤ 65536 := by
  obtain ⟨first, arr, h1, h2, h3, h4⟩ := h
  exact ⟨h3.2.2.1, by have := h3.2.1; omega, h4.2⟩
set_option maxHeartbeats 400000 in
theorem obnew_no (n : Int) (hn : n < 1 ∨ 65536 < n) (w : World) : Calls Try.prog 24 #[.int .i64 n] w fun e w' => e = .returned (.pointer none) ∧ w = w' := by
  rcases hn with hn | hn
  · have t1 : decide (n < 1) = true := by simpa using hn
    go_enter Try.func24, Try.ntmps24
    go_wp2
    go_ret
    exact ⟨rfl, rfl⟩
  · have t1 : decide (n < 1) = false := by simp; omega
    have t2 : decide (65536 < n) = true := by simpa using hn
    go_enter Try.func24, Try.ntmps24
    go_wp2
    go_ret
    exact ⟨rfl, rfl⟩
theorem obinfo5 : (Try.prog.info? 5).map (fun i => (i.zero, i.size, i.bytes)) = some (some (.int .u8 0), 1, 1) := by kernel_rfl
set_option maxHeartbeats 400000 in
theorem obnew_yes (n : Nat) (h1' : 1 ≤ n) (h2' : n ≤ 65536) (w : World) : Calls Try.prog 24 #[.int .i64 (n : Int)] w fun e w' => e = .returned (.pointer (some ⟨w.heap.size + 1, 0, none⟩)) ∧ BufAt w' (w.heap.size + 1) w.heap.size n [] ∧ Below w.heap.size w w' := by
  have t1 : decide ((n : Int) < 1) = false := by simp; omega
  have t2 : decide ((65536 : Int) < (n : Int)) = false := by simp; omega
  have t3 : (n : Int) ≤ 65536 := by omega
  obtain ⟨i0, hi, hz0, hz1, hz2⟩ := info_parts obinfo5
  have hmk := make_bytes (P := Try.prog) (t := 27) (e := 5) Try.underlying27 hi hz0 hz1 hz2 n (by omega)
  clear hi hz0 hz1 hz2
  go_enter Try.func24, Try.ntmps24
  go_wp2
  go_ret
  refine ⟨rfl, ?_, ?_⟩
  · have e0 : (w.alloc (.cells (noughts n) 5)).heap.size = w.heap.size + 1 := by simp
    have h1 := heap_alloc_new (w.alloc (.cells (noughts n) 5)) (.cells #[.slice (some ⟨w.heap.size, 0, none⟩) n n, .int .i64 0, .int .i64 0] 75)
    rw [e0] at h1
    have h2 : Blk (w.alloc (.cells (noughts n) 5)) w.heap.size 5 (noughts n) := heap_alloc_new w _
    exact ⟨0, List.replicate n 0, h1, h2.alloc _, ring_new n h1', by omega, h2'⟩
  · exact ((Below.refl _ _).alloc (Nat.le_refl _) _).alloc (by simp) _
set_option maxHeartbeats 400000 in
theorem oblen_any (b g size : Nat) (q : List Int) (w : World) (h : BufAt w b g size q) : Calls Try.prog 31 #[.pointer (some ⟨b, 0, none⟩)] w fun e w' => e = .returned (.int .i64 (q.length : Int)) ∧ w = w' := by
  obtain ⟨first, arr, h1, _⟩ := h
  have k := h1.rd
  clear h1
  go_enter Try.func31, Try.ntmps31
  go_wp2
  go_ret
  exact ⟨rfl, rfl⟩
theorem oblen_nil (w : World) : Calls Try.prog 31 #[.pointer none] w fun e w' => e = .returned (.int .i64 0) ∧ w = w' := by
  go_enter Try.func31, Try.ntmps31
  go_wp2
  go_ret
  exact ⟨rfl, rfl⟩
theorem obroom_nil (w : World) : Calls Try.prog 32 #[.pointer none] w fun e w' => e = .returned (.int .i64 0) ∧ w = w' := by
  go_enter Try.func32, Try.ntmps32
  go_wp2
  go_ret
  exact ⟨rfl, rfl⟩
set_option maxHeartbeats 400000 in
theorem obroom_any (b g size : Nat) (q : List Int) (w : World) (h : BufAt w b g size q) : Calls Try.prog 32 #[.pointer (some ⟨b, 0, none⟩)] w fun e w' => e = .returned (.int .i64 (((size - q.length : Nat)) : Int)) ∧ Below w.heap.size w w' := by
  have hle := h.le
  obtain ⟨first, arr, h1, _⟩ := h
  have k := h1.rd
  have k2 := (Blk.drew h1).rd
  have e0 : (size : Int) - (q.length : Int) = ((size - q.length : Nat) : Int) := by omega
  have e1 : IntKind.i64.wrap ((size : Int) - (q.length : Int)) = ((size - q.length : Nat) : Int) := by rw [IntKind.wrap_i64]; omega
  have t1 : (size : Int) ≤ 65536 := by omega
  have t2 : (q.length : Int) ≤ 65536 := by omega
  clear h1 hle
  go_enter Try.func32, Try.ntmps32
  go_wp2
  go_quiet (fail)
  go_wp2
  go_ret
  exact ⟨rfl, below_draws (Below.refl _ _) _⟩
theorem obclear_nil (w : World) : Calls Try.prog 30 #[.pointer none] w fun e w' => e = .returned (.tuple #[]) ∧ w = w' := by
  go_enter Try.func30, Try.ntmps30
  go_wp2
  go_end0
  exact ⟨rfl, rfl⟩
set_option maxHeartbeats 400000 in
theorem obclear_any (b g size : Nat) (q : List Int) (w : World) (h : BufAt w b g size q) : Calls Try.prog 30 #[.pointer (some ⟨b, 0, none⟩)] w fun e w' => e = .returned (.tuple #[]) ∧ BufAt w' b g size [] ∧ Fr (fun k => k = b ∨ k = g) w w' := by
  obtain ⟨first, arr, h1, h2, h3, h4, h5⟩ := h
  have k := h1.rd
  have k2 := h1.wr
  have HH := Lib.hid (And.intro h1 h2)
  clear h1 h2
  go_enter Try.func30, Try.ntmps30
  go_wp2
  go_end0
  obtain ⟨h1, h2⟩ := HH.out
  have hlt := lt_of_block h1
  rw [setCell_obj h1, setCell_in hlt]
  refine ⟨rfl, ⟨0, arr, setObj_at hlt _, ?_, ring_clear h3, h4, h5⟩, Fr.setObj (Fr.refl _ _) (Or.inl rfl) _⟩
  exact (setObj_other w (Ne.symm h4) _).trans h2
theorem obrem_any (a s : Nat) (hs : 0 < s) : ((a : Int)).tmod (s : Int) = ((a % s : Nat) : Int) := by rw [Int.tmod_eq_emod_of_nonneg (by omega)]; rfl
set_option maxHeartbeats 1000000 in
theorem obput_no (b g size : Nat) (q : List Int) (A : Option Addr) (n c : Nat) (zs : List Int) (w : World) (h : BufAt w b g size q) (hr : RdI w .u8 A n c zs) (hn : size < q.length + n) :
    Calls Try.prog 35 #[.pointer (some ⟨b, 0, none⟩), .slice A n c] w fun e w' => e = .returned (.bool false) ∧ Below w.heap.size w w' := by
  have hle := h.le
  have c1 := obroom_any b g size q w h
  have t1 : decide (((size - q.length : Nat) : Int) < (n : Int)) = true := by simp; omega
  have t2 : decide (size - q.length < n) = true := by simp; omega
  have hm := hr.max
  have hc := hr.cap
  unfold maxLen at hm
  have C1 := Lib.hid c1
  clear c1 h hr hn
  go_enter Try.func35, Try.ntmps35
  go_wp2_with (go_at_call 32; ((with_reducible refine C1.out.mono ?_); rintro e w1 ⟨rfl, b1⟩))
  go_ret
  exact ⟨rfl, b1⟩
theorem obput_nil_no (A : Option Addr) (n c : Nat) (zs : List Int) (w : World) (hr : RdI w .u8 A n c zs) (hn : 0 < n) :
    Calls Try.prog 35 #[.pointer none, .slice A n c] w fun e w' => e = .returned (.bool false) ∧ w = w' := by
  have t1 : decide ((0 : Int) < (n : Int)) = true := by simp; omega
  have t2 : (0 : Int) < (n : Int) := by omega
  have hm := hr.max
  have hc := hr.cap
  unfold maxLen at hm
  clear hr hn
  go_enter Try.func35, Try.ntmps35
  go_wp2_with (go_at_call 32; ((with_reducible refine (obroom_nil _).mono ?_); rintro e w1 ⟨rfl, rfl⟩))
  go_ret
  exact ⟨rfl, rfl⟩
theorem obput_nil_yes (A : Option Addr) (c : Nat) (w : World) :
    Calls Try.prog 35 #[.pointer none, .slice A 0 c] w fun e w' => e = .returned (.bool true) ∧ w = w' := by
  go_enter Try.func35, Try.ntmps35
  go_wp2_with (go_at_call 32; ((with_reducible refine (obroom_nil _).mono ?_); rintro e w1 ⟨rfl, rfl⟩))
  refine wp_loop_rounds 1 ?_
  rw [rounds_succ]
  go_wp2
  go_ret
  exact ⟨rfl, rfl⟩
set_option maxHeartbeats 2000000 in
theorem obput_yes (b g size : Nat) (q : List Int) (A : Option Addr) (n c : Nat) (zs : List Int) (w : World) (h : BufAt w b g size q) (hr : RdI w .u8 A n c zs) (hn : q.length + n ≤ size) (hne : ∀ bs off, 0 < n → A = some ⟨bs, off, none⟩ → bs ≠ b ∧ bs ≠ g) :
    Calls Try.prog 35 #[.pointer (some ⟨b, 0, none⟩), .slice A n c] w fun e w' => e = .returned (.bool true) ∧ BufAt w' b g size (q ++ zs) ∧ Fr (fun k => k = b ∨ k = g) w w' := by
  have hle := h.le
  have c1 := obroom_any b g size q w h
  have t1 : decide (((size - q.length : Nat) : Int) < (n : Int)) = false := by simp; omega
  have t2 : decide (size - q.length < n) = false := by simp; omega
  have hm := hr.max
  have hc := hr.cap
  unfold maxLen at hm
  have C1 := Lib.hid c1
  have HB := Lib.hid h
  have HR := Lib.hid hr
  have HNE := Lib.hid hne
  have hlen := hr.len
  have HL := Lib.hid hlen
  clear c1 h hr hne hlen
  go_enter Try.func35, Try.ntmps35
  go_wp2_with (go_at_call 32; ((with_reducible refine C1.out.mono ?_); rintro e w1 ⟨rfl, b1⟩; have B1 := Lib.hid b1; clear b1))
  go_loopg [14] n (fun k si wr => ∃ i : Nat, i ≤ n ∧ k = n - i ∧ si = .int .i64 (i : Int) ∧ BufAt wr b g size (q ++ zs.take i) ∧ Fr (fun k => k = b ∨ k = g) w1 wr)
  case atStart => exact ⟨0, by omega, by omega, rfl, by rw [List.take_zero, List.append_nil]; exact HB.out.keep B1.out, Fr.refl _ _⟩
  case round =>
    obtain ⟨i, hi, hkk, rfl, hb, hf⟩ := hrel
    have HK := Lib.hid hkk
    have HF := Lib.hid hf
    clear hkk hf
    by_cases hin : i < n
    · obtain ⟨bs, off, rfl, hlt, hcs⟩ := HR.out.at_ (by omega)
      obtain ⟨ne1, ne2⟩ := HNE.out bs off (by omega) rfl
      have F0 := (Fr.of_below (F := fun k => k = b ∨ k = g) B1.out).trans HF.out
      have q0 : wr.cell? ⟨bs, off + i, none⟩ = some (.int .u8 (zs.getD i 0)) := (F0.cell hlt (by simp [ne1, ne2])).trans (hcs i hin)
      obtain ⟨first, arr, h1, h2, h3, h4, h5⟩ := hb
      have hgm : (q ++ zs.take i).length = q.length + i := by rw [List.length_append, List.length_take, HL.out]; omega
      have hput := ring_put h3 (by rw [hgm]; omega) (zs.getD i 0)
      rw [hgm] at h1 hput
      obtain ⟨m, hmm⟩ : ∃ m, m = q.length + i := ⟨_, rfl⟩
      rw [← hmm] at h1 hput
      obtain ⟨ix, hix⟩ : ∃ ix, ix = (first + m) % size := ⟨_, rfl⟩
      rw [← hix] at hput
      have hixl : ix < size := by rw [hix]; exact Nat.mod_lt _ (by omega)
      have e1 : IntKind.i64.wrap ((first : Int) + (m : Int)) = ((first + m : Nat) : Int) := by rw [IntKind.wrap_i64]; have := h3.2.1; omega
      have e2 : (((first + m : Nat) : Int)).tmod (size : Int) = (ix : Int) := by rw [obrem_any _ _ (by omega), hix]
      obtain ⟨fm, hfm⟩ : ∃ fm, fm = first + m := ⟨_, rfl⟩
      rw [← hfm] at e1 e2
      obtain ⟨cz, hcz⟩ : ∃ cz, cz = zs.getD i 0 := ⟨_, rfl⟩
      rw [← hcz] at q0 hput
      have hla : arr.length = size := h3.1
      have e3 : (fm : Int) % (size : Int) = (ix : Int) := by rw [hfm, hix]; rfl
      have hs0 : ¬ (size : Int) = 0 := by omega
      have hs1 : ¬ size = 0 := by omega
      have e4 : IntKind.i64.wrap (ix : Int) = (ix : Int) := by rw [IntKind.wrap_i64]; omega
      have g1 : (0 : Int) ≤ (ix : Int) := by omega
      have g2 : (ix : Int) < (size : Int) := by omega
      have k1 := h1.rd
      have k2 : wr.cell? ⟨g, ix, none⟩ = some (.int .u8 (arr.getD ix 0)) := by rw [blk_cell h2]; simp [List.getD, show ix < arr.length by omega]
      have k3 := h2.wr
      have hfirst : (first : Int) ≤ 65536 := by have := h3.2.1; omega
      have hmi : (m : Int) ≤ 65536 := by omega
      have hsz : (size : Int) ≤ 65536 := by omega
      have NE := Lib.hid h4
      have H1 := Lib.hid h1
      have H2 := Lib.hid h2
      have HP := Lib.hid hput
      have HX := Lib.hid (show q ++ zs.take (i + 1) = q ++ zs.take i ++ [cz] by rw [List.append_assoc, List.take_add_one]; congr 2; rw [hcz, List.getElem?_eq_getElem (by have := HL.out; omega)]; simp [List.getD, show i < zs.length by have := HL.out; omega])
      have HM := Lib.hid hmm
      have HG := Lib.hid hgm
      clear h1 h2 h3 h4 hput hix hfm hcs F0 hla hcz hmm hgm
      go_upto_region 6 with (fail)
      have k1 : ∀ i, wr.drew.cell? ⟨b, i, none⟩ = _ := (Blk.drew H1.out).rd
      have k2 : wr.drew.cell? ⟨g, ix, none⟩ = some (.int .u8 (arr.getD ix 0)) := k2
      have k3 : ∀ i, wr.drew.frozen? ⟨g, i, none⟩ = false := k3
      go_region_held3 (fun w' => (∀ i, w'.cell? ⟨b, i, none⟩ = (bufC g size first m)[i]?)) (first | assumption | (intro j; exact (World.cell?_setCell_other wr _ _ _ (by simp; exact fun e => absurd e.symm NE.out)).trans (k1 j)))
        (fail)
      have so := setCell_obj (i := ix) H2.out (.int .u8 cz)
      rw [so]
      have hlt2 := lt_of_block H2.out
      have x1 : Blk (setObj wr g (.cells ((obbyC arr).setIfInBounds ix (.int .u8 cz)) 5 (0, 0))).drew b _ _ := (setObj_other wr NE.out _).trans H1.out
      have x2 : Blk (setObj wr g (.cells ((obbyC arr).setIfInBounds ix (.int .u8 cz)) 5 (0, 0))).drew g _ _ := setObj_at hlt2 _
      have x3 : Fr (fun k => k = b ∨ k = g) wr (setObj wr g (.cells ((obbyC arr).setIfInBounds ix (.int .u8 cz)) 5 (0, 0))).drew := (Fr.setObj (F := fun k => k = b ∨ k = g) (Fr.refl _ _) (Or.inr rfl) _).drew
      clear so k1 k2 k3
      generalize (setObj wr g (.cells ((obbyC arr).setIfInBounds ix (.int .u8 cz)) 5 (0, 0))).drew = wx at x1 x2 x3 ⊢
      have k1 := x1.rd
      have k2 := x1.wr
      have X1 := Lib.hid x1
      have X2 := Lib.hid x2
      have X3 := Lib.hid x3
      clear x1 x2 x3
      go_wp2
      go_roundg (n - (i + 1))
      case measure => have := HK.out; omega
      case rel =>
        have hlb := lt_of_block X1.out
        rw [setCell_obj X1.out]
        refine ⟨i + 1, by omega, by omega, by go_num, ⟨first, arr.set ix cz, ?_, ?_, ?_, NE.out, h5⟩, HF.out.trans (X3.out.trans (Fr.setObj (F := fun k => k = b ∨ k = g) (Fr.refl _ _) (Or.inl rfl) _))⟩
        · have := setObj_at hlb (.cells ((bufC g size first m).setIfInBounds 2 (.int .i64 ((m : Int) + 1))) 75 (0, 0))
          have el : ((m : Int) + 1) = (((q ++ zs.take (i + 1)).length : Nat) : Int) := by rw [HX.out, List.length_append, HG.out]; simp; have := HM.out; omega
          rw [el] at this ⊢
          exact this
        · refine (setObj_other wx (Ne.symm NE.out) _).trans ?_
          have eb : obbyC (arr.set ix cz) = (obbyC arr).setIfInBounds ix (.int .u8 cz) := by unfold obbyC; simp [List.map_set]
          rw [eb]; exact X2.out
        · rw [HX.out]; exact HP.out
    · have hie : i = n := by omega
      subst hie
      go_wp2
      go_ret
      rw [List.take_of_length_le (by have := HL.out; omega)] at hb
      exact ⟨rfl, hb, (Fr.of_below (F := fun k => k = b ∨ k = g) B1.out).trans HF.out⟩
end Go.Proofs.Ytaghookljjpllaa
