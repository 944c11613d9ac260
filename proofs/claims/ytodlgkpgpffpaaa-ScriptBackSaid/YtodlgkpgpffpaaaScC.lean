/- The laws of layer 19 (script), walked: clocks. -/
import Derived.Test.YtodlgkpgpffpaaaScF
namespace Go.Proofs.Ytodlgkpgpffpaaa
open Go.ChangeShapes Go.WideShapes Go.ChangeAt Go.RowKit
def flat : List Int → List Int
  | [] => []
  | x :: r => 0 :: x / 256 :: x % 256 :: flat r
theorem flat_length : ∀ l, (flat l).length = l.length * 3
  | [] => rfl
  | x :: r => by rw [flat, List.length_cons, List.length_cons, List.length_cons, flat_length r, List.length_cons]; omega
theorem flat_app : ∀ l m, flat (l ++ m) = flat l ++ flat m
  | [], _ => rfl
  | x :: r, m => by rw [List.cons_append, flat, flat, flat_app r m]; rfl
def w16 (l : List Int) : Prop := ∀ x ∈ l, 0 ≤ x ∧ x < 65536
theorem flat_byt : ∀ l, w16 l → byt (flat l)
  | [], _ => by intro z hz; cases hz
  | x :: r, h => by
    have hx := h x (by simp)
    intro z hz
    rw [flat] at hz
    simp only [List.mem_cons] at hz
    rcases hz with rfl | rfl | rfl | hz
    · omega
    · omega
    · omega
    · exact flat_byt r (fun y hy => h y (by simp [hy])) z hz
def clk : Int → List Int → List Act6
  | _, [] => []
  | now, x :: r => ⟨0, laterZ now x, 0, 0, 0, 0⟩ :: clk (laterZ now x) r
theorem clk_length : ∀ (l : List Int) (now : Int), (clk now l).length = l.length
  | [], _ => rfl
  | x :: r, now => by rw [clk, List.length_cons, clk_length r, List.length_cons]
theorem dec_flat : ∀ (l : List Int) (f : Nat) (now : Int), w16 l → l.length ≤ f → decF f (flat l) now = clk now l
  | [], f, now, _, _ => by cases f <;> simp [decF, flat, clk]
  | x :: r, f, now, h, hf => by
    obtain ⟨f', rfl⟩ : ∃ f', f = f' + 1 := ⟨f - 1, by simp at hf; omega⟩
    have hx := h x (by simp)
    have hs : stepA (flat (x :: r)) now = (⟨0, laterZ now x, 0, 0, 0, 0⟩, flat r) := by
      have e1 : preZ (flat (x :: r)) 1 = 0 := by simp [preZ, flat]
      have e2 : preZ ((flat (x :: r)).drop 1) 2 = x := by simp [preZ, flat]; omega
      have e3 : ((flat (x :: r)).drop 1).drop 2 = flat r := by simp [flat]
      unfold stepA
      simp only [e1, e2, e3]
      rfl
    rw [decF, if_neg (by simp [flat]), hs, clk]
    simp only
    rw [dec_flat r f' _ (fun y hy => h y (by simp [hy])) (by simp at hf; omega)]
theorem clk_at : ∀ (l : List Int) (now : Int) (j : Nat) (hj : j < l.length), clk now (l.drop j) = ⟨0, laterZ now l[j], 0, 0, 0, 0⟩ :: clk (laterZ now l[j]) (l.drop (j + 1)) := by
  intro l now j hj
  rw [List.drop_eq_getElem_cons hj, clk]
theorem later_add {now x : Int} (h : 0 ≤ now ∧ now ≤ 1000000000000000) (hx : 0 ≤ x ∧ x < 65536) : laterZ now x = now + byZ x := by
  have := by_bd x hx
  rw [laterZ, if_neg (by omega)]
theorem u16_mask12 (n : Int) (h : 0 ≤ n ∧ n < 65536) : bits .and .u16 n 4095 = n % 4096 := by
  have hm : (BitVec.ofInt 16 4095).toNat = 2 ^ 12 - 1 := by decide
  have key : (BitVec.ofInt 16 n &&& BitVec.ofInt 16 4095).toNat = (n % ((2 ^ 16 : Nat) : Int)).toNat % 2 ^ 12 := by
    rw [BitVec.toNat_and, BitVec.toNat_ofInt, hm, Nat.and_two_pow_sub_one_eq_mod]
  show IntKind.u16.wrap ((BitVec.ofInt 16 n &&& BitVec.ofInt 16 4095).toNat : Nat) = n % 4096
  rw [key, IntKind.wrap_u16]
  omega
theorem rdI_own {w : World} {base m : Nat} {v : Value} {zs : List Int} (h : w.ownsRow base 5 1 v m (zs.map (Value.int .u8))) (hb : byt zs) : ∃ A c, v = .slice A m c ∧ RdI w .u8 A m c zs := by
  have hl : zs.length = m := by have := h.1; rw [List.length_map] at this; omega
  rcases h.2 with ⟨rfl, h0⟩ | ⟨g, cap, cur, rfl, hbg, hg, hnc, hcm, hcs, htake⟩
  · subst h0
    exact ⟨none, 0, rfl, hl, Nat.le_refl _, by unfold maxLen; omega, fun h => absurd h (by omega), fun z hz => u8_wf (hb z hz)⟩
  · refine ⟨_, _, rfl, hl, hnc, hcm, fun h0 => ⟨g, 0, rfl, lt_of_block hg, fun i hi => ?_⟩, fun z hz => u8_wf (hb z hz)⟩
    rw [Nat.zero_add, h.cellAt i (by omega)]
    simp [List.getD, show i < zs.length by omega]
set_option maxHeartbeats 4000000 in
set_option maxRecDepth 100000 in
theorem clocks_law (w : World) (A : Option Addr) (n c : Nat) (zs : List Int) (hr : RdI w .u16 A n c zs) :
    Calls Try.prog 5 #[.slice A n c] w fun e w' => e = .returned (.bool true) ∧ Below w.heap.size w w' := by
  have hcp := hr.cap
  have hmx := hr.max
  unfold maxLen at hmx
  by_cases hn : (100 : Int) < (n : Int)
  · clear hr
    go_enter Try.func5, Try.ntmps5
    go_wp2_with (go_at_call 7; refine (fit_any _).mono ?_; rintro e w1 ⟨rfl, b1⟩; have B1 := Lib.hid b1; clear b1)
    go_ret
    exact ⟨rfl, B1.out⟩
  have HR := Lib.hid hr
  have HL := Lib.hid hr.len
  have hw16 : w16 zs := fun z hz => by
    have := hr.wf z hz
    simp [Lit.wf, IntKind.min, IntKind.max, IntKind.signed, IntKind.bits] at this
    omega
  have HW := Lib.hid hw16
  clear hr hw16
  go_enter Try.func5, Try.ntmps5
  go_wp2_with (go_at_call 7; refine (fit_any _).mono ?_; rintro e w1 ⟨rfl, b1⟩; have B1 := Lib.hid b1; have HR1 := Lib.hid (HR.out.below b1); clear b1)
  go_loopg [3, 17] n (fun k v sj wr => ∃ j : Nat, j ≤ n ∧ k = n - j ∧ sj = .int .i64 (j : Int) ∧ wr.ownsRow w1.heap.size 5 1 v (3 * j) ((flat (zs.take j)).map (Value.int .u8)) ∧ Below w1.heap.size w1 wr)
  case atStart => exact ⟨0, by omega, by omega, rfl, World.ownsRow_nil _ _ _ _, Below.refl _ _⟩
  case round =>
    obtain ⟨j, hj, hkk, rfl, ho, hb⟩ := hrel
    have HK := Lib.hid hkk
    have HO := Lib.hid ho
    have HB := Lib.hid hb
    by_cases hjn : j < n
    · have hjz : j < zs.length := by rw [HL.out]; exact hjn
      obtain ⟨x, hx⟩ : ∃ x, x = zs[j] := ⟨_, rfl⟩
      have hxb := HW.out x (by rw [hx]; exact List.getElem_mem hjz)
      obtain ⟨b0, off, rfl, hlt, hc⟩ := (HR1.out.below hb).at_ (by omega)
      have hc0 := hc j hjn
      have hg : zs.getD j 0 = x := by rw [hx]; simp [List.getD, hjz]
      rw [hg] at hc0
      have ew1 : IntKind.u8.wrap (x / 256) = x / 256 := by rw [IntKind.wrap_u8]; omega
      have ew2 : IntKind.u8.wrap x = x % 256 := by rw [IntKind.wrap_u8]
      have HX := Lib.hid (show flat (zs.take (j + 1)) = flat (zs.take j) ++ [0, x / 256, x % 256] from by rw [List.take_succ_eq_append_getElem hjz, flat_app, ← hx]; rfl)
      have NW := Lib.hid (heap_alloc_new wr (.cells #[.int .u8 0, .int .u8 (x / 256), .int .u8 (x % 256)] 5))
      obtain ⟨i0, hi0, hz0, hz1, hz2⟩ := info_parts info_u8
      have hjb : j ≤ 100 := by omega
      clear hc hg hx hkk ho hb
      go_wp2_with (at_builtin; refine wpList_append_lies _ (by rfl) _ _ 28 (by rfl) w1.heap.size 5 i0 (.int .u8 0) 1 1 Try.underlying28 hi0 hz0 hz1 hz2 (by rfl) (by omega) u3 (3 * j) ((flat (zs.take j)).map (Value.int .u8)) (by rfl) (HO.out.alloc _) ⟨wr.heap.size, 0, none⟩ 3 3 [.int .u8 0, .int .u8 (x / 256), .int .u8 (x % 256)] (by rfl) (by rfl) (World.news_of_block NW.out) (by simp [Value.oneCell']) (by omega) (by unfold maxLen; omega) (by omega) (by have := HB.out.size; simp; omega) (wr.heap.size + 1) (by simp) ?_; intro gl cl w9 hown9 hgrow9 hat9 hlt9; have HO9 := Lib.hid hown9; have HG9 := Lib.hid hgrow9; clear hown9 hgrow9 hat9 hlt9)
      go_roundg (n - (j + 1))
      case measure => have := HK.out; omega
      case rel =>
        refine ⟨j + 1, by omega, by omega, by go_num, ?_, ?_⟩
        · rw [HX.out, List.map_append]; exact HO9.out
        · exact (fr_grown (Fr.alloc (Fr.of_below (F := fun _ => False) HB.out) _) HG9.out (own_base HO.out)).below (Nat.le_refl _) (fun k hk => hk.elim)
    · have hje : j = n := by omega
      subst hje
      rw [List.take_of_length_le (by rw [HL.out]; exact Nat.le_refl _)] at ho
      obtain ⟨A3, c3, rfl, r3⟩ := rdI_own ho (flat_byt _ HW.out)
      have hdf := dec_flat zs (flat zs).length 0 HW.out (by rw [flat_length]; omega)
      have CD := Lib.hid (decode_x A3 (3 * j) c3 (flat zs) wr r3 (by omega))
      obtain ⟨acts, hacts⟩ : ∃ l, l = clk 0 zs := ⟨_, rfl⟩
      have HDF := Lib.hid (hdf.trans hacts.symm)
      have HACTS := Lib.hid hacts
      clear ho r3 hdf hkk hb hacts
      obtain ⟨wo, rfl⟩ : ∃ wo : World, wo = wr := ⟨_, rfl⟩
      go_wp2_with (go_at_call 11; ((with_reducible refine CD.out.mono ?_); rintro e w2 ⟨A1, c1, ls, rfl, ha, hd, hb2⟩; have HA := Lib.hid ha; rw [HDF.out] at hd; have HD := Lib.hid hd; have HB2 := Lib.hid (HB.out.trans (hb2.mono HB.out.size)); have hll : ls.length = j := (by have e := congrArg List.length hd; have h1 := HL.out; rw [List.length_map, HACTS.out, clk_length] at e; omega); have lcp := ha.cap; have lmx := ha.max; unfold maxLen at lmx; clear ha hd hb2))
      go_loopg [4, 39] j (fun k s4 si wr => ∃ (i : Nat) (now : Int), i ≤ j ∧ k = j - i ∧ s4 = .int .i64 now ∧ si = .int .i64 (i : Int) ∧ (0 ≤ now ∧ now ≤ (i : Int) * 4398046511104) ∧ acts.drop i = clk now (zs.drop i) ∧ Below w2.heap.size w2 wr)
      case atStart => exact ⟨0, 0, by omega, by omega, rfl, rfl, by omega, HACTS.out, Below.refl _ _⟩
      case round =>
        obtain ⟨i, now, hi, hkk2, rfl, rfl, hnow, hdr, hb⟩ := hrel
        have HK2 := Lib.hid hkk2
        have HBR := Lib.hid hb
        have HDR := Lib.hid hdr
        clear hkk2 hdr
        by_cases hij : i < j
        · have hiz : i < zs.length := by rw [HL.out]; exact hij
          have hil : i < ls.length := by rw [hll]; exact hij
          obtain ⟨x, hx⟩ : ∃ x, x = zs[i] := ⟨_, rfl⟩
          have hxb := HW.out x (by rw [hx]; exact List.getElem_mem hiz)
          obtain ⟨b0, off, rfl, hlt0, hc0⟩ := (HR1.out.below (HB2.out.trans (hb.mono HB2.out.size))).at_ (by omega)
          have hz := hc0 i hij
          rw [show zs.getD i 0 = x from by rw [hx]; simp [List.getD, hiz]] at hz
          have hia : i < acts.length := by rw [← HD.out, List.length_map]; exact hil
          have hs := HDR.out
          rw [clk_at zs now i hiz, ← hx, List.drop_eq_getElem_cons hia, List.cons.injEq] at hs
          obtain ⟨hsa, hsd⟩ := hs
          have h6 := (to6_at HD.out i hil hia).trans hsa
          obtain ⟨g, rfl, _, hlt, hc⟩ := (HA.out.keep hb).at_ (by omega)
          have c0 := hc i hil 0 (by omega)
          have c1 := hc i hil 1 (by omega)
          have c2 := hc i hil 2 (by omega)
          obtain ⟨a, haa⟩ : ∃ a, a = ls[i] := ⟨_, rfl⟩
          rw [← haa] at c0 c1 c2 h6
          clear haa hc hc0
          obtain ⟨kd, ck, cn, aA, dl, dc, an, aB, sl, sc⟩ := a
          simp only [ActV.to6, Act6.mk.injEq] at h6
          obtain ⟨rfl, hck, rfl, _⟩ := h6
          obtain ⟨Y, hY⟩ : ∃ Y, Y = byZ x := ⟨_, rfl⟩
          have hyb := by_bd x hxb
          rw [← hY] at hyb
          rw [later_add (by omega) hxb, ← hY] at hck hsd
          subst hck
          obtain ⟨y, hy⟩ : ∃ y, y = x % 4096 := ⟨_, rfl⟩
          have e1 : bits .and .u16 x 4095 = y := by rw [hy]; exact u16_mask12 x hxb
          have hyb1 : 0 ≤ y ∧ y ≤ 4095 := by omega
          obtain ⟨K, hK⟩ : ∃ K, K = (2 : Int) ^ (2 * (x / 4096)).toNat := ⟨_, rfl⟩
          have e2 : (2 : Int) ^ (2 * (x / 4096)).toNat = K := hK.symm
          have hyk : y * K = Y := by rw [hy, hK, hY, byZ, two_four _ (by omega)]
          have e3 : wrap64 (y * K) = Y := by rw [hyk]; unfold wrap64; omega
          have HSD := Lib.hid hsd
          simp [ActV.cells] at c0 c1 c2
          clear hx hsa hsd hY hy hK hyk hb
          go_wp2
          go_roundg (j - (i + 1))
          case measure => have := HK2.out; omega
          case rel => exact ⟨i + 1, now + Y, by omega, by omega, by go_num, by go_num, by omega, HSD.out, HBR.out⟩
        · have hie : i = j := by omega
          go_wp2
          go_ret
          exact ⟨rfl, B1.out.trans ((HB2.out.trans (HBR.out.mono HB2.out.size)).mono B1.out.size)⟩
end Go.Proofs.Ytodlgkpgpffpaaa
