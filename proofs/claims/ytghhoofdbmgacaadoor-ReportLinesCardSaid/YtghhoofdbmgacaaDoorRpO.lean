/- The law's own functions of layer 21 (report): hex. -/
import Derived.Test.YtghhoofdbmgacaaDoorRpK
namespace Go.Proofs.YtghhoofdbmgacaaDoor
set_option linter.unusedSimpArgs false
set_option linter.unusedVariables false
open Go.ChangeShapes Go.WideShapes Go.ChangeAt Go.RowKit Go.Deep
theorem hex_cut (q : Nat) (h : q < 16) : ∀ (W : World), (Instr.slice 9 (.string ⟨#[48, 49, 50, 51, 52, 53, 54, 55, 56, 57, 97, 98, 99, 100, 101, 102]⟩) (some (.int .u8 (q : Int))) (some (.int .u8 ((q : Int) + 1))) none).run Tryd.prog W = .ok (.string (strOfNums [hexD (q : Int)])) W := by
  intro W
  have hs : (⟨#[48, 49, 50, 51, 52, 53, 54, 55, 56, 57, 97, 98, 99, 100, 101, 102]⟩ : ByteArray).size = 16 := rfl
  rw [run_slice_string (P := Tryd.prog) W 9 _ .u8 .u8 (q : Int) ((q : Int) + 1) (by kernel_rfl) (by omega) (by omega) (by rw [hs]; omega)]
  have : ∀ m : Fin 16, (⟨#[48, 49, 50, 51, 52, 53, 54, 55, 56, 57, 97, 98, 99, 100, 101, 102]⟩ : ByteArray).extract m.val (m.val + 1) = strOfNums [hexD (m.val : Int)] := by decide +kernel
  have e := this ⟨q, h⟩
  rw [show ((q : Int) + 1).toNat = q + 1 by omega, Int.toNat_natCast]
  rw [e]
set_option maxHeartbeats 8000000 in
theorem lhex_any (s : ByteArray) (hs : s.size ≤ 64) (w : World) :
    Calls Tryd.prog 8 #[.string s] w fun e w' => e = .returned (.string (strOfNums (keyZ (nums s)))) ∧ Below w.heap.size w w' := by
  by_cases h0 : s.size = 0
  · have he := size0 h0
    subst he
    go_enter Tryd.func8, Tryd.ntmps8
    go_wp2
    go_ret
    have e : (⟨#[45]⟩ : ByteArray) = strOfNums (keyZ (nums ⟨#[]⟩)) := by rw [nums_e', keyZ, if_pos rfl]; exact str_lit1 45
    exact ⟨congrArg (fun z => Ending.returned (.string z)) e, Below.refl _ _⟩
  · have hne := str_ne h0
    have hsz : (s.size : Int) ≤ 64 := by omega
    have HS0 := Lib.hid h0
    clear h0
    go_enter Tryd.func8, Tryd.ntmps8
    go_upto_region 5 with (fail)
    go_loopg [3, 9] s.size (fun k s3 s9 wr => ∃ i : Nat, i ≤ s.size ∧ k = s.size - i ∧ s9 = .int .i64 (i : Int) ∧ s3 = .string (strOfNums (hexL ((nums s).take i))) ∧ Below w.heap.size w wr)
    case atStart => exact ⟨0, by omega, by omega, rfl, rfl, Below.refl _ _⟩
    case round =>
      obtain ⟨i, hi, hkk, rfl, rfl, hb⟩ := hrel
      have HK := Lib.hid hkk
      have HB := Lib.hid hb
      clear hkk hb
      by_cases hin : i < s.size
      · have HNX := Lib.hid (nums_at s i hin)
        obtain ⟨c, hc⟩ : ∃ c : Nat, c = (s[i]'hin).toNat := ⟨_, rfl⟩
        have hcb : c < 256 := by rw [hc]; exact UInt8.toNat_lt _
        rw [← hc] at HNX
        have ec : (s[i]'hin).toNat = c := hc.symm
        clear hc
        obtain ⟨q, hq⟩ : ∃ z : Nat, z = c / 16 := ⟨_, rfl⟩
        obtain ⟨r, hr⟩ : ∃ z : Nat, z = c % 16 := ⟨_, rfl⟩
        have e1 : (c : Int).tdiv 16 = (q : Int) := by rw [Int.tdiv_eq_ediv_of_nonneg (by omega)]; omega
        have e2 : (c : Int).tmod 16 = (r : Int) := by rw [Int.tmod_eq_emod_of_nonneg (by omega)]; omega
        have e3 : (c : Int) / 16 = (q : Int) := by omega
        have e4 : (c : Int) % 16 = (r : Int) := by omega
        have k1 := hex_cut q (by omega)
        have k2 := hex_cut r (by omega)
        have ew1 : IntKind.u8.wrap (q : Int) = (q : Int) := by rw [IntKind.wrap_u8]; omega
        have ew2 : IntKind.u8.wrap ((q : Int) + 1) = (q : Int) + 1 := by rw [IntKind.wrap_u8]; omega
        have ew3 : IntKind.u8.wrap (r : Int) = (r : Int) := by rw [IntKind.wrap_u8]; omega
        have ew4 : IntKind.u8.wrap ((r : Int) + 1) = (r : Int) + 1 := by rw [IntKind.wrap_u8]; omega
        have HHX := Lib.hid (show hexL ((nums s).take (i + 1)) = hexL ((nums s).take i) ++ ([hexD (q : Int)] ++ [hexD (r : Int)]) from by
          rw [HNX.out, hexL_app, hexL, e3, e4]
          rfl)
        obtain ⟨s0, hs0⟩ : ∃ t, t = strOfNums (hexL ((nums s).take i)) := ⟨_, rfl⟩
        obtain ⟨s1, hs1⟩ : ∃ t, t = strOfNums [hexD (q : Int)] := ⟨_, rfl⟩
        obtain ⟨s2, hs2⟩ : ∃ t, t = strOfNums [hexD (r : Int)] := ⟨_, rfl⟩
        have HSS := Lib.hid (show s0 ++ (s1 ++ s2) = strOfNums (hexL ((nums s).take (i + 1))) from by rw [HHX.out, hs0, hs1, hs2, str_append, str_append])
        have z0 : s0.size ≤ 128 := by rw [hs0, str_size, hexL_length, List.length_take]; omega
        have z1 : s1.size = 1 := by rw [hs1, str_size]; rfl
        have z2 : s2.size = 1 := by rw [hs2, str_size]; rfl
        rw [← hs1] at k1
        rw [← hs2] at k2
        rw [← hs0]
        have q1 : (9223372036854775807 < s1.size + s2.size) = False := eq_false (by omega)
        have q2 : (9223372036854775807 < s0.size + (s1.size + s2.size)) = False := eq_false (by omega)
        clear hq hr hs0 hs1 hs2
        go_upto_region 7 with (fail)
        go_quiet (fail)
        go_wp2
        go_roundg (s.size - (i + 1))
        case measure => have := HK.out; omega
        case rel => exact ⟨i + 1, by omega, by omega, by go_num, by rw [HSS.out], below_draws HB.out _⟩
      · have hie : i = s.size := by omega
        have HKY := Lib.hid (show hexL ((nums s).take i) = keyZ (nums s) from by
          rw [List.take_of_length_le (by rw [nums_length]; omega)]
          unfold keyZ
          rw [if_neg (fun e => HS0.out ((nums_nil s).1 e))])
        rw [HKY.out]
        go_wp2
        go_ret
        exact ⟨rfl, HB.out⟩
end Go.Proofs.YtghhoofdbmgacaaDoor
