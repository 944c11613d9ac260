/- The laws of layer 19 (script): same. -/
import Derived.Test.YtodlgkpgpffpaaaScT
import Derived.WalkSpells
namespace Go.Proofs.Ytodlgkpgpffpaaa
open Go.ChangeShapes Go.WideShapes Go.ChangeAt Go.RowKit
theorem two_boxes (w : World) (X Y : Array Value) (t : TypeId) : Blk ((w.alloc (.cells X t)).alloc (.cells Y t)).drew w.heap.size t X ∧ Blk ((w.alloc (.cells X t)).alloc (.cells Y t)).drew (w.heap.size + 1) t Y ∧ Below w.heap.size w ((w.alloc (.cells X t)).alloc (.cells Y t)).drew := by
  refine ⟨(Blk.alloc (heap_alloc_new w _) _).drew, ?_, ?_⟩
  · have := heap_alloc_new (w.alloc (.cells X t)) (.cells Y t)
    rw [show (w.alloc (.cells X t)).heap.size = w.heap.size + 1 from by simp] at this
    exact Blk.drew this
  · exact below_draws (((Below.refl _ _).alloc (Nat.le_refl _) _).alloc (by simp) _) 1
set_option maxHeartbeats 4000000 in
set_option maxRecDepth 100000 in
theorem same_any (w : World) (A A' : Option Addr) (n c c' : Nat) (ls ls' : List ActV) (cs : List ActC) (hr : RdA w A n c ls cs) (hr' : RdA w A' n c' ls' cs) :
    Calls Try.prog 10 #[.slice A n c, .slice A' n c'] w fun e w' => e = .returned (.bool true) ∧ Below w.heap.size w w' := by
  have hcp := hr.cap
  have hmx := hr.max
  have hcp' := hr'.cap
  have hmx' := hr'.max
  unfold maxLen at hmx hmx'
  have HR := Lib.hid hr
  have HR' := Lib.hid hr'
  clear hr hr'
  go_enter Try.func10, Try.ntmps10
  go_wp2
  go_loopg [5, 16] n (fun k s5 sj wr => ∃ j : Nat, j ≤ n ∧ k = n - j ∧ sj = .int .i64 (j : Int) ∧ Below w.heap.size w wr)
  case atStart => exact ⟨0, by omega, by omega, rfl, Below.refl _ _⟩
  case round =>
    obtain ⟨j, hj, hkk, rfl, hb⟩ := hrel
    have HK := Lib.hid hkk
    have HB := Lib.hid hb
    clear hkk
    by_cases hjn : j < n
    · have hjl : j < ls.length := by rw [HR.out.len]; exact hjn
      have hjl' : j < ls'.length := by rw [HR'.out.len]; exact hjn
      have hjc : j < cs.length := by rw [HR.out.lenc]; exact hjn
      obtain ⟨g, off, rfl, hlt, hc⟩ := (HR.out.below hb).at_ (by omega)
      obtain ⟨g', off', rfl, hlt', hc'⟩ := (HR'.out.below hb).at_ (by omega)
      have c0 := hc j hjl 0 (by omega)
      have c1 := hc j hjl 1 (by omega)
      have c2 := hc j hjl 2 (by omega)
      have c3 := hc j hjl 3 (by omega)
      have c4 := hc j hjl 4 (by omega)
      have c5 := hc j hjl 5 (by omega)
      have d0 := hc' j hjl' 0 (by omega)
      have d1 := hc' j hjl' 1 (by omega)
      have d2 := hc' j hjl' 2 (by omega)
      have d3 := hc' j hjl' 3 (by omega)
      have d4 := hc' j hjl' 4 (by omega)
      have d5 := hc' j hjl' 5 (by omega)
      have ha := (HR.out.below hb).hold j hjl hjc
      have ha' := (HR'.out.below hb).hold j hjl' hjc
      obtain ⟨a, haa⟩ : ∃ a, a = ls[j] := ⟨_, rfl⟩
      obtain ⟨a', haa'⟩ : ∃ a, a = ls'[j] := ⟨_, rfl⟩
      obtain ⟨q, hqq⟩ : ∃ q, q = cs[j] := ⟨_, rfl⟩
      rw [← haa] at c0 c1 c2 c3 c4 c5 ha
      rw [← haa'] at d0 d1 d2 d3 d4 d5 ha'
      rw [← hqq] at ha ha'
      clear haa haa' hqq hc hc' hb
      obtain ⟨kd, ck, cn, aA, dl, dc, an, aB, sl, sc⟩ := a
      obtain ⟨kd1, ck1, cn1, aA1, dl1, dc1, an1, aB1, sl1, sc1⟩ := a'
      obtain ⟨kd', ck', cn', dat, an', sds⟩ := q
      obtain ⟨r1, r2, r3, r4, hda, hse⟩ := ha
      simp only at r1 r2 r3 r4 hda hse
      subst r1 r2 r3 r4
      obtain ⟨r1, r2, r3, r4, hda1, hse1⟩ := ha'
      simp only at r1 r2 r3 r4 hda1 hse1
      subst r1 r2 r3 r4
      have r5 : dl1 = dl := by have := hda.len; have := hda1.len; omega
      have r6 : sl1 = sl := by have := hse.len; have := hse1.len; omega
      subst r5 r6
      simp [ActV.cells] at c0 c1 c2 c3 c4 c5 d0 d1 d2 d3 d4 d5
      have HDA := Lib.hid hda
      have HDA1 := Lib.hid hda1
      have HSE := Lib.hid hse
      have HSE1 := Lib.hid hse1
      have hs1 : sl1 ≤ sc := hse.cap
      have hs2 : sl1 ≤ sc1 := hse1.cap
      have hs3 := hse.max
      have hs4 := hse1.max
      unfold maxLen at hs3 hs4
      clear hda hda1 hse hse1
      go_upto_region 6 with (fail)
      have t1 : (0 : Int) ≤ (j : Int) := by omega
      have t2 : (j : Int) < (n : Int) := by omega
      have n1 := World.new_ne wr ⟨g, off + j * 6, none⟩ c0
      have n2 := World.new_ne wr ⟨g', off' + j * 6, none⟩ d0
      go_cut [6, 7] from 17 to 89 (fun s6 s7 wx => ∃ xb yb : Nat, s6 = .pointer (some ⟨xb, 0, none⟩) ∧ s7 = .pointer (some ⟨yb, 0, none⟩) ∧ Blk wx xb 32 #[.int .i64 kd1, .int .i64 ck1, .int .i64 cn1, .slice aA dl1 dc, .int .i64 an1, .slice aB sl1 sc] ∧ Blk wx yb 32 #[.int .i64 kd1, .int .i64 ck1, .int .i64 cn1, .slice aA1 dl1 dc1, .int .i64 an1, .slice aB1 sl1 sc1] ∧ Below wr.heap.size wr wx)
      case first =>
        go_region_held3 (fun w' => (w'.cell? ⟨g, off + j * 6, none⟩ = some (.int .i64 kd1) ∧ w'.cell? ⟨g, off + j * 6 + 1, none⟩ = some (.int .i64 ck1) ∧ w'.cell? ⟨g, off + j * 6 + 2, none⟩ = some (.int .i64 cn1) ∧ w'.cell? ⟨g, off + j * 6 + 3, none⟩ = some (.slice aA dl1 dc) ∧ w'.cell? ⟨g, off + j * 6 + 4, none⟩ = some (.int .i64 an1) ∧ w'.cell? ⟨g, off + j * 6 + 5, none⟩ = some (.slice aB sl1 sc)) ∧ (w'.cell? ⟨g', off' + j * 6, none⟩ = some (.int .i64 kd1) ∧ w'.cell? ⟨g', off' + j * 6 + 1, none⟩ = some (.int .i64 ck1) ∧ w'.cell? ⟨g', off' + j * 6 + 2, none⟩ = some (.int .i64 cn1) ∧ w'.cell? ⟨g', off' + j * 6 + 3, none⟩ = some (.slice aA1 dl1 dc1) ∧ w'.cell? ⟨g', off' + j * 6 + 4, none⟩ = some (.int .i64 an1) ∧ w'.cell? ⟨g', off' + j * 6 + 5, none⟩ = some (.slice aB1 sl1 sc1))) (go_keep) (fail)
        all_goals
          clear n1 n2 c0 c1 c2 c3 c4 c5 d0 d1 d2 d3 d4 d5
          go_wp2
          go_meet
          first
            | exact ⟨wr.heap.size, wr.heap.size + 1, rfl, rfl, (two_boxes wr _ _ _).1, (two_boxes wr _ _ _).2.1, (two_boxes wr _ _ _).2.2⟩
            | exact ⟨wr.heap.size + 1, wr.heap.size, rfl, rfl, (two_boxes wr _ _ _).2.1, (two_boxes wr _ _ _).1, (two_boxes wr _ _ _).2.2⟩
      case rest =>
        obtain ⟨xb, yb, rfl, rfl, hx, hy, hbx⟩ := hcut
        have HX := Lib.hid hx
        have HY := Lib.hid hy
        have HBX := Lib.hid (HB.out.trans (hbx.mono HB.out.size))
        have kx := hx.rd
        have ky := hy.rd
        have hcv1 := conv_str (P := Try.prog) (dst := 9) Try.underlying28 Try.underlying5 Try.underlying9 (HDA.out.below hbx)
        have hcv2 := conv_str (P := Try.prog) (dst := 9) Try.underlying28 Try.underlying5 Try.underlying9 (HDA1.out.below hbx)
        have HS1 := Lib.hid (HSE.out.below hbx)
        have HS2 := Lib.hid (HSE1.out.below hbx)
        clear hx hy hbx n1 n2 c0 c1 c2 c3 c4 c5 d0 d1 d2 d3 d4 d5 t1 t2
        have hund : undef = Value.tuple #[] := rfl
        go_wp2
        go_loopg [8, 74] sl1 (fun k2 s8 si wq => ∃ i : Nat, i ≤ sl1 ∧ k2 = sl1 - i ∧ si = .int .i64 (i : Int) ∧ Below wc.heap.size wc wq)
        case atStart => exact ⟨0, by omega, by omega, rfl, Below.refl _ _⟩
        case round =>
          obtain ⟨i, hi, hkk2, rfl, hbq⟩ := hrel
          have HK2 := Lib.hid hkk2
          have HBQ := Lib.hid hbq
          have kx := (HX.out.keep hbq).rd
          have ky := (HY.out.keep hbq).rd
          clear hkk2 hcv1 hcv2
          by_cases his : i < sl1
          · obtain ⟨sb, so, rfl, hl1, hc1⟩ := (HS1.out.below hbq).at_ (by omega)
            obtain ⟨sb1, so1, rfl, hl2, hc2⟩ := (HS2.out.below hbq).at_ (by omega)
            have q1 := hc1 i his
            have q2 := hc2 i his
            obtain ⟨z, hz⟩ : ∃ z, z = sds.getD i 0 := ⟨_, rfl⟩
            rw [← hz] at q1 q2
            have t1 : (0 : Int) ≤ (i : Int) := by omega
            have t2 : (i : Int) < (sl1 : Int) := by omega
            clear hz hc1 hc2 hl1 hl2 hbq
            go_upto_region 12 with (fail)
            go_quiet (fail)
            clear q1 q2 kx ky
            go_wp2
            go_roundg (sl1 - (i + 1))
            case measure => have := HK2.out; omega
            case rel => exact ⟨i + 1, by omega, by omega, by go_num, below_draws HBQ.out _⟩
          · have hie : i = sl1 := by omega
            subst hie
            have HBZ := Lib.hid (HBX.out.trans (hbq.mono HBX.out.size))
            clear hbq kx ky
            go_wp2
            go_roundg (n - (j + 1))
            case measure => have := HK.out; omega
            case rel => exact ⟨j + 1, by omega, by omega, by go_num, HBZ.out⟩
    · have hje : j = n := by omega
      subst hje
      clear hb
      go_wp2
      go_ret
      exact ⟨rfl, HB.out⟩
end Go.Proofs.Ytodlgkpgpffpaaa
