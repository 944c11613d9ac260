/- The laws of layer 19 (script): light, tame. -/
import Derived.Test.YtodlgkpgpffpaaaRowA
import Derived.Test.YtodlgkpgpffpaaaScW
import Derived.Deep.CutRange
import Derived.Deep.CutBlock
namespace Go.Proofs.Ytodlgkpgpffpaaa
open Go.ChangeShapes Go.WideShapes Go.ChangeAt Go.RowKit
/-- a store into a cell of a block that is known whole. -/
theorem box_set {w : World} {b : Nat} {t : TypeId} {c : Array Value} (h : Blk w b t c) (i : Nat) (v : Value) (c' : Array Value) (hc : c.setIfInBounds i v = c') :
    ∃ w', w.setCell ⟨b, i, none⟩ v = w' ∧ Blk w' b t c' ∧ Fr (fun k => k = b) w w' ∧ w'.heap.size = w.heap.size := by
  refine ⟨_, rfl, ?_, ?_, ?_⟩
  · rw [setCell_obj h, hc]; exact setObj_at (lt_of_block h) _
  · rw [setCell_obj h]; exact Fr.setObj (F := fun k => k = b) (Fr.refl _ _) rfl _
  · rw [setCell_obj h, setObj_size]
theorem tmod5 (k : Int) : -4 ≤ k.tmod 5 ∧ k.tmod 5 ≤ 4 ∧ (k.tmod 5 + 5) % 5 = k % 5 := by
  by_cases h : 0 ≤ k
  · rw [Int.tmod_eq_emod_of_nonneg h]; omega
  · obtain ⟨m, rfl⟩ : ∃ m, k = -m := ⟨-k, by omega⟩
    rw [Int.neg_tmod, Int.tmod_eq_emod_of_nonneg (by omega)]; omega
def tameA (now : Int) (c : ActC) : ActC :=
  ⟨c.kind % 5, now + c.clock % 4096, c.conn % 16, if c.kind % 5 = 2 then c.data.take 255 else [], if c.kind % 5 = 3 then c.n % 256 else 0, if c.kind % 5 = 4 then c.seeds.take 3 else []⟩
def tameL : Int → List ActC → List ActC
  | _, [] => []
  | now, c :: r => tameA now c :: tameL (now + c.clock % 4096) r
def nowL : Int → List ActC → Int
  | now, [] => now
  | now, c :: r => nowL (now + c.clock % 4096) r
theorem tameL_snoc (c : ActC) : ∀ (l : List ActC) (now : Int), tameL now (l ++ [c]) = tameL now l ++ [tameA (nowL now l) c]
  | [], _ => rfl
  | a :: l, now => by rw [List.cons_append, tameL, tameL, nowL, tameL_snoc c l]; rfl
theorem nowL_snoc (c : ActC) : ∀ (l : List ActC) (now : Int), nowL now (l ++ [c]) = nowL now l + c.clock % 4096
  | [], _ => rfl
  | a :: l, now => by rw [List.cons_append, nowL, nowL, nowL_snoc c l]
theorem tameL_length : ∀ (l : List ActC) (now : Int), (tameL now l).length = l.length
  | [], _ => rfl
  | a :: l, now => by rw [tameL, List.length_cons, tameL_length l, List.length_cons]
theorem nowL_bd : ∀ (l : List ActC) (now : Int), now ≤ nowL now l ∧ nowL now l ≤ now + 4095 * l.length
  | [], now => by simp [nowL]
  | a :: l, now => by
    have := nowL_bd l (now + a.clock % 4096)
    rw [nowL, List.length_cons]
    omega
theorem tameL_tame : ∀ (l : List ActC) (now : Int), (∀ a ∈ l, ∀ s ∈ a.seeds, 0 ≤ s ∧ s < 18446744073709551616) → 0 ≤ now → now + 4096 * (l.length : Int) ≤ 9223372036854775807 → tameC (tameL now l) now
  | [], _, _, _, _ => trivial
  | a :: l, now, hs, h0, h1 => by
    rw [List.length_cons] at h1
    refine ⟨⟨?_, ?_, ?_, ?_, ?_, ?_, ?_, ?_, ?_⟩, tameL_tame l _ (fun a ha => hs a (by simp [ha])) (by omega) (by omega)⟩
    · simp only [tameA]; omega
    · simp only [tameA]; omega
    · simp only [tameA]; omega
    · simp only [tameA]; split <;> simp [List.length_take]; omega
    · simp only [tameA]; intro h; rw [if_neg h]
    · simp only [tameA]; intro h; rw [if_neg h]
    · simp only [tameA]; split <;> simp [List.length_take]; omega
    · simp only [tameA]; intro h; rw [if_neg h]
    · simp only [tameA]
      intro s h
      split at h
      · exact hs a (by simp) s (List.mem_of_mem_take h)
      · cases h
def HoldsL (w : World) (ls : List ActV) (cs : List ActC) : Prop := ls.length = cs.length ∧ ∀ (j : Nat) (h : j < ls.length) (h' : j < cs.length), HoldA w ls[j] cs[j]
theorem HoldsL.below {w w' : World} {ls : List ActV} {cs : List ActC} (h : HoldsL w ls cs) (hb : Below w.heap.size w w') : HoldsL w' ls cs := ⟨h.1, fun j h1 h2 => (h.2 j h1 h2).below hb⟩
theorem HoldsL.snoc {w : World} {ls : List ActV} {cs : List ActC} {a : ActV} {c : ActC} (h : HoldsL w ls cs) (ha : HoldA w a c) : HoldsL w (ls ++ [a]) (cs ++ [c]) := by
  refine ⟨by simp [h.1], fun j h1 h2 => ?_⟩
  rw [List.length_append, List.length_singleton] at h1
  by_cases hj : j < ls.length
  · rw [List.getElem_append_left hj, List.getElem_append_left (by rw [← h.1]; exact hj)]; exact h.2 j hj _
  · have hje : j = ls.length := by omega
    subst hje
    have hl := h.1
    simp only [List.getElem_append_right (Nat.le_refl _), Nat.sub_self, List.getElem_singleton]
    rw [List.getElem_append_right (by omega)]
    simpa using ha
theorem rdI_pre {w : World} {k : IntKind} {A : Option Addr} {n c m : Nat} {zs : List Int} (h : RdI w k A n c zs) (hm : m ≤ n) : RdI w k A m c (zs.take m) := by
  have hl := h.len
  have hc := h.cap
  refine ⟨by rw [List.length_take]; omega, by omega, h.max, fun h0 => ?_, fun z hz => h.wf z (List.mem_of_mem_take hz)⟩
  obtain ⟨b, off, e, hlt, hcs⟩ := h.at_ (by omega)
  refine ⟨b, off, e, hlt, fun i hi => ?_⟩
  rw [hcs i (by omega)]
  simp [List.getD, List.getElem?_take, hi]
theorem own_fr' {w w' : World} {F : Nat → Prop} {base : Nat} {e : TypeId} {size n : Nat} {v : Value} {xs : List Value} (h : w.ownsRow base e size v n xs) (hf : Fr F w w') (hF : ∀ g, v.ownBlock = some g → ¬ F g) : w'.ownsRow base e size v n xs := by
  refine ⟨h.1, ?_⟩
  rcases h.2 with h0 | ⟨g, cap, cur, hv, hb, hg, hr⟩
  · exact .inl h0
  · exact .inr ⟨g, cap, cur, hv, hb, (hf.block g (lt_of_block hg) (hF g (by rw [hv]; rfl))).trans hg, hr⟩
def lightP (ls : List ActV) : Prop := ls.length ≤ 100 ∧ ∀ a ∈ ls, a.dl ≤ 400 ∧ a.sl ≤ 10
set_option maxHeartbeats 2000000 in
theorem light_any (w : World) (A : Option Addr) (n c : Nat) (ls : List ActV) (cs : List ActC) (v : Bool) (hv : v = true ↔ lightP ls) (hr : RdA w A n c ls cs) :
    Calls Try.prog 8 #[.slice A n c] w fun e w' => e = .returned (.bool v) ∧ Below w.heap.size w w' := by
  have hln := hr.len
  have hcp := hr.cap
  have hmx := hr.max
  unfold maxLen at hmx
  have HV := Lib.hid hv
  have HR := Lib.hid hr
  have HL := Lib.hid hln
  clear hv hr hln
  by_cases h100 : (100 : Int) < (n : Int)
  · go_enter Try.func8, Try.ntmps8
    go_wp2
    go_ret
    refine ⟨?_, Below.refl _ _⟩
    cases v with
    | false => rfl
    | true => exact absurd (HV.out.1 rfl).1 (by have := HL.out; omega)
  have h100' : (n : Int) ≤ 100 := by omega
  clear h100
  go_enter Try.func8, Try.ntmps8
  go_wp2
  go_loopg [10] n (fun k sj wr => ∃ j : Nat, j ≤ n ∧ k = n - j ∧ sj = .int .i64 (j : Int) ∧ (∀ a ∈ ls.take j, a.dl ≤ 400 ∧ a.sl ≤ 10) ∧ Below w.heap.size w wr)
  case atStart => exact ⟨0, by omega, by omega, rfl, (fun a ha => by simp at ha), Below.refl _ _⟩
  case round =>
    obtain ⟨j, hj, hkk, rfl, hall, hb⟩ := hrel
    have HK := Lib.hid hkk
    have HA := Lib.hid hall
    have HB := Lib.hid hb
    clear hkk hall
    by_cases hjn : j < n
    · have hjl : j < ls.length := by rw [HL.out]; exact hjn
      obtain ⟨g, off, rfl, hlt, hc⟩ := (HR.out.below hb).at_ (by omega)
      have c0 := hc j hjl 0 (by omega)
      have c1 := hc j hjl 1 (by omega)
      have c2 := hc j hjl 2 (by omega)
      have c3 := hc j hjl 3 (by omega)
      have c4 := hc j hjl 4 (by omega)
      have c5 := hc j hjl 5 (by omega)
      have HT := Lib.hid (show ls.take (j + 1) = ls.take j ++ [ls[j]] from List.take_succ_eq_append_getElem hjl)
      have HM := Lib.hid (List.getElem_mem hjl)
      obtain ⟨a, haa⟩ : ∃ a, a = ls[j] := ⟨_, rfl⟩
      rw [← haa] at c0 c1 c2 c3 c4 c5 HT HM
      clear haa hc hb
      obtain ⟨kd, ck, cn, aA, dl, dc, an, aB, sl, sc⟩ := a
      simp [ActV.cells] at c0 c1 c2 c3 c4 c5
      have hund : undef = Value.tuple #[] := rfl
      by_cases hd : (400 : Int) < (dl : Int)
      · have hd' : decide ((400 : Int) < (dl : Int)) = true := by simpa using hd
        go_wp2
        go_ret
        refine ⟨?_, HB.out.alloc HB.out.size _⟩
        cases v with
        | false => rfl
        | true => exact absurd ((HV.out.1 rfl).2 _ HM.out).1 (by simp only; omega)
      · have hd' : decide ((400 : Int) < (dl : Int)) = false := by simpa using hd
        by_cases hs : (10 : Int) < (sl : Int)
        · have hs' : decide ((10 : Int) < (sl : Int)) = true := by simpa using hs
          go_wp2
          go_ret
          refine ⟨?_, HB.out.alloc HB.out.size _⟩
          cases v with
          | false => rfl
          | true => exact absurd ((HV.out.1 rfl).2 _ HM.out).2 (by simp only; omega)
        · have hs' : decide ((10 : Int) < (sl : Int)) = false := by simpa using hs
          go_wp2
          go_roundg (n - (j + 1))
          case measure => have := HK.out; omega
          case rel =>
            refine ⟨j + 1, by omega, by omega, by go_num, ?_, HB.out.alloc HB.out.size _⟩
            rw [HT.out]
            intro a ha
            rcases List.mem_append.1 ha with ha | ha
            · exact HA.out a ha
            · rw [List.mem_singleton] at ha; subst ha; simp only; omega
    · have hje : j = n := by omega
      subst hje
      clear hb
      go_wp2
      go_ret
      refine ⟨?_, HB.out⟩
      have : lightP ls := ⟨by have := HL.out; omega, by have := HA.out; rwa [List.take_of_length_le (by rw [HL.out]; exact Nat.le_refl _)] at this⟩
      rw [HV.out.2 this]; rfl
set_option maxHeartbeats 4000000 in
set_option maxRecDepth 100000 in
theorem tame_any (w : World) (A : Option Addr) (n c : Nat) (ls : List ActV) (cs : List ActC) (hr : RdA w A n c ls cs) (hn : n ≤ 100) (hi : ∀ a ∈ cs, i64A a) :
    Calls Try.prog 9 #[.slice A n c] w fun e w' => ∃ v ls', e = .returned v ∧ w'.ownsRow w.heap.size 32 6 v ls'.length (cells6 ls') ∧ HoldsL w' ls' (tameL 0 cs) ∧ Below w.heap.size w w' := by
  have hln := hr.len
  have hcp := hr.cap
  have hmx := hr.max
  unfold maxLen at hmx
  have hni : (n : Int) ≤ 100 := by omega
  have HR := Lib.hid hr
  have HL := Lib.hid hln
  have HLC := Lib.hid hr.lenc
  have HI := Lib.hid hi
  clear hr hln hi
  go_enter Try.func9, Try.ntmps9
  go_wp2
  go_loopg [3, 4, 12] n (fun k xo xn sj wr => ∃ (j : Nat) (ls' : List ActV), j ≤ n ∧ k = n - j ∧ sj = .int .i64 (j : Int) ∧ xn = .int .i64 (nowL 0 (cs.take j)) ∧ wr.ownsRow w.heap.size 32 6 xo ls'.length (cells6 ls') ∧ HoldsL w ls' (tameL 0 (cs.take j)) ∧ Below w.heap.size w wr)
  case atStart => exact ⟨0, [], by omega, by omega, rfl, rfl, World.ownsRow_nil _ _ _ _, ⟨rfl, fun j h => absurd h (by simp)⟩, Below.refl _ _⟩
  case round =>
    obtain ⟨j, ls', hj, hkk, rfl, rfl, ho, hh, hb⟩ := hrel
    have HK := Lib.hid hkk
    have HO := Lib.hid ho
    have HH := Lib.hid hh
    have HB := Lib.hid hb
    clear hkk ho hh
    by_cases hjn : j < n
    · have hjl : j < ls.length := by rw [HL.out]; exact hjn
      have hjc : j < cs.length := by rw [HLC.out]; exact hjn
      obtain ⟨g, off, rfl, hlt, hc⟩ := (HR.out.below hb).at_ (by omega)
      have c0 := hc j hjl 0 (by omega)
      have c1 := hc j hjl 1 (by omega)
      have c2 := hc j hjl 2 (by omega)
      have c3 := hc j hjl 3 (by omega)
      have c4 := hc j hjl 4 (by omega)
      have c5 := hc j hjl 5 (by omega)
      have ha := HR.out.hold j hjl hjc
      have HT := Lib.hid (show cs.take (j + 1) = cs.take j ++ [cs[j]] from List.take_succ_eq_append_getElem hjc)
      have hia := HI.out _ (List.getElem_mem hjc)
      obtain ⟨a, haa⟩ : ∃ a, a = ls[j] := ⟨_, rfl⟩
      obtain ⟨q, hqq⟩ : ∃ q, q = cs[j] := ⟨_, rfl⟩
      rw [← haa] at c0 c1 c2 c3 c4 c5 ha
      rw [← hqq] at ha HT hia
      clear haa hqq hc hb
      obtain ⟨kd, ck, cn, aA, dl, dc, an, aB, sl, sc⟩ := a
      simp [ActV.cells] at c0 c1 c2 c3 c4 c5
      obtain ⟨now, hnow⟩ : ∃ z, z = nowL 0 (cs.take j) := ⟨_, rfl⟩
      rw [← hnow]
      have hnb : 0 ≤ now ∧ now ≤ 4095 * 100 := by
        have := nowL_bd (cs.take j) 0
        rw [List.length_take] at this
        omega
      have HN := Lib.hid hnow
      clear hnow
      have h1 := ha.kind
      have h2 := ha.clock
      have h3 := ha.conn
      have h4 := ha.n
      simp only at h1 h2 h3 h4
      have b0 := hia.kind
      have b1 := hia.clock
      have b2 := hia.conn
      have b4 := hia.n
      rw [← h1] at b0
      rw [← h2] at b1
      rw [← h3] at b2
      rw [← h4] at b4
      have HKI := Lib.hid h1
      have HCK := Lib.hid h2
      have HCN := Lib.hid h3
      have HAN := Lib.hid h4
      have HA := Lib.hid ha
      clear h1 h2 h3 h4 ha hia
      go_upto_region 6 with (fail)
      clear c0 c1 c2 c3 c4 c5
      obtain ⟨w1, hw1, hbk, hbl, hsz⟩ := box_new wr #[.int .i64 kd, .int .i64 ck, .int .i64 cn, .slice aA dl dc, .int .i64 an, .slice aB sl sc] 32
      change Code.wp _ _ _ _ (wr.alloc (.cells #[.int .i64 kd, .int .i64 ck, .int .i64 cn, .slice aA dl dc, .int .i64 an, .slice aB sl sc] 32))
      rw [hw1]
      obtain ⟨ab, hab⟩ : ∃ ab, ab = wr.heap.size := ⟨_, rfl⟩
      rw [← hab] at hbk ⊢
      have B1 := Lib.hid hbk
      have L1 := Lib.hid (HB.out.trans (hbl.mono HB.out.size))
      have O1 := Lib.hid (own_fr HO.out (Fr.of_below (F := fun _ => False) hbl) (fun k hk => hk.elim))
      have HAB := Lib.hid (show w.heap.size ≤ ab from by rw [hab]; exact HB.out.size)
      have HLT := Lib.hid (show ∀ g, u3.ownBlock = some g → g < ab from by rw [hab]; exact own_lt HO.out)
      have k1 := hbk.rd
      have p1 := hbk.wr
      clear hbk hbl hsz hw1 hab hlt
      obtain ⟨t, ht⟩ : ∃ t, t = kd.tmod 5 := ⟨_, rfl⟩
      have t5 := tmod5 kd
      rw [← ht] at t5
      obtain ⟨tb1, tb2, tb3⟩ := t5
      have e1 : kd.tmod 5 = t := ht.symm
      obtain ⟨K, hK⟩ : ∃ K, K = kd % 5 := ⟨_, rfl⟩
      rw [← hK] at tb3
      obtain ⟨CO, hCO⟩ : ∃ z, z = cn % 16 := ⟨_, rfl⟩
      have e2 : bits .and .i64 cn 15 = CO := by rw [i64_mask4, hCO]
      obtain ⟨D, hD⟩ : ∃ z, z = ck % 4096 := ⟨_, rfl⟩
      have e3 : bits .and .i64 ck 4095 = D := by rw [i64_mask12, hD]
      have hDb : 0 ≤ D ∧ D ≤ 4095 := by omega
      obtain ⟨N8, hN8⟩ : ∃ z, z = an % 256 := ⟨_, rfl⟩
      have e4 : bits .and .i64 an 255 = N8 := by rw [i64_mask8, hN8]
      have hKb : 0 ≤ K ∧ K ≤ 4 := by omega
      have HKK := Lib.hid hK
      have HCO := Lib.hid hCO
      have HD := Lib.hid hD
      have HN8 := Lib.hid hN8
      clear ht hK hCO hD hN8
      go_upto_region 7 with (fail)
      obtain ⟨w2, e2', h2, f2, s2⟩ := box_set B1.out 0 (.int .i64 K) #[.int .i64 K, .int .i64 ck, .int .i64 cn, .slice aA dl dc, .int .i64 an, .slice aB sl sc] rfl
      rw [e2']
      obtain ⟨w3, e3', h3, f3, s3⟩ := box_set h2 2 (.int .i64 CO) #[.int .i64 K, .int .i64 ck, .int .i64 CO, .slice aA dl dc, .int .i64 an, .slice aB sl sc] rfl
      rw [e3']
      have B3 := Lib.hid h3
      have F3 := Lib.hid (f2.trans f3)
      have k3 := h3.rd
      have p3 := h3.wr
      clear e2' h2 f2 s2 e3' h3 f3 s3 k1 p1 e1 e2 tb1 tb2 tb3
      go_upto_region 9 with (fail)
      obtain ⟨w4, e4', h4, f4, s4⟩ := box_set B3.out 1 (.int .i64 (now + D)) #[.int .i64 K, .int .i64 (now + D), .int .i64 CO, .slice aA dl dc, .int .i64 an, .slice aB sl sc] rfl
      rw [e4']
      have B4 := Lib.hid h4
      have F4 := Lib.hid (F3.out.trans f4)
      have k4 := h4.rd
      have p4 := h4.wr
      clear e4' h4 f4 s4 k3 p3 e3 B3
      have ha := HA.out
      have mx1 := ha.data.max
      have mx2 := ha.seeds.max
      have cp1 := ha.data.cap
      have cp2 := ha.seeds.cap
      unfold maxLen at mx1 mx2
      simp only at mx1 mx2 cp1 cp2
      clear ha
      obtain ⟨md, hmd⟩ : ∃ md : Nat, md = min dl 255 := ⟨_, rfl⟩
      obtain ⟨ms, hms⟩ : ∃ ms : Nat, ms = min sl 3 := ⟨_, rfl⟩
      have HMD := Lib.hid hmd
      have HMS := Lib.hid hms
      have m1 : (if (255 : Int) < (dl : Int) then (255 : Int) else (dl : Int)) = (md : Int) := by rw [hmd]; split <;> omega
      have m2 : (if (3 : Int) < (sl : Int) then (3 : Int) else (sl : Int)) = (ms : Int) := by rw [hms]; split <;> omega
      have m3 : (md : Int) ≤ (dc : Int) := by omega
      have m4 : (ms : Int) ≤ (sc : Int) := by omega
      have m5 : (0 : Int) ≤ (md : Int) := by omega
      have m6 : (0 : Int) ≤ (ms : Int) := by omega
      have m7 : md ≤ dc := by omega
      have m8 : ms ≤ sc := by omega
      clear hmd hms
      go_cut [7, 8, 9] from 13 to 71 (fun s7 s8 s9 wx => s7 = .int .i64 N8 ∧ s8 = .slice aA md dc ∧ s9 = .slice aB ms sc ∧ wx = w4.drew)
      case first =>
        go_region_held3 (fun w' => ∀ i, w'.cell? ⟨ab, i, none⟩ = (#[.int .i64 K, .int .i64 (now + D), .int .i64 CO, .slice aA dl dc, .int .i64 an, .slice aB sl sc] : Array Value)[i]?) (go_keep) (fail)
        all_goals
          go_wp2
          go_meet
          exact ⟨rfl, rfl, rfl, rfl⟩
      case rest =>
        obtain ⟨rfl, rfl, rfl, rfl⟩ := hcut
        clear k4 p4 m1 m2 m3 m4 m5 m6 m7 m8 e4
        obtain ⟨w5, hw5⟩ : ∃ x : World, x = w4.drew := ⟨_, rfl⟩
        rw [← hw5]
        have B5 := Lib.hid (show Blk w5 ab 32 #[.int .i64 K, .int .i64 (now + D), .int .i64 CO, .slice aA dl dc, .int .i64 an, .slice aB sl sc] from by rw [hw5]; exact B4.out)
        have F5 := Lib.hid (show Fr (fun k => k = ab) w1 w5 from by rw [hw5]; exact F4.out.drew)
        have k5 := B5.out.rd
        have p5 := B5.out.wr
        clear hw5
        go_upto_region 11 with (fail)
        obtain ⟨w6, e6, h6, f6, s6⟩ := box_set B5.out 4 (.int .i64 0) #[.int .i64 K, .int .i64 (now + D), .int .i64 CO, .slice aA dl dc, .int .i64 0, .slice aB sl sc] rfl
        rw [e6]
        obtain ⟨w7, e7, h7, f7, s7⟩ := box_set h6 3 (.slice none 0 0) #[.int .i64 K, .int .i64 (now + D), .int .i64 CO, .slice none 0 0, .int .i64 0, .slice aB sl sc] rfl
        rw [e7]
        obtain ⟨w8, e8, h8, f8, s8⟩ := box_set h7 5 (.slice none 0 0) #[.int .i64 K, .int .i64 (now + D), .int .i64 CO, .slice none 0 0, .int .i64 0, .slice none 0 0] rfl
        rw [e8]
        have B8 := Lib.hid h8
        have F8 := Lib.hid (F5.out.trans (f6.trans (f7.trans f8)))
        have k8 := h8.rd
        have p8 := h8.wr
        clear e6 h6 f6 s6 e7 h7 f7 s7 e8 h8 f8 s8 k5 p5
        have HMD' := HMD.out
        have HMS' := HMS.out
        have hne : w.heap.size ≤ ab := HAB.out
        go_upto_block 2 with (fail)
        go_cut [7] from 13 to 71 (fun s7 wx => ∃ (A1 : Option Addr) (d1 c1 : Nat) (N1 : Int) (A2 : Option Addr) (d2 c2 : Nat), s7 = .int .i64 N8 ∧ Blk wx ab 32 #[.int .i64 K, .int .i64 (now + D), .int .i64 CO, .slice A1 d1 c1, .int .i64 N1, .slice A2 d2 c2] ∧ Fr (fun k => k = ab) w1 wx ∧ HoldA w ⟨K, now + D, CO, A1, d1, c1, N1, A2, d2, c2⟩ (tameA now q))
        case first =>
          have hz8 : RdI w .u8 none 0 0 [] := rdI_none (by decide)
          have hz64 : RdI w .u64 none 0 0 [] := ⟨rfl, Nat.le_refl _, by decide, fun h => absurd h (by omega), fun z hz => by cases hz⟩
          have ha := HA.out
          have qk : q.kind % 5 = K := by rw [HKK.out, HKI.out]
          have hc1 : now + D = now + q.clock % 4096 := by rw [HD.out, HCK.out]
          have hc2 : CO = q.conn % 16 := by rw [HCO.out, HCN.out]
          have hd := ha.data
          have hs := ha.seeds
          have hdl := hd.len
          have hsl := hs.len
          simp only at hd hs hdl hsl
          have hdt : q.data.take md = q.data.take 255 := by
            rw [HMD']
            rcases Nat.le_total dl 255 with h | h
            · rw [Nat.min_eq_left h, List.take_of_length_le (by omega), List.take_of_length_le (by omega)]
            · rw [Nat.min_eq_right h]
          have hst : q.seeds.take ms = q.seeds.take 3 := by
            rw [HMS']
            rcases Nat.le_total sl 3 with h | h
            · rw [Nat.min_eq_left h, List.take_of_length_le (by omega), List.take_of_length_le (by omega)]
            · rw [Nat.min_eq_right h]
          have H2 := Lib.hid (fun (hK : K = 2) => show HoldA w ⟨K, now + D, CO, aA, md, dc, 0, none, 0, 0⟩ (tameA now q) from ⟨by simp only [tameA]; exact qk.symm, hc1, hc2, by simp only [tameA]; rw [if_neg (by omega)], by simp only [tameA]; rw [if_pos (by omega), ← hdt]; exact rdI_pre hd (by omega), by simp only [tameA]; rw [if_neg (by omega)]; exact hz64⟩)
          have H3 := Lib.hid (fun (hK : K = 3) => show HoldA w ⟨K, now + D, CO, none, 0, 0, N8, none, 0, 0⟩ (tameA now q) from ⟨by simp only [tameA]; exact qk.symm, hc1, hc2, by simp only [tameA]; rw [if_pos (by omega), HN8.out, HAN.out], by simp only [tameA]; rw [if_neg (by omega)]; exact hz8, by simp only [tameA]; rw [if_neg (by omega)]; exact hz64⟩)
          have H4 := Lib.hid (fun (hK : K = 4) => show HoldA w ⟨K, now + D, CO, none, 0, 0, 0, aB, ms, sc⟩ (tameA now q) from ⟨by simp only [tameA]; exact qk.symm, hc1, hc2, by simp only [tameA]; rw [if_neg (by omega)], by simp only [tameA]; rw [if_neg (by omega)]; exact hz8, by simp only [tameA]; rw [if_pos (by omega), ← hst]; exact rdI_pre hs (by omega)⟩)
          have H0 := Lib.hid (fun (hK : K ≠ 2 ∧ K ≠ 3 ∧ K ≠ 4) => show HoldA w ⟨K, now + D, CO, none, 0, 0, 0, none, 0, 0⟩ (tameA now q) from ⟨by simp only [tameA]; exact qk.symm, hc1, hc2, by simp only [tameA]; rw [if_neg (by omega)], by simp only [tameA]; rw [if_neg (by omega)]; exact hz8, by simp only [tameA]; rw [if_neg (by omega)]; exact hz64⟩)
          clear hz8 hz64 ha qk hc1 hc2 hd hs hdl hsl hdt hst HMD' HMS'
          by_cases k2 : K = 2
          · have H2' := Lib.hid (H2.out k2)
            subst k2
            go_wp2
            obtain ⟨w9, e9, h9, f9, s9⟩ := box_set B8.out 3 (.slice aA md dc) #[.int .i64 2, .int .i64 (now + D), .int .i64 CO, .slice aA md dc, .int .i64 0, .slice none 0 0] rfl
            go_meet
            case rel => rw [e9]; exact ⟨aA, md, dc, 0, none, 0, 0, rfl, h9, F8.out.trans f9, H2'.out⟩
          · by_cases k3 : K = 3
            · have H3' := Lib.hid (H3.out k3)
              subst k3
              go_wp2
              obtain ⟨w9, e9, h9, f9, s9⟩ := box_set B8.out 4 (.int .i64 N8) #[.int .i64 3, .int .i64 (now + D), .int .i64 CO, .slice none 0 0, .int .i64 N8, .slice none 0 0] rfl
              go_meet
              case rel => rw [e9]; exact ⟨none, 0, 0, N8, none, 0, 0, rfl, h9, F8.out.trans f9, H3'.out⟩
            · by_cases k4 : K = 4
              · have H4' := Lib.hid (H4.out k4)
                subst k4
                go_wp2
                obtain ⟨w9, e9, h9, f9, s9⟩ := box_set B8.out 5 (.slice aB ms sc) #[.int .i64 4, .int .i64 (now + D), .int .i64 CO, .slice none 0 0, .int .i64 0, .slice aB ms sc] rfl
                go_meet
                case rel => rw [e9]; exact ⟨none, 0, 0, 0, aB, ms, sc, rfl, h9, F8.out.trans f9, H4'.out⟩
              · go_wp2
                go_meet
                case rel => exact ⟨none, 0, 0, 0, none, 0, 0, rfl, B8.out, F8.out, H0.out ⟨k2, k3, k4⟩⟩
        case rest =>
          obtain ⟨A1, d1, c1, N1, A2, d2, c2, rfl, hb9, hf9, hh9⟩ := hcut
          have B9 := Lib.hid hb9
          have F9 := Lib.hid hf9
          have H9 := Lib.hid hh9
          have k9 := hb9.rd
          have hl9 := lt_of_block hb9
          have O9 := Lib.hid (own_fr' O1.out hf9 (fun g hg => by have := HLT.out g hg; omega))
          have NW := Lib.hid (heap_alloc_new wc (.cells #[.int .i64 K, .int .i64 (now + D), .int .i64 CO, .slice A1 d1 c1, .int .i64 N1, .slice A2 d2 c2] 32))
          obtain ⟨i0, hi0, hz0, hz1, hz2⟩ := info_parts infoAct
          have hll : ls'.length = j := by have := HH.out.1; rw [tameL_length, List.length_take] at this; omega
          have LB := Lib.hid hll
          clear hb9 hf9 hh9 hll k8 p8 HMD' HMS'
          go_wp2_with (at_builtin; refine wpList_append_lies _ (by rfl) _ _ 22 (by rfl) w.heap.size 32 i0 (.agg #[.int .i64 0, .int .i64 0, .int .i64 0, .slice none 0 0, .int .i64 0, .slice none 0 0]) 6 80 Try.underlying22 hi0 hz0 hz1 hz2 (by rfl) (by omega) u3 ls'.length (cells6 ls') (by rfl) (O9.out.alloc _) ⟨wc.heap.size, 0, none⟩ 1 1 [.int .i64 K, .int .i64 (now + D), .int .i64 CO, .slice A1 d1 c1, .int .i64 N1, .slice A2 d2 c2] (by rfl) (by rfl) (World.news_of_block NW.out) (by simp [Value.oneCell']) (by omega) (by have := LB.out; unfold maxLen; omega) (by have := LB.out; omega) (by simp; omega) (wc.heap.size + 1) (by simp) ?_; intro gl cl wz hown9 hgrow9 hat9 hlt9; have HO9 := Lib.hid hown9; have HG9 := Lib.hid hgrow9; clear hown9 hgrow9 hat9 hlt9)
          go_roundg (n - (j + 1))
          case measure => have := HK.out; omega
          case rel =>
            have hbo := own_base O9.out
            refine ⟨j + 1, ls' ++ [⟨K, now + D, CO, A1, d1, c1, N1, A2, d2, c2⟩], by omega, by omega, by go_num, ?_, ?_, ?_, ?_⟩
            · rw [HT.out, nowL_snoc, ← HN.out, HD.out, HCK.out]
            · rw [cells6_app, List.length_append]; exact HO9.out
            · rw [HT.out, tameL_snoc, ← HN.out]; exact HH.out.snoc H9.out
            · exact ((((Fr.of_below (F := fun k => w.heap.size ≤ k) (L1.out)).trans (F9.out.mono (fun k hk => by omega))).alloc _).trans ((fr_row HG9.out).mono (fun k hk => hbo k hk))).below (Nat.le_refl _) (fun k hk => hk)
    · have hje : j = n := by omega
      subst hje
      clear hb
      go_wp2
      go_ret
      have hh := HH.out
      rw [List.take_of_length_le (by rw [HLC.out]; exact Nat.le_refl _)] at hh
      exact ⟨u3, ls', rfl, HO.out, hh.below HB.out, HB.out⟩
end Go.Proofs.Ytodlgkpgpffpaaa
