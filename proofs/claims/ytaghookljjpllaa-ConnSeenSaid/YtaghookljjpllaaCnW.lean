/- The hosts of layer 16's laws. -/
import Derived.Test.YtaghookljjpllaaCnH
import Derived.Test.YtaghookljjpllaaDcE
import Derived.Test.YtaghookljjpllaaPhase
namespace Go.Proofs.Ytaghookljjpllaa
set_option linter.unusedSimpArgs false
set_option linter.unusedVariables false
open Go.ChangeShapes Go.WideShapes Go.ChangeAt Go.RowKit
/-- the bytes of an answer. -/
def hoA (q : Req) : List Int := List.replicate (q.cost % 30).toNat ((q.key.length : Int) % 256)
theorem homost_any (hb : Nat) (q : Req) (hq : 0 ≤ q.cost ∧ q.cost < 4294967296) (w : World) : Calls Try.prog 62 #[.pointer (some ⟨hb, 0, none⟩), rqV q] w fun e w' => e = .returned (.int .i64 (q.cost % 30 + 1)) ∧ Below w.heap.size w w' := by
  obtain ⟨m, hm⟩ : ∃ m, m = q.cost % 30 := ⟨_, rfl⟩
  have m1 : q.cost.tmod 30 = m := by rw [hm]; exact Int.tmod_eq_emod_of_nonneg hq.1
  have hmb : 0 ≤ m ∧ m < 30 := by omega
  have e1 : IntKind.u32.wrap m = m := by rw [IntKind.wrap_u32]; omega
  have e2 : IntKind.i64.wrap m = m := by rw [IntKind.wrap_i64]; omega
  have e3 : IntKind.i64.wrap (m + 1) = m + 1 := by rw [IntKind.wrap_i64]; omega
  rw [← hm]
  clear hq hm hmb
  go_enter Try.func62, Try.ntmps62
  go_wp2
  go_ret
  exact ⟨rfl, (Below.refl _ _).alloc (Nat.le_refl _) _⟩
theorem make_bytes32 {t e : TypeId} {i : TypeInfo} (ht : Try.prog.underlying t = some (.slice e)) (hi : Try.prog.info? e = some i) (hz : i.zero = some (.int .u8 0)) (hs : i.size = 1) (hb : i.bytes = 1) (n : Nat) (hn : n ≤ 140737488351232) (w : World) :
    (Instr.makeSlice t (.int .u32 (n : Int)) (.int .u32 (n : Int))).run Try.prog w = .ok (.slice (some ⟨w.heap.size, 0, none⟩) n n) (w.alloc (.cells (noughts n) e)) := by
  have := run_make w t e i (.int .u8 0) ht hi hz .u32 .u32 (n : Int) (n : Int) (by omega) (by omega) (by rw [hb]; omega) (by omega)
  rw [this, hs]
  simp only [Int.toNat_natCast, Nat.mul_one]
  have e1 : madeCells (Value.int IntKind.u8 0).cells n = noughts n := by
    have := toList_madeCells_one (.int .u8 0) n
    show madeCells #[Value.int .u8 0] n = noughts n
    apply Array.ext'
    rw [this]; simp [noughts]
  rw [e1]
theorem noughts_byC (n : Nat) : noughts n = byC (List.replicate n 0) := rfl
set_option maxRecDepth 100000 in
set_option maxHeartbeats 2000000 in
theorem hoanswer_any (hb B : Nat) (T : TypeId) (tl : List Value) (v : Value) (l : List Req) (q : Req) (hq : 0 ≤ q.cost ∧ q.cost < 4294967296) (hk : q.key.length ≤ 64) (hl : l.length ≤ 1000000) (w : World) (h : Blk w hb T (v :: tl).toArray) (ho : w.ownsRow B 41 5 v l.length (rqs l)) (hne : v.ownBlock ≠ some hb) (hB : B ≤ w.heap.size) :
    Calls Try.prog 61 #[.pointer (some ⟨hb, 0, none⟩), rqV q] w fun e w' => ∃ s v', e = .returned (.slice (some ⟨s, 0, none⟩) (q.cost % 30).toNat (q.cost % 30).toNat) ∧ RdI w' .u8 (some ⟨s, 0, none⟩) (q.cost % 30).toNat (q.cost % 30).toNat (hoA q) ∧ w.heap.size ≤ s ∧ Blk w' hb T (v' :: tl).toArray ∧ w'.ownsRow B 41 5 v' (l.length + 1) (rqs (l ++ [q])) ∧ v'.ownBlock ≠ some hb ∧ Fr (fun k => k = hb ∨ v.ownBlock = some k) w w' ∧ (∀ k, v'.ownBlock = some k → v.ownBlock = some k ∨ w.heap.size ≤ k) := by
  obtain ⟨M, hM⟩ : ∃ M : Nat, M = (q.cost % 30).toNat := ⟨_, rfl⟩
  rw [← hM]
  have HM := Lib.hid hM
  clear hM
  have HB := Lib.hid h
  have HO := Lib.hid ho
  obtain ⟨w1, hw1, hbk, hbl, hsz⟩ := box_new w (rqA q) 41
  obtain ⟨b3, hb3⟩ : ∃ k, k = w.heap.size := ⟨_, rfl⟩
  rw [← hb3] at hbk
  have BK := Lib.hid hbk
  have B1 := Lib.hid hbl
  have H1 := Lib.hid (HB.out.keep hbl)
  have O1 := Lib.hid (G.own_below HO.out hbl)
  have HB3 := Lib.hid hb3
  have HLT := Lib.hid (show hb < b3 from by have := lt_of_block h; omega)
  clear h ho hbk hbl hsz
  go_enter Try.func61, Try.ntmps61
  go_upto_region 1 with (fail)
  rw [← HB3.out]
  clear hw1 hb3
  obtain ⟨i0, hi0, hz0, hz1, hz2⟩ := info_parts infoReq
  have HS := Lib.hid (show ∀ wx, Below w1.heap.size w1 wx → (fun w' : World => w'.cell? ⟨hb, 0, none⟩ = some v ∧ ∀ j, w'.cell? ⟨b3, j, none⟩ = (rqA q)[j]?) wx from fun wx hb => ⟨by rw [blk_cell (H1.out.keep hb)]; rfl, (BK.out.keep hb).rd⟩)
  have D1 := Lib.hid (show Below w1.heap.size w1 w1.drew from below_draws (Below.refl _ _) 1)
  have D2 := Lib.hid (show Below w1.heap.size w1 (w1.alloc (.cells (rqA q) 41)).drew from below_draws ((Below.refl _ _).alloc (Nat.le_refl _) _) 1)
  have O2 := Lib.hid (show (w1.alloc (.cells (rqA q) 41)).drew.ownsRow B 41 5 v l.length (rqs l) from G.own_below O1.out D2.out)
  have NW := Lib.hid (show (w1.alloc (.cells (rqA q) 41)).drew.heap[w1.heap.size]? = some (.cells (rqA q) 41 (0, 0)) from heap_alloc_new w1 _)
  have SZ2 := Lib.hid (show (w1.alloc (.cells (rqA q) 41)).drew.heap.size = w1.heap.size + 1 from by show (w1.alloc _).heap.size = _; simp)
  have SZ1 := Lib.hid (show w.heap.size ≤ w1.heap.size from B1.out.size)
  refine Ph.start [10] (Ph.pick [(fun w' : World => w'.cell? ⟨hb, 0, none⟩ = some v ∧ ∀ j, w'.cell? ⟨b3, j, none⟩ = (rqA q)[j]?), (fun _ : World => True)]) (by kernel_rfl) (Ph.pick0 (HS.out _ D1.out)) (fun hHeld hOrd => ?_)
  refine Ph.take (i := 0) (oi := ?_) (v := ?_) (p := 0) ?_ ?_ ?_ ?_ hOrd ?_ ?_ ?_ ?_ ?_ ?_
  rotate_left 2
  · simp only [List.getElem?_toArray, List.getElem?_cons_succ, List.getElem?_cons_zero]; rfl
  · kernel_rfl
  · kernel_rfl
  · kernel_rfl
  · kernel_rfl
  · kernel_rfl
  · exact fun _ _ _ h => h
  · refine Or.inl ⟨by rfl, ?_⟩
    intro w' hSw
    (try simp only [Ph.pick, List.getD_cons_succ, List.getD_cons_zero] at hSw)
    go_simp
    all_goals (with_reducible rfl)
  · assumption
  clear hOrd
  intro hOrd
  try simp only [Act.put, List.setIfInBounds_toArray, List.set_cons_zero, List.set_cons_succ] at hOrd ⊢
  refine Ph.take (i := 1) (oi := ?_) (v := ?_) (p := 0) ?_ ?_ ?_ ?_ hOrd ?_ ?_ ?_ ?_ ?_ ?_
  rotate_left 2
  · simp only [List.getElem?_toArray, List.getElem?_cons_succ, List.getElem?_cons_zero]; rfl
  · kernel_rfl
  · kernel_rfl
  · kernel_rfl
  · kernel_rfl
  · kernel_rfl
  · exact fun _ _ _ h => h
  · refine Or.inl ⟨by rfl, ?_⟩
    intro w' hSw
    (try simp only [Ph.pick, List.getD_cons_succ, List.getD_cons_zero] at hSw)
    go_simp
    all_goals (with_reducible rfl)
  · assumption
  clear hOrd
  intro hOrd
  try simp only [Act.put, List.setIfInBounds_toArray, List.set_cons_zero, List.set_cons_succ] at hOrd ⊢
  refine Ph.take (i := 2) (oi := ?_) (v := ?_) (p := 0) ?_ ?_ ?_ ?_ hOrd ?_ ?_ ?_ ?_ ?_ ?_
  rotate_left 2
  · simp only [List.getElem?_toArray, List.getElem?_cons_succ, List.getElem?_cons_zero]; rfl
  · kernel_rfl
  · kernel_rfl
  · kernel_rfl
  · kernel_rfl
  · kernel_rfl
  · exact fun _ _ _ h => h
  · refine Or.inl ⟨by rfl, ?_⟩
    intro w' hSw
    (try simp only [Ph.pick, List.getD_cons_succ, List.getD_cons_zero] at hSw)
    go_simp
    all_goals (with_reducible rfl)
  · assumption
  clear hOrd
  intro hOrd
  try simp only [Act.put, List.setIfInBounds_toArray, List.set_cons_zero, List.set_cons_succ] at hOrd ⊢
  refine Ph.take (i := 3) (oi := ?_) (v := ?_) (p := 0) ?_ ?_ ?_ ?_ hOrd ?_ ?_ ?_ ?_ ?_ ?_
  rotate_left 2
  · simp only [List.getElem?_toArray, List.getElem?_cons_succ, List.getElem?_cons_zero]; rfl
  · kernel_rfl
  · kernel_rfl
  · kernel_rfl
  · kernel_rfl
  · kernel_rfl
  · exact fun _ _ _ h => h
  · refine Or.inl ⟨by rfl, ?_⟩
    intro w' hSw
    (try simp only [Ph.pick, List.getD_cons_succ, List.getD_cons_zero] at hSw)
    go_simp
    all_goals (with_reducible rfl)
  · assumption
  clear hOrd
  intro hOrd
  try simp only [Act.put, List.setIfInBounds_toArray, List.set_cons_zero, List.set_cons_succ] at hOrd ⊢
  refine Ph.take (i := 4) (oi := ?_) (v := ?_) (p := 0) ?_ ?_ ?_ ?_ hOrd ?_ ?_ ?_ ?_ ?_ ?_
  rotate_left 2
  · simp only [List.getElem?_toArray, List.getElem?_cons_succ, List.getElem?_cons_zero]; rfl
  · kernel_rfl
  · kernel_rfl
  · kernel_rfl
  · kernel_rfl
  · kernel_rfl
  · exact fun _ _ _ h => h
  · refine Or.inl ⟨by rfl, ?_⟩
    intro w' hSw
    (try simp only [Ph.pick, List.getD_cons_succ, List.getD_cons_zero] at hSw)
    go_simp
    all_goals (with_reducible rfl)
  · assumption
  clear hOrd
  intro hOrd
  try simp only [Act.put, List.setIfInBounds_toArray, List.set_cons_zero, List.set_cons_succ] at hOrd ⊢
  refine Ph.take (i := 5) (oi := ?_) (v := ?_) (p := 0) ?_ ?_ ?_ ?_ hOrd ?_ ?_ ?_ ?_ ?_ ?_
  rotate_left 2
  · simp only [List.getElem?_toArray, List.getElem?_cons_succ, List.getElem?_cons_zero]; rfl
  · kernel_rfl
  · kernel_rfl
  · kernel_rfl
  · kernel_rfl
  · kernel_rfl
  · exact fun _ _ _ h => h
  · refine Or.inl ⟨by rfl, ?_⟩
    intro w' hSw
    (try simp only [Ph.pick, List.getD_cons_succ, List.getD_cons_zero] at hSw)
    go_simp
    all_goals (with_reducible rfl)
  · assumption
  clear hOrd
  intro hOrd
  try simp only [Act.put, List.setIfInBounds_toArray, List.set_cons_zero, List.set_cons_succ] at hOrd ⊢
  refine Ph.alone (i := 6) (o := ?_) (p := 0) ?_ ?_ hOrd ?_ ?_
  rotate_left 2
  · simp only [List.getElem?_toArray, List.getElem?_cons_succ, List.getElem?_cons_zero]; rfl
  rotate_right 1
  · kernel_rfl
  · kernel_rfl
  clear hOrd
  intro K hK
  go_simp
  skip
  refine hK.out _ _ (Ph.pick0 (HS.out _ D2.out)) (fun hHeld hOrd => ?_)
  clear hK K
  try simp only [Act.put, List.setIfInBounds_toArray, List.set_cons_zero, List.set_cons_succ] at hOrd ⊢
  refine Ph.alone (i := 7) (o := ?_) (p := 0) ?_ ?_ hOrd ?_ ?_
  rotate_left 2
  · simp only [List.getElem?_toArray, List.getElem?_cons_succ, List.getElem?_cons_zero]; rfl
  rotate_right 1
  · kernel_rfl
  · kernel_rfl
  clear hOrd
  intro K hK
  refine step_append_lies _ (by rfl) _ _ 31 (by rfl) B 41 i0 (.agg #[.int .i64 0, .int .i64 0, .int .u32 0, .string ⟨#[]⟩, .int .i64 0]) 5 48 Try.underlying31 hi0 hz0 hz1 hz2 (by rfl) (by omega) v l.length (rqs l) (by rfl) O2.out ⟨w1.heap.size, 0, none⟩ 1 1 (rqC q) (by rfl) (by rfl) (World.news_of_block NW.out) (by intro u hu; simp [rqC] at hu; rcases hu with rfl | rfl | rfl | rfl | rfl <;> rfl) (by omega) (by unfold maxLen; omega) (by omega) (by rw [SZ2.out]; have := SZ1.out; omega) (w1.heap.size + 1) SZ2.out ?_; intro gl cl w9 hown9 hgrow9 hat9 hlt9; have HO9 := Lib.hid hown9; have FR9 := Lib.hid (G.fr_row hgrow9); have HAT := Lib.hid hat9; have OL := Lib.hid (fun k hk => G.own_lt HO.out k hk); have H9 := Lib.hid ((H1.out.keep D2.out).fr FR9.out (fun e => hne e)); have K9 := Lib.hid ((BK.out.keep D2.out).fr FR9.out (fun e => by have := OL.out b3 e; have := HB3.out; omega)); have S9 := Lib.hid (show (fun w' : World => w'.cell? ⟨hb, 0, none⟩ = some v ∧ ∀ j, w'.cell? ⟨b3, j, none⟩ = (rqA q)[j]?) w9 from ⟨by rw [blk_cell H9.out]; rfl, K9.out.rd⟩); have d9 := H9.out.rd; have d9w := H9.out.wr; clear hown9 hgrow9 hat9 hlt9
  refine hK.out _ _ (Ph.pick0 S9.out) (fun hHeld hOrd => ?_)
  clear hK K
  try simp only [Act.put, List.setIfInBounds_toArray, List.set_cons_zero, List.set_cons_succ] at hOrd ⊢
  refine Ph.take (i := 8) (oi := ?_) (v := ?_) (p := 0) ?_ ?_ ?_ ?_ hOrd ?_ ?_ ?_ ?_ ?_ ?_
  rotate_left 2
  · simp only [List.getElem?_toArray, List.getElem?_cons_succ, List.getElem?_cons_zero]; rfl
  · kernel_rfl
  · kernel_rfl
  · kernel_rfl
  · kernel_rfl
  · kernel_rfl
  · exact fun _ _ _ h => h
  · refine Or.inl ⟨by rfl, ?_⟩
    intro w' hSw
    (try simp only [Ph.pick, List.getD_cons_succ, List.getD_cons_zero] at hSw)
    go_simp
    all_goals (with_reducible rfl)
  · assumption
  clear hOrd
  intro hOrd
  try simp only [Act.put, List.setIfInBounds_toArray, List.set_cons_zero, List.set_cons_succ] at hOrd ⊢
  refine Ph.take (i := 9) (oi := ?_) (v := ?_) (p := 0) ?_ ?_ ?_ ?_ hOrd ?_ ?_ ?_ ?_ ?_ ?_
  rotate_left 2
  · simp only [List.getElem?_toArray, List.getElem?_cons_succ, List.getElem?_cons_zero]; rfl
  · kernel_rfl
  · kernel_rfl
  · kernel_rfl
  · kernel_rfl
  · kernel_rfl
  · exact fun _ _ _ h => h
  · refine Or.inl ⟨by rfl, ?_⟩
    intro w' hSw
    (try simp only [Ph.pick, List.getD_cons_succ, List.getD_cons_zero] at hSw)
    go_simp
    all_goals (with_reducible rfl)
  · assumption
  clear hOrd
  intro hOrd
  try simp only [Act.put, List.setIfInBounds_toArray, List.set_cons_zero, List.set_cons_succ] at hOrd ⊢
  refine Ph.alone (i := 10) (o := ?_) (p := 1) ?_ ?_ hOrd ?_ ?_
  rotate_left 2
  · simp only [List.getElem?_toArray, List.getElem?_cons_succ, List.getElem?_cons_zero]; rfl
  rotate_right 1
  · kernel_rfl
  · kernel_rfl
  clear hOrd
  intro K hK
  go_simp
  skip
  refine hK.out _ _ (Ph.pick1 trivial) (fun hHeld hOrd => ?_)
  clear hK K
  try simp only [Act.put, List.setIfInBounds_toArray, List.set_cons_zero, List.set_cons_succ] at hOrd ⊢
  refine Ph.done (by kernel_rfl) ?_ _
  clear hHeld hOrd d9 d9w hi0 hz0 hz1 hz2
  obtain ⟨w10, e10, r10, f10, s10⟩ := G.box_set H9.out 0 (.slice (some ⟨gl, 0, none⟩) (l.length + 1) cl) (.slice (some ⟨gl, 0, none⟩) (l.length + 1) cl :: tl).toArray rfl
  rw [e10]
  have R10 := Lib.hid r10
  have HGL := Lib.hid (show gl ≠ hb from fun e => by
    rcases HAT.out with h1 | h1
    · exact hne (by rw [h1, e])
    · have := HLT.out; have := HB3.out; have := SZ1.out; omega)
  have own_gl : ∀ g, (Value.slice (some ⟨gl, 0, none⟩) (l.length + 1) cl).ownBlock = some g → g = gl := fun g hg => by
    have : gl = g := Option.some.inj hg
    exact this.symm
  have O10 := Lib.hid (G.own_fr (F := fun k => k = hb) HO9.out f10 (fun g hg hh => HGL.out ((own_gl g hg).symm.trans hh)))
  have K10 := Lib.hid (K9.out.fr f10 (fun e => by have := HLT.out; omega))
  have F10 := Lib.hid (show Fr (fun k => k = hb ∨ v.ownBlock = some k) w w10 from (((Fr.of_below B1.out).trans (Fr.of_below D2.out)).trans (FR9.out.mono (fun k hk => Or.inr hk))).trans (f10.mono (fun k hk => Or.inl hk)))
  have SZ10 := Lib.hid (show w1.heap.size + 1 ≤ w10.heap.size from by rw [s10, ← SZ2.out]; exact FR9.out.size)
  clear e10 r10 f10 s10
  have hM := HM.out
  have hMb : M < 30 := by omega
  have m1 : q.cost.tmod 30 = (M : Int) := by rw [Int.tmod_eq_emod_of_nonneg hq.1]; omega
  have e1 : IntKind.u32.wrap (M : Int) = (M : Int) := by rw [IntKind.wrap_u32]; omega
  obtain ⟨X, hX⟩ : ∃ X, X = (q.key.length : Int) % 256 := ⟨_, rfl⟩
  have hXb : 0 ≤ X ∧ X ≤ 255 := by omega
  have e2 : IntKind.u8.wrap (q.key.length : Int) = X := by rw [IntKind.wrap_u8, hX]
  have hkl := str_size q.key
  have HAns := Lib.hid (show hoA q = List.replicate M X from by unfold hoA; rw [← hM, ← hX])
  have HXB := Lib.hid hXb
  obtain ⟨i0, hi, hz0, hz1, hz2⟩ := info_parts info_u8
  have hmk := fun w => make_bytes32 (t := 27) (e := 5) Try.underlying27 hi hz0 hz1 hz2 M (by omega) w
  have hk64 : (q.key.length : Int) ≤ 64 := by omega
  clear hi hz0 hz1 hz2 hM hX hXb hl hk
  have kc := K10.out.rd
  go_upto_region 3 with (fail)
  obtain ⟨sb, hsb⟩ : ∃ s, s = w10.heap.size := ⟨_, rfl⟩
  rw [← hsb]
  have HSB := Lib.hid hsb
  have N11 := Lib.hid (show Blk (w10.alloc (.cells (noughts M) 5)) sb 5 (byC ((List.replicate M X).take 0 ++ List.replicate (M - 0) 0)) from by rw [hsb]; exact heap_alloc_new w10 _)
  have B11 := Lib.hid (show Below w10.heap.size w10 (w10.alloc (.cells (noughts M) 5)) from (Below.refl _ _).alloc (Nat.le_refl _) _)
  generalize w10.alloc (.cells (noughts M) 5) = w11 at N11 B11 ⊢
  have K11 := Lib.hid (K10.out.keep B11.out)
  have H11 := Lib.hid (R10.out.keep B11.out)
  have O11 := Lib.hid (G.own_below O10.out B11.out)
  have F11 := Lib.hid (F10.out.trans (Fr.of_below B11.out))
  clear hsb kc hmk
  go_wp2
  go_loopg [23] M (fun kk sj wr => ∃ j : Nat, j ≤ M ∧ Hid (kk = M - j) ∧ sj = .int .i64 (j : Int) ∧ Hid (Blk wr sb 5 (byC ((List.replicate M X).take j ++ List.replicate (M - j) 0))) ∧ Hid (Fr (fun k => k = sb) w11 wr))
  case atStart => exact ⟨0, by omega, Lib.hid rfl, rfl, N11, Lib.hid (Fr.refl _ _)⟩
  case round =>
    obtain ⟨j, hj, HK, rfl, HN, HF⟩ := hrel
    by_cases hjn : j < M
    · have kc := (K11.out.fr HF.out (fun e => by have := lt_of_block K10.out; have := HSB.out; omega)).rd
      have hset := byC_set ((List.replicate M X).take j ++ List.replicate (M - j) 0) j X
      have hfil := obset_fill (List.replicate M X) j M hjn (by rw [List.length_replicate]; exact hjn)
      rw [List.getElem_replicate] at hfil
      rw [hfil] at hset
      have hfree := HN.out.wr
      obtain ⟨y0, hcell⟩ : ∃ y, wr.cell? ⟨sb, j, none⟩ = some (.int .u8 y) := ⟨_, by rw [blk_cell HN.out]; exact byC_get _ _ (by simp; omega)⟩
      obtain ⟨w12, e12, r12, f12, s12⟩ := G.box_set HN.out j (.int .u8 X) _ hset
      have R12 := Lib.hid r12
      have F12 := Lib.hid (HF.out.trans f12)
      have HJ := Lib.hid hjn
      have t1 : (j : Int) < (M : Int) := by omega
      clear hset hfil r12 f12 s12
      go_wp2
      go_roundg (M - (j + 1))
      case measure => have := HK.out; have := HJ.out; omega
      case rel => exact ⟨j + 1, HJ.out, Lib.hid rfl, by go_num, R12, F12⟩
    · have hie : M = j := by omega
      subst hie
      go_wp2
      go_ret
      have hr := HN.out
      rw [List.take_of_length_le (by rw [List.length_replicate]; exact Nat.le_refl _), Nat.sub_self, List.replicate_zero, List.append_nil] at hr
      have hlt1 := HLT.out
      have hs10 := SZ10.out
      have hb3 := HB3.out
      have hsz1 := SZ1.out
      have hsb := HSB.out
      refine ⟨sb, .slice (some ⟨gl, 0, none⟩) (l.length + 1) cl, rfl, ?_, by omega, H11.out.fr HF.out (fun e => by omega), ?_, ?_, ?_, ?_⟩
      · rw [HAns.out]
        exact rd_blk hr (by rw [List.length_replicate]) (by unfold maxLen; omega) (fun z hz => by rw [(List.mem_replicate.1 hz).2]; exact u8_wf HXB.out)
      · have := G.own_fr O11.out HF.out (fun g hg hh => by have := G.own_lt O10.out g hg; omega)
        rw [rqs_app]
        exact this
      · show some gl ≠ some hb
        exact fun e => HGL.out (Option.some.inj e)
      · refine fr_more F11.out HF.out (fun k hk e => ?_)
        omega
      · intro k hk
        have : gl = k := Option.some.inj hk
        subst this
        rcases HAT.out with h1 | h1
        · exact Or.inl h1
        · exact Or.inr (by omega)
/-- the host of the laws. -/
noncomputable def hostH (hb B : Nat) (rules : Int) : HostC where
  S := List Req
  L := Value
  T := 30
  pv := .pointer (some ⟨hb, 0, none⟩)
  fM := 62
  fA := 61
  fS := 0
  wit := false
  rules := rules
  At := fun w s v => Blk w hb 33 #[v] ∧ w.ownsRow B 41 5 v s.length (rqs s) ∧ v.ownBlock ≠ some hb ∧ B ≤ w.heap.size
  F := fun v k => k = hb ∨ v.ownBlock = some k
  most := fun q => q.cost % 30 + 1
  ans := fun _ q => hoA q
  nx1 := fun s q => s ++ [q]
  nxt := fun s q => s ++ [q]
  mM := fun f w => by kernel_rfl
  mA := fun f w => by kernel_rfl
  mS := fun h => by cases h
  eM := fun args w => by kernel_rfl
  eA := fun args w => by kernel_rfl
  eS := fun h => by cases h
  tA := fun w => run_typeAssert_lacksB Try.underlying82 (by kernel_rfl) (by kernel_rfl) _ _ w
  fr := fun h hf hF => ⟨h.1.fr hf (hF _ (Or.inl rfl)), G.own_fr h.2.1 hf (fun g hg => hF g (Or.inr hg)), h.2.2.1, Nat.le_trans h.2.2.2 hf.size⟩
  lt := fun h hk => by
    rcases hk with rfl | hk
    · exact lt_of_block h.1
    · exact G.own_lt h.2.1 _ hk
  bud := fun s n => s.length + n ≤ 1000000
  bud_le := fun h => by omega
  bud_nxt := fun q h => by rw [List.length_append]; simp only [List.length_singleton]; omega
  same := fun _ _ _ => rfl
  cM := fun w s l q h hq => homost_any hb q hq.2.1 w
  cA := fun w s l q h hbu hq => (hoanswer_any hb B 33 [] l s q hq.2.1 (okQ_key hq) (by omega) w h.1 h.2.1 h.2.2.1 h.2.2.2).mono (fun e w' ⟨sb, v', h1, h2, h3, h4, h5, h6, h7, h8⟩ =>
    ⟨_, _, _, v', h1, h2, (fun b off _ e => by injection e with e; injection e with e; omega), ⟨h4, by rw [List.length_append]; exact h5, h6, Nat.le_trans h.2.2.2 h7.size⟩, h7, (fun k hk => by
      rcases hk with rfl | hk
      · exact Or.inl (Or.inl rfl)
      · rcases h8 k hk with h | h
        · exact Or.inl (Or.inr h)
        · exact Or.inr h)⟩)
  cS := fun h => by cases h
  len := fun s q hq => by
    have := Int.emod_nonneg q.cost (show (30 : Int) ≠ 0 by omega)
    show ((hoA q).length : Int) ≤ q.cost % 30 + 1
    unfold hoA
    rw [List.length_replicate]
    omega
end Go.Proofs.Ytaghookljjpllaa
