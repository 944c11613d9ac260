/- Entries: arguments of the laws of layer 20 (audit); tame, fit. -/
import Derived.Test.YteeinckmmbdfoaaAuC
import Derived.Test.YteeinckmmbdfoaaRdL
import Derived.Test.YteeinckmmbdfoaaReq
import Derived.Test.YteeinckmmbdfoaaBits
namespace Go.Proofs.Yteeinckmmbdfoaa
set_option linter.unusedSimpArgs false
set_option linter.unusedVariables false
set_option maxRecDepth 100000
open Go.ChangeShapes Go.WideShapes Go.ChangeAt Go.RowKit Go.Maps Go.Deep Go.Joins
structure Ent where
  r : Int
  s : ByteArray
  a : Int
  c : Int
abbrev encEn (e : Ent) : Nat → Value
  | 0 => .int .i64 e.r
  | 1 => .string e.s
  | 2 => .int .i64 e.a
  | _ => .int .i64 e.c
def okEn (e : Ent) : Prop := ((-9223372036854775808 ≤ e.r ∧ e.r ≤ 9223372036854775807) ∧ e.s.size ≤ maxLen) ∧ (-9223372036854775808 ≤ e.a ∧ e.a ≤ 9223372036854775807) ∧ (-9223372036854775808 ≤ e.c ∧ e.c ≤ 9223372036854775807)
section
variable {H : Type} {enc : TypeId × Value → H} {P : Program}
theorem open_en {W : World} {base : Nat} {r : Reach} {b0 : Nat} {t e : TypeId} {f0 f1 f2 f3 : Field} {v : Value} {d : DataW H} {p : List MemPlace} (ht : P.underlying t = some (.slice e)) (he : P.underlying e = some (.struct #[f0, f1, f2, f3]))
    (hone : oneCellFields P #[f0, f1, f2, f3] = true) (hC : P.cellsOf e = 4) (k0 : P.underlying f0.type = some (.int .i64)) (k1 : P.underlying f1.type = some .string) (k2 : P.underlying f2.type = some (.int .i64)) (k3 : P.underlying f3.type = some (.int .i64))
    (hv : Value.okWide P W r b0 t v) (h : DataW.Trod enc P W base (fun _ => true) true t v d p) : ∃ A n c L, v = .slice A n c ∧ RdL W A n c 4 encEn L ∧ ∀ a ∈ L, okEn a :=
  open_rdL encEn okEn ht he hone hC (by simp) (fun V hV => by
    obtain ⟨x, h1, h2⟩ := row_i64 k0 (hV 0 f0 rfl)
    obtain ⟨s, h3, h4⟩ := row_str k1 (hV 1 f1 rfl)
    obtain ⟨y, h5, h6⟩ := row_i64 k2 (hV 2 f2 rfl)
    obtain ⟨z, h7, h8⟩ := row_i64 k3 (hV 3 f3 rfl)
    refine ⟨⟨x, s, y, z⟩, ⟨⟨h2, h4⟩, h6, h8⟩, fun j hj => ?_⟩
    match j with
    | 0 => exact h1
    | 1 => exact h3
    | 2 => exact h5
    | 3 => exact h7
    | j + 4 => exact absurd (show j + 4 < 4 from hj) (by omega)) hv h
theorem size4 {cs : Array Value} (h : cs.size = 4) {u0 u1 u2 u3 : Value} (h0 : cs[0]? = some u0) (h1 : cs[1]? = some u1) (h2 : cs[2]? = some u2) (h3 : cs[3]? = some u3) : cs = #[u0, u1, u2, u3] := by
  apply Array.ext_getElem?
  intro i
  match i with
  | 0 => exact h0
  | 1 => exact h1
  | 2 => exact h2
  | 3 => exact h3
  | i + 4 => rw [Array.getElem?_eq_none (by omega), Array.getElem?_eq_none (by simp)]
theorem open_e4 {w : World} {base : Nat} {sp : Nat → Bool} {held : Bool} {r : Reach} {b0 : Nat} {t : TypeId} {f0 f1 f2 f3 : Field} {v : Value} {d : DataW H} {p : List MemPlace} (hs : P.underlying t = some (.struct #[f0, f1, f2, f3])) (hone : oneCellFields P #[f0, f1, f2, f3] = true) (hC : P.cellsOf t = 4)
    (k0 : P.underlying f0.type = some (.int .i64)) (k1 : P.underlying f1.type = some .string) (k2 : P.underlying f2.type = some (.int .i64)) (k3 : P.underlying f3.type = some (.int .i64))
    (hv : Value.okWide P w r b0 t v) (h : DataW.Trod enc P w base sp held t v d p) :
    ∃ (x : Int) (s : ByteArray) (y z : Int), v = .agg #[.int .i64 x, .string s, .int .i64 y, .int .i64 z] ∧ okEn ⟨x, s, y, z⟩ := by
  obtain ⟨cs, n, rfl, hsz, hf⟩ := open_fields hs hone hC hv h
  obtain ⟨u0, y0, c0, t0⟩ := hf 0 f0 rfl
  obtain ⟨u1, y1, c1, t1⟩ := hf 1 f1 rfl
  obtain ⟨u2, y2, c2, t2⟩ := hf 2 f2 rfl
  obtain ⟨u3, y3, c3, t3⟩ := hf 3 f3 rfl
  obtain ⟨x, rfl, g0⟩ := cell_int k0 t0
  obtain ⟨s, e1, _, g1⟩ := DataW.trod_string k1 t1
  simp only [List.cons.injEq, and_true] at e1
  subst e1
  obtain ⟨y, rfl, g2⟩ := cell_int k2 t2
  obtain ⟨z, rfl, g3⟩ := cell_int k3 t3
  exact ⟨x, s, y, z, by rw [size4 hsz c0 c1 c2 c3], ⟨bounds_i64 g0, g1⟩, bounds_i64 g2, bounds_i64 g3⟩
end
/-- a tame entry: whose, when, how much. -/
structure TE where
  k : Who
  a : Int
  c : Int
def cut3 (s : ByteArray) : ByteArray := s.extract 0 (min s.size 3)
theorem cut3_size (s : ByteArray) : (cut3 s).size ≤ maxLen := by
  unfold cut3 maxLen
  rw [ByteArray.size_extract]
  omega
theorem wf_small {x : Int} (h : 0 ≤ x ∧ x ≤ 1000) : (Lit.int .i64 x).wf = true := by
  simp [Lit.wf, IntKind.min, IntKind.max, IntKind.signed, IntKind.bits]
  omega
def tameE (e : Ent) : TE := ⟨⟨e.r % 4, cut3 e.s, wf_small (by omega), cut3_size _⟩, e.a % 1024, e.c % 1024⟩
def encT (e : TE) : List Value := [.int .i64 e.k.r, .string e.k.s, .int .i64 e.a, .int .i64 e.c]
theorem encT_len : ∀ a, (encT a).length = 4 := fun _ => rfl
abbrev OwT (w : World) (base : Nat) (v : Value) (l : List TE) : Prop := OwR w base 29 4 encT v l
theorem infoE : (Try.prog.info? 29).map (fun i => (i.zero, i.size, i.bytes)) = some (some (.agg #[.int .i64 0, .string ⟨#[]⟩, .int .i64 0, .int .i64 0]), 4, 40) := by kernel_rfl
theorem and3 (n : Int) : bits .and .i64 n 3 = n % 4 := i64_mask2 n
theorem and1023 (n : Int) : bits .and .i64 n 1023 = n % 1024 := i64_mask10 n
theorem owt_new {w : World} {base g c : Nat} {l : List TE} {e : TE} (h : w.ownsRow base 29 4 (.slice (some ⟨g, 0, none⟩) (l.length + 1) c) (l.length + 1) (rws encT l ++ encT e)) : OwT w base (.slice (some ⟨g, 0, none⟩) (l.length + 1) c) (l ++ [e]) := by
  unfold OwT OwR
  rw [rws_app, List.length_append, List.length_singleton]
  exact h
def TamePost (L : List Ent) (w : World) (e : Ending) (w' : World) : Prop := ∃ v, e = .returned v ∧ OwT w' w.heap.size v (L.map tameE) ∧ Below w.heap.size w w'
set_option maxHeartbeats 8000000 in
theorem tame_any (A : Option Addr) (n c : Nat) (L : List Ent) (w : World) (hr : RdL w A n c 4 encEn L) (hok : ∀ e ∈ L, okEn e) (hn : n ≤ 1000) :
    Calls Try.prog 8 #[.slice A n c] w fun e w' => TamePost L w e w' := by
  obtain ⟨i0, hi0, hz0, hz1, hz2⟩ := info_parts infoE
  have HI := Lib.hid (And.intro hi0 (And.intro hz0 (And.intro hz1 hz2)))
  have hmx := hr.max
  unfold maxLen at hmx
  have hnb : (n : Int) ≤ 1000 := by omega
  have HR := Lib.hid hr
  have HO := Lib.hid hok
  clear hi0 hz0 hz1 hz2 hr hok hn
  go_enter Try.func8, Try.ntmps8
  go_wp2
  go_loopg [8, 3] n (fun kk si sv wq => ∃ (i : Nat) (v : Value), i ≤ n ∧ Hid (kk = n - i) ∧ si = .int .i64 (i : Int) ∧ v = sv ∧ Hid (OwT wq w.heap.size v ((L.map tameE).take i)) ∧ Hid (Below w.heap.size w wq))
  case atStart => exact ⟨0, _, Nat.zero_le _, Lib.hid rfl, rfl, rfl, Lib.hid (by rw [List.take_zero]; exact OwR.nil), Lib.hid (Below.refl _ _)⟩
  case round =>
    obtain ⟨i, v, hi, HK, rfl, rfl, HV, HB⟩ := hrel
    have hln := HR.out.len
    by_cases hin : i < n
    · obtain ⟨b', off, rfl, hbl, hcl⟩ := HR.out.at_ (by omega)
      obtain ⟨⟨er, es, ea, ec⟩, ha⟩ : ∃ a, L[i]? = some a := ⟨_, List.getElem?_eq_getElem (by omega)⟩
      have hoe := HO.out _ (List.mem_of_getElem? ha)
      have q0 : wr.cell? ⟨b', off + i * 4, none⟩ = some (.int .i64 er) := (HB.out.cell (p := ⟨b', off + i * 4, none⟩) hbl).trans (hcl i _ ha 0 (by omega))
      have q1 : wr.cell? ⟨b', off + i * 4 + 1, none⟩ = some (.string es) := (HB.out.cell (p := ⟨b', off + i * 4 + 1, none⟩) hbl).trans (hcl i _ ha 1 (by omega))
      have q2 : wr.cell? ⟨b', off + i * 4 + 2, none⟩ = some (.int .i64 ea) := (HB.out.cell (p := ⟨b', off + i * 4 + 2, none⟩) hbl).trans (hcl i _ ha 2 (by omega))
      have q3 : wr.cell? ⟨b', off + i * 4 + 3, none⟩ = some (.int .i64 ec) := (HB.out.cell (p := ⟨b', off + i * 4 + 3, none⟩) hbl).trans (hcl i _ ha 3 (by omega))
      have hes : es.size ≤ 9223372036854775807 := hoe.1.2
      have HLM := Lib.hid (show (L.map tameE).take (i + 1) = (L.map tameE).take i ++ [tameE ⟨er, es, ea, ec⟩] ∧ ((L.map tameE).take i).length = i from by
        constructor
        · rw [List.take_add_one, List.getElem?_map, ha]; rfl
        · rw [List.length_take, List.length_map]; omega)
      have hji : (i : Int) < (n : Int) := by omega
      have HIN := Lib.hid hin
      obtain ⟨w4, hw4, k4, b4, s4⟩ := box_new wr #[.int .i64 er, .string es, .int .i64 ea, .int .i64 ec] 29
      have k4r := k4.rd
      have K4 := Lib.hid k4
      have HV4 := Lib.hid (HV.out.keep b4)
      have HB4 := Lib.hid (auB HB.out b4)
      obtain ⟨bx, hbx⟩ : ∃ z, z = wr.heap.size := ⟨_, rfl⟩
      have HBX := Lib.hid hbx
      have NVB := Lib.hid (show ∀ g, v.ownBlock = some g → g ≠ bx from fun g e q => by have := HV.out.lt g e; omega)
      clear hln hcl hbl ha hoe hin k4 b4 s4 hbx
      go_upto_region 5 with (fail)
      rw [← HBX.out] at K4 k4r ⊢
      clear q0 q1 q2 q3 hw4 k4r
      obtain ⟨r4, hr4⟩ : ∃ z, z = er % 4 := ⟨_, rfl⟩
      obtain ⟨a10, ha10⟩ : ∃ z, z = ea % 1024 := ⟨_, rfl⟩
      obtain ⟨c10, hc10⟩ : ∃ z, z = ec % 1024 := ⟨_, rfl⟩
      obtain ⟨mm, hmm⟩ : ∃ z, z = min es.size 3 := ⟨_, rfl⟩
      have e1 : bits .and .i64 er 3 = r4 := by rw [hr4]; exact and3 _
      have e2 : bits .and .i64 ea 1023 = a10 := by rw [ha10]; exact and1023 _
      have e3 : bits .and .i64 ec 1023 = c10 := by rw [hc10]; exact and1023 _
      have e4 : min (es.size : Int) 3 = (mm : Int) := by rw [hmm]; omega
      have e5 : mm ≤ es.size := by omega
      have HE := Lib.hid (show encT (tameE ⟨er, es, ea, ec⟩) = [.int .i64 r4, .string (es.extract 0 mm), .int .i64 a10, .int .i64 c10] from by rw [hr4, ha10, hc10, hmm]; rfl)
      clear hr4 ha10 hc10 hmm
      have KD := Lib.hid (show Blk w4.drew bx 29 #[.int .i64 er, .string es, .int .i64 ea, .int .i64 ec] from K4.out)
      have VD := Lib.hid (show w4.drew.ownsRow w.heap.size 29 4 v i (rws encT ((L.map tameE).take i)) from by
        have h := HV4.out.keep (below_draws (Below.refl _ _) 1)
        unfold OwT OwR at h
        rw [HLM.out.2] at h
        exact h)
      have st : ∀ j, w4.drew.cell? ⟨bx, j, none⟩ = (#[.int .i64 er, .string es, .int .i64 ea, .int .i64 ec] : Array Value)[j]? := KD.out.rd
      refine wp_region_held_drew (S := fun wx => ∀ j, wx.cell? ⟨bx, j, none⟩ = (#[.int .i64 er, .string es, .int .i64 ea, .int .i64 ec] : Array Value)[j]?) (by kernel_rfl) st (fun hHeld => ?_)
      clear st
      refine wpAnyH_take (i := 0) (oi := ?_) (v := ?_) ?_ ?_ ?_ ?_ ?_ ?_ ?_ ?_
      rotate_left 2
      · simp only [List.getElem?_toArray, List.getElem?_cons_succ, List.getElem?_cons_zero]; rfl
      · kernel_rfl
      · kernel_rfl
      · kernel_rfl
      · exact fun _ _ _ h => h
      · refine Or.inl ⟨by rfl, ?_⟩
        intro w' hSw
        (try dsimp only at hSw)
        go_simp
        all_goals (with_reducible rfl)
      · assumption
      try simp only [Act.put, List.setIfInBounds_toArray, List.set_cons_zero, List.set_cons_succ]
      refine wpAnyH_take (i := 1) (oi := ?_) (v := ?_) ?_ ?_ ?_ ?_ ?_ ?_ ?_ ?_
      rotate_left 2
      · simp only [List.getElem?_toArray, List.getElem?_cons_succ, List.getElem?_cons_zero]; rfl
      · kernel_rfl
      · kernel_rfl
      · kernel_rfl
      · exact fun _ _ _ h => h
      · refine Or.inl ⟨by rfl, ?_⟩
        intro w' hSw
        (try dsimp only at hSw)
        go_simp
        all_goals (with_reducible rfl)
      · assumption
      try simp only [Act.put, List.setIfInBounds_toArray, List.set_cons_zero, List.set_cons_succ]
      refine wpAnyH_take (i := 2) (oi := ?_) (v := ?_) ?_ ?_ ?_ ?_ ?_ ?_ ?_ ?_
      rotate_left 2
      · simp only [List.getElem?_toArray, List.getElem?_cons_succ, List.getElem?_cons_zero]; rfl
      · kernel_rfl
      · kernel_rfl
      · kernel_rfl
      · exact fun _ _ _ h => h
      · refine Or.inl ⟨by rfl, ?_⟩
        intro w' hSw
        (try dsimp only at hSw)
        go_simp
        all_goals (with_reducible rfl)
      · assumption
      try simp only [Act.put, List.setIfInBounds_toArray, List.set_cons_zero, List.set_cons_succ]
      refine wpAnyH_take (i := 3) (oi := ?_) (v := ?_) ?_ ?_ ?_ ?_ ?_ ?_ ?_ ?_
      rotate_left 2
      · simp only [List.getElem?_toArray, List.getElem?_cons_succ, List.getElem?_cons_zero]; rfl
      · kernel_rfl
      · kernel_rfl
      · kernel_rfl
      · exact fun _ _ _ h => h
      · refine Or.inl ⟨by rfl, ?_⟩
        intro w' hSw
        (try dsimp only at hSw)
        go_simp
        all_goals (with_reducible rfl)
      · assumption
      try simp only [Act.put, List.setIfInBounds_toArray, List.set_cons_zero, List.set_cons_succ]
      refine wpAnyH_take (i := 4) (oi := ?_) (v := ?_) ?_ ?_ ?_ ?_ ?_ ?_ ?_ ?_
      rotate_left 2
      · simp only [List.getElem?_toArray, List.getElem?_cons_succ, List.getElem?_cons_zero]; rfl
      · kernel_rfl
      · kernel_rfl
      · kernel_rfl
      · exact fun _ _ _ h => h
      · refine Or.inl ⟨by rfl, ?_⟩
        intro w' hSw
        (try dsimp only at hSw)
        go_simp
        all_goals (with_reducible rfl)
      · assumption
      try simp only [Act.put, List.setIfInBounds_toArray, List.set_cons_zero, List.set_cons_succ]
      refine wpAnyH_take (i := 5) (oi := ?_) (v := ?_) ?_ ?_ ?_ ?_ ?_ ?_ ?_ ?_
      rotate_left 2
      · simp only [List.getElem?_toArray, List.getElem?_cons_succ, List.getElem?_cons_zero]; rfl
      · kernel_rfl
      · kernel_rfl
      · kernel_rfl
      · exact fun _ _ _ h => h
      · refine Or.inl ⟨by rfl, ?_⟩
        intro w' hSw
        (try dsimp only at hSw)
        go_simp
        all_goals (with_reducible rfl)
      · assumption
      try simp only [Act.put, List.setIfInBounds_toArray, List.set_cons_zero, List.set_cons_succ]
      refine wpAnyH_take (i := 6) (oi := ?_) (v := ?_) ?_ ?_ ?_ ?_ ?_ ?_ ?_ ?_
      rotate_left 2
      · simp only [List.getElem?_toArray, List.getElem?_cons_succ, List.getElem?_cons_zero]; rfl
      · kernel_rfl
      · kernel_rfl
      · kernel_rfl
      · exact fun _ _ _ h => h
      · refine Or.inl ⟨by rfl, ?_⟩
        intro w' hSw
        (try dsimp only at hSw)
        go_simp
        all_goals (with_reducible rfl)
      · assumption
      try simp only [Act.put, List.setIfInBounds_toArray, List.set_cons_zero, List.set_cons_succ]
      refine wpAnyH_take (i := 7) (oi := ?_) (v := ?_) ?_ ?_ ?_ ?_ ?_ ?_ ?_ ?_
      rotate_left 2
      · simp only [List.getElem?_toArray, List.getElem?_cons_succ, List.getElem?_cons_zero]; rfl
      · kernel_rfl
      · kernel_rfl
      · kernel_rfl
      · exact fun _ _ _ h => h
      · refine Or.inl ⟨by rfl, ?_⟩
        intro w' hSw
        (try dsimp only at hSw)
        go_simp
        all_goals (with_reducible rfl)
      · assumption
      try simp only [Act.put, List.setIfInBounds_toArray, List.set_cons_zero, List.set_cons_succ]
      refine wpAnyH_take (i := 8) (oi := ?_) (v := ?_) ?_ ?_ ?_ ?_ ?_ ?_ ?_ ?_
      rotate_left 2
      · simp only [List.getElem?_toArray, List.getElem?_cons_succ, List.getElem?_cons_zero]; rfl
      · kernel_rfl
      · kernel_rfl
      · kernel_rfl
      · exact fun _ _ _ h => h
      · refine Or.inl ⟨by rfl, ?_⟩
        intro w' hSw
        (try dsimp only at hSw)
        go_simp
        all_goals (with_reducible rfl)
      · assumption
      try simp only [Act.put, List.setIfInBounds_toArray, List.set_cons_zero, List.set_cons_succ]
      refine wpAnyH_take (i := 9) (oi := ?_) (v := ?_) ?_ ?_ ?_ ?_ ?_ ?_ ?_ ?_
      rotate_left 2
      · simp only [List.getElem?_toArray, List.getElem?_cons_succ, List.getElem?_cons_zero]; rfl
      · kernel_rfl
      · kernel_rfl
      · kernel_rfl
      · exact fun _ _ _ h => h
      · refine Or.inl ⟨by rfl, ?_⟩
        intro w' hSw
        (try dsimp only at hSw)
        go_simp
        all_goals (with_reducible rfl)
      · assumption
      try simp only [Act.put, List.setIfInBounds_toArray, List.set_cons_zero, List.set_cons_succ]
      refine wpAnyH_take (i := 10) (oi := ?_) (v := ?_) ?_ ?_ ?_ ?_ ?_ ?_ ?_ ?_
      rotate_left 2
      · simp only [List.getElem?_toArray, List.getElem?_cons_succ, List.getElem?_cons_zero]; rfl
      · kernel_rfl
      · kernel_rfl
      · kernel_rfl
      · exact fun _ _ _ h => h
      · refine Or.inl ⟨by rfl, ?_⟩
        intro w' hSw
        (try dsimp only at hSw)
        go_simp
        all_goals (with_reducible rfl)
      · assumption
      try simp only [Act.put, List.setIfInBounds_toArray, List.set_cons_zero, List.set_cons_succ]
      refine wpAnyH_take (i := 11) (oi := ?_) (v := ?_) ?_ ?_ ?_ ?_ ?_ ?_ ?_ ?_
      rotate_left 2
      · simp only [List.getElem?_toArray, List.getElem?_cons_succ, List.getElem?_cons_zero]; rfl
      · kernel_rfl
      · kernel_rfl
      · kernel_rfl
      · exact fun _ _ _ h => h
      · refine Or.inl ⟨by rfl, ?_⟩
        intro w' hSw
        (try dsimp only at hSw)
        go_simp
        all_goals (with_reducible rfl)
      · assumption
      try simp only [Act.put, List.setIfInBounds_toArray, List.set_cons_zero, List.set_cons_succ]
      refine wpAnyH_take (i := 12) (oi := ?_) (v := ?_) ?_ ?_ ?_ ?_ ?_ ?_ ?_ ?_
      rotate_left 2
      · simp only [List.getElem?_toArray, List.getElem?_cons_succ, List.getElem?_cons_zero]; rfl
      · kernel_rfl
      · kernel_rfl
      · kernel_rfl
      · exact fun _ _ _ h => h
      · refine Or.inl ⟨by rfl, ?_⟩
        intro w' hSw
        (try dsimp only at hSw)
        go_simp
        all_goals (with_reducible rfl)
      · assumption
      try simp only [Act.put, List.setIfInBounds_toArray, List.set_cons_zero, List.set_cons_succ]
      refine wpAnyH_take (i := 13) (oi := ?_) (v := ?_) ?_ ?_ ?_ ?_ ?_ ?_ ?_ ?_
      rotate_left 2
      · simp only [List.getElem?_toArray, List.getElem?_cons_succ, List.getElem?_cons_zero]; rfl
      · kernel_rfl
      · kernel_rfl
      · kernel_rfl
      · exact fun _ _ _ h => h
      · refine Or.inl ⟨by rfl, ?_⟩
        intro w' hSw
        (try dsimp only at hSw)
        go_simp
        all_goals (with_reducible rfl)
      · assumption
      try simp only [Act.put, List.setIfInBounds_toArray, List.set_cons_zero, List.set_cons_succ]
      refine wpAnyH_take (i := 14) (oi := ?_) (v := ?_) ?_ ?_ ?_ ?_ ?_ ?_ ?_ ?_
      rotate_left 2
      · simp only [List.getElem?_toArray, List.getElem?_cons_succ, List.getElem?_cons_zero]; rfl
      · kernel_rfl
      · kernel_rfl
      · kernel_rfl
      · exact fun _ _ _ h => h
      · refine Or.inl ⟨by rfl, ?_⟩
        intro w' hSw
        (try dsimp only at hSw)
        go_simp
        all_goals (with_reducible rfl)
      · assumption
      try simp only [Act.put, List.setIfInBounds_toArray, List.set_cons_zero, List.set_cons_succ]
      refine wpAnyH_take (i := 15) (oi := ?_) (v := ?_) ?_ ?_ ?_ ?_ ?_ ?_ ?_ ?_
      rotate_left 2
      · simp only [List.getElem?_toArray, List.getElem?_cons_succ, List.getElem?_cons_zero]; rfl
      · kernel_rfl
      · kernel_rfl
      · kernel_rfl
      · exact fun _ _ _ h => h
      · refine Or.inl ⟨by rfl, ?_⟩
        intro w' hSw
        (try dsimp only at hSw)
        go_simp
        all_goals (with_reducible rfl)
      · assumption
      try simp only [Act.put, List.setIfInBounds_toArray, List.set_cons_zero, List.set_cons_succ]
      refine wpAnyH_take (i := 16) (oi := ?_) (v := ?_) ?_ ?_ ?_ ?_ ?_ ?_ ?_ ?_
      rotate_left 2
      · simp only [List.getElem?_toArray, List.getElem?_cons_succ, List.getElem?_cons_zero]; rfl
      · kernel_rfl
      · kernel_rfl
      · kernel_rfl
      · exact fun _ _ _ h => h
      · refine Or.inl ⟨by rfl, ?_⟩
        intro w' hSw
        (try dsimp only at hSw)
        go_simp
        all_goals (with_reducible rfl)
      · assumption
      try simp only [Act.put, List.setIfInBounds_toArray, List.set_cons_zero, List.set_cons_succ]
      refine wpAnyH_take (i := 17) (oi := ?_) (v := ?_) ?_ ?_ ?_ ?_ ?_ ?_ ?_ ?_
      rotate_left 2
      · simp only [List.getElem?_toArray, List.getElem?_cons_succ, List.getElem?_cons_zero]; rfl
      · kernel_rfl
      · kernel_rfl
      · kernel_rfl
      · exact fun _ _ _ h => h
      · refine Or.inl ⟨by rfl, ?_⟩
        intro w' hSw
        (try dsimp only at hSw)
        go_simp
        all_goals (with_reducible rfl)
      · assumption
      try simp only [Act.put, List.setIfInBounds_toArray, List.set_cons_zero, List.set_cons_succ]
      refine wpAnyH_ready (rs := [18]) (by kernel_rfl) (by simp) ?_
      refine AllReadyH.cons (o := ?_) ?_ ?_ ?_
      rotate_left 1
      · simp only [List.getElem?_toArray, List.getElem?_cons_succ, List.getElem?_cons_zero]; rfl
      rotate_left 1
      · exact AllReadyH.nil
      intro K hK
      go_simp
      have KA := Lib.hid (KD.out.alloc (.cells #[.int .i64 r4, .string (es.extract 0 mm), .int .i64 a10, .int .i64 c10] 29))
      refine hK.out _ _ KA.out.rd (fun hHeld => ?_)
      clear hK K
      try simp only [Act.put, List.setIfInBounds_toArray, List.set_cons_zero, List.set_cons_succ]
      refine wpAnyH_ready (rs := [19]) (by kernel_rfl) (by simp) ?_
      refine AllReadyH.cons (o := ?_) ?_ ?_ ?_
      rotate_left 1
      · simp only [List.getElem?_toArray, List.getElem?_cons_succ, List.getElem?_cons_zero]; rfl
      rotate_left 1
      · exact AllReadyH.nil
      intro K hK
      refine step_append_lies _ (by rfl) _ _ 22 (by rfl) w.heap.size 29 i0 (.agg #[.int .i64 0, .string ⟨#[]⟩, .int .i64 0, .int .i64 0]) 4 40 (by rfl) HI.out.1 HI.out.2.1 HI.out.2.2.1 HI.out.2.2.2 (by rfl) (by omega) v i (rws encT ((L.map tameE).take i)) (by rfl) (World.ownsRow.alloc VD.out _) ⟨w4.heap.size, 0, none⟩ 1 1 [.int .i64 r4, .string (es.extract 0 mm), .int .i64 a10, .int .i64 c10] (by rfl) (by rfl) (World.news_of_block (heap_alloc_new w4.drew _)) (by simp [Value.oneCell']) (by omega) (by have := HLM.out.2; unfold maxLen; omega) (by have := HLM.out.2; omega) (Nat.le_trans HB4.out.size (by simp)) _ rfl ?_; intro gl cl w11 hown11 hgr11 hat11 hlt11; have O11 := Lib.hid hown11; have G11 := Lib.hid (G.fr_row hgr11); have K11 := Lib.hid (KA.out.fr G11.out (fun e => NVB.out bx e rfl)); clear hown11 hgr11 hat11 hlt11
      refine hK.out _ _ K11.out.rd (fun hHeld => ?_)
      clear hK K
      try simp only [Act.put, List.setIfInBounds_toArray, List.set_cons_zero, List.set_cons_succ]
      refine wpAnyH_take (i := 20) (oi := ?_) (v := ?_) ?_ ?_ ?_ ?_ ?_ ?_ ?_ ?_
      rotate_left 2
      · simp only [List.getElem?_toArray, List.getElem?_cons_succ, List.getElem?_cons_zero]; rfl
      · kernel_rfl
      · kernel_rfl
      · kernel_rfl
      · exact fun _ _ _ h => h
      · refine Or.inl ⟨by rfl, ?_⟩
        intro w' hSw
        (try dsimp only at hSw)
        go_simp
        all_goals (with_reducible rfl)
      · assumption
      try simp only [Act.put, List.setIfInBounds_toArray, List.set_cons_zero, List.set_cons_succ]
      refine wpAnyH_done (by kernel_rfl) ?_ _
      clear hHeld
      have O12 := Lib.hid (show OwT w11 w.heap.size (.slice (some ⟨gl, 0, none⟩) (i + 1) cl) ((L.map tameE).take (i + 1)) from by
        rw [HLM.out.1]
        have h : OwT w11 w.heap.size (.slice (some ⟨gl, 0, none⟩) (((L.map tameE).take i).length + 1) cl) ((L.map tameE).take i ++ [tameE ⟨er, es, ea, ec⟩]) := owt_new (by rw [HE.out, HLM.out.2]; exact O11.out)
        rw [HLM.out.2] at h
        exact h)
      have B12 := Lib.hid (show Below w.heap.size w w11 from HB4.out.trans ((show Below w.heap.size w4 (w4.alloc (.cells #[.int .i64 r4, .string (es.extract 0 mm), .int .i64 a10, .int .i64 c10] 29)).drew from below_draws ((Below.refl _ _).alloc HB4.out.size _) 1).trans (G11.out.below (Nat.le_trans HB4.out.size (by simp)) (fun k hk => HV4.out.base_le k hk))))
      clear e1 e2 e3 e4 e5 O11 G11
      go_wp2
      go_roundg (n - (i + 1))
      case measure => have := HK.out; have := HIN.out; omega
      case rel => exact ⟨i + 1, _, HIN.out, Lib.hid rfl, by go_num, rfl, O12, B12⟩
    · have hie : i = n := by omega
      have hfull : (L.map tameE).take i = L.map tameE := List.take_of_length_le (by rw [List.length_map]; omega)
      rw [hfull] at HV
      have hix : ¬ (i : Int) < (n : Int) := by omega
      clear hfull hie hln
      go_wp2
      go_ret
      exact ⟨_, rfl, HV.out, HB.out⟩
end Go.Proofs.Yteeinckmmbdfoaa
