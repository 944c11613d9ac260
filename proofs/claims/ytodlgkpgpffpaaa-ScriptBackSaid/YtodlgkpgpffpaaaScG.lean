/- The contracts of layer 19 (script) with contents: Decode. -/
import Derived.Test.YtodlgkpgpffpaaaScE
namespace Go.Proofs.Ytodlgkpgpffpaaa
open Go.ChangeShapes Go.WideShapes Go.ChangeAt Go.RowKit
/-- an act as it lies, with what its slices hold: apart from a row that still grows. -/
structure Held (w : World) (base : Nat) (row : Option Nat) (a : ActV) (c : ActC) : Prop where
  kind : a.kind = c.kind
  clock : a.clock = c.clock
  conn : a.conn = c.conn
  n : a.n = c.n
  data : RdI w .u8 a.A a.dl a.dc c.data
  seeds : RdI w .u64 a.B a.sl a.sc c.seeds
  dat : 0 < a.dl → ∃ blk off, a.A = some ⟨blk, off, none⟩ ∧ base ≤ blk ∧ blk < w.heap.size ∧ row ≠ some blk
  sat : 0 < a.sl → ∃ blk off, a.B = some ⟨blk, off, none⟩ ∧ base ≤ blk ∧ blk < w.heap.size ∧ row ≠ some blk
theorem rdI_step {W w : World} {F : Nat → Prop} {k : IntKind} {A : Option Addr} {n c base : Nat} {row : Option Nat} {zs : List Int} (h : RdI W k A n c zs) (hA : 0 < n → ∃ blk off, A = some ⟨blk, off, none⟩ ∧ base ≤ blk ∧ blk < W.heap.size ∧ row ≠ some blk) (hf : Fr F W w) (hF : ∀ k, F k → k < base ∨ row = some k) : RdI w k A n c zs := by
  rcases Nat.eq_zero_or_pos n with h0 | h0
  · exact ⟨h.len, h.cap, h.max, fun hn => absurd hn (by omega), h.wf⟩
  · obtain ⟨blk, off, e, hb, _, hr⟩ := hA h0
    exact rdI_fr h (fun _ => ⟨off, e⟩) hf (fun hk => by rcases hF blk hk with h | h; (omega); exact hr h)
theorem Held.step {W w : World} {F : Nat → Prop} {base : Nat} {row row' : Option Nat} {a : ActV} {c : ActC} (h : Held W base row a c) (hf : Fr F W w) (hF : ∀ k, F k → k < base ∨ row = some k) (hrow : ∀ g, row' = some g → row = some g ∨ W.heap.size ≤ g) : Held w base row' a c :=
  ⟨h.kind, h.clock, h.conn, h.n, rdI_step h.data h.dat hf hF, rdI_step h.seeds h.sat hf hF,
   fun h0 => by
    obtain ⟨blk, off, e, hb, hlt, hr⟩ := h.dat h0
    exact ⟨blk, off, e, hb, Nat.lt_of_lt_of_le hlt hf.size, fun e' => by rcases hrow blk e' with h | h; (exact hr h); omega⟩,
   fun h0 => by
    obtain ⟨blk, off, e, hb, hlt, hr⟩ := h.sat h0
    exact ⟨blk, off, e, hb, Nat.lt_of_lt_of_le hlt hf.size, fun e' => by rcases hrow blk e' with h | h; (exact hr h); omega⟩⟩
def HeldL (w : World) (base : Nat) (row : Option Nat) : List ActV → List ActC → Prop
  | [], [] => True
  | a :: l, c :: r => Held w base row a c ∧ HeldL w base row l r
  | _, _ => False
theorem HeldL.step {W w : World} {F : Nat → Prop} {base : Nat} {row row' : Option Nat} (hf : Fr F W w) (hF : ∀ k, F k → k < base ∨ row = some k) (hrow : ∀ g, row' = some g → row = some g ∨ W.heap.size ≤ g) : ∀ {l : List ActV} {r : List ActC}, HeldL W base row l r → HeldL w base row' l r
  | [], [], _ => trivial
  | _ :: _, _ :: _, h => ⟨h.1.step hf hF hrow, h.2.step hf hF hrow⟩
theorem HeldL.snoc {w : World} {base : Nat} {row : Option Nat} {a : ActV} {c : ActC} (ha : Held w base row a c) : ∀ {l : List ActV} {r : List ActC}, HeldL w base row l r → HeldL w base row (l ++ [a]) (r ++ [c])
  | [], [], _ => ⟨ha, trivial⟩
  | _ :: _, _ :: _, h => ⟨h.1, h.2.snoc ha⟩
theorem own_lt {w : World} {base : Nat} {e : TypeId} {size n : Nat} {v : Value} {xs : List Value} (h : w.ownsRow base e size v n xs) : ∀ g, v.ownBlock = some g → g < w.heap.size := by
  intro g hg
  rcases h.2 with ⟨rfl, _⟩ | ⟨g', cap, cur, rfl, hb, hg', _⟩
  · cases hg
  · have : g' = g := by simpa [Value.ownBlock] using hg
    have := lt_of_block hg'
    omega
theorem take_min (q : List Int) (n : Nat) : q.take (min n q.length) = q.take n := by
  rcases Nat.le_total n q.length with h | h
  · rw [Nat.min_eq_left h]
  · rw [Nat.min_eq_right h, List.take_of_length_le (Nat.le_refl _), List.take_of_length_le h]
theorem drop_min (q : List Int) (n : Nat) : q.drop (min n q.length) = q.drop n := by
  rcases Nat.le_total n q.length with h | h
  · rw [Nat.min_eq_left h]
  · rw [Nat.min_eq_right h, List.drop_of_length_le (Nat.le_refl _), List.drop_of_length_le h]
theorem bytes_xc (b d : Nat) (q q2 qd : List Int) (nn m : Nat) (hnn : nn ≤ 255) (w : World) (h : SrcAt w b d q) (hdb : d ≠ b) (hm : min nn q.length = m) (hq : q.drop m = q2) (hd : q.take m = qd) :
    Calls Try.prog 15 #[.pointer (some ⟨b, 0, none⟩), .int .i64 (nn : Int)] w fun e w' => (∃ A c, e = .returned (.slice A m c) ∧ RdI w' .u8 A m c qd ∧ (0 < m → A = some ⟨w.heap.size, 0, none⟩)) ∧ SrcAt w' b d q2 ∧ Fr (fun k => k = b) w w' := by
  rw [← hd, ← hq, ← hm]
  exact bytes_c b d q nn hnn w h hdb
/-- the rest of an act. -/
def stepD (kind now' conn x : Int) (q2 q3 : List Int) : ActC × List Int :=
  if kind = 2 then (⟨kind, now', conn, q3.take x.toNat, 0, []⟩, q3.drop x.toNat)
  else if kind = 3 then (⟨kind, now', conn, [], x, []⟩, q3)
  else if kind = 4 then (⟨kind, now', conn, [], 0, rdS (x % 4).toNat q3⟩, q3.drop (8 * (x % 4).toNat))
  else (⟨kind, now', conn, [], 0, []⟩, q2)
theorem step_shorterC {q : List Int} (now : Int) (h : q ≠ []) : (stepC q now).2.length < q.length := by
  have h0 : 0 < q.length := List.length_pos_iff.2 h
  unfold stepC
  simp only
  split
  · simp only [List.length_drop]; omega
  · split
    · simp only [List.length_drop]; omega
    · split <;> simp only [List.length_drop] <;> omega
theorem rdS_bd : ∀ (k : Nat) (q : List Int), byt q → ∀ s ∈ rdS k q, 0 ≤ s ∧ s < 18446744073709551616
  | 0, _, _, s, hs => by cases hs
  | k + 1, q, h, s, hs => by
    rw [rdS, List.mem_cons] at hs
    rcases hs with rfl | hs
    · exact pre_bd h 8
    · exact rdS_bd k (q.drop 8) (byt_drop h 8) s hs
theorem u64_wf {z : Int} (h : 0 ≤ z ∧ z < 18446744073709551616) : (Lit.int .u64 z).wf = true := by
  simp [Lit.wf, IntKind.min, IntKind.max, IntKind.signed, IntKind.bits]
  omega
set_option maxHeartbeats 4000000 in
set_option maxRecDepth 100000 in
theorem decode_c (A : Option Addr) (n c : Nat) (q : List Int) (w : World) (hr : RdI w .u8 A n c q) (hn : n ≤ 1000000) :
    Calls Try.prog 11 #[.slice A n c] w fun e w' => ∃ v ls cs, e = .returned v ∧ w'.ownsRow (w.heap.size + 1) 32 6 v ls.length (cells6 ls) ∧ cs = decC q.length q 0 ∧ HeldL w' (w.heap.size + 1) v.ownBlock ls cs ∧ Fr (fun _ => False) w w' := by
  obtain ⟨d, hd, hdA, hdl⟩ : ∃ d, d ≠ w.heap.size ∧ (0 < n → ∃ off, A = some ⟨d, off, none⟩) ∧ (n = 0 ∨ d < w.heap.size) := by
    rcases Nat.eq_zero_or_pos n with h0 | h0
    · exact ⟨w.heap.size + 1, by omega, fun h => absurd h (by omega), .inl h0⟩
    · obtain ⟨b, off, rfl, hlt, _⟩ := hr.at_ h0
      exact ⟨b, by omega, fun _ => ⟨off, rfl⟩, .inr hlt⟩
  obtain ⟨sb, hsb⟩ : ∃ sb, sb = w.heap.size := ⟨_, rfl⟩
  rw [← hsb] at hd hdl ⊢
  have HDN := Lib.hid hdl
  have HSB := Lib.hid hsb
  have HD := Lib.hid hd
  have hql := hr.len
  have hcp := hr.cap
  have hmx := hr.max
  unfold maxLen at hmx
  have HQ := Lib.hid hql
  have HR := Lib.hid hr
  have HA := Lib.hid hdA
  clear hsb hd hr hdA hql hdl
  go_enter Try.func11, Try.ntmps11
  go_wp2
  obtain ⟨w0, hw0, hbk, hbl, hsz⟩ := box_new w #[.slice A n c] 42
  rw [← HSB.out] at hbk ⊢
  rw [hw0]
  have F0 := Lib.hid (show Fr (fun _ => False) w w0 from Fr.of_below hbl)
  have S0 := Lib.hid (show SrcAt w0 sb d q from ⟨_, _, _, hbk, rdI_fr (F := fun _ => False) HR.out HA.out F0.out id, HA.out⟩)
  have hs0 : w0.heap.size = sb + 1 := by rw [hsz, HSB.out]
  have HS0 := Lib.hid hs0
  clear hw0 hbk hbl hsz hs0
  go_loopg [3, 5] q.length (fun k xl xn wr => ∃ (q1 : List Int) (ls : List ActV) (now : Int) (f : Nat) (cs : List ActC), k = q1.length ∧ xn = .int .i64 now ∧ (0 ≤ now ∧ now ≤ 9223372036854775807) ∧ SrcAt wr sb d q1 ∧ wr.ownsRow (sb + 1) 32 6 xl ls.length (cells6 ls) ∧ (q1.length ≤ f ∧ cs ++ decC f q1 now = decC q.length q 0) ∧ Fr (fun k => k = sb) w0 wr ∧ ls.length + q1.length ≤ q.length ∧ HeldL wr (sb + 1) xl.ownBlock ls cs)
  case atStart => exact ⟨q, [], 0, q.length, [], rfl, rfl, by omega, S0.out, World.ownsRow_nil _ _ _ _, ⟨Nat.le_refl _, rfl⟩, Fr.refl _ _, by simp, trivial⟩
  case round =>
    obtain ⟨q1, ls, now, f, cs, hkk, rfl, hnow, hs, hown, hdec, hf, hle, hhl⟩ := hrel
    have HHL := Lib.hid hhl
    clear hhl
    have HK := Lib.hid hkk
    have HF := Lib.hid hf
    have HO := Lib.hid hown
    have HE := Lib.hid hdec
    have HL := Lib.hid hle
    have HN := Lib.hid hnow
    clear hkk hf hown hdec hle
    by_cases hq1 : q1 = []
    · have hs1 := hs
      obtain ⟨A1, n1, c1, b1, r1, _⟩ := hs1
      have hn1 := r1.len
      rw [hq1] at hn1
      have hn1' : n1 = 0 := hn1.symm
      subst hn1'
      have k1 := b1.rd
      clear b1 r1 hs hnow hn1
      go_wp2
      go_ret
      refine ⟨u3, ls, cs, rfl, HO.out, ?_, HHL.out, ?_⟩
      · have := HE.out.2
        rw [hq1] at this
        rw [← this]
        cases f <;> simp [decC]
      · exact Fr.drop_far ((F0.out.mono (fun k hk => hk.elim)).trans HF.out) (by rw [HSB.out]; exact Nat.le_refl _)
    · have hs1 := hs
      obtain ⟨A1, n1, c1, b1, r1, _⟩ := hs1
      have hn1 := r1.len
      have hln : 0 < q1.length := List.length_pos_iff.2 hq1
      have hn1' : (0 : Int) < (n1 : Int) := by omega
      have k1 := b1.rd
      have hby := hs.byt
      obtain ⟨X0, hX0⟩ : ∃ z, z = preZ q1 1 := ⟨_, rfl⟩
      obtain ⟨q2, hq2⟩ : ∃ z, z = q1.drop 1 := ⟨_, rfl⟩
      obtain ⟨code, hcode⟩ : ∃ z, z = preZ q2 2 := ⟨_, rfl⟩
      obtain ⟨q3, hq3⟩ : ∃ z, z = q2.drop 2 := ⟨_, rfl⟩
      have x0 := (pre_bd hby 1)
      rw [← hX0, show (256 : Int) ^ 1 = 256 from rfl] at x0
      have hby2 : byt q2 := by rw [hq2]; exact byt_drop hby 1
      have xc := (pre_bd hby2 2)
      rw [← hcode, show (256 : Int) ^ 2 = 65536 from rfl] at xc
      obtain ⟨now', hnow'⟩ : ∃ z, z = laterZ now code := ⟨_, rfl⟩
      have xn := later_bd hnow xc
      rw [← hnow'] at xn
      have CN1 := Lib.hid (number_x sb d q1 q2 X0 1 1 rfl (by omega) wr hs HD.out hX0.symm hq2.symm)
      have CN2 := Lib.hid (fun w1 (h1 : SrcAt w1 sb d q2) => number_x sb d q2 q3 code 2 2 rfl (by omega) w1 h1 HD.out hcode.symm hq3.symm)
      have CL := Lib.hid (fun w1 => later_any now code hnow xc w1)
      rw [← hnow'] at CL
      have HX := Lib.hid (And.intro hX0 (And.intro hq2 (And.intro hcode (And.intro hq3 hnow'))))
      have HB2 := Lib.hid hby2
      have HQ1 := Lib.hid (And.intro hq1 hln)
      have HDL := Lib.hid (show d < sb from by rcases HDN.out with h | h; (have := HL.out; have := HQ.out; omega); exact h)
      obtain ⟨KD, eK⟩ : ∃ z, X0 % 5 = z := ⟨_, rfl⟩
      obtain ⟨CO, eC⟩ : ∃ z, X0 / 5 % 16 = z := ⟨_, rfl⟩
      have hKD : 0 ≤ KD ∧ KD ≤ 4 := by omega
      have hCO : 0 ≤ CO ∧ CO ≤ 15 := by omega
      have X0B := Lib.hid x0
      clear b1 r1 hn1 hby hX0 hq2 hcode hq3 hby2 xc hnow' hq1 hln hs hnow
      go_upto_region 7 with (first
        | (go_at_call 13; ((with_reducible refine CN1.out.mono ?_); rintro e w1 ⟨rfl, s1, f1⟩; have S1 := Lib.hid s1; have F1 := Lib.hid f1; clear s1 f1))
        | (go_at_call 13; ((with_reducible refine (CN2.out _ S1.out).mono ?_); rintro e w2 ⟨rfl, s2, f2⟩; have S2 := Lib.hid s2; have F2 := Lib.hid (F1.out.trans f2); clear s2 f2))
        | (go_at_call 14; ((with_reducible refine (CL.out _).mono ?_); rintro e w3 ⟨rfl, rfl⟩)))
      obtain ⟨w4, hw4, hb4, hbl4, hsz4⟩ := box_new w3 #[.int .i64 KD, .int .i64 now', .int .i64 CO, .slice none 0 0, .int .i64 0, .slice none 0 0] 32
      rw [hw4]
      obtain ⟨ab, hab⟩ : ∃ ab, ab = w3.heap.size := ⟨_, rfl⟩
      rw [← hab] at hb4 ⊢
      have B4 := Lib.hid hb4
      have F4 := Lib.hid (F2.out.trans (Fr.of_below hbl4))
      have S4 := Lib.hid (S2.out.keep hbl4)
      have hnsb : ab ≠ sb := by have := lt_of_block (show Blk w3 sb _ _ from S2.out.choose_spec.choose_spec.choose_spec.1); omega
      have NSB := Lib.hid hnsb
      have HAB := Lib.hid (show wr.heap.size ≤ ab from by rw [hab]; exact F2.out.size)
      have k4 := hb4.rd
      have SP := Lib.hid (show stepC q1 now = stepD KD now' CO (preZ q3 1) q3 (q3.drop 1) from by
        obtain ⟨e1, e2, e3, e4, e5⟩ := HX.out
        have a1 := eK
        have a2 := eC
        subst e5 e4 e3 e2 e1 a1 a2
        rfl)
      clear hw4 hb4 hbl4 hsz4 hab hnsb eK eC
      by_cases k2 : KD = 2
      · subst k2
        obtain ⟨nx, hnx⟩ : ∃ nx : Nat, preZ q3 1 = (nx : Int) := ⟨(preZ q3 1).toNat, by have := (pre_bd (byt_drop HB2.out 2) 1).1; rw [← HX.out.2.2.2.1] at this; omega⟩
        have hnxb : nx ≤ 255 := by have := (pre_bd (byt_drop HB2.out 2) 1).2; rw [← HX.out.2.2.2.1, hnx] at this; have e : (256 : Int) ^ 1 = 256 := rfl; rw [e] at this; omega
        obtain ⟨q4, hq4⟩ : ∃ z, z = q3.drop 1 := ⟨_, rfl⟩
        have CN3 := Lib.hid (number_x sb d q3 q4 (nx : Int) 1 1 rfl (by omega) w4 S4.out HD.out hnx hq4.symm)
        have HNX := Lib.hid (And.intro hnx hq4)
        obtain ⟨m, hm⟩ : ∃ m, min nx q4.length = m := ⟨_, rfl⟩
        obtain ⟨q5, hq5⟩ : ∃ z, z = q4.drop m := ⟨_, rfl⟩
        obtain ⟨qd, hqd⟩ : ∃ z, z = q4.take m := ⟨_, rfl⟩
        have CB := Lib.hid (fun w5 (h5 : SrcAt w5 sb d q4) => bytes_xc sb d q4 q5 qd nx m hnxb w5 h5 HD.out hm hq5.symm hqd.symm)
        have HSTEP := Lib.hid (show stepC q1 now = ((⟨2, now', CO, qd, 0, []⟩ : ActC), q5) from by rw [SP.out, stepD, if_pos rfl, hnx, ← hq4, hq5, hqd, ← hm, take_min, drop_min]; rfl)
        clear hnx hq4 hm hq5 hqd
        go_upto_region 17 with (first
          | (go_at_call 13; ((with_reducible refine CN3.out.mono ?_); rintro e w5 ⟨rfl, s5, f5⟩; have S5 := Lib.hid s5; have F5 := Lib.hid (F4.out.trans f5); have B5 := Lib.hid (B4.out.fr f5 NSB.out); clear s5 f5))
          | (go_at_call 15; ((with_reducible refine (CB.out _ S5.out).mono ?_); rintro e w6 ⟨⟨A6, cc6, rfl, ra6, na6⟩, s6, f6⟩; have RA6 := Lib.hid ra6; have NA6 := Lib.hid na6; have HW5 := Lib.hid (And.intro (lt_of_block B5.out) (And.intro F5.out.size f6.size)); clear ra6 na6; have S6 := Lib.hid s6; have F6 := Lib.hid (F5.out.trans f6); have B6 := Lib.hid (B5.out.fr f6 NSB.out); have k6 := B6.out.rd; have p6 := B6.out.wr; clear s6 f6)))
        have hl6 := lt_of_block B6.out
        rw [setCell_obj B6.out]
        obtain ⟨w7, hw7⟩ : ∃ w, w = setObj w6 ab (.cells #[.int .i64 2, .int .i64 now', .int .i64 CO, .slice A6 m cc6, .int .i64 0, .slice none 0 0] 32 (0, 0)) := ⟨_, rfl⟩
        have B7 := Lib.hid (show Blk w7 ab 32 #[.int .i64 2, .int .i64 now', .int .i64 CO, .slice A6 m cc6, .int .i64 0, .slice none 0 0] from by rw [hw7]; exact setObj_at hl6 _)
        have F7 := Lib.hid (show Fr (fun k => k = sb) wr w7 from by rw [hw7]; exact Fr.drop_new (Fr.setObj (F := fun k => k = sb ∨ k = ab) (F6.out.mono (fun k hk => Or.inl hk)) (Or.inr rfl) _) HAB.out)
        have S7 := Lib.hid (show SrcAt w7 sb d q5 from by rw [hw7]; exact S6.out.fr (Fr.setObj (F := fun k => k = ab) (Fr.refl _ _) rfl _) (fun e => NSB.out e.symm) (fun e => by have := HDL.out; have := HAB.out; have := HF.out.size; rw [HS0.out] at this; omega))
        have W7R := Lib.hid (show RdI w7 .u8 A6 m cc6 qd from by rw [hw7]; exact rdI_fr RA6.out (fun h => ⟨0, NA6.out h⟩) (Fr.setObj (F := fun k => k = ab) (Fr.refl _ _) rfl _) (by have := HW5.out; omega))
        change Code.wp _ _ _ _ (setObj w6 ab (.cells #[.int .i64 2, .int .i64 now', .int .i64 CO, .slice A6 m cc6, .int .i64 0, .slice none 0 0] 32 (0, 0)))
        rw [← hw7]
        clear hw7 hl6 k6 p6
        have HACT := Lib.hid (show Held w7 (sb + 1) u3.ownBlock ⟨2, now', CO, A6, m, cc6, 0, none, 0, 0⟩ ⟨2, now', CO, qd, 0, []⟩ from by
          have h5 := HW5.out
          refine ⟨rfl, rfl, rfl, rfl, W7R.out, rdI_none (Nat.zero_le maxLen), fun h0 => ?_, fun h0 => absurd h0 (by simp)⟩
          obtain ⟨blk, off, e, hlt, _⟩ := W7R.out.at_ h0
          have e2 := NA6.out h0
          have e3 : blk = w5.heap.size := by rw [e] at e2; injection e2 with e2; injection e2
          exact ⟨blk, off, e, by have := HF.out.size; rw [HS0.out] at this; omega, hlt, fun e => by have := own_lt HO.out _ e; omega⟩)
        obtain ⟨i0, hi0, hz0, hz1, hz2⟩ := info_parts infoAct
        have k7 := B7.out.rd
        have NW := Lib.hid (heap_alloc_new w7 (.cells #[.int .i64 2, .int .i64 now', .int .i64 CO, .slice A6 m cc6, .int .i64 0, .slice none 0 0] 32))
        have O7 := Lib.hid (own_fr HO.out F7.out (fun k hk => by omega))
        have BS := Lib.hid (show sb + 1 ≤ w7.heap.size from by have := F7.out.size; have := HF.out.size; rw [HS0.out] at this; omega)
        have LB := Lib.hid (show ls.length ≤ 1000000 from by have := HL.out; have := HQ.out; omega)
        go_wp2_with (at_builtin; refine wpList_append_lies _ (by rfl) _ _ 22 (by rfl) (sb + 1) 32 i0 (.agg #[.int .i64 0, .int .i64 0, .int .i64 0, .slice none 0 0, .int .i64 0, .slice none 0 0]) 6 80 Try.underlying22 hi0 hz0 hz1 hz2 (by rfl) (by omega) u3 ls.length (cells6 ls) (by rfl) (O7.out.alloc _) ⟨w7.heap.size, 0, none⟩ 1 1 [.int .i64 2, .int .i64 now', .int .i64 CO, .slice A6 m cc6, .int .i64 0, .slice none 0 0] (by rfl) (by rfl) (World.news_of_block NW.out) (by simp [Value.oneCell']) (by omega) (by have := LB.out; unfold maxLen; omega) (by have := LB.out; omega) (by have := BS.out; simp; omega) (w7.heap.size + 1) (by simp) ?_; intro gl cl w9 hown9 hgrow9 hat9 hlt9; have HO9 := Lib.hid hown9; have HG9 := Lib.hid hgrow9; have HAT9 := Lib.hid hat9; clear hown9 hgrow9 hat9 hlt9)
        go_roundg q5.length
        case measure =>
          have h1 := HSTEP.out
          have h2 := step_shorterC now HQ1.out.1
          rw [h1] at h2
          have h2' : q5.length < q1.length := h2
          have := HK.out
          omega
        case rel =>
          have h1 := HSTEP.out
          have h2 := step_shorterC now HQ1.out.1
          rw [h1] at h2
          have h2' : q5.length < q1.length := h2
          have hl := HL.out
          have he := HE.out
          have F9 := fr_grown (Fr.alloc (HF.out.trans F7.out) _) HG9.out (fun g hg => by rw [HS0.out]; exact own_base O7.out g hg)
          refine ⟨q5, ls ++ [⟨2, now', CO, A6, m, cc6, 0, none, 0, 0⟩], now', f - 1, cs ++ [⟨2, now', CO, qd, 0, []⟩], rfl, rfl, xn, ?_, ?_, ⟨by omega, ?_⟩, F9, by rw [List.length_append, List.length_singleton]; omega, ?_⟩
          · exact (S7.out.keep ((Below.refl _ _).alloc (Nat.le_refl _) _)).fr (fr_row HG9.out) (fun e => by have := own_base O7.out _ e; omega) (fun e => by have := own_base O7.out _ e; have := HDL.out; omega)
          · rw [cells6_app, List.length_append]; exact HO9.out
          · rw [← he.2]
            obtain ⟨f', rfl⟩ : ∃ f', f = f' + 1 := ⟨f - 1, by omega⟩
            rw [decC, if_neg HQ1.out.1, h1, List.append_assoc]
            rfl
          · have hh := HeldL.step (row' := u3.ownBlock) (Fr.alloc F7.out (.cells #[.int .i64 2, .int .i64 now', .int .i64 CO, .slice A6 m cc6, .int .i64 0, .slice none 0 0] 32)) (fun k hk => Or.inl (by omega)) (fun g hg => Or.inl hg) HHL.out
            have ha := HACT.out.step (row' := u3.ownBlock) (Fr.alloc (Fr.refl (fun _ => False) w7) (.cells #[.int .i64 2, .int .i64 now', .int .i64 CO, .slice A6 m cc6, .int .i64 0, .slice none 0 0] 32)) (fun k hk => hk.elim) (fun g hg => Or.inl hg)
            exact HeldL.step (row' := some gl) (fr_row HG9.out) (fun k hk => Or.inr hk) (fun g hg => by injection hg with hg; subst hg; exact HAT9.out.imp id (fun h => by rw [h]; simp)) (hh.snoc ha)
      · by_cases k3 : KD = 3
        · subst k3
          obtain ⟨nx, hnx⟩ : ∃ nx : Nat, preZ q3 1 = (nx : Int) := ⟨(preZ q3 1).toNat, by have := (pre_bd (byt_drop HB2.out 2) 1).1; rw [← HX.out.2.2.2.1] at this; omega⟩
          have hnxb : nx ≤ 255 := by have := (pre_bd (byt_drop HB2.out 2) 1).2; rw [← HX.out.2.2.2.1, hnx] at this; have e : (256 : Int) ^ 1 = 256 := rfl; rw [e] at this; omega
          obtain ⟨q4, hq4⟩ : ∃ z, z = q3.drop 1 := ⟨_, rfl⟩
          have CN3 := Lib.hid (number_x sb d q3 q4 (nx : Int) 1 1 rfl (by omega) w4 S4.out HD.out hnx hq4.symm)
          have HNX := Lib.hid (And.intro hnx hq4)
          have HSTEP := Lib.hid (show stepC q1 now = ((⟨3, now', CO, [], (nx : Int), []⟩ : ActC), q4) from by rw [SP.out, stepD, if_neg (by decide), if_pos rfl, hnx, ← hq4])
          clear hnx hq4
          go_upto_region 17 with (first
            | (go_at_call 13; ((with_reducible refine CN3.out.mono ?_); rintro e w6 ⟨rfl, s5, f5⟩; have S6 := Lib.hid s5; have F6 := Lib.hid (F4.out.trans f5); have B6 := Lib.hid (B4.out.fr f5 NSB.out); have k6 := B6.out.rd; have p6 := B6.out.wr; clear s5 f5)))
          have hl6 := lt_of_block B6.out
          rw [setCell_obj B6.out]
          obtain ⟨w7, hw7⟩ : ∃ w, w = setObj w6 ab (.cells #[.int .i64 3, .int .i64 now', .int .i64 CO, .slice none 0 0, .int .i64 (nx : Int), .slice none 0 0] 32 (0, 0)) := ⟨_, rfl⟩
          have B7 := Lib.hid (show Blk w7 ab 32 #[.int .i64 3, .int .i64 now', .int .i64 CO, .slice none 0 0, .int .i64 (nx : Int), .slice none 0 0] from by rw [hw7]; exact setObj_at hl6 _)
          have F7 := Lib.hid (show Fr (fun k => k = sb) wr w7 from by rw [hw7]; exact Fr.drop_new (Fr.setObj (F := fun k => k = sb ∨ k = ab) (F6.out.mono (fun k hk => Or.inl hk)) (Or.inr rfl) _) HAB.out)
          have S7 := Lib.hid (show SrcAt w7 sb d q4 from by rw [hw7]; exact S6.out.fr (Fr.setObj (F := fun k => k = ab) (Fr.refl _ _) rfl _) (fun e => NSB.out e.symm) (fun e => by have := HDL.out; have := HAB.out; have := HF.out.size; rw [HS0.out] at this; omega))
          change Code.wp _ _ _ _ (setObj w6 ab (.cells #[.int .i64 3, .int .i64 now', .int .i64 CO, .slice none 0 0, .int .i64 (nx : Int), .slice none 0 0] 32 (0, 0)))
          rw [← hw7]
          clear hw7 hl6 k6 p6
          have HACT := Lib.hid (show Held w7 (sb + 1) u3.ownBlock ⟨3, now', CO, none, 0, 0, (nx : Int), none, 0, 0⟩ ⟨3, now', CO, [], (nx : Int), []⟩ from ⟨rfl, rfl, rfl, rfl, rdI_none (Nat.zero_le maxLen), rdI_none (Nat.zero_le maxLen), fun h0 => absurd h0 (by simp), fun h0 => absurd h0 (by simp)⟩)
          obtain ⟨i0, hi0, hz0, hz1, hz2⟩ := info_parts infoAct
          have k7 := B7.out.rd
          have NW := Lib.hid (heap_alloc_new w7 (.cells #[.int .i64 3, .int .i64 now', .int .i64 CO, .slice none 0 0, .int .i64 (nx : Int), .slice none 0 0] 32))
          have O7 := Lib.hid (own_fr HO.out F7.out (fun k hk => by omega))
          have BS := Lib.hid (show sb + 1 ≤ w7.heap.size from by have := F7.out.size; have := HF.out.size; rw [HS0.out] at this; omega)
          have LB := Lib.hid (show ls.length ≤ 1000000 from by have := HL.out; have := HQ.out; omega)
          go_wp2_with (at_builtin; refine wpList_append_lies _ (by rfl) _ _ 22 (by rfl) (sb + 1) 32 i0 (.agg #[.int .i64 0, .int .i64 0, .int .i64 0, .slice none 0 0, .int .i64 0, .slice none 0 0]) 6 80 Try.underlying22 hi0 hz0 hz1 hz2 (by rfl) (by omega) u3 ls.length (cells6 ls) (by rfl) (O7.out.alloc _) ⟨w7.heap.size, 0, none⟩ 1 1 [.int .i64 3, .int .i64 now', .int .i64 CO, .slice none 0 0, .int .i64 (nx : Int), .slice none 0 0] (by rfl) (by rfl) (World.news_of_block NW.out) (by simp [Value.oneCell']) (by omega) (by have := LB.out; unfold maxLen; omega) (by have := LB.out; omega) (by have := BS.out; simp; omega) (w7.heap.size + 1) (by simp) ?_; intro gl cl w9 hown9 hgrow9 hat9 hlt9; have HO9 := Lib.hid hown9; have HG9 := Lib.hid hgrow9; have HAT9 := Lib.hid hat9; clear hown9 hgrow9 hat9 hlt9)
          go_roundg q4.length
          case measure =>
            have h1 := HSTEP.out
            have h2 := step_shorterC now HQ1.out.1
            rw [h1] at h2
            have h2' : q4.length < q1.length := h2
            have := HK.out
            omega
          case rel =>
            have h1 := HSTEP.out
            have h2 := step_shorterC now HQ1.out.1
            rw [h1] at h2
            have h2' : q4.length < q1.length := h2
            have hl := HL.out
            have he := HE.out
            have F9 := fr_grown (Fr.alloc (HF.out.trans F7.out) _) HG9.out (fun g hg => by rw [HS0.out]; exact own_base O7.out g hg)
            refine ⟨q4, ls ++ [⟨3, now', CO, none, 0, 0, (nx : Int), none, 0, 0⟩], now', f - 1, cs ++ [⟨3, now', CO, [], (nx : Int), []⟩], rfl, rfl, xn, ?_, ?_, ⟨by omega, ?_⟩, F9, by rw [List.length_append, List.length_singleton]; omega, ?_⟩
            · exact (S7.out.keep ((Below.refl _ _).alloc (Nat.le_refl _) _)).fr (fr_row HG9.out) (fun e => by have := own_base O7.out _ e; omega) (fun e => by have := own_base O7.out _ e; have := HDL.out; omega)
            · rw [cells6_app, List.length_append]; exact HO9.out
            · rw [← he.2]
              obtain ⟨f', rfl⟩ : ∃ f', f = f' + 1 := ⟨f - 1, by omega⟩
              rw [decC, if_neg HQ1.out.1, h1, List.append_assoc]
              rfl
            · have hh := HeldL.step (row' := u3.ownBlock) (Fr.alloc F7.out (.cells #[.int .i64 3, .int .i64 now', .int .i64 CO, .slice none 0 0, .int .i64 (nx : Int), .slice none 0 0] 32)) (fun k hk => Or.inl (by omega)) (fun g hg => Or.inl hg) HHL.out
              have ha := HACT.out.step (row' := u3.ownBlock) (Fr.alloc (Fr.refl (fun _ => False) w7) (.cells #[.int .i64 3, .int .i64 now', .int .i64 CO, .slice none 0 0, .int .i64 (nx : Int), .slice none 0 0] 32)) (fun k hk => hk.elim) (fun g hg => Or.inl hg)
              exact HeldL.step (row' := some gl) (fr_row HG9.out) (fun k hk => Or.inr hk) (fun g hg => by injection hg with hg; subst hg; exact HAT9.out.imp id (fun h => by rw [h]; simp)) (hh.snoc ha)
        · by_cases c4 : KD = 4
          · subst c4
            obtain ⟨nx, hnx⟩ : ∃ nx : Nat, preZ q3 1 = (nx : Int) := ⟨(preZ q3 1).toNat, by have := (pre_bd (byt_drop HB2.out 2) 1).1; rw [← HX.out.2.2.2.1] at this; omega⟩
            have hnxb : nx ≤ 255 := by have := (pre_bd (byt_drop HB2.out 2) 1).2; rw [← HX.out.2.2.2.1, hnx] at this; have e : (256 : Int) ^ 1 = 256 := rfl; rw [e] at this; omega
            obtain ⟨q4, hq4⟩ : ∃ z, z = q3.drop 1 := ⟨_, rfl⟩
            have CN3 := Lib.hid (number_x sb d q3 q4 (nx : Int) 1 1 rfl (by omega) w4 S4.out HD.out hnx hq4.symm)
            have HNX := Lib.hid (And.intro hnx hq4)
            obtain ⟨sl, hsl⟩ : ∃ sl, sl = nx % 4 := ⟨_, rfl⟩
            have e3 : bits .and .u64 (nx : Int) 3 = (sl : Int) := by rw [u64_mask2 _ (by omega), hsl]; omega
            have hsl3 : sl ≤ 3 := by omega
            have HSTEP := Lib.hid (show stepC q1 now = ((⟨4, now', CO, [], 0, rdS sl q4⟩ : ActC), q4.drop (8 * sl)) from by
              rw [SP.out, stepD, if_neg (by decide), if_neg (by decide), if_pos rfl, hnx, ← hq4]
              have e : ((nx : Int) % 4).toNat = sl := by omega
              rw [e])
            have HBY4 := Lib.hid (show byt q4 from by rw [hq4]; exact byt_drop S4.out.byt 1)
            clear hnx hq4 hsl
            go_wp2_with (go_at_call 13; ((with_reducible refine CN3.out.mono ?_); rintro e w5 ⟨rfl, s5, f5⟩; have S5 := Lib.hid s5; have F5 := Lib.hid (F4.out.trans f5); have B5 := Lib.hid (B4.out.fr f5 NSB.out); clear s5 f5))
            obtain ⟨wo, rfl⟩ : ∃ wo : World, wo = wr := ⟨_, rfl⟩
            go_loopg [52] sl (fun k s52 wi => ∃ (j : Nat) (Bv : Option Addr) (sc : Nat), j ≤ sl ∧ k = sl - j ∧ s52 = .int .u64 (j : Int) ∧ Blk wi ab 32 #[.int .i64 4, .int .i64 now', .int .i64 CO, .slice none 0 0, .int .i64 0, .slice Bv j sc] ∧ SrcAt wi sb d (q4.drop (8 * j)) ∧ Fr (fun k => k = sb) wo wi ∧ wi.ownsRow (ab + 1) 39 1 (.slice Bv j sc) j ((rdS j q4).map (Value.int .u64)))
            case atStart => exact ⟨0, none, 0, by omega, by omega, rfl, B5.out, S5.out, F5.out, World.ownsRow_nil _ _ _ _⟩
            case round =>
              obtain ⟨j, Bv, sc, hj, hkk, rfl, hb, hs, hf, ho⟩ := hrel
              have HK2 := Lib.hid hkk
              have BI := Lib.hid hb
              have SI := Lib.hid hs
              have FI := Lib.hid hf
              have OI := Lib.hid ho
              clear hkk hb hs hf ho
              by_cases hjn : j < sl
              · obtain ⟨q6, hq6⟩ : ∃ z, z = q4.drop (8 * j) := ⟨_, rfl⟩
                rw [← hq6] at SI
                obtain ⟨seed, hseed⟩ : ∃ z, z = preZ q6 8 := ⟨_, rfl⟩
                obtain ⟨q7, hq7⟩ : ∃ z, z = q6.drop 8 := ⟨_, rfl⟩
                have C8 := Lib.hid (fun w5 (h5 : SrcAt w5 sb d q6) => number_x sb d q6 q7 seed 8 8 rfl (by omega) w5 h5 HD.out hseed.symm hq7.symm)
                have QS := Lib.hid (show (rdS (j + 1) q4).map (Value.int .u64) = (rdS j q4).map (Value.int .u64) ++ [.int .u64 seed] from by rw [rdS_snoc, List.map_append, ← hq6, ← hseed]; rfl)
                have Q7 := Lib.hid (show q7 = q4.drop (8 * (j + 1)) from by rw [hq7, hq6, List.drop_drop]; congr 1)
                have kb := BI.out.rd
                have pb := BI.out.wr
                obtain ⟨i0, hi0, hz0, hz1, hz2⟩ := info_parts infoU64
                clear hseed hq6 hq7
                go_upto_region 15 with (fail)
                have hab6 := Lib.hid (show sb < ab from by have := HAB.out; have := HF.out.size; rw [HS0.out] at this; omega)
                have C8D := Lib.hid (C8.out wr.drew (SI.out.heap rfl))
                have FD := Lib.hid (show Fr (fun k => k = sb) wo wr.drew from FI.out.drew)
                have BD := Lib.hid (show Blk wr.drew ab 32 #[.int .i64 4, .int .i64 now', .int .i64 CO, .slice none 0 0, .int .i64 0, .slice Bv j sc] from BI.out)
                have OD := Lib.hid (show wr.drew.ownsRow (ab + 1) 39 1 (.slice Bv j sc) j ((rdS j q4).map (Value.int .u64)) from OI.out.drew)
                refine wp_region_held_drew (S := fun _ => True) (by kernel_rfl) trivial (fun hHeld => ?_)
                refine wpAnyH_take (i := 0) (oi := ?_) (v := ?_) ?_ ?_ ?_ ?_ ?_ ?_ ?_ ?_
                rotate_left 2
                · simp only [List.getElem?_toArray, List.getElem?_cons_succ, List.getElem?_cons_zero]; rfl
                · kernel_rfl
                · kernel_rfl
                · kernel_rfl
                · exact fun _ _ _ h => h
                · refine Or.inl ⟨by rfl, ?_⟩
                  intro w' hSw
                  (try dsimp only at hSw)
                  go_simp
                  all_goals (with_reducible rfl)
                · assumption
                try simp only [Act.put, List.setIfInBounds_toArray, List.set_cons_zero, List.set_cons_succ]
                refine wpAnyH_take (i := 2) (oi := ?_) (v := ?_) ?_ ?_ ?_ ?_ ?_ ?_ ?_ ?_
                rotate_left 2
                · simp only [List.getElem?_toArray, List.getElem?_cons_succ, List.getElem?_cons_zero]; rfl
                · kernel_rfl
                · kernel_rfl
                · kernel_rfl
                · exact fun _ _ _ h => h
                · refine Or.inl ⟨by rfl, ?_⟩
                  intro w' hSw
                  (try dsimp only at hSw)
                  go_simp
                  all_goals (with_reducible rfl)
                · assumption
                try simp only [Act.put, List.setIfInBounds_toArray, List.set_cons_zero, List.set_cons_succ]
                refine wpAnyH_ready (rs := [1, 3]) (by kernel_rfl) (by simp) ?_
                refine AllReadyH.cons (o := ?_) ?_ ?_ ?_
                rotate_left 1
                · simp only [List.getElem?_toArray, List.getElem?_cons_succ, List.getElem?_cons_zero]; rfl
                rotate_left 1
                · refine AllReadyH.cons (o := ?_) ?_ ?_ ?_
                  rotate_left 1
                  · simp only [List.getElem?_toArray, List.getElem?_cons_succ, List.getElem?_cons_zero]; rfl
                  rotate_left 1
                  · exact AllReadyH.nil
                  intro K hK
                  go_simp
                  (with_reducible refine C8D.out.mono ?_); rintro e w6 ⟨rfl, s6, f6⟩; have S6 := Lib.hid s6; have F6 := Lib.hid (FD.out.trans f6); have B6 := Lib.hid (BD.out.fr f6 NSB.out); have k6 := B6.out.rd; have p6 := B6.out.wr; have l6 := lt_of_block B6.out; have O6 := Lib.hid (own_fr OD.out f6 (fun k hk => by have := hab6.out; omega)); clear s6 f6
                  refine hK.out _ _ trivial (fun hHeld => ?_)
                  clear hK K
                  try simp only [Act.put, List.setIfInBounds_toArray, List.set_cons_zero, List.set_cons_succ]
                  refine wpAnyH_ready (rs := [1, 4]) (by kernel_rfl) (by simp) ?_
                  refine AllReadyH.cons (o := ?_) ?_ ?_ ?_
                  rotate_left 1
                  · simp only [List.getElem?_toArray, List.getElem?_cons_succ, List.getElem?_cons_zero]; rfl
                  rotate_left 1
                  · refine AllReadyH.cons (o := ?_) ?_ ?_ ?_
                    rotate_left 1
                    · simp only [List.getElem?_toArray, List.getElem?_cons_succ, List.getElem?_cons_zero]; rfl
                    rotate_left 1
                    · exact AllReadyH.nil
                    intro K hK
                    go_simp
                    skip
                    refine hK.out _ _ trivial (fun hHeld => ?_)
                    clear hK K
                    try simp only [Act.put, List.setIfInBounds_toArray, List.set_cons_zero, List.set_cons_succ]
                    refine wpAnyH_ready (rs := [1]) (by kernel_rfl) (by simp) ?_
                    refine AllReadyH.cons (o := ?_) ?_ ?_ ?_
                    rotate_left 1
                    · simp only [List.getElem?_toArray, List.getElem?_cons_succ, List.getElem?_cons_zero]; rfl
                    rotate_left 1
                    · exact AllReadyH.nil
                    intro K hK
                    go_simp
                    skip
                    refine hK.out _ _ trivial (fun hHeld => ?_)
                    clear hK K
                    try simp only [Act.put, List.setIfInBounds_toArray, List.set_cons_zero, List.set_cons_succ]
                    refine wpAnyH_ready (rs := [5]) (by kernel_rfl) (by simp) ?_
                    refine AllReadyH.cons (o := ?_) ?_ ?_ ?_
                    rotate_left 1
                    · simp only [List.getElem?_toArray, List.getElem?_cons_succ, List.getElem?_cons_zero]; rfl
                    rotate_left 1
                    · exact AllReadyH.nil
                    intro K hK
                    refine step_append_lies _ (by rfl) _ _ 30 (by rfl) (ab + 1) 39 i0 (.int .u64 0) 1 8 Try.underlying30 hi0 hz0 hz1 hz2 (by rfl) (by omega) (.slice Bv j sc) j ((rdS j q4).map (Value.int .u64)) (by rfl) (O6.out.alloc _) ⟨w6.heap.size, 0, none⟩ 1 1 [.int .u64 seed] (by rfl) (by rfl) (World.news_of_block (heap_alloc_new w6 _)) (by simp [Value.oneCell']) (by omega) (by unfold maxLen; omega) (by omega) (by simp; omega) (w6.heap.size + 1) (by simp) ?_; intro gl cl w9 hown9 hgrow9 hat9 hlt9; have HO9 := Lib.hid hown9; have HG9 := Lib.hid hgrow9; have B9 := Lib.hid (show Blk w9 ab 32 #[.int .i64 4, .int .i64 now', .int .i64 CO, .slice none 0 0, .int .i64 0, .slice Bv j sc] from (Blk.alloc B6.out _).fr (fr_row hgrow9) (fun e => by have := own_base O6.out _ e; omega)); have k9 := B9.out.rd; have p9 := B9.out.wr; clear hown9 hgrow9 hat9 hlt9
                    refine hK.out _ _ trivial (fun hHeld => ?_)
                    clear hK K
                    try simp only [Act.put, List.setIfInBounds_toArray, List.set_cons_zero, List.set_cons_succ]
                    refine wpAnyH_take (i := 6) (oi := ?_) (v := ?_) ?_ ?_ ?_ ?_ ?_ ?_ ?_ ?_
                    rotate_left 2
                    · simp only [List.getElem?_toArray, List.getElem?_cons_succ, List.getElem?_cons_zero]; rfl
                    · kernel_rfl
                    · kernel_rfl
                    · kernel_rfl
                    · exact fun _ _ _ h => h
                    · refine Or.inl ⟨by rfl, ?_⟩
                      intro w' hSw
                      (try dsimp only at hSw)
                      go_simp
                      all_goals (with_reducible rfl)
                    · assumption
                    try simp only [Act.put, List.setIfInBounds_toArray, List.set_cons_zero, List.set_cons_succ]
                    refine wpAnyH_ready (rs := [7]) (by kernel_rfl) (by simp) ?_
                    refine AllReadyH.cons (o := ?_) ?_ ?_ ?_
                    rotate_left 1
                    · simp only [List.getElem?_toArray, List.getElem?_cons_succ, List.getElem?_cons_zero]; rfl
                    rotate_left 1
                    · exact AllReadyH.nil
                    intro K hK
                    go_simp
                    skip
                    refine hK.out _ _ trivial (fun hHeld => ?_)
                    clear hK K
                    try simp only [Act.put, List.setIfInBounds_toArray, List.set_cons_zero, List.set_cons_succ]
                    refine wpAnyH_done (by kernel_rfl) ?_ _
                    go_wp2
                    go_roundg (sl - (j + 1))
                    case measure => have := HK2.out; omega
                    case rel =>
                      have hl9 := lt_of_block B9.out
                      rw [setCell_obj B9.out]
                      have hbo := own_base O6.out
                      have hap := HAB.out
                      refine ⟨j + 1, some ⟨gl, 0, none⟩, cl, by omega, by omega, by go_num, setObj_at hl9 _, ?_, ?_, ?_⟩
                      · rw [← Q7.out]
                        exact ((S6.out.keep ((Below.refl _ _).alloc (Nat.le_refl _) _)).fr (fr_row HG9.out) (fun e => by have := hbo _ e; have := hab6.out; omega) (fun e => by have := hbo _ e; have := hab6.out; have := HDL.out; omega)).fr (Fr.setObj (F := fun k => k = ab) (Fr.refl _ _) rfl _) (fun e => NSB.out e.symm) (fun e => by have := hab6.out; have := HDL.out; omega)
                      · exact Fr.drop_new (Fr.setObj (F := fun k => k = sb ∨ k = ab) ((fr_grown (Fr.alloc F6.out _) HG9.out (fun g hg => by have := hbo g hg; omega)).mono (fun k hk => Or.inl hk)) (Or.inr rfl) _) HAB.out
                      · rw [QS.out]; exact own_fr HO9.out (Fr.setObj (F := fun k => k = ab) (Fr.refl _ _) rfl _) (fun k hk => by omega)
                  intro K hK
                  go_simp
                  skip
                  refine hK.out _ _ trivial (fun hHeld => ?_)
                  clear hK K
                  try simp only [Act.put, List.setIfInBounds_toArray, List.set_cons_zero, List.set_cons_succ]
                  refine wpAnyH_ready (rs := [4]) (by kernel_rfl) (by simp) ?_
                  refine AllReadyH.cons (o := ?_) ?_ ?_ ?_
                  rotate_left 1
                  · simp only [List.getElem?_toArray, List.getElem?_cons_succ, List.getElem?_cons_zero]; rfl
                  rotate_left 1
                  · exact AllReadyH.nil
                  intro K hK
                  go_simp
                  skip
                  refine hK.out _ _ trivial (fun hHeld => ?_)
                  clear hK K
                  try simp only [Act.put, List.setIfInBounds_toArray, List.set_cons_zero, List.set_cons_succ]
                  refine wpAnyH_ready (rs := [5]) (by kernel_rfl) (by simp) ?_
                  refine AllReadyH.cons (o := ?_) ?_ ?_ ?_
                  rotate_left 1
                  · simp only [List.getElem?_toArray, List.getElem?_cons_succ, List.getElem?_cons_zero]; rfl
                  rotate_left 1
                  · exact AllReadyH.nil
                  intro K hK
                  refine step_append_lies _ (by rfl) _ _ 30 (by rfl) (ab + 1) 39 i0 (.int .u64 0) 1 8 Try.underlying30 hi0 hz0 hz1 hz2 (by rfl) (by omega) (.slice Bv j sc) j ((rdS j q4).map (Value.int .u64)) (by rfl) (O6.out.alloc _) ⟨w6.heap.size, 0, none⟩ 1 1 [.int .u64 seed] (by rfl) (by rfl) (World.news_of_block (heap_alloc_new w6 _)) (by simp [Value.oneCell']) (by omega) (by unfold maxLen; omega) (by omega) (by simp; omega) (w6.heap.size + 1) (by simp) ?_; intro gl cl w9 hown9 hgrow9 hat9 hlt9; have HO9 := Lib.hid hown9; have HG9 := Lib.hid hgrow9; have B9 := Lib.hid (show Blk w9 ab 32 #[.int .i64 4, .int .i64 now', .int .i64 CO, .slice none 0 0, .int .i64 0, .slice Bv j sc] from (Blk.alloc B6.out _).fr (fr_row hgrow9) (fun e => by have := own_base O6.out _ e; omega)); have k9 := B9.out.rd; have p9 := B9.out.wr; clear hown9 hgrow9 hat9 hlt9
                  refine hK.out _ _ trivial (fun hHeld => ?_)
                  clear hK K
                  try simp only [Act.put, List.setIfInBounds_toArray, List.set_cons_zero, List.set_cons_succ]
                  refine wpAnyH_take (i := 6) (oi := ?_) (v := ?_) ?_ ?_ ?_ ?_ ?_ ?_ ?_ ?_
                  rotate_left 2
                  · simp only [List.getElem?_toArray, List.getElem?_cons_succ, List.getElem?_cons_zero]; rfl
                  · kernel_rfl
                  · kernel_rfl
                  · kernel_rfl
                  · exact fun _ _ _ h => h
                  · refine Or.inl ⟨by rfl, ?_⟩
                    intro w' hSw
                    (try dsimp only at hSw)
                    go_simp
                    all_goals (with_reducible rfl)
                  · assumption
                  try simp only [Act.put, List.setIfInBounds_toArray, List.set_cons_zero, List.set_cons_succ]
                  refine wpAnyH_ready (rs := [7]) (by kernel_rfl) (by simp) ?_
                  refine AllReadyH.cons (o := ?_) ?_ ?_ ?_
                  rotate_left 1
                  · simp only [List.getElem?_toArray, List.getElem?_cons_succ, List.getElem?_cons_zero]; rfl
                  rotate_left 1
                  · exact AllReadyH.nil
                  intro K hK
                  go_simp
                  skip
                  refine hK.out _ _ trivial (fun hHeld => ?_)
                  clear hK K
                  try simp only [Act.put, List.setIfInBounds_toArray, List.set_cons_zero, List.set_cons_succ]
                  refine wpAnyH_done (by kernel_rfl) ?_ _
                  go_wp2
                  go_roundg (sl - (j + 1))
                  case measure => have := HK2.out; omega
                  case rel =>
                    have hl9 := lt_of_block B9.out
                    rw [setCell_obj B9.out]
                    have hbo := own_base O6.out
                    have hap := HAB.out
                    refine ⟨j + 1, some ⟨gl, 0, none⟩, cl, by omega, by omega, by go_num, setObj_at hl9 _, ?_, ?_, ?_⟩
                    · rw [← Q7.out]
                      exact ((S6.out.keep ((Below.refl _ _).alloc (Nat.le_refl _) _)).fr (fr_row HG9.out) (fun e => by have := hbo _ e; have := hab6.out; omega) (fun e => by have := hbo _ e; have := hab6.out; have := HDL.out; omega)).fr (Fr.setObj (F := fun k => k = ab) (Fr.refl _ _) rfl _) (fun e => NSB.out e.symm) (fun e => by have := hab6.out; have := HDL.out; omega)
                    · exact Fr.drop_new (Fr.setObj (F := fun k => k = sb ∨ k = ab) ((fr_grown (Fr.alloc F6.out _) HG9.out (fun g hg => by have := hbo g hg; omega)).mono (fun k hk => Or.inl hk)) (Or.inr rfl) _) HAB.out
                    · rw [QS.out]; exact own_fr HO9.out (Fr.setObj (F := fun k => k = ab) (Fr.refl _ _) rfl _) (fun k hk => by omega)
                intro K hK
                go_simp
                skip
                refine hK.out _ _ trivial (fun hHeld => ?_)
                clear hK K
                try simp only [Act.put, List.setIfInBounds_toArray, List.set_cons_zero, List.set_cons_succ]
                refine wpAnyH_ready (rs := [3]) (by kernel_rfl) (by simp) ?_
                refine AllReadyH.cons (o := ?_) ?_ ?_ ?_
                rotate_left 1
                · simp only [List.getElem?_toArray, List.getElem?_cons_succ, List.getElem?_cons_zero]; rfl
                rotate_left 1
                · exact AllReadyH.nil
                intro K hK
                go_simp
                (with_reducible refine C8D.out.mono ?_); rintro e w6 ⟨rfl, s6, f6⟩; have S6 := Lib.hid s6; have F6 := Lib.hid (FD.out.trans f6); have B6 := Lib.hid (BD.out.fr f6 NSB.out); have k6 := B6.out.rd; have p6 := B6.out.wr; have l6 := lt_of_block B6.out; have O6 := Lib.hid (own_fr OD.out f6 (fun k hk => by have := hab6.out; omega)); clear s6 f6
                refine hK.out _ _ trivial (fun hHeld => ?_)
                clear hK K
                try simp only [Act.put, List.setIfInBounds_toArray, List.set_cons_zero, List.set_cons_succ]
                refine wpAnyH_ready (rs := [4]) (by kernel_rfl) (by simp) ?_
                refine AllReadyH.cons (o := ?_) ?_ ?_ ?_
                rotate_left 1
                · simp only [List.getElem?_toArray, List.getElem?_cons_succ, List.getElem?_cons_zero]; rfl
                rotate_left 1
                · exact AllReadyH.nil
                intro K hK
                go_simp
                skip
                refine hK.out _ _ trivial (fun hHeld => ?_)
                clear hK K
                try simp only [Act.put, List.setIfInBounds_toArray, List.set_cons_zero, List.set_cons_succ]
                refine wpAnyH_ready (rs := [5]) (by kernel_rfl) (by simp) ?_
                refine AllReadyH.cons (o := ?_) ?_ ?_ ?_
                rotate_left 1
                · simp only [List.getElem?_toArray, List.getElem?_cons_succ, List.getElem?_cons_zero]; rfl
                rotate_left 1
                · exact AllReadyH.nil
                intro K hK
                refine step_append_lies _ (by rfl) _ _ 30 (by rfl) (ab + 1) 39 i0 (.int .u64 0) 1 8 Try.underlying30 hi0 hz0 hz1 hz2 (by rfl) (by omega) (.slice Bv j sc) j ((rdS j q4).map (Value.int .u64)) (by rfl) (O6.out.alloc _) ⟨w6.heap.size, 0, none⟩ 1 1 [.int .u64 seed] (by rfl) (by rfl) (World.news_of_block (heap_alloc_new w6 _)) (by simp [Value.oneCell']) (by omega) (by unfold maxLen; omega) (by omega) (by simp; omega) (w6.heap.size + 1) (by simp) ?_; intro gl cl w9 hown9 hgrow9 hat9 hlt9; have HO9 := Lib.hid hown9; have HG9 := Lib.hid hgrow9; have B9 := Lib.hid (show Blk w9 ab 32 #[.int .i64 4, .int .i64 now', .int .i64 CO, .slice none 0 0, .int .i64 0, .slice Bv j sc] from (Blk.alloc B6.out _).fr (fr_row hgrow9) (fun e => by have := own_base O6.out _ e; omega)); have k9 := B9.out.rd; have p9 := B9.out.wr; clear hown9 hgrow9 hat9 hlt9
                refine hK.out _ _ trivial (fun hHeld => ?_)
                clear hK K
                try simp only [Act.put, List.setIfInBounds_toArray, List.set_cons_zero, List.set_cons_succ]
                refine wpAnyH_take (i := 6) (oi := ?_) (v := ?_) ?_ ?_ ?_ ?_ ?_ ?_ ?_ ?_
                rotate_left 2
                · simp only [List.getElem?_toArray, List.getElem?_cons_succ, List.getElem?_cons_zero]; rfl
                · kernel_rfl
                · kernel_rfl
                · kernel_rfl
                · exact fun _ _ _ h => h
                · refine Or.inl ⟨by rfl, ?_⟩
                  intro w' hSw
                  (try dsimp only at hSw)
                  go_simp
                  all_goals (with_reducible rfl)
                · assumption
                try simp only [Act.put, List.setIfInBounds_toArray, List.set_cons_zero, List.set_cons_succ]
                refine wpAnyH_ready (rs := [7]) (by kernel_rfl) (by simp) ?_
                refine AllReadyH.cons (o := ?_) ?_ ?_ ?_
                rotate_left 1
                · simp only [List.getElem?_toArray, List.getElem?_cons_succ, List.getElem?_cons_zero]; rfl
                rotate_left 1
                · exact AllReadyH.nil
                intro K hK
                go_simp
                skip
                refine hK.out _ _ trivial (fun hHeld => ?_)
                clear hK K
                try simp only [Act.put, List.setIfInBounds_toArray, List.set_cons_zero, List.set_cons_succ]
                refine wpAnyH_done (by kernel_rfl) ?_ _
                go_wp2
                go_roundg (sl - (j + 1))
                case measure => have := HK2.out; omega
                case rel =>
                  have hl9 := lt_of_block B9.out
                  rw [setCell_obj B9.out]
                  have hbo := own_base O6.out
                  have hap := HAB.out
                  refine ⟨j + 1, some ⟨gl, 0, none⟩, cl, by omega, by omega, by go_num, setObj_at hl9 _, ?_, ?_, ?_⟩
                  · rw [← Q7.out]
                    exact ((S6.out.keep ((Below.refl _ _).alloc (Nat.le_refl _) _)).fr (fr_row HG9.out) (fun e => by have := hbo _ e; have := hab6.out; omega) (fun e => by have := hbo _ e; have := hab6.out; have := HDL.out; omega)).fr (Fr.setObj (F := fun k => k = ab) (Fr.refl _ _) rfl _) (fun e => NSB.out e.symm) (fun e => by have := hab6.out; have := HDL.out; omega)
                  · exact Fr.drop_new (Fr.setObj (F := fun k => k = sb ∨ k = ab) ((fr_grown (Fr.alloc F6.out _) HG9.out (fun g hg => by have := hbo g hg; omega)).mono (fun k hk => Or.inl hk)) (Or.inr rfl) _) HAB.out
                  · rw [QS.out]; exact own_fr HO9.out (Fr.setObj (F := fun k => k = ab) (Fr.refl _ _) rfl _) (fun k hk => by omega)
              · obtain rfl : sl = j := by omega
                go_upto_region 17 with (fail)
                obtain ⟨w7, hw7⟩ : ∃ w, w = wr := ⟨_, rfl⟩
                rw [← hw7] at BI SI FI ⊢
                have B7 := Lib.hid BI.out
                have F7 := Lib.hid FI.out
                have S7 := Lib.hid SI.out
                have HACT := Lib.hid (show Held w7 (sb + 1) u3.ownBlock ⟨4, now', CO, none, 0, 0, 0, Bv, sl, sc⟩ ⟨4, now', CO, [], 0, rdS sl q4⟩ from by
                  have hsb7 := HAB.out
                  have hf0 := HF.out.size
                  rw [HS0.out] at hf0
                  have r7 : RdI w7 .u64 Bv sl sc (rdS sl q4) := by rw [hw7]; exact rdI_row OI.out (fun z hz => u64_wf (rdS_bd _ _ HBY4.out z hz))
                  refine ⟨rfl, rfl, rfl, rfl, rdI_none (Nat.zero_le maxLen), r7, fun h0 => absurd h0 (by simp), fun h0 => ?_⟩
                  obtain ⟨blk, off, e, hlt, _⟩ := r7.at_ h0
                  have hg := own_base OI.out blk (by rw [e]; rfl)
                  exact ⟨blk, off, e, by omega, hlt, fun e => by have := own_lt HO.out _ e; omega⟩)
                obtain ⟨q5, hq5⟩ : ∃ z, z = q4.drop (8 * sl) := ⟨_, rfl⟩
                rw [← hq5] at S7 HSTEP
                clear hw7 hq5
                obtain ⟨i0, hi0, hz0, hz1, hz2⟩ := info_parts infoAct
                have k7 := B7.out.rd
                have NW := Lib.hid (heap_alloc_new w7 (.cells #[.int .i64 4, .int .i64 now', .int .i64 CO, .slice none 0 0, .int .i64 0, .slice Bv sl sc] 32))
                have O7 := Lib.hid (own_fr HO.out F7.out (fun k hk => by omega))
                have BS := Lib.hid (show sb + 1 ≤ w7.heap.size from by have := F7.out.size; have := HF.out.size; rw [HS0.out] at this; omega)
                have LB := Lib.hid (show ls.length ≤ 1000000 from by have := HL.out; have := HQ.out; omega)
                go_wp2_with (at_builtin; refine wpList_append_lies _ (by rfl) _ _ 22 (by rfl) (sb + 1) 32 i0 (.agg #[.int .i64 0, .int .i64 0, .int .i64 0, .slice none 0 0, .int .i64 0, .slice none 0 0]) 6 80 Try.underlying22 hi0 hz0 hz1 hz2 (by rfl) (by omega) u3 ls.length (cells6 ls) (by rfl) (O7.out.alloc _) ⟨w7.heap.size, 0, none⟩ 1 1 [.int .i64 4, .int .i64 now', .int .i64 CO, .slice none 0 0, .int .i64 0, .slice Bv sl sc] (by rfl) (by rfl) (World.news_of_block NW.out) (by simp [Value.oneCell']) (by omega) (by have := LB.out; unfold maxLen; omega) (by have := LB.out; omega) (by have := BS.out; simp; omega) (w7.heap.size + 1) (by simp) ?_; intro gl cl w9 hown9 hgrow9 hat9 hlt9; have HO9 := Lib.hid hown9; have HG9 := Lib.hid hgrow9; have HAT9 := Lib.hid hat9; clear hown9 hgrow9 hat9 hlt9)
                go_roundg q5.length
                case measure =>
                  have h1 := HSTEP.out
                  have h2 := step_shorterC now HQ1.out.1
                  rw [h1] at h2
                  have h2' : q5.length < q1.length := h2
                  have := HK.out
                  omega
                case rel =>
                  have h1 := HSTEP.out
                  have h2 := step_shorterC now HQ1.out.1
                  rw [h1] at h2
                  have h2' : q5.length < q1.length := h2
                  have hl := HL.out
                  have he := HE.out
                  have F9 := fr_grown (Fr.alloc (HF.out.trans F7.out) _) HG9.out (fun g hg => by rw [HS0.out]; exact own_base O7.out g hg)
                  refine ⟨q5, ls ++ [⟨4, now', CO, none, 0, 0, 0, Bv, sl, sc⟩], now', f - 1, cs ++ [⟨4, now', CO, [], 0, rdS sl q4⟩], rfl, rfl, xn, ?_, ?_, ⟨by omega, ?_⟩, F9, by rw [List.length_append, List.length_singleton]; omega, ?_⟩
                  · exact (S7.out.keep ((Below.refl _ _).alloc (Nat.le_refl _) _)).fr (fr_row HG9.out) (fun e => by have := own_base O7.out _ e; omega) (fun e => by have := own_base O7.out _ e; have := HDL.out; omega)
                  · rw [cells6_app, List.length_append]; exact HO9.out
                  · rw [← he.2]
                    obtain ⟨f', rfl⟩ : ∃ f', f = f' + 1 := ⟨f - 1, by omega⟩
                    rw [decC, if_neg HQ1.out.1, h1, List.append_assoc]
                    rfl
                  · have hh := HeldL.step (row' := u3.ownBlock) (Fr.alloc F7.out (.cells #[.int .i64 4, .int .i64 now', .int .i64 CO, .slice none 0 0, .int .i64 0, .slice Bv sl sc] 32)) (fun k hk => Or.inl (by omega)) (fun g hg => Or.inl hg) HHL.out
                    have ha := HACT.out.step (row' := u3.ownBlock) (Fr.alloc (Fr.refl (fun _ => False) w7) (.cells #[.int .i64 4, .int .i64 now', .int .i64 CO, .slice none 0 0, .int .i64 0, .slice Bv sl sc] 32)) (fun k hk => hk.elim) (fun g hg => Or.inl hg)
                    exact HeldL.step (row' := some gl) (fr_row HG9.out) (fun k hk => Or.inr hk) (fun g hg => by injection hg with hg; subst hg; exact HAT9.out.imp id (fun h => by rw [h]; simp)) (hh.snoc ha)
          · go_upto_region 17 with (fail)
            obtain ⟨w7, hw7⟩ : ∃ w, w = w4 := ⟨_, rfl⟩
            rw [← hw7] at B4 F4 S4 ⊢
            have B7 := Lib.hid B4.out
            have F7 := Lib.hid F4.out
            have S7 := Lib.hid S4.out
            have HSTEP := Lib.hid (show stepC q1 now = ((⟨KD, now', CO, [], 0, []⟩ : ActC), q3) from by rw [SP.out, stepD, if_neg k2, if_neg k3, if_neg c4])
            clear hw7
            have HACT := Lib.hid (show Held w7 (sb + 1) u3.ownBlock ⟨KD, now', CO, none, 0, 0, 0, none, 0, 0⟩ ⟨KD, now', CO, [], 0, []⟩ from ⟨rfl, rfl, rfl, rfl, rdI_none (Nat.zero_le maxLen), rdI_none (Nat.zero_le maxLen), fun h0 => absurd h0 (by simp), fun h0 => absurd h0 (by simp)⟩)
            obtain ⟨i0, hi0, hz0, hz1, hz2⟩ := info_parts infoAct
            have k7 := B7.out.rd
            have NW := Lib.hid (heap_alloc_new w7 (.cells #[.int .i64 KD, .int .i64 now', .int .i64 CO, .slice none 0 0, .int .i64 0, .slice none 0 0] 32))
            have O7 := Lib.hid (own_fr HO.out F7.out (fun k hk => by omega))
            have BS := Lib.hid (show sb + 1 ≤ w7.heap.size from by have := F7.out.size; have := HF.out.size; rw [HS0.out] at this; omega)
            have LB := Lib.hid (show ls.length ≤ 1000000 from by have := HL.out; have := HQ.out; omega)
            go_wp2_with (at_builtin; refine wpList_append_lies _ (by rfl) _ _ 22 (by rfl) (sb + 1) 32 i0 (.agg #[.int .i64 0, .int .i64 0, .int .i64 0, .slice none 0 0, .int .i64 0, .slice none 0 0]) 6 80 Try.underlying22 hi0 hz0 hz1 hz2 (by rfl) (by omega) u3 ls.length (cells6 ls) (by rfl) (O7.out.alloc _) ⟨w7.heap.size, 0, none⟩ 1 1 [.int .i64 KD, .int .i64 now', .int .i64 CO, .slice none 0 0, .int .i64 0, .slice none 0 0] (by rfl) (by rfl) (World.news_of_block NW.out) (by simp [Value.oneCell']) (by omega) (by have := LB.out; unfold maxLen; omega) (by have := LB.out; omega) (by have := BS.out; simp; omega) (w7.heap.size + 1) (by simp) ?_; intro gl cl w9 hown9 hgrow9 hat9 hlt9; have HO9 := Lib.hid hown9; have HG9 := Lib.hid hgrow9; have HAT9 := Lib.hid hat9; clear hown9 hgrow9 hat9 hlt9)
            go_roundg q3.length
            case measure =>
              have h1 := HSTEP.out
              have h2 := step_shorterC now HQ1.out.1
              rw [h1] at h2
              have h2' : q3.length < q1.length := h2
              have := HK.out
              omega
            case rel =>
              have h1 := HSTEP.out
              have h2 := step_shorterC now HQ1.out.1
              rw [h1] at h2
              have h2' : q3.length < q1.length := h2
              have hl := HL.out
              have he := HE.out
              have F9 := fr_grown (Fr.alloc (HF.out.trans F7.out) _) HG9.out (fun g hg => by rw [HS0.out]; exact own_base O7.out g hg)
              refine ⟨q3, ls ++ [⟨KD, now', CO, none, 0, 0, 0, none, 0, 0⟩], now', f - 1, cs ++ [⟨KD, now', CO, [], 0, []⟩], rfl, rfl, xn, ?_, ?_, ⟨by omega, ?_⟩, F9, by rw [List.length_append, List.length_singleton]; omega, ?_⟩
              · exact (S7.out.keep ((Below.refl _ _).alloc (Nat.le_refl _) _)).fr (fr_row HG9.out) (fun e => by have := own_base O7.out _ e; omega) (fun e => by have := own_base O7.out _ e; have := HDL.out; omega)
              · rw [cells6_app, List.length_append]; exact HO9.out
              · rw [← he.2]
                obtain ⟨f', rfl⟩ : ∃ f', f = f' + 1 := ⟨f - 1, by omega⟩
                rw [decC, if_neg HQ1.out.1, h1, List.append_assoc]
                rfl
              · have hh := HeldL.step (row' := u3.ownBlock) (Fr.alloc F7.out (.cells #[.int .i64 KD, .int .i64 now', .int .i64 CO, .slice none 0 0, .int .i64 0, .slice none 0 0] 32)) (fun k hk => Or.inl (by omega)) (fun g hg => Or.inl hg) HHL.out
                have ha := HACT.out.step (row' := u3.ownBlock) (Fr.alloc (Fr.refl (fun _ => False) w7) (.cells #[.int .i64 KD, .int .i64 now', .int .i64 CO, .slice none 0 0, .int .i64 0, .slice none 0 0] 32)) (fun k hk => hk.elim) (fun g hg => Or.inl hg)
                exact HeldL.step (row' := some gl) (fr_row HG9.out) (fun k hk => Or.inr hk) (fun g hg => by injection hg with hg; subst hg; exact HAT9.out.imp id (fun h => by rw [h]; simp)) (hh.snoc ha)
end Go.Proofs.Ytodlgkpgpffpaaa
