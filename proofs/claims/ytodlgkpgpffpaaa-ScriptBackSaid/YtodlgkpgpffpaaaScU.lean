/- The contracts of layer 19 (script) with contents: Encode. -/
import Derived.Test.YtodlgkpgpffpaaaScT
import Derived.Test.YtodlgkpgpffpaaaScV
import Derived.Test.YtodlgkpgpffpaaaApp2
namespace Go.Proofs.Ytodlgkpgpffpaaa
open Go.ChangeShapes Go.WideShapes Go.ChangeAt Go.RowKit
def clkL : Int → List ActC → Int
  | now, [] => now
  | _, c :: r => clkL c.clock r
theorem encC_snoc (c : ActC) : ∀ (l : List ActC) (now : Int), encC (l ++ [c]) now = encC l now ++ encA c (clkL now l)
  | [], now => by simp [encC, clkL]
  | a :: l, now => by rw [List.cons_append, encC, encC, clkL, encC_snoc c l, List.append_assoc]
theorem clkL_snoc (c : ActC) : ∀ (l : List ActC) (now : Int), clkL now (l ++ [c]) = c.clock
  | [], _ => rfl
  | a :: l, now => by rw [List.cons_append, clkL, clkL_snoc c l]
theorem tameC_at : ∀ (l : List ActC) (now : Int) (j : Nat) (h : j < l.length), tameC l now → TameC l[j] (clkL now (l.take j))
  | a :: l, now, 0, _, h => h.1
  | a :: l, now, j + 1, hj, h => by
    rw [List.take_succ_cons, clkL]
    exact tameC_at l a.clock j (by simpa using hj) h.2
theorem clkL_bd : ∀ (l : List ActC) (now : Int), tameC l now → now ≤ clkL now l
  | [], _, _ => Int.le_refl _
  | a :: l, now, h => by
    have h1 := clkL_bd l a.clock h.2
    have h2 := h.1.clock
    rw [clkL]; omega
theorem tameC_take : ∀ (l : List ActC) (now : Int) (j : Nat), tameC l now → tameC (l.take j) now
  | [], _, _, _ => by simp [tameC]
  | a :: l, now, 0, _ => by simp [tameC]
  | a :: l, now, j + 1, h => by rw [List.take_succ_cons]; exact ⟨h.1, tameC_take l _ j h.2⟩
theorem wrS_snoc (s : Int) : ∀ (l : List Int), wrS (l ++ [s]) = wrS l ++ Go.Proofs.Ytodlgkpgpffpaaa.wr s 8
  | [] => by simp [wrS]
  | a :: l => by rw [List.cons_append, wrS, wrS, wrS_snoc s l, List.append_assoc]
theorem wrS_length : ∀ (l : List Int), (wrS l).length = 8 * l.length
  | [] => rfl
  | a :: l => by rw [wrS, List.length_append, wr_length, wrS_length l, List.length_cons]; omega
theorem encA_length {c : ActC} {now : Int} (h : TameC c now) : (encA c now).length ≤ 300 := by
  unfold encA
  have h1 := h.data
  have h2 := h.seeds
  simp only [List.length_cons, List.length_append, wr_length]
  split
  · simp only [List.length_cons]; omega
  · split
    · simp only [List.length_cons, List.length_nil]; omega
    · split
      · simp only [List.length_cons, wrS_length]; omega
      · simp only [List.length_nil]; omega
theorem encC_length : ∀ (l : List ActC) (now : Int), tameC l now → (encC l now).length ≤ 300 * l.length
  | [], _, _ => by simp [encC]
  | a :: l, now, h => by
    have h1 := encA_length h.1
    have h2 := encC_length l a.clock h.2
    rw [encC, List.length_append, List.length_cons]; omega
theorem wr_byt (x : Int) : ∀ n, byt (Go.Proofs.Ytodlgkpgpffpaaa.wr x n)
  | 0, z, h => by cases h
  | n + 1, z, h => by
    rw [Go.Proofs.Ytodlgkpgpffpaaa.wr, List.mem_cons] at h
    rcases h with rfl | h
    · omega
    · exact wr_byt x n z h
theorem wrS_byt : ∀ l, byt (wrS l)
  | [], z, h => by cases h
  | a :: l, z, h => by
    rw [wrS, List.mem_append] at h
    rcases h with h | h
    · exact wr_byt _ _ z h
    · exact wrS_byt l z h
theorem encA_byt {c : ActC} {now : Int} (h : TameC c now) (hd : byt c.data) (hn : 0 ≤ c.n ∧ c.n ≤ 255) : byt (encA c now) := by
  have h1 := h.kind
  have h2 := h.conn
  have h3 := h.data
  have h4 := h.seeds
  intro z hz
  unfold encA at hz
  rw [List.mem_cons, List.mem_append] at hz
  rcases hz with rfl | hz | hz
  · omega
  · exact wr_byt _ _ z hz
  · split at hz
    · rw [List.mem_cons] at hz
      rcases hz with rfl | hz
      · omega
      · exact hd z hz
    · split at hz
      · rw [List.mem_singleton] at hz; subst hz; exact hn
      · split at hz
        · rw [List.mem_cons] at hz
          rcases hz with rfl | hz
          · omega
          · exact wrS_byt _ z hz
        · cases hz
/-- a row of bytes of the call's own, that is not block ab. -/
structure RowB (w : World) (base ab : Nat) (v : Value) (xs : List Int) : Prop where
  own : w.ownsRow base 5 1 v xs.length (xs.map (Value.int .u8))
  ap : ∀ g, v.ownBlock = some g → g ≠ ab
theorem RowB.fr {w w' : World} {F : Nat → Prop} {base ab : Nat} {v : Value} {xs : List Int} (h : RowB w base ab v xs) (hf : Fr F w w') (hF : ∀ g, v.ownBlock = some g → ¬ F g) : RowB w' base ab v xs := ⟨own_fr' h.own hf hF, h.ap⟩
theorem wpList_push {w0 : World} {base ab : Nat} {v : Value} {xs : List Int} {z : Int} {ops : Array Oper} {rest : List Oper} {o : Oper} {a : Act} {Q : Exit → Act → World → Prop} (hgd : o.guard = none) (s x : Operand)
    (ho : o.op = .call { callee := .builtin .append, args := #[s, x], argTypes := #[28, 28] }) (hs : a.eval s = v) (hx : a.eval x = .slice (some ⟨w0.heap.size, 0, none⟩) 1 1)
    (hr : RowB w0 base ab v xs) (hab : ab < w0.heap.size) (hb : base ≤ w0.heap.size) (hl : xs.length ≤ 1000000)
    (hk : ∀ v' w', RowB w' base ab v' (xs ++ [z]) → Fr (fun k => v.ownBlock = some k) w0 w' → wpList Try.prog ops Q rest (a.put o.dst v') w') : wpList Try.prog ops Q (o :: rest) a (w0.alloc (.cells #[.int .u8 z] 5)) := by
  obtain ⟨i0, hi0, hz0, hz1, hz2⟩ := info_parts info_u8
  refine wpList_append_lies _ hgd s x 28 ho base 5 i0 (.int .u8 0) 1 1 Try.underlying28 hi0 hz0 hz1 hz2 (by rfl) (by omega) v xs.length (xs.map (Value.int .u8)) hs (hr.own.alloc _) ⟨w0.heap.size, 0, none⟩ 1 1 [.int .u8 z] hx (by rfl) (World.news_of_block (heap_alloc_new w0 _)) (by simp [Value.oneCell']) (by omega) (by unfold maxLen; omega) (by omega) (by simp; omega) (w0.heap.size + 1) (by simp) ?_
  intro gl cl w9 hown hgrow hat hlt
  refine hk _ _ ⟨?_, ?_⟩ ?_
  · rw [List.length_append, List.map_append]; exact hown
  · intro g hg
    have hgl : g = gl := by simpa [Value.ownBlock] using hg.symm
    rw [hgl]
    rcases hat with h | h
    · exact hr.ap gl h
    · omega
  · have hf := fr_row hgrow
    exact (Fr.refl _ _).alloc _ |>.trans hf
theorem step_push {w0 : World} {base ab : Nat} {v : Value} {xs : List Int} {z : Int} {ops : Array Oper} {o : Oper} {a : Act} {K : Act → World → Prop} {Q : Exit → Act → World → Prop} {E : Prop} (hgd : o.guard = none) (s x : Operand)
    (ho : o.op = .call { callee := .builtin .append, args := #[s, x], argTypes := #[28, 28] }) (hs : a.eval s = v) (hx : a.eval x = .slice (some ⟨w0.heap.size, 0, none⟩) 1 1)
    (hr : RowB w0 base ab v xs) (hab : ab < w0.heap.size) (hb : base ≤ w0.heap.size) (hl : xs.length ≤ 1000000)
    (hk : ∀ v' w', RowB w' base ab v' (xs ++ [z]) → Fr (fun k => v.ownBlock = some k) w0 w' → K (a.put o.dst v') w') : if Region.wanted o (yielded ops a.tmps) = true then Oper.wp Try.prog o a (w0.alloc (.cells #[.int .u8 z] 5)) K Q else E := by
  obtain ⟨i0, hi0, hz0, hz1, hz2⟩ := info_parts info_u8
  refine step_append_lies _ hgd s x 28 ho base 5 i0 (.int .u8 0) 1 1 Try.underlying28 hi0 hz0 hz1 hz2 (by rfl) (by omega) v xs.length (xs.map (Value.int .u8)) hs (hr.own.alloc _) ⟨w0.heap.size, 0, none⟩ 1 1 [.int .u8 z] hx (by rfl) (World.news_of_block (heap_alloc_new w0 _)) (by simp [Value.oneCell']) (by omega) (by unfold maxLen; omega) (by omega) (by simp; omega) (w0.heap.size + 1) (by simp) ?_
  intro gl cl w9 hown hgrow hat hlt
  refine hk _ _ ⟨?_, ?_⟩ ?_
  · rw [List.length_append, List.map_append]; exact hown
  · intro g hg
    have hgl : g = gl := by simpa [Value.ownBlock] using hg.symm
    rw [hgl]
    rcases hat with h | h
    · exact hr.ap gl h
    · omega
  · have hf := fr_row hgrow
    exact (Fr.refl _ _).alloc _ |>.trans hf
theorem RowB.below {w w' : World} {base ab : Nat} {v : Value} {xs : List Int} (h : RowB w base ab v xs) (hf : Fr (fun k => v.ownBlock = some k) w w') (hb : base ≤ w.heap.size) : Below base w w' := hf.below hb (fun k hk => own_base h.own k hk)
theorem written_c (base ab m : Nat) (v : Value) (xs ys : List Int) (x z : Int) (n : Nat) (hz : z = (n : Int)) (hys : ys = xs ++ Go.Proofs.Ytodlgkpgpffpaaa.wr x n) (hx : 0 ≤ x ∧ x < 18446744073709551616) (hn : n ≤ 8) (hm : xs.length ≤ 1000000) (w : World) (hr : RowB w base ab v xs) (hab : ab < w.heap.size) (hbase : base ≤ w.heap.size) :
    Calls Try.prog 16 #[v, .int .u64 x, .int .i64 z] w fun e w' => ∃ v', e = .returned v' ∧ RowB w' base ab v' ys ∧ Fr (fun k => v.ownBlock = some k) w w' := by
  subst hz hys
  refine (written_b base xs.length v xs x n hx hn hm w hr.own hbase).mono ?_
  rintro e w' ⟨v', rfl, h1, h2, h3⟩
  refine ⟨v', rfl, ⟨?_, ?_⟩, h2⟩
  · rw [List.length_append, wr_length]; exact h1
  · intro g hg
    rcases h3 g hg with h | h
    · exact hr.ap g h
    · omega
set_option maxHeartbeats 4000000 in
set_option maxRecDepth 100000 in
theorem encode_any (w : World) (A : Option Addr) (n c : Nat) (ls : List ActV) (cs : List ActC) (hr : RdA w A n c ls cs) (hn : n ≤ 100) (ht : tameC cs 0) (hi : ∀ a ∈ cs, 0 ≤ a.n ∧ a.n ≤ 255) :
    Calls Try.prog 12 #[.slice A n c] w fun e w' => ∃ v, e = .returned v ∧ w'.ownsRow w.heap.size 5 1 v (encC cs 0).length ((encC cs 0).map (Value.int .u8)) ∧ Below w.heap.size w w' := by
  have hln := hr.len
  have hcp := hr.cap
  have hmx := hr.max
  unfold maxLen at hmx
  have hni : (n : Int) ≤ 100 := by omega
  have HR := Lib.hid hr
  have HL := Lib.hid hln
  have HLC := Lib.hid hr.lenc
  have HI := Lib.hid hi
  have HT := Lib.hid ht
  clear hr hln hi ht
  go_enter Try.func12, Try.ntmps12
  go_wp2
  go_loopg [3, 4, 11] n (fun k xb xn sj wr => ∃ (j : Nat), j ≤ n ∧ k = n - j ∧ sj = .int .i64 (j : Int) ∧ xn = .int .i64 (clkL 0 (cs.take j)) ∧ wr.ownsRow w.heap.size 5 1 xb (encC (cs.take j) 0).length ((encC (cs.take j) 0).map (Value.int .u8)) ∧ Below w.heap.size w wr)
  case atStart => exact ⟨0, by omega, by omega, rfl, rfl, World.ownsRow_nil _ _ _ _, Below.refl _ _⟩
  case round =>
    obtain ⟨j, hj, hkk, rfl, rfl, ho, hb⟩ := hrel
    have HK := Lib.hid hkk
    have HO := Lib.hid ho
    have HB := Lib.hid hb
    clear hkk ho
    by_cases hjn : j < n
    · have hjl : j < ls.length := by rw [HL.out]; exact hjn
      have hjc : j < cs.length := by rw [HLC.out]; exact hjn
      obtain ⟨g, off, rfl, hlt, hc⟩ := (HR.out.below hb).at_ (by omega)
      have c0 := hc j hjl 0 (by omega)
      have c1 := hc j hjl 1 (by omega)
      have c2 := hc j hjl 2 (by omega)
      have c3 := hc j hjl 3 (by omega)
      have c4 := hc j hjl 4 (by omega)
      have c5 := hc j hjl 5 (by omega)
      have ha := HR.out.hold j hjl hjc
      have HTK := Lib.hid (show cs.take (j + 1) = cs.take j ++ [cs[j]] from List.take_succ_eq_append_getElem hjc)
      have hta := tameC_at cs 0 j hjc HT.out
      have hia := HI.out _ (List.getElem_mem hjc)
      have hnb := clkL_bd (cs.take j) 0 (tameC_take _ _ _ HT.out)
      have hbl := encC_length (cs.take j) 0 (tameC_take _ _ _ HT.out)
      rw [List.length_take, Nat.min_eq_left (by omega)] at hbl
      obtain ⟨a, haa⟩ : ∃ a, a = ls[j] := ⟨_, rfl⟩
      obtain ⟨q, hqq⟩ : ∃ q, q = cs[j] := ⟨_, rfl⟩
      rw [← haa] at c0 c1 c2 c3 c4 c5 ha
      rw [← hqq] at ha HTK hia hta
      clear haa hqq hc hb
      obtain ⟨kd, ck, cn, aA, dl, dc, an, aB, sl, sc⟩ := a
      obtain ⟨kd', ck', cn', dat, an', sds⟩ := q
      obtain ⟨r1, r2, r3, r4, hda, hse⟩ := ha
      simp only at r1 r2 r3 r4 hda hse hia
      subst r1 r2 r3 r4
      simp [ActV.cells] at c0 c1 c2 c3 c4 c5
      obtain ⟨now, hnow⟩ : ∃ z, z = clkL 0 (cs.take j) := ⟨_, rfl⟩
      obtain ⟨bs, hbs⟩ : ∃ z, z = encC (cs.take j) 0 := ⟨_, rfl⟩
      rw [← hnow] at hnb hta ⊢
      rw [← hbs] at HO hbl
      obtain ⟨q1, q2, q3, q4, _, _, q7, _, q9⟩ := hta
      simp only at q1 q2 q3 q4 q7 q9
      obtain ⟨d, hd⟩ : ∃ d, d = ck - now := ⟨_, rfl⟩
      have hdb : 0 ≤ d ∧ d ≤ 4095 := by omega
      have e1 : IntKind.u64.wrap (ck - now) = d := by rw [IntKind.wrap_u64]; omega
      obtain ⟨fb, hfb⟩ : ∃ z, z = kd + 5 * cn := ⟨_, rfl⟩
      have hfbb : 0 ≤ fb ∧ fb ≤ 79 := by omega
      have e2 : IntKind.u8.wrap (kd + 5 * cn) = fb := by rw [IntKind.wrap_u8]; omega
      have HDA := Lib.hid hda
      have HSE := Lib.hid hse
      have HDL := Lib.hid hda.len
      have HSL := Lib.hid hse.len
      have HQ9 := Lib.hid q9
      have hdl : dl ≤ 255 := by have := hda.len; omega
      have hsl : sl ≤ 3 := by have := hse.len; omega
      have HN := Lib.hid hnow
      have HBS := Lib.hid hbs
      have HD := Lib.hid hd
      have HFB := Lib.hid hfb
      have HENC := Lib.hid (show encA ⟨kd, ck, cn, dat, an, sds⟩ now = fb :: (Go.Proofs.Ytodlgkpgpffpaaa.wr d 2 ++ (if kd = 2 then (dat.length : Int) :: dat else if kd = 3 then [an] else if kd = 4 then (sds.length : Int) :: wrS sds else [])) from by rw [hfb, hd]; rfl)
      clear hda hse hnow hbs hd hfb q9
      go_upto_region 6 with (fail)
      clear c0 c1 c2 c3 c4 c5
      obtain ⟨w1, hw1, hbk, hbl1, hsz⟩ := box_new wr #[.int .i64 kd, .int .i64 ck, .int .i64 cn, .slice aA dl dc, .int .i64 an, .slice aB sl sc] 32
      change Code.wp _ _ _ _ (wr.alloc (.cells #[.int .i64 kd, .int .i64 ck, .int .i64 cn, .slice aA dl dc, .int .i64 an, .slice aB sl sc] 32))
      rw [hw1]
      obtain ⟨ab, hab⟩ : ∃ ab, ab = wr.heap.size := ⟨_, rfl⟩
      rw [← hab] at hbk ⊢
      have B1 := Lib.hid hbk
      have L1 := Lib.hid (HB.out.trans (hbl1.mono HB.out.size))
      have O1 := Lib.hid (show RowB w1 w.heap.size ab u3 bs from ⟨own_fr HO.out (Fr.of_below (F := fun _ => False) hbl1) (fun k hk => hk.elim), fun g hg => by have := own_lt HO.out g hg; omega⟩)
      have HAB := Lib.hid (show w.heap.size ≤ ab from by rw [hab]; exact HB.out.size)
      have k1 := hbk.rd
      have hws : w.heap.size ≤ w1.heap.size := L1.out.size
      clear hbk hbl1 hsz hw1 hab hlt
      have habl := lt_of_block B1.out
      have hbl3 : bs.length ≤ 30000 := by omega
      have LB := Lib.hid hbl3
      clear hbl
      go_upto_region 7 with (at_builtin; refine wpList_push (by rfl) _ _ (by rfl) (by rfl) (by rfl) O1.out habl hws (by omega) ?_; intro v2 w2 hr2 hf2; have R2 := Lib.hid hr2; have F2 := Lib.hid hf2; clear hr2 hf2)
      have B2 := Lib.hid (B1.out.fr F2.out (fun e => O1.out.ap _ e rfl))
      have k2 := B2.out.rd
      have hab2 := lt_of_block B2.out
      have hws2 : w.heap.size ≤ w2.heap.size := Nat.le_trans hws F2.out.size
      clear k1 habl
      go_upto_region 9 with (go_at_call 16; ((with_reducible refine (written_c w.heap.size ab 0 _ _ _ d 2 2 rfl rfl (by omega) (by omega) (by rw [List.length_append]; have := LB.out; simp; omega) w2 R2.out hab2 hws2).mono ?_); rintro e w3 ⟨v3, rfl, hr3, hf3⟩; have R3 := Lib.hid hr3; have F3 := Lib.hid hf3; have B3 := Lib.hid (B2.out.fr hf3 (fun e => R2.out.ap _ e rfl)); have k3 := B3.out.rd; clear hr3 hf3))
      have L2 := Lib.hid (L1.out.trans (O1.out.below F2.out hws))
      have L3 := Lib.hid (L2.out.trans (R2.out.below F3.out hws2))
      have hab3 := lt_of_block B3.out
      have hws3 : w.heap.size ≤ w3.heap.size := L3.out.size
      have HX := Lib.hid (show (bs ++ [fb] ++ Go.Proofs.Ytodlgkpgpffpaaa.wr d 2).length ≤ 30003 from by rw [List.length_append, List.length_append, wr_length]; have := LB.out; simp; omega)
      have HZ := Lib.hid (show ∀ t, bs ++ fb :: (Go.Proofs.Ytodlgkpgpffpaaa.wr d 2 ++ t) = (bs ++ [fb] ++ Go.Proofs.Ytodlgkpgpffpaaa.wr d 2) ++ t from fun t => by simp)
      have HENC2 := Lib.hid (show bs ++ encA ⟨kd, ck, cn, dat, an, sds⟩ now = (bs ++ [fb] ++ Go.Proofs.Ytodlgkpgpffpaaa.wr d 2) ++ (if kd = 2 then (dat.length : Int) :: dat else if kd = 3 then [an] else if kd = 4 then (sds.length : Int) :: wrS sds else []) from by rw [HENC.out, HZ.out])
      obtain ⟨xs, hxs⟩ : ∃ xs, xs = bs ++ [fb] ++ Go.Proofs.Ytodlgkpgpffpaaa.wr d 2 := ⟨_, rfl⟩
      rw [← hxs] at R3 HX HENC2
      clear HENC HZ hxs k2
      have HNXT := Lib.hid (show encC (cs.take (j + 1)) 0 = xs ++ (if kd = 2 then (dat.length : Int) :: dat else if kd = 3 then [an] else if kd = 4 then (sds.length : Int) :: wrS sds else []) from by rw [HTK.out, encC_snoc, ← HN.out, ← HBS.out, HENC2.out])
      have HCK := Lib.hid (show clkL 0 (cs.take (j + 1)) = ck from by rw [HTK.out, clkL_snoc])
      have HDLI := Lib.hid (show (dat.length : Int) = (dl : Int) from by rw [HDL.out])
      have HSLI := Lib.hid (show (sds.length : Int) = (sl : Int) from by rw [HSL.out])
      clear hbl3
      by_cases h2 : kd = 2
      · subst h2
        go_upto_region 11 with (fail)
        have edl : IntKind.u8.wrap (dl : Int) = (dl : Int) := by rw [IntKind.wrap_u8]; omega
        refine wp_region_held_drew (S := fun w' => ∀ i, w'.cell? ⟨ab, i, none⟩ = (#[.int .i64 2, .int .i64 ck, .int .i64 cn, .slice aA dl dc, .int .i64 an, .slice aB sl sc] : Array Value)[i]?) (by kernel_rfl) k3 (fun hHeld => ?_)
        refine wpAnyH_take (i := 0) (oi := ?_) (v := ?_) ?_ ?_ ?_ ?_ ?_ ?_ ?_ ?_
        rotate_left 2
        · simp only [List.getElem?_toArray, List.getElem?_cons_succ, List.getElem?_cons_zero]; rfl
        · kernel_rfl
        · kernel_rfl
        · kernel_rfl
        · exact fun _ _ _ h => h
        · refine Or.inl ⟨by rfl, ?_⟩
          intro w' hSw
          (try dsimp only at hSw)
          go_simp
          all_goals (with_reducible rfl)
        · assumption
        try simp only [Act.put, List.setIfInBounds_toArray, List.set_cons_zero, List.set_cons_succ]
        refine wpAnyH_take (i := 1) (oi := ?_) (v := ?_) ?_ ?_ ?_ ?_ ?_ ?_ ?_ ?_
        rotate_left 2
        · simp only [List.getElem?_toArray, List.getElem?_cons_succ, List.getElem?_cons_zero]; rfl
        · kernel_rfl
        · kernel_rfl
        · kernel_rfl
        · exact fun _ _ _ h => h
        · refine Or.inl ⟨by rfl, ?_⟩
          intro w' hSw
          (try dsimp only at hSw)
          go_simp
          all_goals (with_reducible rfl)
        · assumption
        try simp only [Act.put, List.setIfInBounds_toArray, List.set_cons_zero, List.set_cons_succ]
        refine wpAnyH_take (i := 2) (oi := ?_) (v := ?_) ?_ ?_ ?_ ?_ ?_ ?_ ?_ ?_
        rotate_left 2
        · simp only [List.getElem?_toArray, List.getElem?_cons_succ, List.getElem?_cons_zero]; rfl
        · kernel_rfl
        · kernel_rfl
        · kernel_rfl
        · exact fun _ _ _ h => h
        · refine Or.inl ⟨by rfl, ?_⟩
          intro w' hSw
          (try dsimp only at hSw)
          go_simp
          all_goals (with_reducible rfl)
        · assumption
        try simp only [Act.put, List.setIfInBounds_toArray, List.set_cons_zero, List.set_cons_succ]
        refine wpAnyH_take (i := 3) (oi := ?_) (v := ?_) ?_ ?_ ?_ ?_ ?_ ?_ ?_ ?_
        rotate_left 2
        · simp only [List.getElem?_toArray, List.getElem?_cons_succ, List.getElem?_cons_zero]; rfl
        · kernel_rfl
        · kernel_rfl
        · kernel_rfl
        · exact fun _ _ _ h => h
        · refine Or.inl ⟨by rfl, ?_⟩
          intro w' hSw
          (try dsimp only at hSw)
          go_simp
          all_goals (with_reducible rfl)
        · assumption
        try simp only [Act.put, List.setIfInBounds_toArray, List.set_cons_zero, List.set_cons_succ]
        refine wpAnyH_take (i := 4) (oi := ?_) (v := ?_) ?_ ?_ ?_ ?_ ?_ ?_ ?_ ?_
        rotate_left 2
        · simp only [List.getElem?_toArray, List.getElem?_cons_succ, List.getElem?_cons_zero]; rfl
        · kernel_rfl
        · kernel_rfl
        · kernel_rfl
        · exact fun _ _ _ h => h
        · refine Or.inl ⟨by rfl, ?_⟩
          intro w' hSw
          (try dsimp only at hSw)
          go_simp
          all_goals (with_reducible rfl)
        · assumption
        try simp only [Act.put, List.setIfInBounds_toArray, List.set_cons_zero, List.set_cons_succ]
        refine wpAnyH_take (i := 7) (oi := ?_) (v := ?_) ?_ ?_ ?_ ?_ ?_ ?_ ?_ ?_
        rotate_left 2
        · simp only [List.getElem?_toArray, List.getElem?_cons_succ, List.getElem?_cons_zero]; rfl
        · kernel_rfl
        · kernel_rfl
        · kernel_rfl
        · exact fun _ _ _ h => h
        · refine Or.inl ⟨by rfl, ?_⟩
          intro w' hSw
          (try dsimp only at hSw)
          go_simp
          all_goals (with_reducible rfl)
        · assumption
        try simp only [Act.put, List.setIfInBounds_toArray, List.set_cons_zero, List.set_cons_succ]
        refine wpAnyH_take (i := 8) (oi := ?_) (v := ?_) ?_ ?_ ?_ ?_ ?_ ?_ ?_ ?_
        rotate_left 2
        · simp only [List.getElem?_toArray, List.getElem?_cons_succ, List.getElem?_cons_zero]; rfl
        · kernel_rfl
        · kernel_rfl
        · kernel_rfl
        · exact fun _ _ _ h => h
        · refine Or.inl ⟨by rfl, ?_⟩
          intro w' hSw
          (try dsimp only at hSw)
          go_simp
          all_goals (with_reducible rfl)
        · assumption
        try simp only [Act.put, List.setIfInBounds_toArray, List.set_cons_zero, List.set_cons_succ]
        refine wpAnyH_ready (rs := [5]) (by kernel_rfl) (by simp) ?_
        refine AllReadyH.cons (o := ?_) ?_ ?_ ?_
        rotate_left 1
        · simp only [List.getElem?_toArray, List.getElem?_cons_succ, List.getElem?_cons_zero]; rfl
        rotate_left 1
        · exact AllReadyH.nil
        intro K hK
        go_simp
        skip
        refine hK.out _ _ (B3.out.drew.alloc _).rd (fun hHeld => ?_)
        clear hK K
        try simp only [Act.put, List.setIfInBounds_toArray, List.set_cons_zero, List.set_cons_succ]
        refine wpAnyH_ready (rs := [6]) (by kernel_rfl) (by simp) ?_
        refine AllReadyH.cons (o := ?_) ?_ ?_ ?_
        rotate_left 1
        · simp only [List.getElem?_toArray, List.getElem?_cons_succ, List.getElem?_cons_zero]; rfl
        rotate_left 1
        · exact AllReadyH.nil
        intro K hK
        refine step_push (by rfl) _ _ (by rfl) (by rfl) (by rfl) (R3.out.fr (Fr.drew (Fr.refl (fun _ => False) w3)) (fun _ _ => id)) hab3 hws3 (by have := HX.out; omega) ?_; intro v5 w5 hr5 hf5; have R5 := Lib.hid hr5; have F5 := Lib.hid ((Fr.drew (Fr.refl _ w3)).trans hf5); have B5 := Lib.hid (B3.out.fr F5.out (fun e => R3.out.ap _ e rfl)); have L5 := Lib.hid (L3.out.trans (R3.out.below F5.out hws3)); clear hr5 hf5
        refine hK.out _ _ B5.out.rd (fun hHeld => ?_)
        clear hK K
        try simp only [Act.put, List.setIfInBounds_toArray, List.set_cons_zero, List.set_cons_succ]
        refine wpAnyH_ready (rs := [9]) (by kernel_rfl) (by simp) ?_
        refine AllReadyH.cons (o := ?_) ?_ ?_ ?_
        rotate_left 1
        · simp only [List.getElem?_toArray, List.getElem?_cons_succ, List.getElem?_cons_zero]; rfl
        rotate_left 1
        · exact AllReadyH.nil
        intro K hK
        refine Ap.step_appI (by rfl) _ _ dc (by rfl) (by rfl) (by rfl) (show Ap.Own w5 w.heap.size v5 (xs ++ [(dl : Int)]) from R5.out.own) (HDA.out.below L5.out) (by rw [List.length_append]; have := HX.out; simp; omega) L5.out.size ?_; intro v6 w6 ho6 hg6; have O6 := Lib.hid ho6; have F6 := Lib.hid (fr_row hg6); have L6 := Lib.hid (L5.out.trans (R5.out.below F6.out L5.out.size)); clear ho6 hg6
        refine hK.out _ _ (B5.out.fr F6.out (fun e => R5.out.ap _ e rfl)).rd (fun hHeld => ?_)
        clear hK K
        try simp only [Act.put, List.setIfInBounds_toArray, List.set_cons_zero, List.set_cons_succ]
        refine wpAnyH_take (i := 10) (oi := ?_) (v := ?_) ?_ ?_ ?_ ?_ ?_ ?_ ?_ ?_
        rotate_left 2
        · simp only [List.getElem?_toArray, List.getElem?_cons_succ, List.getElem?_cons_zero]; rfl
        · kernel_rfl
        · kernel_rfl
        · kernel_rfl
        · exact fun _ _ _ h => h
        · refine Or.inl ⟨by rfl, ?_⟩
          intro w' hSw
          (try dsimp only at hSw)
          go_simp
          all_goals (with_reducible rfl)
        · assumption
        try simp only [Act.put, List.setIfInBounds_toArray, List.set_cons_zero, List.set_cons_succ]
        refine wpAnyH_done (by kernel_rfl) ?_ _
        have HROW := Lib.hid (show w6.ownsRow w.heap.size 5 1 v6 (encC (cs.take (j + 1)) 0).length ((encC (cs.take (j + 1)) 0).map (Value.int .u8)) from by
          have e : encC (cs.take (j + 1)) 0 = xs ++ [(dl : Int)] ++ dat := by rw [HNXT.out, if_pos rfl, HDLI.out]; simp
          rw [e]; exact O6.out)
        clear hHeld
        go_wp2
        go_roundg (n - (j + 1))
        case measure => have := HK.out; omega
        case rel => exact ⟨j + 1, by omega, by omega, by go_num, by rw [HCK.out], HROW.out, L6.out⟩
      · by_cases h3 : kd = 3
        · subst h3
          have ean : IntKind.u8.wrap an = an := by rw [IntKind.wrap_u8]; omega
          go_wp2_with (at_builtin; refine wpList_push (by rfl) _ _ (by rfl) (by rfl) (by rfl) R3.out hab3 hws3 (by have := HX.out; omega) ?_; intro v5 w5 hr5 hf5; have R5 := Lib.hid hr5; have L5 := Lib.hid (L3.out.trans (R3.out.below hf5 hws3)); clear hr5 hf5)
          have HROW := Lib.hid (show w5.ownsRow w.heap.size 5 1 v5 (encC (cs.take (j + 1)) 0).length ((encC (cs.take (j + 1)) 0).map (Value.int .u8)) from by
            have e : encC (cs.take (j + 1)) 0 = xs ++ [an] := by rw [HNXT.out]; simp
            rw [e]; exact R5.out.own)
          go_roundg (n - (j + 1))
          case measure => have := HK.out; omega
          case rel => exact ⟨j + 1, by omega, by omega, by go_num, by rw [HCK.out], HROW.out, L5.out⟩
        · by_cases h4 : kd = 4
          · subst h4
            have esl : IntKind.u8.wrap (sl : Int) = (sl : Int) := by rw [IntKind.wrap_u8]; omega
            go_upto_region 16 with (at_builtin; refine wpList_push (by rfl) _ _ (by rfl) (by rfl) (by rfl) R3.out hab3 hws3 (by have := HX.out; omega) ?_; intro v5 w5 hr5 hf5; have R5 := Lib.hid hr5; have B5 := Lib.hid (B3.out.fr hf5 (fun e => R3.out.ap _ e rfl)); have L5 := Lib.hid (L3.out.trans (R3.out.below hf5 hws3)); have k5 := B5.out.rd; clear hr5 hf5)
            have HN4 := Lib.hid (show encC (cs.take (j + 1)) 0 = xs ++ [(sl : Int)] ++ wrS sds from by rw [HNXT.out]; simp [HSLI.out])
            go_wp2
            go_loopg [3, 8, 68] sl (fun k3' xb s8 si wq => ∃ i : Nat, i ≤ sl ∧ k3' = sl - i ∧ si = .int .i64 (i : Int) ∧ RowB wq w.heap.size ab xb (xs ++ [(sl : Int)] ++ wrS (sds.take i)) ∧ Below w.heap.size w wq ∧ Blk wq ab 32 #[.int .i64 4, .int .i64 ck, .int .i64 cn, .slice aA dl dc, .int .i64 an, .slice aB sl sc])
            case atStart => exact ⟨0, by omega, by omega, rfl, by simpa [wrS] using R5.out, L5.out, B5.out⟩
            case round =>
              obtain ⟨i, hi, hkk2, rfl, hr6, hb6, hk6⟩ := hrel
              have HK2 := Lib.hid hkk2
              have R6 := Lib.hid hr6
              have L6 := Lib.hid hb6
              have B6 := Lib.hid hk6
              clear hkk2 hr6 hk6
              by_cases his : i < sl
              · have hisd : i < sds.length := by rw [HSL.out]; exact his
                obtain ⟨sb, soff, rfl, hslt, hsc⟩ := (HSE.out.below hb6).at_ (by omega)
                have hs0 := hsc i his
                have hwf := HQ9.out (sds[i]) (List.getElem_mem hisd)
                have HTS := Lib.hid (show sds.take (i + 1) = sds.take i ++ [sds[i]] from List.take_succ_eq_append_getElem hisd)
                have hg0 : sds.getD i 0 = sds[i] := by simp [List.getD, hisd]
                rw [hg0] at hs0
                obtain ⟨sd, hsd⟩ : ∃ sd, sd = sds[i] := ⟨_, rfl⟩
                rw [← hsd] at hs0 hwf HTS
                have hab6 := lt_of_block B6.out
                have hws6 := hb6.size
                have HL6 := Lib.hid (show (xs ++ [(sl : Int)] ++ wrS (sds.take i)).length ≤ 1000000 from by rw [List.length_append, List.length_append, wrS_length, List.length_take]; have := HX.out; simp; omega)
                clear hsd hsc hb6 hg0
                go_wp2_with (go_at_call 16; ((with_reducible refine (written_c w.heap.size ab 0 _ _ _ sd 8 8 rfl rfl hwf (by omega) HL6.out _ R6.out hab6 hws6).mono ?_); rintro e w7 ⟨v7, rfl, hr7, hf7⟩; have R7 := Lib.hid hr7; have L7 := Lib.hid (L6.out.trans (R6.out.below hf7 hws6)); have B7 := Lib.hid (B6.out.fr hf7 (fun e => R6.out.ap _ e rfl)); clear hr7 hf7))
                go_roundg (sl - (i + 1))
                case measure => have := HK2.out; omega
                case rel => exact ⟨i + 1, by omega, by omega, by go_num, by rw [HTS.out, wrS_snoc, ← List.append_assoc]; exact R7.out, L7.out, B7.out⟩
              · have hie : i = sl := by omega
                subst hie
                clear hb6
                go_wp2
                have e := R6.out.own
                rw [List.take_of_length_le (by rw [HSL.out]; exact Nat.le_refl _), ← HN4.out] at e
                have HROW := Lib.hid e
                clear e
                go_roundg (n - (j + 1))
                case measure => have := HK.out; omega
                case rel => exact ⟨j + 1, by omega, by omega, by go_num, by rw [HCK.out], HROW.out, L6.out⟩
          · go_wp2
            have HROW := Lib.hid (show w3.ownsRow w.heap.size 5 1 v3 (encC (cs.take (j + 1)) 0).length ((encC (cs.take (j + 1)) 0).map (Value.int .u8)) from by
              have e : encC (cs.take (j + 1)) 0 = xs := by rw [HNXT.out, if_neg h2, if_neg h3, if_neg h4, List.append_nil]
              rw [e]; exact R3.out.own)
            go_roundg (n - (j + 1))
            case measure => have := HK.out; omega
            case rel => exact ⟨j + 1, by omega, by omega, by go_num, by rw [HCK.out], HROW.out, L3.out⟩
    · have hje : j = n := by omega
      subst hje
      clear hb
      have ho := HO.out
      rw [List.take_of_length_le (by rw [HLC.out]; exact Nat.le_refl _)] at ho
      have HO := Lib.hid ho
      clear ho
      go_wp2
      go_ret
      exact ⟨u3, rfl, HO.out, HB.out⟩
end Go.Proofs.Ytodlgkpgpffpaaa
