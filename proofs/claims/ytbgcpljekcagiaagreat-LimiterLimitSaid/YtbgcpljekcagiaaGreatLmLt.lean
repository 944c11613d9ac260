import Derived.Test.YtbgcpljekcagiaaGreatZLmW
import Derived.Test.YtbgcpljekcagiaaGreatZLiftS
/- The law LimiterLimit of layer 12 (limiter), walked. -/
namespace Go.Proofs.YtbgcpljekcagiaaGreat
set_option linter.unusedSimpArgs false
set_option linter.unusedVariables false
set_option maxRecDepth 100000
open Go.ChangeShapes Go.WideShapes Go.ChangeAt Go.RowKit
open Ar (inR)
theorem infoLet : (Tryz.prog.info? 57).map (fun i => (i.zero, i.size, i.bytes)) = some (some (.agg #[.int .i64 0, .int .i64 0]), 2, 16) := by kernel_rfl
theorem owl_new {w : World} {base g c : Nat} {l : List (Int × Int)} {a b : Int} (h : w.ownsRow base 57 2 (.slice (some ⟨g, 0, none⟩) (l.length + 1) c) (l.length + 1) (rws encLt l ++ [.int .i64 a, .int .i64 b])) : OwL w base (.slice (some ⟨g, 0, none⟩) (l.length + 1) c) (l ++ [(a, b)]) := by
  unfold OwL OwR
  rw [rws_app, List.length_append, List.length_singleton]
  exact h
theorem LmLaw.fr {W w w' : World} {N : LmN} {s : LmS} {t m : Int} {F : Nat → Prop} (h : LmLaw W w N s t m) (hf : Fr F w w') (hF : ∀ b, F b → ¬ N.all b ∧ W.heap.size ≤ b) : LmLaw W w' N s t m :=
  ⟨h.at_.fr hf (fun k hk g => (hF k g).1 hk), h.I, h.lo, h.bl.trans (hf.below h.bl.size (fun b hb => (hF b hb).2))⟩
theorem LmL.sm {N : LmN} {s : LmS} {t span : Int} {P : List (Int × Int × ByteArray)} {O T : ByteArray → List (Int × Int)} (h : LmL N s t span P O T) (k : ByteArray) : small (O k ++ T k) := by
  cases hp : posN N.Q.N.n s.σ.K k with
  | none => rw [h.no k hp, List.append_nil]; exact (h.ot k).1
  | some i => exact small_app (h.ot k).1 (h.cl k i hp).tk.sm
set_option maxRecDepth 100000 in
set_option maxHeartbeats 6000000 in
theorem lmlimit_law (w : World) (a b c d e f g h : Int) (sm : Bool) (A : Option Addr) (n c0 : Nat) (zs : List Int) (A2 : Option Addr) (n2 c2 : Nat) (L : List Cl) (hpl : RuleOK a b c d e f g h) (hr : RdI w .u64 A n c0 zs) (hr2 : RdL w A2 n2 c2 4 encCl L) (hok : ∀ a ∈ L, okCl a) :
    Calls Tryz.prog 4 #[planV a b c d e f g h sm, .slice A n c0, .slice A2 n2 c2] w fun e w' => e = .returned (.bool true) ∧ Below w.heap.size w w' := by
  clear hpl
  have hmm := @run_makeMap Tryz.prog
  have hmx2 := hr2.max
  unfold maxLen at hmx2
  have hcp2 := hr2.cap
  have HR2 := Lib.hid hr2
  have HO := Lib.hid hok
  have hmx1 := hr.max
  unfold maxLen at hmx1
  have hcp1 := hr.cap
  have HR1 := Lib.hid hr
  clear hr
  clear hr2 hok
  obtain ⟨w1, hw1, k1, l1', s1⟩ := box_new w (planC a b c d e f g h sm) 23
  obtain ⟨pl, hpl⟩ : ∃ x, x = w.heap.size := ⟨_, rfl⟩
  rw [← hpl] at k1
  have K2 := Lib.hid (And.intro k1 l1')
  have HB := Lib.hid hpl
  clear k1 l1' s1
  go_enter Tryz.func4, Tryz.ntmps4
  go_upto_region 1 with (fail)
  rw [← HB.out]
  clear hw1 hpl
  go_upto_region 3 with (go_at_call 15; ((refine (lmfit_any _).mono ?_); rintro e w3 ⟨rfl, b3⟩; have K3 := Lib.hid (And.intro (K2.out.1.keep b3) (below_in K2.out.2 b3)); clear b3))
  by_cases hn60 : 60 < n
  · have t60 : decide ((60 : Int) < (n : Int)) = true := by rw [decide_eq_true_iff]; omega
    clear hn60
    go_wp2
    go_ret
    exact ⟨rfl, K3.out.2⟩
  have t60 : decide ((60 : Int) < (n : Int)) = false := by rw [decide_eq_false_iff_not]; omega
  clear hn60
  have CLi := Lib.hid (lmlight_any A2 n2 c2 L w3 (HR2.out.below K3.out.2) HO.out)
  cases hlb : lightC L with
  | false =>
    rw [hlb] at CLi
    go_wp2_with (go_at_call 16; ((with_reducible refine CLi.out.mono ?_); rintro e w4 ⟨rfl, b4⟩; have T4 := Lib.hid (below_in K3.out.2 b4); clear b4))
    go_ret
    exact ⟨rfl, T4.out⟩
  | true =>
  rw [hlb] at CLi
  have hlc := lightC_at hlb
  have hlen := hlc.1
  have HLK := Lib.hid hlc.2
  have hln := HR2.out.len
  have hb2 : (n2 : Int) ≤ 150 := by omega
  clear hlb hlen hln hlc
  go_upto_region 5 with (go_at_call 16; ((with_reducible refine CLi.out.mono ?_); rintro e w4 ⟨rfl, b4⟩; have K4 := Lib.hid (And.intro (K3.out.1.keep b4) (below_in K3.out.2 b4)); clear b4))
  clear CLi
  have kp := K4.out.1.rd
  have CRu := Lib.hid (lmrule_any a b c d e f g h sm w4)
  obtain ⟨Li, hLm⟩ : ∃ x, x = lqL a := ⟨_, rfl⟩
  obtain ⟨Wd, hWd⟩ : ∃ x, x = ((lqS b * lqN d : Nat) : Int) := ⟨_, rfl⟩
  obtain ⟨Bu, hBu⟩ : ∃ x, x = lqB a c := ⟨_, rfl⟩
  obtain ⟨Sl, hSl⟩ : ∃ x, x = ((lqN d : Nat) : Int) := ⟨_, rfl⟩
  obtain ⟨Ce, hCe⟩ : ∃ x, x = ((lqC e : Nat) : Int) := ⟨_, rfl⟩
  obtain ⟨kR, hkR⟩ : ∃ x, x = ((lqR f : Nat) : Int) := ⟨_, rfl⟩
  obtain ⟨Wi, hWi⟩ : ∃ x, x = ((lqW g : Nat) : Int) := ⟨_, rfl⟩
  obtain ⟨Tr, hTr⟩ : ∃ x, x = ((lqT h : Nat) : Int) := ⟨_, rfl⟩
  obtain ⟨smm, hsm⟩ : ∃ x, x = lqM sm d := ⟨_, rfl⟩
  rw [← hLm, ← hWd, ← hBu, ← hSl, ← hCe, ← hkR, ← hWi, ← hTr, ← hsm] at CRu
  have CNw := Lib.hid (fun wx (hx : Below w.heap.size w wx) => show Calls Tryz.prog 18 #[rlV Li Wd Bu Sl Ce kR Wi Tr smm, .slice A n c0] wx _ from by rw [hLm, hWd, hBu, hSl, hCe, hkR, hWi, hTr, hsm]; exact lmplan_new a b c d e f g h (lqM sm d) A n c0 zs wx (HR1.out.below hx))
  have HP := Lib.hid (And.intro hLm (And.intro hWd (And.intro hBu (And.intro hSl (And.intro hCe (And.intro hkR (And.intro hWi (And.intro hTr hsm))))))))
  clear hLm hWd hBu hSl hCe hkR hWi hTr hsm
  go_upto_region 6 with (go_at_call 17; ((with_reducible refine CRu.out.mono ?_); rintro e w5 ⟨rfl, b5⟩; obtain ⟨y1, y2, ey1, kr9, kw9, ey2, bl9, kc9⟩ := box9R w5 (.int .i64 Li) (.int .i64 Wd) (.int .i64 Bu) (.int .i64 Sl) (.int .i64 Ce) (.int .i64 kR) (.int .i64 Wi) (.int .i64 Tr) (.bool smm); have K6 := Lib.hid (And.intro kc9 (below_in (below_in K4.out.2 b5) bl9)); clear b5 bl9 kc9))
  clear ey1 kr9 kw9 ey2 kp CRu
  obtain ⟨rb, hrb⟩ : ∃ rb, rb = w5.heap.size := ⟨_, rfl⟩
  rw [← hrb] at K6 ⊢
  clear hrb
  have kru := K6.out.1.rd
  go_upto_region 7 with (go_at_call 18; ((with_reducible refine (CNw.out _ K6.out.2).mono ?_); rintro v w7 ⟨N, rfl, a7, p7, n7, b7⟩; have P7 := Lib.hid p7; have G7 := Lib.hid (show LmLaw w w7 N (lmZ (lqC e)) 0 0 from ⟨a7, lmplan_I a7 p7, fun b hb => Nat.le_trans K6.out.2.size (n7 b hb), below_in K6.out.2 b7⟩); have R7 := Lib.hid (K6.out.1.keep b7); have NR7 := Lib.hid (show ¬ N.all rb from fun hb => by have := n7 rb hb; have := lt_of_block K6.out.1; omega); clear a7 p7 n7 b7))
  clear CNw kru
  have HPB := Lib.hid (show LmB N ∧ N.B = Bu ∧ 1 ≤ Bu ∧ Bu ≤ 32 from by rw [HP.out.2.2.1]; exact lmplan_B P7.out)
  have HLN := Lib.hid (show LimN N (lspan b d (lqM sm d)) from lmplan_N P7.out)
  have HSL := Lib.hid (show (lqS b : Int) * Sl = Wd ∧ 1 ≤ Sl ∧ Sl ≤ 8 ∧ (1 ≤ lqS b ∧ lqS b ≤ 32) ∧ smm = lqM sm d ∧ Wd ≤ 256 from by
    have h1 := HP.out.2.1
    have h2 := HP.out.2.2.2.1
    have h3 : 1 ≤ lqN d ∧ lqN d ≤ 8 := by unfold lqN; omega
    have h4 : 1 ≤ lqS b ∧ lqS b ≤ 32 := by unfold lqS; omega
    have h5 : lqS b * lqN d ≤ 32 * 8 := Nat.mul_le_mul h4.2 h3.2
    exact ⟨by rw [h1, h2, Int.natCast_mul], by omega, by omega, h4, HP.out.2.2.2.2.2.2.2.2, by omega⟩)
  obtain ⟨sp, hsp⟩ : ∃ z, z = lspan b d (lqM sm d) := ⟨_, rfl⟩
  rw [← hsp] at HLN
  have hspv : sp = Wd - (if smm then ((lqS b : Nat) : Int) else 0) := by rw [hsp, HSL.out.2.2.2.2.1, HP.out.2.1]; rfl
  obtain ⟨un, hun⟩ : ∃ z, z = ((lqS b : Nat) : Int) := ⟨_, rfl⟩
  have e2 : Wd.tdiv Sl = un := by
    have h1 := HSL.out
    rw [Int.tdiv_eq_ediv_of_nonneg (by rw [← h1.1]; exact Int.mul_nonneg (by omega) (by omega)), ← h1.1, hun]
    exact Int.mul_ediv_cancel _ (by omega)
  have e3 : ¬ (Sl = 0) := by have h1 := HSL.out; omega
  rw [← hun] at hspv
  have hub : 1 ≤ un ∧ un ≤ 32 := by have h1 := HSL.out; omega
  have e5 : IntKind.i64.wrap un = un := by rw [IntKind.wrap_i64]; omega
  have e6 : IntKind.i64.wrap (Wd - un) = Wd - un := by
    have h1 := HSL.out
    have h2 : 0 ≤ Wd := by rw [← h1.1]; exact Int.mul_nonneg (by omega) (by omega)
    rw [IntKind.wrap_i64]; omega
  have hspb : sp ≤ 256 ∧ -32 ≤ sp := by
    have h1 := HSL.out
    have h2 : 0 ≤ Wd := by rw [← h1.1]; exact Int.mul_nonneg (by omega) (by omega)
    rw [hspv]; split <;> omega
  have HSB := Lib.hid hspb
  clear hsp hun hub hspb
  have kru := R7.out.rd
  by_cases hs : smm = true
  focus
    rw [if_pos hs] at hspv
    have HSPV := Lib.hid hspv
    clear hspv
    go_upto_region 10 with (fail)
    rw [← HSPV.out]
    clear e2 e3 e5 e6 kru hs
  rotate_left
  focus
    rw [if_neg hs] at hspv
    have hs' : smm = false := by cases smm; rfl; exact absurd rfl hs
    have e7 : Wd = sp := by omega
    clear e6 hspv hs
    go_upto_region 10 with (fail)
    rw [e7]
    clear e2 e3 e5 e7 kru hs'
  rotate_left
  all_goals
    go_upto_region 11 with (fail)
    have hm0 : Mp.MapS Tryz.prog 9 (w7.alloc (.map #[] 0)) w7.heap.size 0 (fun _ => none) := Mp.MapS.new (P := Tryz.prog) (k := 9) w7
    obtain ⟨mb, hmb⟩ : ∃ mb, mb = w7.heap.size := ⟨_, rfl⟩
    have HMB := Lib.hid (show (∀ k, N.all k → k < mb) ∧ w.heap.size ≤ mb ∧ rb < mb from ⟨fun k hk => by have := G7.out.at_.lt k hk; omega, by have := G7.out.bl.size; omega, by have := lt_of_block R7.out; omega⟩)
    have bl9 : Below w7.heap.size w7 (w7.alloc (.map #[] 0)) := (Below.refl _ _).alloc (Nat.le_refl _) _
    rw [← hmb] at hm0 ⊢
    have G9' := Lib.hid (G7.out.keep bl9)
    have R9' := Lib.hid (R7.out.keep bl9)
    have M9 := Lib.hid (show HadM (w7.alloc (.map #[] 0)) mb (w7.alloc (.map #[] 0)).heap.size 0 (fun _ => none) (fun _ => []) from ⟨hm0, ⟨hm0.lt, Nat.le_refl _⟩, (fun _ _ => rfl), (fun k v hv => by cases hv), (fun k k' v v' g _ hv => by cases hv)⟩)
    generalize w7.alloc (.map #[] 0) = w9 at G9' R9' M9 ⊢
    clear hm0 hmb bl9 hmm
    obtain ⟨base, hbase⟩ : ∃ z, z = w9.heap.size := ⟨_, rfl⟩
    rw [← hbase] at M9
    have HBS := Lib.hid (show mb < base from M9.out.lo.1)
    clear hbase
    go_wp2
    go_loopg [49, 11] n2 (fun kk si sn wr => ∃ (i : Nat) (t : Int) (s : LmS) (P : List (Int × Int × ByteArray)) (O T H : ByteArray → List (Int × Int)) (c : Nat) (V : ByteArray → Option Value), i ≤ n2 ∧ Hid (kk = n2 - i) ∧ si = .int .i64 (i : Int) ∧ sn = .int .i64 t ∧ Hid (0 ≤ t ∧ t ≤ 1023 * (i : Int)) ∧ Hid (LmLaw w wr N s t (2097153 * (i : Int))) ∧ Hid (Blk wr rb 29 #[.int .i64 Li, .int .i64 Wd, .int .i64 Bu, .int .i64 Sl, .int .i64 Ce, .int .i64 kR, .int .i64 Wi, .int .i64 Tr, .bool smm]) ∧ Hid (LmL N s t sp P O T) ∧ Hid (HadM wr mb base c V H) ∧ Hid ((∀ k, H k = O k ++ T k) ∧ c ≤ i ∧ ∀ k, (H k).length ≤ i))
    case atStart => exact ⟨0, 0, lmZ (lqC e), [], fun _ => [], fun _ => [], fun _ => [], 0, _, by omega, Lib.hid rfl, rfl, rfl, Lib.hid (by omega), G9', R9', Lib.hid (LmL.new _ _), M9, Lib.hid ⟨fun _ => rfl, Nat.le_refl _, fun _ => Nat.le_refl _⟩⟩
    case round =>
      obtain ⟨i, t, s, P, O, T, H, c, V, hi, HKK, rfl, rfl, HT, HG, HRB, HLL, HMP, HHH⟩ := hrel
      by_cases hin : i < n2
      · have hl2 := HR2.out.len
        obtain ⟨b', off, rfl, hbl, hcl⟩ := (HR2.out.below HG.out.bl).at_ (by omega)
        obtain ⟨⟨gp, cs, ky, pk⟩, ha⟩ : ∃ a, L[i]? = some a := ⟨_, List.getElem?_eq_getElem (by omega)⟩
        have HKY := Lib.hid (HLK.out _ (List.mem_of_getElem? ha))
        have hky : ky.size ≤ 64 := HKY.out
        have HCS := Lib.hid (HO.out _ (List.mem_of_getElem? ha))
        have kr0 : wr.cell? ⟨b', off + i * 4, none⟩ = some (.int .i64 gp) := hcl i _ ha 0 (by omega)
        have kr1 : wr.cell? ⟨b', off + i * 4 + 1, none⟩ = some (.int .i64 cs) := hcl i _ ha 1 (by omega)
        have kr2 : wr.cell? ⟨b', off + i * 4 + 2, none⟩ = some (.string ky) := hcl i _ ha 2 (by omega)
        have kr3 : wr.cell? ⟨b', off + i * 4 + 3, none⟩ = some (.bool pk) := hcl i _ ha 3 (by omega)
        obtain ⟨y1, y2, ey1, kr, kw, ey2, bl2, kc2⟩ := box4C wr (.int .i64 gp) (.int .i64 cs) (.string ky) (.bool pk)
        have G6 := Lib.hid (HG.out.keep bl2)
        obtain ⟨bx, hbx⟩ : ∃ bx, bx = wr.heap.size := ⟨_, rfl⟩
        have HBX := Lib.hid (show (¬ N.all bx) ∧ w.heap.size ≤ bx ∧ bx < y2.heap.size from ⟨fun hh => by have := HG.out.at_.lt bx hh; omega, by have := HG.out.bl.size; omega, by have := lt_of_block kc2; omega⟩)
        rw [← hbx] at kc2
        have kc3 := kc2.rd
        have KC := Lib.hid kc2
        have KRu := Lib.hid (HRB.out.keep bl2)
        have M6 := Lib.hid (HMP.out.keep bl2)
        have hgb := gapL_bd gp
        obtain ⟨gq, hgq⟩ : ∃ x, x = gapL gp := ⟨_, rfl⟩
        have HGQ := Lib.hid hgq
        have CG := Lib.hid (fun wx => gapL_any gp wx)
        rw [← hgq] at CG hgb
        obtain ⟨t', ht'⟩ : ∃ x, x = t + gq := ⟨_, rfl⟩
        have hT := HT.out
        have et : IntKind.i64.wrap (t + gq) = t' := by rw [IntKind.wrap_i64]; omega
        have HT' := Lib.hid (show (0 ≤ t' ∧ t' ≤ 1023 * ((i : Int) + 1)) ∧ t ≤ t' ∧ t' ≤ 4611686018427380000 ∧ t' = t + gq by omega)
        have CC := Lib.hid (fun wx => costL_any Li Wd Bu Sl Ce kR Wi Tr smm cs ⟨HPB.out.2.2.1, HPB.out.2.2.2⟩ wx)
        have hqb := costL_bd (n := cs) ⟨HPB.out.2.2.1, HPB.out.2.2.2⟩
        obtain ⟨q, hq⟩ : ∃ x, x = costL Bu cs := ⟨_, rfl⟩
        rw [← hq] at CC hqb
        have HQ := Lib.hid (And.intro hqb hq)
        have t2 : (i : Int) < (n2 : Int) := by omega
        have HIN := Lib.hid hin
        clear hl2 hcl hbl bl2 kc2 hgb hgq ht' hT hq hin hqb hky
        go_upto_region 15 with (fail)
        rw [← hbx]
        have HBXS := Lib.hid hbx
        clear kr kw ey1 kr0 kr1 kr2 kr3 ey2 hbx
        have krl := KRu.out.rd
        go_upto_region 17 with (first
          | (go_at_call 20; ((with_reducible refine (CG.out _).mono ?_); rintro v y3 ⟨rfl, rfl⟩))
          | (go_at_call 21; ((with_reducible refine (CC.out _).mono ?_); rintro v y4 ⟨rfl, b4⟩; have G8 := Lib.hid (G6.out.keep b4); have K8 := Lib.hid (KC.out.keep b4); have R8 := Lib.hid (KRu.out.keep b4); have M8 := Lib.hid (M6.out.keep b4); have HB8 := Lib.hid (show bx < y4.heap.size from Nat.lt_of_lt_of_le HBX.out.2.2 b4.size); clear b4)))
        clear CG CC et kc3 krl
        have HG8 := Lib.hid (G8.out.mono (t' := t') (m' := 2097153 * (i : Int)) (by have := HT'.out; omega) (by omega))
        have CCk := Lib.hid (lmcheckI t' 0 ky q (by have := HKY.out; unfold maxLen; omega) (by unfold inR; omega) (by have := HQ.out; unfold inR; omega) y4 HG8.out.at_ HG8.out.I (by omega))
        have CI := Lib.hid (HG8.out.I.check (by omega) 0 ky q)
        obtain ⟨P2, O2, T2, hl2, hok⟩ := HLL.out.check (cost := q) HLN.out HG8.out.I (by omega) HT'.out.2.1 HG8.out.at_.hp.len HG8.out.at_.ks ky
        obtain ⟨⟨s2, ⟨cv, cr, ct⟩, ev⟩, hck⟩ : ∃ x, x = s.check N t' 0 ky q := ⟨_, rfl⟩
        rw [← hck] at CCk CI hl2 hok
        clear hck
        dsimp only at CCk CI hl2 hok
        have HL2 := Lib.hid hl2
        have HOK := Lib.hid hok
        clear hl2 hok
        have kc := K8.out.rd
        go_upto_region 18 with (go_at_call 24; go_loud ((with_reducible refine CCk.out.mono ?_); rintro e' y7 ⟨vv, rfl, o7, a7, f7⟩; obtain ⟨x8, y8, ex8, kr8, kw8, ey8, b8, k8⟩ := boxA y7 cv cr ct; have G10 := Lib.hid ((HG8.out.op a7 CI.out f7 (fun b hb => hb)).keep b8); have R10 := Lib.hid ((R8.out.fr f7 NR7.out).keep b8); have K10 := Lib.hid ((K8.out.fr f7 HBX.out.1).keep b8); have M10 := Lib.hid ((M8.out.fr f7 (fun k hk => ⟨by have := HMB.out.1 k hk; omega, by have h1 := HMB.out.1 k hk; have h2 := HBS.out; omega⟩)).keep b8); have A10 := Lib.hid k8; clear o7 a7 f7 b8 k8))
        clear CCk ex8 kr8 kw8 ey8 kc
        obtain ⟨ac, hac⟩ : ∃ x, x = y7.heap.size := ⟨_, rfl⟩
        rw [← hac] at A10 ⊢
        clear hac
        have kac := A10.out.rd
        by_cases hcv : cv = 1
        rotate_left
        · have u1 : (cv != 1) = true := by simp [hcv]
          have hsame : ∀ k, H k = O2 k ++ T2 k := fun k => by
            rw [HHH.out.1 k]
            by_cases e : k = ky
            · rw [e]; exact (HOK.out.2.2 hcv).symm
            · exact (HOK.out.1 k e).symm
          have HS := Lib.hid hsame
          clear hcv hsame
          go_wp2
          go_roundg (n2 - (i + 1))
          case measure => have := HKK.out; have := HIN.out; omega
          case rel => exact ⟨i + 1, t', s2, P2, O2, T2, H, c, V, HIN.out, Lib.hid rfl, by go_num, rfl, Lib.hid (by have := HT'.out; omega), Lib.hid (G10.out.mono (by have := HT'.out; omega) (by omega)), R10, HL2, M10, Lib.hid ⟨HS.out, by have := HHH.out.2.1; omega, fun k => by have := HHH.out.2.2 k; omega⟩⟩
        have u1 : (cv != 1) = false := by simp [hcv]
        have HHK := Lib.hid (show (H ky ++ [(t', q)] = O2 ky ++ T2 ky ∧ sumGt (t' - sp) (H ky ++ [(t', q)]) ≤ N.L) ∧ ∀ k, k ≠ ky → H k = O2 k ++ T2 k from by
          obtain ⟨h1, h2⟩ := HOK.out.2.1 hcv
          dsimp only at h1 h2
          rw [h1] at h2
          refine ⟨⟨by rw [HHH.out.1 ky, h1], by rw [HHH.out.1 ky]; exact h2⟩, fun k e => by rw [HHH.out.1 k]; exact (HOK.out.1 k e).symm⟩)
        clear hcv
        go_upto_region 19 with (fail)
        clear u1 kac
        have BD := Lib.hid (show Below y8.heap.size y8 y8.drew from below_draws (Below.refl _ _) 1)
        have K11 := Lib.hid (K10.out.keep BD.out)
        have M11 := Lib.hid (M10.out.keep BD.out)
        obtain ⟨i0, hi0, hz0, hz1, hz2⟩ := info_parts infoLet
        have HI := Lib.hid (And.intro hi0 (And.intro hz0 (And.intro hz1 hz2)))
        clear hi0 hz0 hz1 hz2
        have hlk := M11.out.mp.look Tryz.underlying9 Tryz.underlying54 (z := .slice none 0 0) (by kernel_rfl) (show ky.size ≤ maxLen from by have := HKY.out; unfold maxLen; omega)
        have HRW := Lib.hid (M11.out.get ky)
        obtain ⟨v0, hv0⟩ : ∃ z, z = (V ky).getD (.slice none 0 0) := ⟨_, rfl⟩
        rw [← hv0] at hlk HRW
        have HV0 := Lib.hid hv0
        clear hv0
        have HLE := Lib.hid (show (H ky).length ≤ 150 from by have := HHH.out.2.2 ky; omega)
        have HLI := Lib.hid (show (H ky).length ≤ i from HHH.out.2.2 ky)
        have NVB := Lib.hid (show ∀ g, v0.ownBlock = some g → base ≤ g ∧ g ≠ bx from fun g e => ⟨HRW.out.base_le g e, fun hg => by have h1 := (HMP.out.get ky).lt g (by rw [← HV0.out]; exact e); have h2 := HBXS.out; omega⟩)
        have HC1 := Lib.hid (show c < maxLen from by have := HHH.out.2.1; unfold maxLen; omega)
        have HNB := Lib.hid (show bx ≠ mb from fun e => by have h1 := M8.out.lo; have h2 := HMP.out.lo; have h3 := HBXS.out; omega)
        have st := K11.out.rd
        refine wp_region_held_drew (S := fun wx => ∀ j, wx.cell? ⟨bx, j, none⟩ = (#[.int .i64 gp, .int .i64 cs, .string ky, .bool pk] : Array Value)[j]?) (by kernel_rfl) st (fun hHeld => ?_)
        clear st
        refine wpAnyH_take (i := 0) (oi := ?_) (v := ?_) ?_ ?_ ?_ ?_ ?_ ?_ ?_ ?_
        rotate_left 2
        · simp only [List.getElem?_toArray, List.getElem?_cons_succ, List.getElem?_cons_zero]; rfl
        · kernel_rfl
        · kernel_rfl
        · kernel_rfl
        · exact fun _ _ _ h => h
        · refine Or.inl ⟨by rfl, ?_⟩
          intro w' hSw
          (try dsimp only at hSw)
          go_simp
          all_goals (with_reducible rfl)
        · assumption
        try simp only [Act.put, List.setIfInBounds_toArray, List.set_cons_zero, List.set_cons_succ]
        refine wpAnyH_take (i := 1) (oi := ?_) (v := ?_) ?_ ?_ ?_ ?_ ?_ ?_ ?_ ?_
        rotate_left 2
        · simp only [List.getElem?_toArray, List.getElem?_cons_succ, List.getElem?_cons_zero]; rfl
        · kernel_rfl
        · kernel_rfl
        · kernel_rfl
        · exact fun _ _ _ h => h
        · refine Or.inl ⟨by rfl, ?_⟩
          intro w' hSw
          (try dsimp only at hSw)
          go_simp
          all_goals (with_reducible rfl)
        · assumption
        try simp only [Act.put, List.setIfInBounds_toArray, List.set_cons_zero, List.set_cons_succ]
        refine wpAnyH_take (i := 2) (oi := ?_) (v := ?_) ?_ ?_ ?_ ?_ ?_ ?_ ?_ ?_
        rotate_left 2
        · simp only [List.getElem?_toArray, List.getElem?_cons_succ, List.getElem?_cons_zero]; rfl
        · kernel_rfl
        · kernel_rfl
        · kernel_rfl
        · exact fun _ _ _ h => h
        · refine Or.inl ⟨by rfl, ?_⟩
          intro w' hSw
          (try dsimp only at hSw)
          go_simp
          all_goals (with_reducible rfl)
        · assumption
        try simp only [Act.put, List.setIfInBounds_toArray, List.set_cons_zero, List.set_cons_succ]
        refine wpAnyH_take (i := 3) (oi := ?_) (v := ?_) ?_ ?_ ?_ ?_ ?_ ?_ ?_ ?_
        rotate_left 2
        · simp only [List.getElem?_toArray, List.getElem?_cons_succ, List.getElem?_cons_zero]; rfl
        · kernel_rfl
        · kernel_rfl
        · kernel_rfl
        · exact fun _ _ _ h => h
        · refine Or.inl ⟨by rfl, ?_⟩
          intro w' hSw
          (try dsimp only at hSw)
          go_simp
          all_goals (with_reducible rfl)
        · assumption
        try simp only [Act.put, List.setIfInBounds_toArray, List.set_cons_zero, List.set_cons_succ]
        refine wpAnyH_take (i := 4) (oi := ?_) (v := ?_) ?_ ?_ ?_ ?_ ?_ ?_ ?_ ?_
        rotate_left 2
        · simp only [List.getElem?_toArray, List.getElem?_cons_succ, List.getElem?_cons_zero]; rfl
        · kernel_rfl
        · kernel_rfl
        · kernel_rfl
        · exact fun _ _ _ h => h
        · refine Or.inl ⟨by rfl, ?_⟩
          intro w' hSw
          (try dsimp only at hSw)
          go_simp
          all_goals (with_reducible rfl)
        · assumption
        try simp only [Act.put, List.setIfInBounds_toArray, List.set_cons_zero, List.set_cons_succ]
        refine wpAnyH_take (i := 5) (oi := ?_) (v := ?_) ?_ ?_ ?_ ?_ ?_ ?_ ?_ ?_
        rotate_left 2
        · simp only [List.getElem?_toArray, List.getElem?_cons_succ, List.getElem?_cons_zero]; rfl
        · kernel_rfl
        · kernel_rfl
        · kernel_rfl
        · exact fun _ _ _ h => h
        · refine Or.inl ⟨by rfl, ?_⟩
          intro w' hSw
          (try dsimp only at hSw)
          go_simp
          all_goals (with_reducible rfl)
        · assumption
        try simp only [Act.put, List.setIfInBounds_toArray, List.set_cons_zero, List.set_cons_succ]
        refine wpAnyH_take (i := 7) (oi := ?_) (v := ?_) ?_ ?_ ?_ ?_ ?_ ?_ ?_ ?_
        rotate_left 2
        · simp only [List.getElem?_toArray, List.getElem?_cons_succ, List.getElem?_cons_zero]; rfl
        · kernel_rfl
        · kernel_rfl
        · kernel_rfl
        · exact fun _ _ _ h => h
        · refine Or.inl ⟨by rfl, ?_⟩
          intro w' hSw
          (try dsimp only at hSw)
          go_simp
          all_goals (with_reducible rfl)
        · assumption
        try simp only [Act.put, List.setIfInBounds_toArray, List.set_cons_zero, List.set_cons_succ]
        refine wpAnyH_take (i := 8) (oi := ?_) (v := ?_) ?_ ?_ ?_ ?_ ?_ ?_ ?_ ?_
        rotate_left 2
        · simp only [List.getElem?_toArray, List.getElem?_cons_succ, List.getElem?_cons_zero]; rfl
        · kernel_rfl
        · kernel_rfl
        · kernel_rfl
        · exact fun _ _ _ h => h
        · refine Or.inl ⟨by rfl, ?_⟩
          intro w' hSw
          (try dsimp only at hSw)
          go_simp
          all_goals (with_reducible rfl)
        · assumption
        try simp only [Act.put, List.setIfInBounds_toArray, List.set_cons_zero, List.set_cons_succ]
        refine wpAnyH_take (i := 9) (oi := ?_) (v := ?_) ?_ ?_ ?_ ?_ ?_ ?_ ?_ ?_
        rotate_left 2
        · simp only [List.getElem?_toArray, List.getElem?_cons_succ, List.getElem?_cons_zero]; rfl
        · kernel_rfl
        · kernel_rfl
        · kernel_rfl
        · exact fun _ _ _ h => h
        · refine Or.inl ⟨by rfl, ?_⟩
          intro w' hSw
          (try dsimp only at hSw)
          go_simp
          all_goals (with_reducible rfl)
        · assumption
        try simp only [Act.put, List.setIfInBounds_toArray, List.set_cons_zero, List.set_cons_succ]
        refine wpAnyH_ready (rs := [6, 10]) (by kernel_rfl) (by simp) ?_
        refine AllReadyH.cons (o := ?_) ?_ ?_ ?_
        rotate_left 1
        · simp only [List.getElem?_toArray, List.getElem?_cons_succ, List.getElem?_cons_zero]; rfl
        focus
          intro K hK
          go_simp
          (try rw [hlk])
          refine hK.out _ _ K11.out.rd (fun hHeld => ?_)
          clear hK K
          try simp only [Act.put, List.setIfInBounds_toArray, List.set_cons_zero, List.set_cons_succ]
          clear hlk
          refine wpAnyH_ready (rs := [10]) (by kernel_rfl) (by simp) ?_
          refine AllReadyH.cons (o := ?_) ?_ ?_ ?_
          rotate_left 1
          · simp only [List.getElem?_toArray, List.getElem?_cons_succ, List.getElem?_cons_zero]; rfl
          rotate_left 1
          · exact AllReadyH.nil
          intro K hK
          go_simp
          have KA := Lib.hid (K11.out.alloc (.cells #[.int .i64 t', .int .i64 q] 57))
          refine hK.out _ _ KA.out.rd (fun hHeld => ?_)
          clear hK K
          try simp only [Act.put, List.setIfInBounds_toArray, List.set_cons_zero, List.set_cons_succ]
          refine wpAnyH_ready (rs := [11]) (by kernel_rfl) (by simp) ?_
          refine AllReadyH.cons (o := ?_) ?_ ?_ ?_
          rotate_left 1
          · simp only [List.getElem?_toArray, List.getElem?_cons_succ, List.getElem?_cons_zero]; rfl
          rotate_left 1
          · exact AllReadyH.nil
          intro K hK
          refine step_append_lies _ (by rfl) _ _ 55 (by rfl) base 57 i0 (.agg #[.int .i64 0, .int .i64 0]) 2 16 (by rfl) HI.out.1 HI.out.2.1 HI.out.2.2.1 HI.out.2.2.2 (by rfl) (by omega) v0 (H ky).length (rws encLt (H ky)) (by rfl) (World.ownsRow.alloc HRW.out _) ⟨y8.drew.heap.size, 0, none⟩ 1 1 [.int .i64 t', .int .i64 q] (by rfl) (by rfl) (World.news_of_block (heap_alloc_new y8.drew _)) (by simp [Value.oneCell']) (by omega) (by have := HLE.out; unfold maxLen; omega) (by have := HLE.out; omega) (by have h1 : base ≤ y8.heap.size := M10.out.lo.2; simp; omega) _ rfl ?_; intro gl cl w11 hown11 hgr11 hat11 hlt11; have F11 := Lib.hid (show Fr (fun j => v0.ownBlock = some j) y8.drew w11 from ((Fr.refl _ _).alloc _).trans (G.fr_row hgr11)); have K12 := Lib.hid (K11.out.fr F11.out (fun e => (NVB.out bx e).2 rfl)); have R11 := Lib.hid (owl_new hown11); have A11 := Lib.hid (show v0.ownBlock = some gl ∨ y8.drew.heap.size ≤ gl from by rcases hat11 with h | h; exact .inl h; exact .inr (by rw [h]; simp)); obtain ⟨y12, hst, m12, f12⟩ := (M11.out.mp.fr F11.out (fun e => by have h1 := (NVB.out mb e).1; have h2 := M11.out.lo.1; omega)).store Tryz.underlying9 Tryz.underlying54 HC1.out (s := ky) (by have := HKY.out; unfold maxLen; omega) (.slice (some ⟨gl, 0, none⟩) ((H ky).length + 1) cl); have K13 := Lib.hid (K12.out.fr f12 HNB.out); have MM12 := Lib.hid m12; have FF12 := Lib.hid f12; clear hown11 hgr11 hat11 hlt11 m12 f12
          refine hK.out _ _ K12.out.rd (fun hHeld => ?_)
          clear hK K
          try simp only [Act.put, List.setIfInBounds_toArray, List.set_cons_zero, List.set_cons_succ]
          refine wpAnyH_ready (rs := [12]) (by kernel_rfl) (by simp) ?_
          refine AllReadyH.cons (o := ?_) ?_ ?_ ?_
          rotate_left 1
          · simp only [List.getElem?_toArray, List.getElem?_cons_succ, List.getElem?_cons_zero]; rfl
          rotate_left 1
          · exact AllReadyH.nil
          intro K hK
          go_simp
          skip
          refine hK.out _ _ K13.out.rd (fun hHeld => ?_)
          clear hK K
          try simp only [Act.put, List.setIfInBounds_toArray, List.set_cons_zero, List.set_cons_succ]
        rotate_left
        focus
          have KA := Lib.hid (K11.out.alloc (.cells #[.int .i64 t', .int .i64 q] 57))
          have hlkA := (M11.out.keep (show Below y8.drew.heap.size y8.drew (y8.alloc (.cells #[.int .i64 t', .int .i64 q] 57)).drew from (Below.refl _ _).alloc (Nat.le_refl _) _)).mp.look Tryz.underlying9 Tryz.underlying54 (z := .slice none 0 0) (by kernel_rfl) (show ky.size ≤ maxLen from by have := HKY.out; unfold maxLen; omega)
          rw [← HV0.out] at hlkA
          clear hlk
          refine AllReadyH.cons (o := ?_) ?_ ?_ ?_
          rotate_left 1
          · simp only [List.getElem?_toArray, List.getElem?_cons_succ, List.getElem?_cons_zero]; rfl
          rotate_left 1
          · exact AllReadyH.nil
          intro K hK
          go_simp
          skip
          refine hK.out _ _ KA.out.rd (fun hHeld => ?_)
          clear hK K
          try simp only [Act.put, List.setIfInBounds_toArray, List.set_cons_zero, List.set_cons_succ]
          refine wpAnyH_ready (rs := [6]) (by kernel_rfl) (by simp) ?_
          refine AllReadyH.cons (o := ?_) ?_ ?_ ?_
          rotate_left 1
          · simp only [List.getElem?_toArray, List.getElem?_cons_succ, List.getElem?_cons_zero]; rfl
          rotate_left 1
          · exact AllReadyH.nil
          intro K hK
          go_simp
          (try rw [hlkA])
          refine hK.out _ _ KA.out.rd (fun hHeld => ?_)
          clear hK K
          try simp only [Act.put, List.setIfInBounds_toArray, List.set_cons_zero, List.set_cons_succ]
          clear hlkA
          refine wpAnyH_ready (rs := [11]) (by kernel_rfl) (by simp) ?_
          refine AllReadyH.cons (o := ?_) ?_ ?_ ?_
          rotate_left 1
          · simp only [List.getElem?_toArray, List.getElem?_cons_succ, List.getElem?_cons_zero]; rfl
          rotate_left 1
          · exact AllReadyH.nil
          intro K hK
          refine step_append_lies _ (by rfl) _ _ 55 (by rfl) base 57 i0 (.agg #[.int .i64 0, .int .i64 0]) 2 16 (by rfl) HI.out.1 HI.out.2.1 HI.out.2.2.1 HI.out.2.2.2 (by rfl) (by omega) v0 (H ky).length (rws encLt (H ky)) (by rfl) (World.ownsRow.alloc HRW.out _) ⟨y8.drew.heap.size, 0, none⟩ 1 1 [.int .i64 t', .int .i64 q] (by rfl) (by rfl) (World.news_of_block (heap_alloc_new y8.drew _)) (by simp [Value.oneCell']) (by omega) (by have := HLE.out; unfold maxLen; omega) (by have := HLE.out; omega) (by have h1 : base ≤ y8.heap.size := M10.out.lo.2; simp; omega) _ rfl ?_; intro gl cl w11 hown11 hgr11 hat11 hlt11; have F11 := Lib.hid (show Fr (fun j => v0.ownBlock = some j) y8.drew w11 from ((Fr.refl _ _).alloc _).trans (G.fr_row hgr11)); have K12 := Lib.hid (K11.out.fr F11.out (fun e => (NVB.out bx e).2 rfl)); have R11 := Lib.hid (owl_new hown11); have A11 := Lib.hid (show v0.ownBlock = some gl ∨ y8.drew.heap.size ≤ gl from by rcases hat11 with h | h; exact .inl h; exact .inr (by rw [h]; simp)); obtain ⟨y12, hst, m12, f12⟩ := (M11.out.mp.fr F11.out (fun e => by have h1 := (NVB.out mb e).1; have h2 := M11.out.lo.1; omega)).store Tryz.underlying9 Tryz.underlying54 HC1.out (s := ky) (by have := HKY.out; unfold maxLen; omega) (.slice (some ⟨gl, 0, none⟩) ((H ky).length + 1) cl); have K13 := Lib.hid (K12.out.fr f12 HNB.out); have MM12 := Lib.hid m12; have FF12 := Lib.hid f12; clear hown11 hgr11 hat11 hlt11 m12 f12
          refine hK.out _ _ K12.out.rd (fun hHeld => ?_)
          clear hK K
          try simp only [Act.put, List.setIfInBounds_toArray, List.set_cons_zero, List.set_cons_succ]
          refine wpAnyH_ready (rs := [12]) (by kernel_rfl) (by simp) ?_
          refine AllReadyH.cons (o := ?_) ?_ ?_ ?_
          rotate_left 1
          · simp only [List.getElem?_toArray, List.getElem?_cons_succ, List.getElem?_cons_zero]; rfl
          rotate_left 1
          · exact AllReadyH.nil
          intro K hK
          go_simp
          skip
          refine hK.out _ _ K13.out.rd (fun hHeld => ?_)
          clear hK K
          try simp only [Act.put, List.setIfInBounds_toArray, List.set_cons_zero, List.set_cons_succ]
        rotate_left
        all_goals
          refine wpAnyH_done (by kernel_rfl) ?_ _
          clear hHeld hst
          have M12 := Lib.hid (M11.out.push (k := ky) R11.out (by rw [← HV0.out]; exact F11.out) (by rw [← HV0.out]; intro g e; injection e with e; rw [← e]; exact A11.out) MM12.out FF12.out)
          obtain ⟨nl, hnl⟩ : ∃ z, z = (H ky).length + 1 := ⟨_, rfl⟩
          obtain ⟨ls, hls⟩ : ∃ z, z = H ky ++ [(t', q)] := ⟨_, rfl⟩
          have HLS := Lib.hid (show ls.length = nl ∧ nl ≤ 151 ∧ nl ≤ i + 1 from by rw [hls, hnl, List.length_append, List.length_singleton]; have h1 := HLE.out; have h2 := HLI.out; exact ⟨rfl, by omega, by omega⟩)
          have HSM := Lib.hid (show small ls from by rw [hls, HHK.out.1.1]; exact HL2.out.sm ky)
          have HSL2 := Lib.hid (show sumGt (t' - sp) ls ≤ Li from by rw [hls, show Li = N.L from by rw [HP.out.1]; exact P7.out.pL.symm]; exact HHK.out.1.2)
          have HHN := Lib.hid (show ∀ k, updK H ky ls k = O2 k ++ T2 k from fun k => by
            by_cases e : k = ky
            · rw [e, updK_self, hls]; exact HHK.out.1.1
            · rw [updK_ne _ _ e]; exact HHK.out.2 k e)
          have RW := Lib.hid (show OwL y12 base (.slice (some ⟨gl, 0, none⟩) nl cl) ls from by
            have h1 := M12.out.get ky
            rw [if_pos rfl, updK_self, ← hls, ← hnl] at h1
            exact h1)
          rw [← hls, ← hnl] at M12
          have hlk2 := M12.out.mp.look Tryz.underlying9 Tryz.underlying54 (z := .slice none 0 0) (by kernel_rfl) (show ky.size ≤ maxLen from by have := HKY.out; unfold maxLen; omega)
          rw [if_pos rfl] at hlk2
          rw [← hnl]
          have G12 := Lib.hid (((G10.out.keep BD.out).fr F11.out (fun b hb => ⟨fun g => by have h1 := HMB.out.1 b g; have h2 := (NVB.out b hb).1; have h3 := HBS.out; omega, by have h1 := HMB.out.2.1; have h2 := (NVB.out b hb).1; have h3 := HBS.out; omega⟩)).fr FF12.out (fun b hb => ⟨fun g => by have h1 := HMB.out.1 b g; omega, by have h1 := HMB.out.2.1; omega⟩))
          have R12 := Lib.hid (((R10.out.keep BD.out).fr F11.out (fun e => by have h1 := (NVB.out rb e).1; have h2 := HMB.out.2.2; have h3 := HBS.out; omega)).fr FF12.out (fun e => by have h2 := HMB.out.2.2; omega))
          have HCC := Lib.hid (show (if (V ky).isSome then c else c + 1) ≤ i + 1 from by have := HHH.out.2.1; split <;> omega)
          obtain ⟨cc, hcc⟩ : ∃ z, z = if (V ky).isSome then c else c + 1 := ⟨_, rfl⟩
          rw [← hcc] at HCC M12
          clear hnl hls hcc G10 R10 K10 M10 M11 BD MM12 FF12 A10 K11 K12 KA R11 A11 HRW
          have kc := K13.out.rd
          obtain ⟨Tq, hTq⟩ : ∃ z, z = t' - sp := ⟨_, rfl⟩
          have eT : t' - sp = Tq := hTq.symm
          have HTq := Lib.hid hTq
          have hsp := HSB.out
          have htb := HT'.out
          have hnl := HLS.out
          have htb2 : 0 ≤ t' ∧ t' ≤ 1000000 := by have h1 := HT'.out; have h2 := HIN.out; omega
          clear hTq htb
          go_wp2
          go_loopg [91, 17] nl (fun k sj sm wq => ∃ j : Nat, j ≤ nl ∧ Hid (k = nl - j) ∧ sj = .int .i64 (j : Int) ∧ sm = .int .i64 (sumGt Tq (ls.take j)) ∧ Hid (Below y12.heap.size y12 wq))
          case atStart => exact ⟨0, Nat.zero_le _, Lib.hid rfl, rfl, rfl, Lib.hid (Below.refl _ _)⟩
          case round =>
            obtain ⟨j, hj, HKJ, rfl, rfl, HBQ⟩ := hrel
            have hsb := sumGt_bd Tq (ls.take j) (small_take HSM.out j)
            have htl : (ls.take j).length ≤ j := List.length_take_le _ _
            have kr9 := (R12.out.keep HBQ.out).rd
            by_cases hjl : j < nl
            · have hjl' : j < ls.length := by rw [HLS.out.1]; exact hjl
              have hgl : gl < y12.heap.size := RW.out.lt gl rfl
              have c0 : wr.cell? ⟨gl, j * 2, none⟩ = some (.int .i64 (ls[j]).1) := (HBQ.out.cell (p := ⟨gl, j * 2, none⟩) hgl).trans (RW.out.cell encLt_len (List.getElem?_eq_getElem hjl') (j := 0) (by omega))
              have c1 : wr.cell? ⟨gl, j * 2 + 1, none⟩ = some (.int .i64 (ls[j]).2) := (HBQ.out.cell (p := ⟨gl, j * 2 + 1, none⟩) hgl).trans (RW.out.cell encLt_len (List.getElem?_eq_getElem hjl') (j := 1) (by omega))
              have hsx := HSM.out _ (List.getElem_mem hjl')
              have s1 : sumGt Tq (ls.take (j + 1)) = sumGt Tq (ls.take j) + (if Tq < (ls[j]).1 then (ls[j]).2 else 0) := by
                rw [List.take_add_one, List.getElem?_eq_getElem hjl']; exact sumGt_snoc Tq _ _
              obtain ⟨xa, hxa⟩ : ∃ z, z = (ls[j]).1 := ⟨_, rfl⟩
              obtain ⟨xc, hxc⟩ : ∃ z, z = (ls[j]).2 := ⟨_, rfl⟩
              rw [← hxa] at c0 s1
              rw [← hxc] at c1 s1 hsx
              obtain ⟨sg, hsg⟩ : ∃ z, z = sumGt Tq (ls.take j) := ⟨_, rfl⟩
              rw [← hsg] at s1 hsb ⊢
              have hji2 : (j : Int) < (nl : Int) := by omega
              have hb1 : sg ≤ 100000 := by omega
              have S12 := Lib.hid s1
              have hjb2 : (j : Int) ≤ 151 := by omega
              clear hxa hxc hsg s1 htl hgl hjl'
              have d1 : decide (Tq < xa) = true ∨ decide (Tq < xa) = false := by cases decide (Tq < xa) <;> simp
              rcases d1 with d1 | d1
              all_goals
                go_wp2
                go_roundg (nl - (j + 1))
                case measure => have := HKJ.out; omega
                case rel =>
                  have s12 := S12.out
                  simp only [decide_eq_true_eq, decide_eq_false_iff_not] at d1
                  first | rw [if_pos d1] at s12 | rw [if_neg d1] at s12
                  refine ⟨j + 1, by omega, Lib.hid rfl, by go_num, ?_, Lib.hid (below_in HBQ.out ((Below.refl _ _).alloc (Nat.le_refl _) _))⟩
                  rw [s12]; try simp
            · have hje : j = nl := by omega
              have hfull : ls.take j = ls := List.take_of_length_le (by rw [HLS.out.1]; omega)
              rw [hfull] at hsb ⊢
              obtain ⟨sg, hsg⟩ : ∃ z, z = sumGt Tq ls := ⟨_, rfl⟩
              rw [← hsg] at hsb ⊢
              have dd1 : decide (Li < sg) = false := by rw [decide_eq_false_iff_not]; have := HSL2.out; rw [← HTq.out, ← hsg] at this; omega
              have hjx : ¬ (j : Int) < (nl : Int) := by omega
              have ti1 : (i : Int) + 1 ≤ 1000 := by have h1 := HT'.out; have h2 := HIN.out; omega
              clear hsg hfull htl hsb
              go_wp2
              go_roundg (n2 - (i + 1))
              case measure => have := HKK.out; have := HIN.out; omega
              case rel => exact ⟨i + 1, t', s2, P2, O2, T2, updK H ky ls, cc, _, HIN.out, Lib.hid rfl, by go_num, rfl, Lib.hid (by have := HT'.out; omega), Lib.hid ((G12.out.keep HBQ.out).mono (by have := HT'.out; omega) (by omega)), Lib.hid (R12.out.keep HBQ.out), HL2, Lib.hid (M12.out.keep HBQ.out), Lib.hid ⟨HHN.out, HCC.out, fun k => by
                  by_cases e : k = ky
                  · rw [e, updK_self, HLS.out.1]; exact HLS.out.2.2
                  · rw [updK_ne _ _ e]; have := HHH.out.2.2 k; omega⟩⟩
      · have hie : i = n2 := by omega
        subst hie
        go_wp2
        go_ret
        exact ⟨rfl, HG.out.bl⟩
end Go.Proofs.YtbgcpljekcagiaaGreat
