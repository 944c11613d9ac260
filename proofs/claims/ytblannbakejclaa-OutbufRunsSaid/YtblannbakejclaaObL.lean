/- The laws of layer 15 (outbuf), walked: byte by byte. -/
import Derived.Test.YtblannbakejclaaObF
import Derived.Test.YtblannbakejclaaBits
namespace Go.Proofs.Ytblannbakejclaa
open Go.ChangeShapes Go.WideShapes Go.ChangeAt Go.RowKit
theorem rd_at {w W : World} {k : IntKind} {n c bs off : Nat} {zs : List Int} (h : RdI w k (some ⟨bs, off, none⟩) n c zs) (hb : Below w.heap.size w W) {i : Nat} (hi : i < n) : W.cell? ⟨bs, off + i, none⟩ = some (.int k (zs.getD i 0)) := by
  obtain ⟨b', off', e, hlt, hc⟩ := h.at_ (by omega)
  injection e with e; injection e with e1 e2
  subst e1 e2
  exact (hb.cell (p := ⟨bs, off + i, none⟩) hlt).trans (hc i hi)
theorem rd_ne {w : World} {k : IntKind} {A : Option Addr} {n c b g : Nat} {zs : List Int} (h : RdI w k A n c zs) (hb : w.heap.size ≤ b) (hg : w.heap.size ≤ g) : ∀ bs off, 0 < n → A = some ⟨bs, off, none⟩ → bs ≠ b ∧ bs ≠ g := by
  intro bs off h0 he
  obtain ⟨b', off', e, hlt, _⟩ := h.at_ h0
  rw [he] at e
  injection e with e; injection e with e1 e2
  omega
theorem take_snoc (zs : List Int) (i : Nat) (h : i < zs.length) : zs.take (i + 1) = zs.take i ++ [zs.getD i 0] := by
  rw [List.take_add_one, List.getElem?_eq_getElem h]; simp [List.getD, h]
theorem take_drop_one (zs : List Int) (i m : Nat) (h : i < m) (hm : m ≤ zs.length) : ((zs.take m).drop i).take 1 = [zs.getD i 0] ∧ ((zs.take m).drop i).drop 1 = (zs.take m).drop (i + 1) := by
  refine ⟨?_, by rw [List.drop_drop]⟩
  rw [List.drop_eq_getElem_cons (by rw [List.length_take]; omega)]
  simp [List.getD, show i < zs.length by omega]
/-- what the frame of a Buf is. -/
abbrev obF (b g : Nat) : Nat → Prop := fun k => k = b ∨ k = g
set_option maxHeartbeats 2000000 in
set_option maxRecDepth 100000 in
theorem ones_law (w : World) (a : Int) (A : Option Addr) (n c : Nat) (zs : List Int) (ha : -9223372036854775808 ≤ a ∧ a ≤ 9223372036854775807) (hr : RdI w .u8 A n c zs) :
    Calls Try.prog 7 #[.int .i64 a, .slice A n c] w fun e w' => e = .returned (.bool true) ∧ Below w.heap.size w w' := by
  by_cases hn : (200 : Int) < (n : Int)
  · have hmx := hr.max
    unfold maxLen at hmx
    clear hr
    go_enter Try.func7, Try.ntmps7
    go_wp2_with (go_at_call 8; refine (fit_any _).mono ?_; rintro e w1 ⟨rfl, b1⟩)
    go_ret
    exact ⟨rfl, b1⟩
  obtain ⟨k, hk⟩ : ∃ k : Nat, a % 64 = (k : Int) := ⟨(a % 64).toNat, by omega⟩
  have e1 : bits .and .i64 a 63 = (k : Int) := by rw [i64_mask6, hk]
  obtain ⟨sz, hsz⟩ : ∃ sz : Nat, sz = k + 1 := ⟨_, rfl⟩
  have es : (k : Int) + 1 = (sz : Int) := by omega
  have hszb : 1 ≤ sz ∧ sz ≤ 64 := by omega
  have kb : (k : Int) ≤ 63 := by omega
  have hn2 : (n : Int) ≤ 200 := by omega
  have hlen := hr.len
  have c1 := fun w => new_yes sz hszb.1 (by omega) w
  have C1 := Lib.hid c1
  have HR := Lib.hid hr
  have HL := Lib.hid hlen
  have HZ := Lib.hid hszb
  have HN := Lib.hid hn2
  clear c1 hr hlen hk hn ha hsz hszb
  go_enter Try.func7, Try.ntmps7
  go_wp2_with (first
    | (go_at_call 8; refine (fit_any _).mono ?_; rintro e w1 ⟨rfl, b1⟩; have B1 := Lib.hid b1; clear b1)
    | (go_at_call 9; ((with_reducible refine (C1.out _).mono ?_); rintro e w2 ⟨rfl, hb, b2⟩; have HB := Lib.hid hb; have B2 := Lib.hid (below_trans' B1.out b2); clear hb b2)))
  have OB := Lib.hid (show w.heap.size ≤ w1.heap.size + 1 ∧ w.heap.size ≤ w1.heap.size by have := B1.out.size; omega)
  generalize w1.heap.size + 1 = ob at HB OB ⊢
  generalize w1.heap.size = g at HB OB ⊢
  clear B1
  go_loopg [23] n (fun k si wr => ∃ i : Nat, i ≤ n ∧ k = n - i ∧ si = .int .i64 (i : Int) ∧ BufAt wr ob g sz (zs.take (min i sz)) ∧ Fr (obF ob g) w2 wr)
  case atStart => exact ⟨0, by omega, by omega, rfl, by rw [Nat.zero_min, List.take_zero]; exact HB.out, Fr.refl _ _⟩
  case round =>
    obtain ⟨i, hi, hkk, rfl, hb, hf⟩ := hrel
    have HK := Lib.hid hkk
    have HF := Lib.hid hf
    have HBR := Lib.hid hb
    have BW := Lib.hid (B2.out.trans (hf.below B2.out.size (fun k hk => by have := OB.out; omega)))
    clear hkk hf hb
    by_cases hin : i < n
    · obtain ⟨bs, off, rfl, hlt, _⟩ := HR.out.at_ (by omega)
      have q0 := rd_at HR.out BW.out hin
      obtain ⟨z, hz⟩ : ∃ z, z = zs.getD i 0 := ⟨_, rfl⟩
      rw [← hz] at q0
      have hzw : (Lit.int .u8 z).wf = true := by rw [hz]; exact HR.out.wf_at hin
      have HZW := Lib.hid hzw
      have HZE := Lib.hid hz
      clear hz hzw
      go_wp2_with (fail)
      obtain ⟨x1, ex, nx, bx, sx⟩ := box_new wr #[.int .u8 z] 5
      rw [ex]
      have r1 : RdI x1 .u8 (some ⟨wr.heap.size, 0, none⟩) 1 1 [z] := rd_blk (zs := [z]) nx rfl (by decide) (by simpa using HZW.out)
      have h1 := HBR.out.keep bx
      have hl := HBR.out.lt
      by_cases his : i < sz
      · have t1 : decide (i < sz) = true := by simpa using his
        have t2 : decide ((i : Int) < (sz : Int)) = true := by simpa using his
        rw [Nat.min_eq_left (by omega)] at h1
        refine (put_yes _ _ sz _ _ 1 1 [z] x1 h1 r1 (by rw [List.length_take, HL.out]; omega) (fun bs off _ he => by injection he with he; injection he with he; omega)).mono ?_
        rintro e w3 ⟨rfl, hb3, f3⟩
        have H3 := Lib.hid hb3
        have F3 := Lib.hid (HF.out.trans ((Fr.of_below (F := obF ob g) bx).trans f3))
        clear r1 h1 nx bx sx ex f3 hl hb3
        go_wp2
        go_roundg (n - (i + 1))
        case measure => have := HK.out; omega
        case rel => exact ⟨i + 1, by omega, by omega, by go_num, by rw [Nat.min_eq_left (by omega), take_snoc _ _ (by have := HL.out; omega), ← HZE.out]; exact H3.out, F3.out⟩
      · have t1 : decide (i < sz) = false := by simpa using his
        have t2 : decide ((i : Int) < (sz : Int)) = false := by simpa using his
        rw [Nat.min_eq_right (by omega)] at h1
        refine (put_no _ _ sz _ _ 1 1 [z] x1 h1 r1 (by rw [List.length_take, HL.out]; omega)).mono ?_
        rintro e w3 ⟨rfl, b3⟩
        have H3 := Lib.hid (h1.keep b3)
        have F3 := Lib.hid (HF.out.trans ((Fr.of_below (F := obF ob g) bx).trans (Fr.of_below b3)))
        clear r1 h1 nx bx sx ex b3 hl
        go_wp2
        go_roundg (n - (i + 1))
        case measure => have := HK.out; omega
        case rel => exact ⟨i + 1, by omega, by omega, by go_num, by rw [Nat.min_eq_right (by omega)]; exact H3.out, F3.out⟩
    · have hie : n = i := by omega
      subst hie
      obtain ⟨mn, hmn⟩ : ∃ mn, mn = min n sz := ⟨_, rfl⟩
      have hbr := HBR.out
      rw [← hmn] at hbr
      have hql : (zs.take mn).length = mn := by rw [List.length_take, HL.out]; omega
      have cl := len_any _ _ _ _ wr hbr
      have cr := room_any _ _ _ _ wr hbr
      rw [hql] at cl cr
      have HBN := Lib.hid hbr
      have hmm : ((n < sz) = True ∧ mn = n) ∨ ((n < sz) = False ∧ mn = sz) := by
        by_cases h : n < sz
        · exact Or.inl ⟨eq_true h, by omega⟩
        · exact Or.inr ⟨eq_false h, by omega⟩
      have CL := Lib.hid cl
      have CR := Lib.hid cr
      have HMN := Lib.hid hmn
      have HQL := Lib.hid hql
      have hmb : (mn : Int) ≤ 64 := by have := HZ.out; omega
      have ed : (sz : Int) - (mn : Int) = ((sz - mn : Nat) : Int) := by omega
      have hszi : (sz : Int) ≤ 64 := by have := HZ.out; omega
      have HBB := Lib.hid (show mn ≤ n ∧ mn ≤ zs.length from by have := HL.out; have := HN.out; omega)
      have HJN := Lib.hid (fun (j : Nat) (h : j < mn) => (show j < n from by have := HBB.out; omega))
      have HJL := Lib.hid (fun (j : Nat) (h : j < mn) => (show (j : Int) < (n : Int) from by have := HBB.out; omega))
      clear cl cr hbr hmn hql HBR HB
      rcases hmm with ⟨tm, em⟩ | ⟨tm, em⟩
      all_goals
        subst em
        go_wp2_with (first
          | (go_at_call 12; ((with_reducible refine CL.out.mono ?_); rintro e w4 ⟨rfl, rfl⟩))
          | (go_at_call 13; ((with_reducible refine CR.out.mono ?_); rintro e w5 ⟨rfl, b5⟩; have H5 := Lib.hid (HBN.out.keep b5); have F5 := Lib.hid (HF.out.trans (Fr.of_below (F := obF ob g) b5)); clear b5)))
        go_loopg [54] mn (fun k si wq => ∃ j : Nat, j ≤ mn ∧ k = mn - j ∧ si = .int .i64 (j : Int) ∧ BufAt wq ob g _ ((zs.take mn).drop j) ∧ Fr (obF ob g) w2 wq)
        case atStart => exact ⟨0, by omega, by omega, rfl, by rw [List.drop_zero]; exact H5.out, F5.out⟩
        case round =>
          obtain ⟨j, hj, hkk, rfl, hb, hf⟩ := hrel
          have HK2 := Lib.hid hkk
          have HF2 := Lib.hid hf
          have HB2 := Lib.hid hb
          have BW2 := Lib.hid (B2.out.trans (hf.below B2.out.size (fun k hk => by have := OB.out; omega)))
          clear hkk hf hb
          by_cases hjn : j < mn
          · obtain ⟨bs, off, rfl, hlt, _⟩ := HR.out.at_ (by have := HBB.out; omega)
            have hq := take_drop_one zs j mn hjn HBB.out.2
            have hz := take_any ob g _ _ 1 1 wr HB2.out (by have := HBB.out; rw [List.length_drop, List.length_take]; omega)
            obtain ⟨z, hze⟩ : ∃ z, z = zs.getD j 0 := ⟨_, rfl⟩
            have q0 := fun {W} (hb : Below w.heap.size w W) => rd_at (W := W) HR.out hb (HJN.out j hjn)
            rw [← hze] at hq q0
            unfold Took at hz
            rw [hq.1, hq.2] at hz
            have CT := Lib.hid hz
            have Q0 := Lib.hid (fun W hb => q0 (W := W) hb)
            have hjl := HJL.out j hjn
            have hj0 : (0 : Int) ≤ (j : Int) := by omega
            clear hz hze hq q0
            go_upto_region 20 with (first
              | (go_at_call 10; ((refine CT.out.mono ?_); rintro e w6 ⟨s, rfl, ns, hb6, f6, hs1, hs2, hs3⟩))
              )
            have F6 := Lib.hid (HF2.out.trans f6)
            have q1 := Q0.out _ (B2.out.trans ((HF2.out.trans f6).below B2.out.size (fun k hk => by have := OB.out; omega)))
            have s1 : ∀ i, w6.cell? ⟨s, i, none⟩ = _ := ns.rd
            have H6 := Lib.hid hb6
            clear f6 hb6 ns
            go_quiet (fail)
            go_wp2
            go_roundg (mn - (j + 1))
            case measure => have := HK2.out; omega
            case rel => exact ⟨j + 1, by omega, by omega, by go_num, H6.out.keep (below_draws (Below.refl _ _) _), F6.out.drewN _⟩
          · have hje : j = mn := by omega
            subst hje
            have hemp : (zs.take j).drop j = [] := List.drop_eq_nil_of_le (by rw [List.length_take]; omega)
            have hz := take_any ob g _ _ 1 0 wr HB2.out (by rw [hemp]; rfl)
            unfold Took at hz
            have CT := Lib.hid hz
            clear hz hemp
            go_wp2_with (go_at_call 10; ((refine CT.out.mono ?_); rintro e w6 ⟨s, rfl, ns, hb6, f6, hs1, hs2, hs3⟩))
            go_ret
            exact ⟨rfl, B2.out.trans ((HF2.out.trans f6).below B2.out.size (fun k hk => by have := OB.out; omega))⟩
end Go.Proofs.Ytblannbakejclaa
