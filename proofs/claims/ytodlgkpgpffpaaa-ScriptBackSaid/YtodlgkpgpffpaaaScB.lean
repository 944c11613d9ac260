/- The contracts of layer 19 (script): bytes, later. -/
import Derived.Test.YtodlgkpgpffpaaaSc
namespace Go.Proofs.Ytodlgkpgpffpaaa
open Go.ChangeShapes Go.WideShapes Go.ChangeAt Go.RowKit
theorem own_fr {w w' : World} {F : Nat → Prop} {base : Nat} {e : TypeId} {size n : Nat} {v : Value} {xs : List Value} (h : w.ownsRow base e size v n xs) (hf : Fr F w w') (hF : ∀ k, F k → k < base) : w'.ownsRow base e size v n xs := by
  refine ⟨h.1, ?_⟩
  rcases h.2 with h0 | ⟨g, cap, cur, hv, hb, hg, hr⟩
  · exact .inl h0
  · exact .inr ⟨g, cap, cur, hv, hb, (hf.block g (lt_of_block hg) (fun e => by have := hF g e; omega)).trans hg, hr⟩
theorem fr_grown {a w w' : World} {F : Nat → Prop} {v : Value} (h : Fr F a w) (hg : w.grownBy w' v.ownBlock) (hv : ∀ g, v.ownBlock = some g → a.heap.size ≤ g) : Fr F a w' :=
  ⟨hg.os.trans h.os, hg.tape.trans h.tape, hg.output.trans h.output, Nat.le_trans h.size hg.size, fun k hk hF => (hg.block k (Nat.lt_of_lt_of_le hk h.size) (fun e => by have := hv k e.symm; omega)).trans (h.block k hk hF)⟩
theorem own_base {w : World} {base : Nat} {e : TypeId} {size n : Nat} {v : Value} {xs : List Value} (h : w.ownsRow base e size v n xs) : ∀ g, v.ownBlock = some g → base ≤ g := by
  intro g hg
  rcases h.2 with ⟨rfl, _⟩ | ⟨g', cap, cur, rfl, hb, _⟩
  · cases hg
  · have : g' = g := by simpa [Value.ownBlock] using hg
    omega
theorem u64_mask12 (n : Int) (h : 0 ≤ n ∧ n < 65536) : bits .and .u64 n 4095 = n % 4096 := by
  have hm : (BitVec.ofInt 64 4095).toNat = 2 ^ 12 - 1 := by decide
  have key : (BitVec.ofInt 64 n &&& BitVec.ofInt 64 4095).toNat = (n % ((2 ^ 64 : Nat) : Int)).toNat % 2 ^ 12 := by
    rw [BitVec.toNat_and, BitVec.toNat_ofInt, hm, Nat.and_two_pow_sub_one_eq_mod]
  show IntKind.u64.wrap ((BitVec.ofInt 64 n &&& BitVec.ofInt 64 4095).toNat : Nat) = n % 4096
  rw [key, IntKind.wrap_u64]
  omega
theorem u64_mask2 (n : Int) (h : 0 ≤ n ∧ n < 65536) : bits .and .u64 n 3 = n % 4 := by
  have hm : (BitVec.ofInt 64 3).toNat = 2 ^ 2 - 1 := by decide
  have key : (BitVec.ofInt 64 n &&& BitVec.ofInt 64 3).toNat = (n % ((2 ^ 64 : Nat) : Int)).toNat % 2 ^ 2 := by
    rw [BitVec.toNat_and, BitVec.toNat_ofInt, hm, Nat.and_two_pow_sub_one_eq_mod]
  show IntKind.u64.wrap ((BitVec.ofInt 64 n &&& BitVec.ofInt 64 3).toNat : Nat) = n % 4
  rw [key, IntKind.wrap_u64]
  omega
theorem two_four (k : Int) (h : 0 ≤ k) : (2 : Int) ^ (2 * k).toNat = 4 ^ k.toNat := by
  rw [show (2 * k).toNat = 2 * k.toNat by omega, Int.pow_mul]
  rfl
theorem later_any (now code : Int) (h : 0 ≤ now ∧ now ≤ 9223372036854775807) (hc : 0 ≤ code ∧ code < 65536) (w : World) :
    Calls Try.prog 14 #[.int .i64 now, .int .u64 code] w fun e w' => e = .returned (.int .i64 (laterZ now code)) ∧ w' = w := by
  have hb := by_bd code hc
  have hb' := Lib.hid hb
  obtain ⟨x, hx⟩ : ∃ x, x = code % 4096 := ⟨_, rfl⟩
  have e1 : bits .and .u64 code 4095 = x := by rw [hx]; exact u64_mask12 code hc
  have hx1 : 0 ≤ x ∧ x ≤ 4095 := by omega
  obtain ⟨K, hK⟩ : ∃ K, K = (2 : Int) ^ (2 * (code / 4096)).toNat := ⟨_, rfl⟩
  have e2 : (2 : Int) ^ (2 * (code / 4096)).toNat = K := hK.symm
  obtain ⟨Y, hY⟩ : ∃ Y, Y = byZ code := ⟨_, rfl⟩
  have hxk : x * K = Y := by rw [hx, hK, hY, byZ, two_four _ (by omega)]
  rw [← hY] at hb
  have e3 : wrap64 (x * K) = Y := by rw [hxk]; unfold wrap64; omega
  have HL := Lib.hid (show laterZ now code = if 9223372036854775807 - now < Y then 9223372036854775807 else now + Y from by rw [hY]; rfl)
  clear hx hK hY hxk
  go_enter Try.func14, Try.ntmps14
  go_wp2
  · go_ret
    refine ⟨?_, rfl⟩
    rw [HL.out, if_pos (by omega)]
    rfl
  · go_ret
    refine ⟨?_, rfl⟩
    rw [HL.out, if_neg (by omega)]
    rfl
theorem info_u8 : (Try.prog.info? 5).map (fun i => (i.zero, i.size, i.bytes)) = some (some (.int .u8 0), 1, 1) := by kernel_rfl
theorem run_app0 {w : World} {A : Option Addr} {m n c c' : Nat} {ty : TypeId} {zs : List Int} (h : RdI w .u8 A n c zs) (hm : m ≤ n) (hb : m ≤ 140737488355328) :
    ∃ A' cc w', (Builtin.append_ #[28, 28] ty #[.slice none 0 0, .slice A m c']).run Try.prog w = .ok (.slice A' m cc) w' ∧ w.grownBy w' none := by
  obtain ⟨i0, hi0, hz0, hz1, hz2⟩ := info_parts info_u8
  have ht : Try.prog.underlying 28 = some (.slice 5) := by rfl
  rcases Nat.eq_zero_or_pos m with h0 | h0
  · subst h0
    refine ⟨none, 0, w, ?_, ⟨rfl, rfl, rfl, Nat.le_refl _, fun _ _ _ => rfl⟩⟩
    cases A <;> simp [Builtin.append_, run_underlying ht, sizeOf, typeInfo, hi0, Builtin.lenOf, Builtin.firstCells, loadCells, loadCellsFrom]
  · obtain ⟨b, off, rfl, hlt, hcs⟩ := h.at_ (by omega)
    have hl := h.len
    obtain ⟨v', w', hr, h2, h3, _⟩ := run_append_own_at (P := Try.prog) w w.heap.size 28 ty 5 i0 (.int .u8 0) 1 1 ht hi0 hz0 hz1 hz2 rfl (by omega) (.slice none 0 0) 0 [] (World.ownsRow_nil _ _ _ _) ⟨b, off, none⟩ m c' ((zs.take m).map (Value.int .u8)) (by rw [List.length_map, List.length_take]; omega)
      (fun j u hj => by
        have hjm : j < m := by
          rcases Nat.lt_or_ge j m with h | h
          · exact h
          · rw [List.getElem?_eq_none (by rw [List.length_map, List.length_take]; omega)] at hj; cases hj
        rw [List.getElem?_map, List.getElem?_take_of_lt hjm] at hj
        have e : ((⟨b, off, none⟩ : Addr).add j) = ⟨b, off + j, none⟩ := by simp [Addr.add]
        rw [e, hcs j (by omega), ← hj]
        simp [List.getD, show j < zs.length by omega]) (fun u hu => by
        obtain ⟨z, _, rfl⟩ := List.mem_map.1 hu
        rfl) (by unfold maxLen; omega) (by omega) (Nat.le_refl _)
    obtain ⟨g, cap, rfl, _, _⟩ := h2.form (by omega)
    exact ⟨some ⟨g, 0, none⟩, cap, w', by rw [hr, Nat.zero_add], h3⟩
theorem wpList_app0 {w : World} {ops : Array Oper} {rest : List Oper} {o : Oper} {a : Act} {Q : Exit → Act → World → Prop} (hgd : o.guard = none) (s x : Operand)
    (ho : o.op = .call { callee := .builtin .append, args := #[s, x], argTypes := #[28, 28] }) (hs : a.eval s = .slice none 0 0) {A : Option Addr} {m n c c' : Nat} {zs : List Int} (hx : a.eval x = .slice A m c')
    (hr : RdI w .u8 A n c zs) (hm : m ≤ n) (hb : m ≤ 140737488355328)
    (h : ∀ A' cc w', w.grownBy w' none → wpList Try.prog ops Q rest (a.put o.dst (.slice A' m cc)) w') : wpList Try.prog ops Q (o :: rest) a w := by
  refine wpList_plain hgd fun K hK => ?_
  obtain ⟨A', cc, w', hrun, hg⟩ := run_app0 (ty := o.type) (c' := c') hr hm hb
  unfold Oper.wp execOp
  simp only [ho, resolve, invoke, builtin, Sem.run_bind, Sem.run_pure, Result.andThen_ok, List.map_toArray, List.map_cons, List.map_nil, hs, hx, hrun]
  exact hK _ _ (h A' cc w' hg)
theorem fr_grow {F : Nat → Prop} {a w w' : World} (h : Fr F a w) (hg : w.grownBy w' none) : Fr F a w' := fr_grown (v := .slice none 0 0) h hg (fun g e => by cases e)
theorem bytes_any (b d : Nat) (q : List Int) (nn : Nat) (hnn : nn ≤ 255) (w : World) (h : SrcAt w b d q) (hdb : d ≠ b) :
    Calls Try.prog 15 #[.pointer (some ⟨b, 0, none⟩), .int .i64 (nn : Int)] w fun e w' => (∃ A c, e = .returned (.slice A (min nn q.length) c)) ∧ SrcAt w' b d (q.drop (min nn q.length)) ∧ Fr (fun k => k = b) w w' := by
  obtain ⟨A, n, c, h1, h2, h3⟩ := h
  have hl := h2.len
  obtain ⟨m, hm⟩ : ∃ m, m = min nn q.length := ⟨_, rfl⟩
  rw [← hm]
  have k := h1.rd
  have hmx := h2.max
  unfold maxLen at hmx
  have hcp := h2.cap
  have H1 := Lib.hid h1
  have H2 := Lib.hid h2
  have HD := Lib.hid hdb
  have HM : m ≤ n := by omega
  have HB : m ≤ 255 := by omega
  have hcase : (n < nn ∧ n = m) ∨ (nn ≤ n ∧ nn = m) := by omega
  have hdr : m = n → q.drop m = [] := fun h => List.drop_eq_nil_of_le (by omega)
  have HDR := Lib.hid hdr
  clear h1 hl hm hdb hdr
  have H3 := Lib.hid h3
  clear h2 h3
  rcases hcase with ⟨hlt, rfl⟩ | ⟨hge, rfl⟩
  · go_enter Try.func15, Try.ntmps15
    go_wp2_with (at_builtin; refine wpList_app0 (by rfl) _ _ (by rfl) (by rfl) (by rfl) H2.out (by omega) (by omega) ?_; intro A' cc w1 hg; have F1 := Lib.hid (fr_grow (F := fun k => k = b) (Fr.refl _ w) hg); have B1 := Lib.hid (H1.out.fr (F := fun _ => False) (fr_grow (Fr.refl _ w) hg) id); have k1 := B1.out.rd; have k0 := B1.out.wr; clear hg)
    all_goals
      go_ret
      have hl := lt_of_block B1.out
      rw [setCell_obj B1.out]
      refine ⟨⟨A', cc, rfl⟩, ?_, F1.out.trans (Fr.setObj (F := fun k => k = b) (Fr.refl _ _) rfl _)⟩
      exact ⟨_, 0, _, setObj_at hl _, by rw [HDR.out (by first | exact trivial | rfl)]; exact rdI_none (by unfold maxLen; omega), fun h => absurd h (by omega)⟩
  · go_enter Try.func15, Try.ntmps15
    by_cases hcn : c = nn
    · subst hcn
      have hnc : n = c := by omega
      subst hnc
      go_wp2_with (at_builtin; refine wpList_app0 (by rfl) _ _ (by rfl) (by rfl) (by rfl) H2.out (by omega) (by omega) ?_; intro A' cc w1 hg; have F1 := Lib.hid (fr_grow (F := fun k => k = b) (Fr.refl _ w) hg); have B1 := Lib.hid (H1.out.fr (F := fun _ => False) (fr_grow (Fr.refl _ w) hg) id); have k1 := B1.out.rd; have k0 := B1.out.wr; clear hg)
      go_ret
      have hl := lt_of_block B1.out
      rw [setCell_obj B1.out]
      refine ⟨⟨A', cc, rfl⟩, ?_, F1.out.trans (Fr.setObj (F := fun k => k = b) (Fr.refl _ _) rfl _)⟩
      exact ⟨_, 0, _, setObj_at hl _, by rw [HDR.out (by first | exact trivial | rfl)]; exact rdI_none (by unfold maxLen; omega), fun h => absurd h (by omega)⟩
    · go_wp2_with (at_builtin; refine wpList_app0 (by rfl) _ _ (by rfl) (by rfl) (by rfl) H2.out (by omega) (by omega) ?_; intro A' cc w1 hg; have F1 := Lib.hid (fr_grow (F := fun k => k = b) (Fr.refl _ w) hg); have B1 := Lib.hid (H1.out.fr (F := fun _ => False) (fr_grow (Fr.refl _ w) hg) id); have k1 := B1.out.rd; have k0 := B1.out.wr; clear hg)
      go_ret
      have hl := lt_of_block B1.out
      rw [setCell_obj B1.out]
      refine ⟨⟨A', cc, rfl⟩, ?_, F1.out.trans (Fr.setObj (F := fun k => k = b) (Fr.refl _ _) rfl _)⟩
      rcases Nat.eq_zero_or_pos (n - nn) with h0 | h0
      · refine ⟨_, _, _, setObj_at hl _, ?_, fun h => absurd h (by omega)⟩
        rw [HDR.out (by omega), h0]
        exact rdI_none (by unfold maxLen; omega)
      · obtain ⟨off, rfl⟩ := H3.out (by omega)
        have E := rdI_end H2.out HM
        have e : Option.map (fun x : Addr => x.add nn) (some ⟨d, off, none⟩) = some ⟨d, off + nn, none⟩ := by simp [Addr.add]
        rw [e]
        refine ⟨some ⟨d, off + nn, none⟩, _, _, setObj_at hl _, rdI_fr (rdI_fr E (fun _ => ⟨_, rfl⟩) F1.out HD.out) (fun _ => ⟨_, rfl⟩) (Fr.setObj (F := fun k => k = b) (Fr.refl _ _) rfl _) HD.out, fun _ => ⟨_, rfl⟩⟩
end Go.Proofs.Ytodlgkpgpffpaaa
