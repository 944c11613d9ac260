/- The laws of layer 19 (script): acts come back. -/
import Derived.Test.YtodlgkpgpffpaaaScX
import Derived.Test.YtodlgkpgpffpaaaScU
import Derived.Test.YtodlgkpgpffpaaaScC
namespace Go.Proofs.Ytodlgkpgpffpaaa
open Go.ChangeShapes Go.WideShapes Go.ChangeAt Go.RowKit
theorem rdA_of {w : World} {base cap n : Nat} {A : Option Addr} {ls : List ActV} {cs : List ActC} (h : ActsAt w base A cap ls) (hh : HoldsL w ls cs) (hn : ls.length = n) : RdA w A n cap ls cs := by
  subst hn
  refine ⟨rfl, hh.1.symm, h.cap, h.max, fun h0 => ?_, hh.2⟩
  obtain ⟨g, e, _, hlt, hc⟩ := h.at_ h0
  exact ⟨g, 0, e, hlt, fun j hj i hi => by rw [Nat.zero_add]; exact hc j hj i hi⟩
theorem HeldL.holds {w : World} {base : Nat} {row : Option Nat} : ∀ {ls : List ActV} {cs : List ActC}, HeldL w base row ls cs → HoldsL w ls cs
  | [], [], _ => ⟨rfl, fun j h => absurd h (by simp)⟩
  | a :: l, c :: r, h => by
    have ih := HeldL.holds h.2
    refine ⟨by simp [ih.1], fun j h1 h2 => ?_⟩
    match j, h1, h2 with
    | 0, _, _ => exact h.1.hold
    | j + 1, h1, h2 => exact ih.2 j (by simpa using h1) (by simpa using h2)
theorem encC_min : ∀ (l : List ActC) (now : Int), l.length ≤ (encC l now).length
  | [], _ => by simp
  | a :: l, now => by
    have := encC_min l a.clock
    rw [encC, List.length_append, List.length_cons, encA, List.length_cons]; omega
theorem encC_byt : ∀ (l : List ActC) (now : Int), tameC l now → (∀ a ∈ l, byt a.data ∧ 0 ≤ a.n ∧ a.n ≤ 255) → byt (encC l now)
  | [], _, _, _ => fun z h => by cases h
  | a :: l, now, h, hd => fun z hz => by
    rw [encC, List.mem_append] at hz
    rcases hz with hz | hz
    · exact encA_byt h.1 (hd a (by simp)).1 (hd a (by simp)).2 z hz
    · exact encC_byt l a.clock h.2 (fun b hb => hd b (by simp [hb])) z hz
theorem tameL_mem : ∀ (l : List ActC) (now : Int) (P : ActC → Prop), (∀ a ∈ l, ∀ now, P (tameA now a)) → ∀ a ∈ tameL now l, P a
  | [], _, _, _ => fun a h => by cases h
  | b :: l, now, P, h => fun a ha => by
    rw [tameL, List.mem_cons] at ha
    rcases ha with rfl | ha
    · exact h b (by simp) now
    · exact tameL_mem l _ P (fun a ha => h a (by simp [ha])) a ha
theorem tameA_byt (now : Int) (a : ActC) (h : byt a.data) : byt (tameA now a).data ∧ 0 ≤ (tameA now a).n ∧ (tameA now a).n ≤ 255 := by
  simp only [tameA]
  refine ⟨?_, by split <;> omega, by split <;> omega⟩
  split
  · exact fun z hz => h z (List.mem_of_mem_take hz)
  · exact fun z hz => by cases hz
theorem RdA.wf {w : World} {A : Option Addr} {n c : Nat} {ls : List ActV} {cs : List ActC} (h : RdA w A n c ls cs) : ∀ a ∈ cs, byt a.data ∧ ∀ s ∈ a.seeds, 0 ≤ s ∧ s < 18446744073709551616 := by
  intro a ha
  obtain ⟨j, hj, rfl⟩ := List.getElem_of_mem ha
  have hh := h.hold j (by rw [h.len, ← h.lenc]; exact hj) hj
  refine ⟨fun z hz => wf_u8 (hh.data.wf z hz), fun s hs => ?_⟩
  have := bounds_u64 (hh.seeds.wf s hs)
  omega
set_option maxHeartbeats 2000000 in
theorem back_law (w : World) (A : Option Addr) (n c : Nat) (ls : List ActV) (cs : List ActC) (hr : RdA w A n c ls cs) (hi : ∀ a ∈ cs, i64A a) :
    Calls Try.prog 3 #[.slice A n c] w fun e w' => e = .returned (.bool true) ∧ Below w.heap.size w w' := by
  have HR := Lib.hid hr
  by_cases hl : lightP ls
  · have CL := Lib.hid (fun w' (hb : Below w.heap.size w w') => light_any w' A n c ls cs true (by simp [hl]) (hr.below hb))
    have hn : n ≤ 100 := by have := hl.1; have := hr.len; omega
    have CT := Lib.hid (fun w' (hb : Below w.heap.size w w') => tame_any w' A n c ls cs (hr.below hb) hn hi)
    have hwf := hr.wf
    have htm := tameL_tame cs 0 (fun a ha => (hwf a ha).2) (by omega) (by have := hr.lenc; omega)
    have hnn := tameL_mem cs 0 (fun a => byt a.data ∧ 0 ≤ a.n ∧ a.n ≤ 255) (fun a ha now => tameA_byt now a (hwf a ha).1)
    have HTL := Lib.hid (show (tameL 0 cs).length = n from by rw [tameL_length]; exact hr.lenc)
    have hde := dec_enc (tameL 0 cs) (encC (tameL 0 cs) 0).length 0 htm (encC_min _ _)
    have hby := encC_byt _ _ htm hnn
    have hle := encC_length _ _ htm
    obtain ⟨ts, hts⟩ : ∃ ts, ts = tameL 0 cs := ⟨_, rfl⟩
    rw [← hts] at htm hnn HTL hde hby hle
    obtain ⟨bs, hbs⟩ : ∃ bs, bs = encC ts 0 := ⟨_, rfl⟩
    rw [← hbs] at hde hby hle
    have HTM := Lib.hid htm
    have HNN := Lib.hid hnn
    have HDE := Lib.hid hde
    have HBY := Lib.hid hby
    have HLE := Lib.hid (show bs.length ≤ 30000 from by have := HTL.out; omega)
    have HTS := Lib.hid hts
    have HBS := Lib.hid hbs
    clear hl hr hi hwf htm hnn hde hby hle hts hbs
    go_enter Try.func3, Try.ntmps3
    go_wp2_with (first
      | (go_at_call 7; refine (fit_any _).mono ?_; rintro e w1 ⟨rfl, b1⟩; have B1 := Lib.hid b1; clear b1)
      | (go_at_call 8; ((with_reducible refine (CL.out _ B1.out).mono ?_); rintro e w2 ⟨rfl, b2⟩; have B2 := Lib.hid (B1.out.trans (b2.mono B1.out.size)); clear b2))
      | (go_at_call 9; ((with_reducible refine (CT.out _ B2.out).mono ?_); rintro e w3 ⟨v3, ls3, rfl, ho3, hh3, b3⟩; rw [← HTS.out] at hh3; have hl3 : ls3.length = n := (hh3.1.trans HTL.out); obtain ⟨A3, c3, rfl, ha3⟩ := acts_at ho3; rw [hl3]; have R3 := Lib.hid (rdA_of ha3 hh3 hl3); have B3 := Lib.hid (B2.out.trans (b3.mono B2.out.size)); clear ho3 hh3 b3 ha3 hl3))
      | (go_at_call 12; ((with_reducible refine (encode_any _ A3 n c3 ls3 ts R3.out hn HTM.out (fun a ha => (HNN.out a ha).2)).mono ?_); rintro e w4 ⟨v4, rfl, ho4, b4⟩; rw [← HBS.out] at ho4; obtain ⟨A4, c4, rfl, ha4⟩ := rdI_own ho4 HBY.out; have R4 := Lib.hid ha4; have R3' := Lib.hid (R3.out.below b4); have B4 := Lib.hid (B3.out.trans (b4.mono B3.out.size)); clear ho4 b4 ha4))
      | (go_at_call 11; ((with_reducible refine (decode_c A4 bs.length c4 bs _ R4.out (by have := HLE.out; omega)).mono ?_); rintro e w5 ⟨v5, ls5, cs5, rfl, ho5, hd5, hh5, f5⟩; rw [HDE.out] at hd5; subst hd5; have hl5 : ls5.length = n := (hh5.holds.1.trans HTL.out); have b5 := f5.below (Nat.le_refl _) (fun k hk => hk.elim); obtain ⟨A5, c5, rfl, ha5⟩ := acts_at ho5; rw [hl5]; have R5 := Lib.hid (rdA_of ha5 hh5.holds hl5); have R3'' := Lib.hid (R3'.out.below b5); have B5 := Lib.hid (B4.out.trans (b5.mono B4.out.size)); clear ho5 hh5 f5 b5 ha5 hl5)))
    go_wp2_with (fail)
    trace_state
    refine (same_any _ A5 A3 n c5 c3 ls5 ls3 _ R5.out R3''.out).mono ?_
    rintro e w6 ⟨rfl, b6⟩
    have B6 := Lib.hid (B5.out.trans (b6.mono B5.out.size))
    go_wp2
    go_ret
    exact ⟨rfl, B6.out⟩
  · have CL := Lib.hid (fun w' (hb : Below w.heap.size w w') => light_any w' A n c ls cs false (by simp [hl]) (hr.below hb))
    clear hl hr hi
    go_enter Try.func3, Try.ntmps3
    go_wp2_with (first
      | (go_at_call 7; refine (fit_any _).mono ?_; rintro e w1 ⟨rfl, b1⟩; have B1 := Lib.hid b1; clear b1)
      | (go_at_call 8; ((with_reducible refine (CL.out _ B1.out).mono ?_); rintro e w2 ⟨rfl, b2⟩; have B2 := Lib.hid (B1.out.trans (b2.mono B1.out.size)); clear b2)))
    go_ret
    exact ⟨rfl, B2.out⟩
end Go.Proofs.Ytodlgkpgpffpaaa
