import Derived.Test.YtannniobeanhlaaGreatPlI
import Derived.Test.YtannniobeanhlaaGreatZSlL
import Derived.Test.YtannniobeanhlaaGreatZSmP
import Derived.Test.YtannniobeanhlaaGreatSvA
import Derived.Test.YtannniobeanhlaaGreatZCfH
set_option linter.unusedSimpArgs false
set_option linter.unusedVariables false
set_option maxRecDepth 100000
set_option maxHeartbeats 9000000
namespace Go.Proofs.YtannniobeanhlaaGreat
open Go.ChangeShapes Go.WideShapes Go.ChangeAt Go.RowKit
section
open Ar (inR)
structure LmN where
 l:Nat
 rows:Value
 U:Int
 W:Int
 B:Int
 L:Int
 Q:PlN
 R:RgN
 S:SmN
structure LmS where
 σ:KSt
 C:List Cel
 r:RgS
 M:List Tri
 tot:Int
 al:Int
 de:Int
 ba:Int
abbrev limC (N:LmN) (al de ba:Int):Array Value:=#[.int .i64 N.U,.int .i64 N.W,.int .i64 N.B,.int .i64 N.L,N.rows,.pointer (some ⟨N.Q.p,0,none⟩),.pointer (some ⟨N.R.x,0,none⟩),.pointer (some ⟨N.S.s,0,none⟩),.int .i64 al,.int .i64 de,.int .i64 ba,.int .i64 0,.int .i64 0]
def LmN.parts (N:LmN) (k:Nat):Prop:=N.Q.all k∨N.R.all k∨N.S.all k
def LmN.all (N:LmN) (k:Nat):Prop:=N.parts k∨k=N.l
structure LmAt (w:World) (N:LmN) (s:LmS):Prop where
 hl:Blk w N.l 144 (limC N s.al s.de s.ba)
 hp:PlAt w N.Q s.σ s.C
 hr:RgAt w N.R s.r
 hm:SmM w N.S s.M s.tot
 nl:∀ k,N.parts k→k≠N.l
 n1:∀ k,N.Q.all k→¬ N.R.all k∧¬ N.S.all k
 n2:∀ k,N.R.all k→¬ N.S.all k
section
variable {w W:World} {N:LmN} {s:LmS}
theorem LmAt.fr {F:Nat→Prop} (h:LmAt W N s) (hf:Fr F W w) (hF:∀ k,N.all k→¬ F k):LmAt w N s :=
 ⟨h.hl.fr hf (hF _ (Or.inr rfl)),h.hp.fr hf (fun k hk=>hF k (Or.inl (Or.inl hk))),h.hr.fr hf (fun k hk=>hF k (Or.inl (Or.inr (Or.inl hk)))),h.hm.fr hf (fun k hk=>hF k (Or.inl (Or.inr (Or.inr hk)))),h.nl,h.n1,h.n2⟩
theorem LmAt.keep (h:LmAt W N s) (hb:Below W.heap.size W w):LmAt w N s:=h.fr (F:=fun _=>False) (Fr.of_below hb) (fun _ _=>id)
theorem LmAt.lt (h:LmAt w N s):∀ k,N.all k→k<w.heap.size:=by
 intro k hk
 rcases hk with (hk | hk | hk) | rfl
 ·exact h.hp.lt k hk
 ·exact h.hr.lt k hk
 ·obtain ⟨L,σ,g,_⟩:=h.hm
  exact g.lt k hk
 ·exact lt_of_block h.hl
theorem LmAt.ring {r:RgS} (h:LmAt W N s) (h1:RgAt w N.R r) {F:Nat→Prop} (hf:Fr F W w) (hF:∀ k,F k→N.R.all k):LmAt w N { s with r:=r }:=by
 refine ⟨h.hl.fr hf (fun g=>h.nl _ (Or.inr (Or.inl (hF _ g))) rfl),h.hp.fr hf (fun k hk g=>(h.n1 k hk).1 (hF k g)),h1,h.hm.fr hf (fun k hk g=>h.n2 k (hF k g) hk),h.nl,h.n1,h.n2⟩
theorem LmAt.pool {σ:KSt} {C:List Cel} (h:LmAt W N s) (h1:PlAt w N.Q σ C) {F:Nat→Prop} (hf:Fr F W w) (hF:∀ k,F k→N.Q.all k):LmAt w N { s with σ:=σ,C:=C }:=by
 refine ⟨h.hl.fr hf (fun g=>h.nl _ (Or.inl (hF _ g)) rfl),h1,h.hr.fr hf (fun k hk g=>(h.n1 k (hF k g)).1 hk),h.hm.fr hf (fun k hk g=>(h.n1 k (hF k g)).2 hk),h.nl,h.n1,h.n2⟩
theorem LmAt.summ {M:List Tri} {tot:Int} (h:LmAt W N s) (h1:SmM w N.S M tot) {F:Nat→Prop} (hf:Fr F W w) (hF:∀ k,F k→N.S.all k):LmAt w N { s with M:=M,tot:=tot }:=by
 refine ⟨h.hl.fr hf (fun g=>h.nl _ (Or.inr (Or.inr (hF _ g))) rfl),h.hp.fr hf (fun k hk g=>(h.n1 k hk).2 (hF k g)),h.hr.fr hf (fun k hk g=>h.n2 k hk (hF k g)),h1,h.nl,h.n1,h.n2⟩
theorem LmAt.cnts {al de ba:Int} (h:LmAt W N s) (h1:Blk w N.l 144 (limC N al de ba)) (hf:Fr (fun k=>k=N.l) W w):LmAt w N { s with al:=al,de:=de,ba:=ba }:=by
 refine ⟨h1,h.hp.fr hf (fun k hk=>h.nl k (Or.inl hk)),h.hr.fr hf (fun k hk=>h.nl k (Or.inr (Or.inl hk))),h.hm.fr hf (fun k hk=>h.nl k (Or.inr (Or.inr hk))),h.nl,h.n1,h.n2⟩
end
abbrev ansV (v r t:Int):Value:=.agg #[.int .i64 v,.int .i64 r,.int .i64 t]
end
section
open Ar (inR)
theorem zal {w:World} {b:Nat} {t:TypeId} {a0 a1 a2 v0 v1 v2:Value} (h:Blk w b t #[a0,a1,a2]) :
  (((w.setCell ⟨b,0,none⟩ v0).setCell ⟨b,1,none⟩ v1).setCell ⟨b,2,none⟩ v2)=setObj w b (.cells #[v0,v1,v2] t (0,0)):=by
 have hl:=lt_of_block h
 rw [zac h]
 simp only [zai hl,zs1,zs2,zs3]
section
variable {N:LmN} {s:LmS}
def refZ (N:LmN) (now held cost:Int):(Int × Int × Int) × Bool :=
 if cost<1∨N.B<cost then ((3,0,0),true) else if 4611686018427387904≤now then ((2,0,9223372036854775807),true) else if 0<held then ((2,0,held),true) else ((0,0,0),false)
abbrev ansT (a:Int × Int × Int):Value:=ansV a.1 a.2.1 a.2.2
theorem zcg (now held cost:Int) (hn:inR now) (hh:inR held) (hc:inR cost) (w:World) (h:LmAt w N s) :
  Calls Tryz.prog 215 #[.pointer (some ⟨N.l,0,none⟩),.int .i64 now,.int .i64 held,.int .i64 cost] w fun e w'=>e=.returned (.tuple #[ansT (refZ N now held cost).1,.bool (refZ N now held cost).2])∧Below w.heap.size w w':=by
 obtain ⟨w1,hw1,k1,l1,s1⟩:=zad w #[.int .i64 0,.int .i64 0,.int .i64 0] 87
 obtain ⟨bx,hbx⟩:=zeq (w.heap.size)
 have kl:=(h.hl.keep l1).rd
 rw [← hbx] at k1
 have kr:=k1.rd
 have kw:=k1.wr
 have K1:=zhz k1
 have L1:=zhz l1
 have HB:=zhz hbx
 have HE:Hid (∀ a b c:Int,Below w.heap.size w (setObj w1 bx (.cells #[.int .i64 a,.int .i64 b,.int .i64 c] 87 (0,0)))):=zhz (fun a b c=>l1.trans ((Fr.setObj (F:=fun k=>k=bx) (Fr.refl _ _) rfl _).below l1.size (fun k hk=>by omega)))
 have e1:refZ N now held cost=if cost<1∨N.B<cost then ((3,0,0),true) else if 4611686018427387904≤now then ((2,0,9223372036854775807),true) else if 0<held then ((2,0,held),true) else ((0,0,0),false):=rfl
 unfold inR at hn hh hc
 clear k1 l1 s1 h
 by_cases c1:cost<1
 ·rw [e1,if_pos (Or.inl c1)]
  clear e1
  go_enter Tryz.func215,Tryz.ntmps215
  go_upto_region 1 with (fail)
  rw [← HB.out]
  clear hw1 hbx
  go_wp2
  rw [zal K1.out]
  refine bodyPost_ret (zak rfl _ _ bx _ _ (0,0) _ rfl (zab (lt_of_block K1.out) _) Tryz.underlying87 rfl (by kernel_rfl)) rfl ?_
  exact ⟨rfl,HE.out _ _ _⟩
 by_cases c2:N.B<cost
 ·rw [e1,if_pos (Or.inr c2)]
  clear e1
  go_enter Tryz.func215,Tryz.ntmps215
  go_upto_region 1 with (fail)
  rw [← HB.out]
  clear hw1 hbx
  go_wp2
  rw [zal K1.out]
  refine bodyPost_ret (zak rfl _ _ bx _ _ (0,0) _ rfl (zab (lt_of_block K1.out) _) Tryz.underlying87 rfl (by kernel_rfl)) rfl ?_
  exact ⟨rfl,HE.out _ _ _⟩
 rw [e1,if_neg (by omega)]
 clear e1
 by_cases c3:4611686018427387904≤now
 ·rw [if_pos c3]
  go_enter Tryz.func215,Tryz.ntmps215
  go_upto_region 1 with (fail)
  rw [← HB.out]
  clear hw1 hbx
  go_wp2
  rw [zal K1.out]
  refine bodyPost_ret (zak rfl _ _ bx _ _ (0,0) _ rfl (zab (lt_of_block K1.out) _) Tryz.underlying87 rfl (by kernel_rfl)) rfl ?_
  exact ⟨rfl,HE.out _ _ _⟩
 rw [if_neg c3]
 by_cases c4:0<held
 ·rw [if_pos c4]
  go_enter Tryz.func215,Tryz.ntmps215
  go_upto_region 1 with (fail)
  rw [← HB.out]
  clear hw1 hbx
  go_wp2
  rw [zal K1.out]
  refine bodyPost_ret (zak rfl _ _ bx _ _ (0,0) _ rfl (zab (lt_of_block K1.out) _) Tryz.underlying87 rfl (by kernel_rfl)) rfl ?_
  exact ⟨rfl,HE.out _ _ _⟩
 rw [if_neg c4]
 go_enter Tryz.func215,Tryz.ntmps215
 go_upto_region 1 with (fail)
 rw [← HB.out]
 clear hw1 hbx
 go_wp2
 rw [zal K1.out]
 refine bodyPost_ret (zak rfl _ _ bx _ _ (0,0) _ rfl (zab (lt_of_block K1.out) _) Tryz.underlying87 rfl (by kernel_rfl)) rfl ?_
 exact ⟨rfl,HE.out _ _ _⟩
def LmS.count (s:LmS) (v:Int):LmS:=if v=1 then { s with al:=s.al+1 } else if v=2 then { s with de:=s.de+1 } else if v=3 then { s with ba:=s.ba+1 } else s
theorem zcF (v r t:Int) (hv:v=1∨v=2∨v=3) (hb:(0≤s.al∧s.al≤1152921504606846976)∧(0≤s.de∧s.de≤1152921504606846976)∧(0≤s.ba∧s.ba≤1152921504606846976)) (w:World) (h:LmAt w N s) :
  Calls Tryz.prog 216 #[.pointer (some ⟨N.l,0,none⟩),ansV v r t] w fun e w'=>e=.returned (.tuple #[])∧LmAt w' N (s.count v)∧Fr (fun k=>k=N.l) w w':=by
 obtain ⟨w1,hw1,k1,l1,s1⟩:=zad w #[.int .i64 v,.int .i64 r,.int .i64 t] 87
 have H1:=zhz (h.keep l1)
 have L1:=zhz l1
 have kl:=H1.out.hl.rd
 have klw:=H1.out.hl.wr
 obtain ⟨bx,hbx⟩:=zeq (w.heap.size)
 rw [← hbx] at k1
 have kr:=k1.rd
 obtain ⟨⟨a1,a2⟩,⟨d1,d2⟩,b1,b2⟩:=hb
 clear h l1 s1 k1
 rcases hv with rfl | rfl | rfl
 ·have e1:s.count 1={ s with al:=s.al+1 }:=rfl
  rw [e1]
  go_enter Tryz.func216,Tryz.ntmps216
  go_upto_region 1 with (fail)
  rw [← hbx]
  clear hw1 hbx
  go_wp2
  rw [zac H1.out.hl]
  simp only [zs1,zs2,zs3]
  refine bodyPost_end (results_none rfl _ _ _) rfl ?_
  have hf:=Fr.setObj (F:=fun k=>k=N.l) (Fr.refl _ w1) rfl (.cells (limC N (s.al+1) s.de s.ba) 144 (0,0))
  exact ⟨rfl,H1.out.cnts (zab (lt_of_block H1.out.hl) _) hf,(Fr.of_below L1.out).trans hf⟩
 ·have e1:s.count 2={ s with de:=s.de+1 }:=rfl
  rw [e1]
  go_enter Tryz.func216,Tryz.ntmps216
  go_upto_region 1 with (fail)
  rw [← hbx]
  clear hw1 hbx
  go_wp2
  rw [zac H1.out.hl]
  simp only [zs1,zs2,zs3]
  refine bodyPost_end (results_none rfl _ _ _) rfl ?_
  have hf:=Fr.setObj (F:=fun k=>k=N.l) (Fr.refl _ w1) rfl (.cells (limC N s.al (s.de+1) s.ba) 144 (0,0))
  exact ⟨rfl,H1.out.cnts (zab (lt_of_block H1.out.hl) _) hf,(Fr.of_below L1.out).trans hf⟩
 ·have e1:s.count 3={ s with ba:=s.ba+1 }:=rfl
  rw [e1]
  go_enter Tryz.func216,Tryz.ntmps216
  go_upto_region 1 with (fail)
  rw [← hbx]
  clear hw1 hbx
  go_wp2
  rw [zac H1.out.hl]
  simp only [zs1,zs2,zs3]
  refine bodyPost_end (results_none rfl _ _ _) rfl ?_
  have hf:=Fr.setObj (F:=fun k=>k=N.l) (Fr.refl _ w1) rfl (.cells (limC N s.al s.de (s.ba+1)) 144 (0,0))
  exact ⟨rfl,H1.out.cnts (zab (lt_of_block H1.out.hl) _) hf,(Fr.of_below L1.out).trans hf⟩
end
end
section
open Ar (inR)
theorem zjc {C:List Cel} {i:Nat} {c:Cel} (hi:C[i]?=some c) (F' D':Int) :
  ((rws encC C).toArray.setIfInBounds (i*4) (.int .i64 F')).setIfInBounds (i*4+3) (.int .i64 D')=(rws encC (C.set i (F',c.2.1,c.2.2.1,D'))).toArray:=by
 have hil:i<C.length:=(zgs.1 hi).1
 have hl:=zaN zaH C
 have hl2:=zaN zaH (C.set i (F',c.2.1,c.2.2.1,D'))
 rw [List.length_set] at hl2
 rw [zs1,zs1]
 congr 1
 refine List.ext_getElem? fun k=>?_
 rcases Nat.lt_or_ge k (C.length*4) with hk | hk
 ·obtain ⟨q,r,hr,rfl⟩:∃ q r,r<4∧k=q*4+r:=⟨k / 4,k % 4,by omega,by omega⟩
  have hq:q<C.length:=by omega
  by_cases hqi:q=i
  ·subst hqi
   rw [zaR zaH (C.set q _) q r (F',c.2.1,c.2.2.1,D') (by rw [List.getElem?_set_self hil]) hr]
   have hg:∀ j,j<4→(rws encC C)[q*4+j]?=(encC c)[j]?:=fun j hj=>zaR zaH C q j c hi hj
   match r,hr with
   | 0,_=>rw [List.getElem?_set_ne (by omega),show q*4+0=q*4 by omega,List.getElem?_set_self (by rw [hl];omega)];rfl
   | 1,_=>rw [List.getElem?_set_ne (by omega),List.getElem?_set_ne (by omega),hg 1 (by omega)];rfl
   | 2,_=>rw [List.getElem?_set_ne (by omega),List.getElem?_set_ne (by omega),hg 2 (by omega)];rfl
   | 3,_=>rw [List.getElem?_set_self (by rw [List.length_set,hl];omega)];rfl
  ·obtain ⟨d,hd⟩:∃ d,C[q]?=some d:=⟨_,zge hq⟩
   rw [List.getElem?_set_ne (by omega),List.getElem?_set_ne (by omega),zaR zaH C q r d hd hr,zaR zaH (C.set i _) q r d (by rw [List.getElem?_set_ne (Ne.symm hqi)];exact hd) hr]
 ·rw [List.getElem?_eq_none (by rw [List.length_set,List.length_set,hl];omega),List.getElem?_eq_none (by rw [hl2];omega)]
section
variable {Q:PlN} {σ:KSt} {C:List Cel} {U W B L t cost:Int} {c:Cel} {i:Nat}
abbrev celR (c:Cel) (U W B L t:Int):Int:=roomP c.1 c.2.1 c.2.2.1 c.2.2.2 U W B L t
abbrev celW (c:Cel) (U W B L t cost:Int):Int:=waitP c.1 c.2.1 c.2.2.1 c.2.2.2 U W B L t cost
abbrev celG (c:Cel) (U W B L t:Int):Prop:=Rng c.1 c.2.1 c.2.2.1 c.2.2.2 U W B L t
def celT (c:Cel) (U t cost:Int):Cel:=(max c.1 t+cost*U,c.2.1,c.2.2.1,c.2.2.2+cost)
theorem PlAt.row4 {w:World} (h:PlAt w Q σ C) (hi:C[i]?=some c):((rws encC C).toArray)[i*4]?=some (.int .i64 c.1)∧((rws encC C).toArray)[i*4+1]?=some (.int .i64 c.2.1)∧((rws encC C).toArray)[i*4+2]?=some (.int .i64 c.2.2.1)∧((rws encC C).toArray)[i*4+3]?=some (.int .i64 c.2.2.2):=by
 obtain ⟨h0,h1,h2,h3⟩:=h.cell hi
 have hr:=h.hc.rd
 exact ⟨(hr _).symm.trans h0,(hr _).symm.trans h1,(hr _).symm.trans h2,(hr _).symm.trans h3⟩
theorem ziW (w:World) (h:PlAt w Q σ C) (hi:C[i]?=some c) (hg:celG c U W B L t) (hc:1≤cost∧celR c U W B L t<cost) :
  Calls Tryz.prog 237 #[.pointer (some ⟨Q.cb,i*4,none⟩),pv U W B L,.int .i64 t,.int .i64 cost] w fun e w'=>e=.returned (.bool false)∧Below w.heap.size w w':=by
 obtain ⟨h1,h2,h3,h4,h5⟩:=hg.clamps
 have hb:=hg.bu
 obtain ⟨hF,hS,hC,hD,hU,hW,hB,hL,ht⟩:=hg
 exact zhF c.1 c.2.1 c.2.2.1 c.2.2.2 U W B L t cost (by unfold inR;omega) (by unfold inR;omega) (by unfold inR;omega) (by omega) (by unfold inR;omega) (by unfold inR;omega) (by unfold inR;omega) (by unfold inR;omega) h3 h2 hc.1 (by rw [h1];exact hc.2) w Q.cb (i*4) _ _ h.hc (h.row4 hi)
theorem zhg (w:World) (h:PlAt w Q σ C) (hi:C[i]?=some c) (hg:celG c U W B L t) (hc:1≤cost∧cost≤celR c U W B L t) :
  Calls Tryz.prog 237 #[.pointer (some ⟨Q.cb,i*4,none⟩),pv U W B L,.int .i64 t,.int .i64 cost] w fun e w'=>e=.returned (.bool true)∧PlAt w' Q σ (C.set i (celT c U t cost))∧Fr (fun k=>k=Q.cb) w w':=by
 obtain ⟨h1,h2,h3,h4,h5⟩:=hg.clamps
 have hcB:cost≤B:=Int.le_trans hc.2 (zcN (by have:=hg.B;omega))
 obtain ⟨k1,k2,k3,k4⟩:=hg.kb ⟨hc.1,hcB⟩
 have hb:=hg.bu
 obtain ⟨hF,hS,hC,hD,hU,hW,hB,hL,ht⟩:=hg
 have:=zfN c.1 c.2.1 c.2.2.1 c.2.2.2 U W B L t cost (by unfold inR;omega) (by unfold inR;omega) (by unfold inR;omega) (by omega) (by unfold inR;omega) (by unfold inR;omega) (by unfold inR;omega) (by unfold inR;omega) h3 h2 (by unfold inR;omega) (by unfold inR;omega) (by unfold inR;omega) (by rw [h1];exact hc) w Q.cb (i*4) _ _ h.hc (h.row4 hi)
 rw [show clamp (cost*U)=cost*U from za8 (by unfold inR;omega),show clamp (max c.1 t+cost*U)=max c.1 t+cost*U from za8 (by unfold inR;omega),zjc hi] at this
 refine this.mono ?_
 rintro e w' ⟨rfl,b1,f1⟩
 refine ⟨rfl,⟨h.hp.fr f1 h.ne.1,b1,by rw [List.length_set];exact h.len,h.ix.fr f1 (fun k hk e=>(h.ne.2 k hk).1 e),h.n1,h.ne⟩,f1⟩
end
section
variable {N:LmN} {s:LmS}
def LmS.left (s:LmS) (N:LmN) (key:ByteArray):Int:=max 0 (min (N.L - estZ N.R s.r key) N.B)
theorem zc7 (key:ByteArray) (hs:key.size≤maxLen) (w:World) (h:LmAt w N s) (hL:0≤N.L∧N.L≤9223372036854775807) (hB:inR N.B) :
  Calls Tryz.prog 225 #[.pointer (some ⟨N.l,0,none⟩),.string key] w fun e w'=>e=.returned (.int .i64 (s.left N key))∧Below w.heap.size w w':=by
 have ee:=ze4 h.hr key
 have ed:s.left N key=max 0 (min (N.L - estZ N.R s.r key) N.B):=rfl
 have CE:=zhz (fun wx (hb:Below w.heap.size w wx)=>show Calls Tryz.prog 236 #[.pointer (some ⟨N.R.x,0,none⟩),.string key] wx (fun e w'=>e=.returned (.int .i64 (estZ N.R s.r key))∧(∀ (i:Nat),w'.cell? { block:=N.l,off:=i }=(limC N s.al s.de s.ba)[i]?)∧Below w.heap.size w w') from (zaG key hs wx (h.hr.keep hb)).mono (fun e w' hh=>⟨hh.1,(h.hl.keep (zae hb hh.2)).rd,zae hb hh.2⟩))
 obtain ⟨est,hest⟩:=zeq (estZ N.R s.r key)
 rw [← hest] at CE ee ed
 rw [ed]
 have k:=h.hl.rd
 unfold inR at hB
 clear h hest ed
 go_enter Tryz.func225,Tryz.ntmps225
 go_upto_region 1 with (fail)
 have y2:Below w.heap.size w w.drew:=zaa (Below.refl _ _) 1
 have k2:∀ (i:Nat),w.drew.cell? { block:=N.l,off:=i }=(limC N s.al s.de s.ba)[i]?:=k
 go_region_held3 (fun w'=>(∀ (i:Nat),w'.cell? { block:=N.l,off:=i }=(limC N s.al s.de s.ba)[i]?)∧Below w.heap.size w w') (refine ⟨?_,?_⟩ <;> assumption)
   (first
    | (go_at_call 236;((with_reducible refine (CE.out _ (by assumption)).mono ?_);rintro e w2 ⟨rfl,z1,z2⟩)))
 go_wp2
 have ew:IntKind.i64.wrap (N.L - est)=N.L - est:=by rw [IntKind.wrap_i64];omega
 go_ret
 exact ⟨zau (by rw [ew]),by assumption⟩
end
end
section
open Ar (inR)
section
variable {N:LmN} {s:LmS}
def LmS.judge (s:LmS) (N:LmN) (now:Int) (key:ByteArray) (cost:Int):(Int × Int × Int) × LmS :=
 match posN N.Q.N.n s.σ.K key with
 | some i =>
  if cost≤celR (s.C.getD i (0,0,0,0)) N.U N.W N.B N.L now then
   ((1,celR (celT (s.C.getD i (0,0,0,0)) N.U now cost) N.U N.W N.B N.L now,0),{ s with C:=s.C.set i (celT (s.C.getD i (0,0,0,0)) N.U now cost) })
  else ((2,celR (s.C.getD i (0,0,0,0)) N.U N.W N.B N.L now,celW (s.C.getD i (0,0,0,0)) N.U N.W N.B N.L now cost),s)
 | none =>
  if clamp (estZ N.R s.r key+cost)≤N.L then ((1,({ s with r:=s.r.add N.R key cost }:LmS).left N key,0),{ s with r:=s.r.add N.R key cost })
  else ((2,s.left N key,waitR N.R s.r key cost),s)
structure LmG (N:LmN) (s:LmS) (now:Int):Prop where
 c:∀ c ∈ s.C,celG c N.U N.W N.B N.L now∧c.2.2.2≤576460752303423488
 t:s.r.t≤4611686018427387904
 n:0≤now∧now≤4611686018427387904
 U:1≤N.U∧N.U≤1048576
 W:1≤N.W∧N.W≤1048576
 B:1≤N.B∧N.B≤1048576
 L:1≤N.L∧N.L≤1048576
theorem zmk {c:Cel} {U W B L t cost:Int} (h:celG c U W B L t) (hD:c.2.2.2≤576460752303423488) (hc:1≤cost∧cost≤celR c U W B L t):celG (celT c U t cost) U W B L t:=by
 have hcB:cost≤B:=Int.le_trans hc.2 (zcN (by have:=h.B;omega))
 have h1:=(zcT h hc).1
 have hb:=h.bu
 have hcu:=(h.kb ⟨hc.1,hcB⟩).2.2.2
 obtain ⟨hF,hS,hC,hDD,hU,hW,hB,hL,ht⟩:=h
 exact ⟨by show 0≤max c.1 t+cost*U∧max c.1 t+cost*U≤_;omega,hS,hC,by show 0≤c.2.2.2+cost∧c.2.2.2+cost≤_;omega,hU,hW,hB,hL,ht⟩
theorem RgS.now_le (r:RgS) (R:RgN) (hs:1≤R.s) (ht:0≤r.t∧r.t≤4611686018427387904):r.now R≤9223372036854775000:=by
 unfold RgS.now
 have:r.t / (R.s:Int)≤r.t:=Int.ediv_le_self _ ht.1
 omega
theorem zfh (now:Int) (key:ByteArray) (cost:Int) (hs:key.size≤maxLen) (hc:1≤cost∧cost≤N.B) (w:World) (h:LmAt w N s) (hg:LmG N s now) :
  Calls Tryz.prog 220 #[.pointer (some ⟨N.l,0,none⟩),.int .i64 now,.string key,.int .i64 cost] w fun e w'=>e=.returned (ansT (s.judge N now key cost).1)∧LmAt w' N (s.judge N now key cost).2∧Fr N.all w w':=by
 obtain ⟨w1,hw1,k1,l1,s1⟩:=zad w #[.int .i64 0,.int .i64 0,.int .i64 0] 87
 obtain ⟨bx,hbx⟩:=zeq (w.heap.size)
 have CF:=zhz (zbv key hs w1 (h.hp.keep l1))
 have H1:=zhz (h.keep l1)
 have HLT:=zhz (show ∀ k,N.all k→k≠bx from fun k hk e=>by have:=h.lt k hk;omega)
 rw [← hbx] at k1
 have K1:=zhz k1
 have L1:=zhz l1
 have HB:=zhz hbx
 have kl:=H1.out.hl.rd
 have ej:s.judge N now key cost=match posN N.Q.N.n s.σ.K key with
   | some i=>_
   | none=>_:=rfl
 rw [ej]
 have hlen:=h.hp.len
 have hpos:∀ i,posN N.Q.N.n s.σ.K key=some i→i<s.C.length:=fun i hi=>by rw [hlen];exact (zax hi).1
 clear ej k1 l1 s1 h
 cases hp:posN N.Q.N.n s.σ.K key with
 | some i =>
  rw [hp] at CF
  have hil:=hpos i hp
  obtain ⟨c,hci⟩:∃ c,s.C[i]?=some c:=⟨_,zge hil⟩
  have hcD:s.C.getD i (0,0,0,0)=c:=by rw [List.getD_eq_getElem?_getD,hci];rfl
  have hG:=hg.c c (List.mem_of_getElem? hci)
  simp only [hcD]
  by_cases hle:cost≤celR c N.U N.W N.B N.L now
  ·rw [if_pos hle]
   have hG2:=zmk hG.1 hG.2 ⟨hc.1,hle⟩
   have CT:=zhz (fun wx (hx:PlAt wx N.Q s.σ s.C)=>zhg wx hx hci hG.1 ⟨hc.1,hle⟩)
   obtain ⟨c',hc'⟩:=zeq (celT c N.U now cost)
   rw [← hc'] at CT hG2
   simp only [← hc']
   have CR:=zhz (fun wx=>show Calls Tryz.prog 223 #[celV c',pv N.U N.W N.B N.L,.int .i64 now] wx (fun e w'=>e=.returned (.int .i64 (celR c' N.U N.W N.B N.L now))∧Below wx.heap.size wx w') from zdV hG2 wx)
   obtain ⟨rm,hrm⟩:=zeq (celR c' N.U N.W N.B N.L now)
   rw [← hrm] at CR
   simp only [← hrm]
   have CF:=zhz (show Calls Tryz.prog 62 #[.pointer (some ⟨N.Q.p,0,none⟩),.string key] w1 (fun e w'=>e=.returned (.pointer (some ⟨N.Q.cb,i*4,none⟩))∧Below w1.heap.size w1 w') from CF.out)
   have HSI:=zhz (show (s.C.set i c')[i]?=some c' from List.getElem?_set_self hil)
   have HCB:=zhz (show N.all N.Q.cb from Or.inl (Or.inl (Or.inl (Or.inr rfl))))
   have kw:=K1.out.wr
   clear hc' hrm hG hG2 hci hcD hle hpos hp hil
   go_enter Tryz.func220,Tryz.ntmps220
   go_upto_region 1 with (fail)
   rw [← HB.out]
   clear hw1 hbx
   go_upto_region 4 with (first
    | (go_at_call 62;((with_reducible refine CF.out.mono ?_);rintro e w2 ⟨rfl,b2⟩;have H2:=zhz (H1.out.keep b2);have kl2:=H2.out.hl.rd;have K2:=zhz (K1.out.keep b2);have B2:=zhz (zae L1.out b2);clear b2))
    | (go_at_call 237;((with_reducible refine (CT.out _ H2.out.hp).mono ?_);rintro e w3 ⟨rfl,p3,f3⟩;have H3:=zhz (H2.out.pool p3 f3 (fun k e=>Or.inl (Or.inr e)));have K3:=zhz (K2.out.fr f3 (fun e=>HLT.out _ HCB.out e.symm));have F3:=zhz ((Fr.of_below B2.out).trans (f3.mono (fun k e=>show N.all k from by rw [e];exact HCB.out)));clear p3 f3)))
   clear kl kw kl2
   have ST:=zhz (fun (Wo:World) (hW:LmAt Wo N { s with C:=s.C.set i c' })=>And.intro hW.hl.rd (hW.hp.cell HSI.out))
   have BN:=zhz (show Below w3.heap.size w3 w3.drew from zaa (Below.refl _ _) 1)
   have st:=ST.out _ (H3.out.keep BN.out)
   refine wp_region_held_drew (S:=fun Wo=>(∀ j,Wo.cell? ⟨N.l,j,none⟩=(limC N s.al s.de s.ba)[j]?)∧Wo.cell? ⟨N.Q.cb,i*4,none⟩=some (.int .i64 c'.1)∧Wo.cell? ⟨N.Q.cb,i*4+1,none⟩=some (.int .i64 c'.2.1)∧Wo.cell? ⟨N.Q.cb,i*4+2,none⟩=some (.int .i64 c'.2.2.1)∧Wo.cell? ⟨N.Q.cb,i*4+3,none⟩=some (.int .i64 c'.2.2.2)) (by kernel_rfl) st (fun hHeld=>?_)
   clear st
   refine wR 0 ?_
   refine wR 1 ?_
   refine wR 2 ?_
   refine wR 3 ?_
   refine wR 4 ?_
   refine wR 5 ?_
   refine wR 6 ?_
   refine wR 7 ?_
   refine wC 8 fun K hK=>?_
   go_simp
   ((with_reducible refine (CR.out _).mono ?_);rintro e w8 ⟨rfl,be⟩;have N8:=zhz (G.below_on BN.out be);have K8:=zhz (K3.out.keep N8.out);have kw8:=K8.out.wr;have kr8:=K8.out.rd;clear be)
   refine hK.out _ _ (ST.out _ (H3.out.keep N8.out)) fun hHeld=>?_
   clear hK K
   try simp only [Act.put,zs1,zs2,zs3]
   refine wR 9 ?_
   refine wC 10 fun K hK=>?_
   go_simp
   rw [zal K8.out]
   refine hK.out _ _ (ST.out _ ((H3.out.keep N8.out).fr (Fr.setObj (F:=fun k=>k=bx) (Fr.refl _ _) rfl _) (fun k hk e=>HLT.out k hk e))) fun hHeld=>?_
   clear hK K
   try simp only [Act.put,zs1,zs2,zs3]
   refine wpAnyH_done (by kernel_rfl) ?_ _
   clear hHeld
   go_wp2
   refine bodyPost_ret (results_cell_row rfl _ _ bx _ _ (0,0) _ rfl (zab (lt_of_block K8.out) _) Tryz.underlying87 rfl (by kernel_rfl)) rfl ?_
   refine ⟨rfl,(H3.out.keep N8.out).fr (Fr.setObj (F:=fun k=>k=bx) (Fr.refl _ _) rfl _) (fun k hk e=>HLT.out k hk e),?_⟩
   exact Fr.drop_new (F:=N.all) (s:=bx) (Fr.setObj (F:=fun k=>N.all k∨k=bx) ((F3.out.trans (Fr.of_below N8.out)).mono (fun k hk=>Or.inl hk)) (Or.inr rfl) _) (by have:=HB.out;omega)
  ·rw [if_neg hle]
   have CT:=zhz (fun wx (hx:PlAt wx N.Q s.σ s.C)=>ziW wx hx hci hG.1 ⟨hc.1,by omega⟩)
   have CR:=zhz (fun wx=>show Calls Tryz.prog 223 #[celV c,pv N.U N.W N.B N.L,.int .i64 now] wx (fun e w'=>e=.returned (.int .i64 (celR c N.U N.W N.B N.L now))∧Below wx.heap.size wx w') from zdV hG.1 wx)
   have CW:=zhz (fun wx=>show Calls Tryz.prog 224 #[celV c,pv N.U N.W N.B N.L,.int .i64 now,.int .i64 cost] wx (fun e w'=>e=.returned (.int .i64 (celW c N.U N.W N.B N.L now cost))∧Below wx.heap.size wx w') from zgJ hG.1 hc wx)
   obtain ⟨rm,hrm⟩:=zeq (celR c N.U N.W N.B N.L now)
   obtain ⟨wt,hwt⟩:=zeq (celW c N.U N.W N.B N.L now cost)
   rw [← hrm] at CR
   rw [← hwt] at CW
   simp only [← hrm,← hwt]
   have CF:=zhz (show Calls Tryz.prog 62 #[.pointer (some ⟨N.Q.p,0,none⟩),.string key] w1 (fun e w'=>e=.returned (.pointer (some ⟨N.Q.cb,i*4,none⟩))∧Below w1.heap.size w1 w') from CF.out)
   have HSI:=zhz hci
   have kw:=K1.out.wr
   clear hrm hwt hG hci hcD hle hpos hp hil
   go_enter Tryz.func220,Tryz.ntmps220
   go_upto_region 1 with (fail)
   rw [← HB.out]
   clear hw1 hbx
   go_upto_region 5 with (first
    | (go_at_call 62;((with_reducible refine CF.out.mono ?_);rintro e w2 ⟨rfl,b2⟩;have H2:=zhz (H1.out.keep b2);have kl2:=H2.out.hl.rd;have K2:=zhz (K1.out.keep b2);have B2:=zhz (zae L1.out b2);clear b2))
    | (go_at_call 237;((with_reducible refine (CT.out _ H2.out.hp).mono ?_);rintro e w3 ⟨rfl,b3⟩;have H3:=zhz (H2.out.keep b3);have K3:=zhz (K2.out.keep b3);have B3:=zhz (zae B2.out b3);clear b3)))
   clear kl kw kl2
   have ST:=zhz (fun (Wo:World) (hW:LmAt Wo N s)=>And.intro hW.hl.rd (hW.hp.cell HSI.out))
   have BN:=zhz (show Below w3.heap.size w3 w3.drew from zaa (Below.refl _ _) 1)
   have st:=ST.out _ (H3.out.keep BN.out)
   refine wp_region_held_drew (S:=fun Wo=>(∀ j,Wo.cell? ⟨N.l,j,none⟩=(limC N s.al s.de s.ba)[j]?)∧Wo.cell? ⟨N.Q.cb,i*4,none⟩=some (.int .i64 c.1)∧Wo.cell? ⟨N.Q.cb,i*4+1,none⟩=some (.int .i64 c.2.1)∧Wo.cell? ⟨N.Q.cb,i*4+2,none⟩=some (.int .i64 c.2.2.1)∧Wo.cell? ⟨N.Q.cb,i*4+3,none⟩=some (.int .i64 c.2.2.2)) (by kernel_rfl) st (fun hHeld=>?_)
   clear st
   refine wR 0 ?_
   refine wR 1 ?_
   refine wR 2 ?_
   refine wR 3 ?_
   refine wR 4 ?_
   refine wR 5 ?_
   refine wR 6 ?_
   refine wR 7 ?_
   refine wR 9 ?_
   refine wR 10 ?_
   refine wR 11 ?_
   refine wR 12 ?_
   refine wR 13 ?_
   refine wR 14 ?_
   refine wR 15 ?_
   refine wR 16 ?_
   refine wR 17 ?_
   refine wC 8 fun K hK=>?_
   go_simp
   ((with_reducible refine (CR.out _).mono ?_);rintro e w8 ⟨rfl,be⟩;have N8:=zhz (G.below_on BN.out be);clear be)
   refine hK.out _ _ (ST.out _ (H3.out.keep N8.out)) fun hHeld=>?_
   clear hK K
   try simp only [Act.put,zs1,zs2,zs3]
   refine wC 18 fun K hK=>?_
   go_simp
   ((with_reducible refine (CW.out _).mono ?_);rintro e w9 ⟨rfl,be⟩;have N9:=zhz (G.below_on N8.out be);have K9:=zhz (K3.out.keep N9.out);have kw9:=K9.out.wr;have kr9:=K9.out.rd;clear be)
   refine hK.out _ _ (ST.out _ (H3.out.keep N9.out)) fun hHeld=>?_
   clear hK K
   try simp only [Act.put,zs1,zs2,zs3]
   refine wR 19 ?_
   refine wC 20 fun K hK=>?_
   go_simp
   rw [zal K9.out]
   refine hK.out _ _ (ST.out _ ((H3.out.keep N9.out).fr (Fr.setObj (F:=fun k=>k=bx) (Fr.refl _ _) rfl _) (fun k hk e=>HLT.out k hk e))) fun hHeld=>?_
   clear hK K
   try simp only [Act.put,zs1,zs2,zs3]
   refine wpAnyH_done (by kernel_rfl) ?_ _
   clear hHeld
   go_wp2
   refine bodyPost_ret (results_cell_row rfl _ _ bx _ _ (0,0) _ rfl (zab (lt_of_block K9.out) _) Tryz.underlying87 rfl (by kernel_rfl)) rfl ?_
   refine ⟨rfl,(H3.out.keep N9.out).fr (Fr.setObj (F:=fun k=>k=bx) (Fr.refl _ _) rfl _) (fun k hk e=>HLT.out k hk e),?_⟩
   exact Fr.drop_new (F:=N.all) (s:=bx) (Fr.setObj (F:=fun k=>N.all k∨k=bx) (((Fr.of_below B3.out).trans (Fr.of_below N9.out)).mono (fun k (hk:False)=>hk.elim)) (Or.inr rfl) _) (by have:=HB.out;omega)
 | none =>
  rw [hp] at CF
  have CF:=zhz (show Calls Tryz.prog 62 #[.pointer (some ⟨N.Q.p,0,none⟩),.string key] w1 (fun e w'=>e=.returned (.pointer none)∧Below w1.heap.size w1 w') from CF.out)
  have hin:=ze4 H1.out.hr key
  have CE:=zhz (fun wx (hx:LmAt wx N s)=>zaG key hs wx hx.hr)
  have CS:=zhz (fun wx=>zaS (estZ N.R s.r key) cost (by unfold inR;omega) (by unfold inR;have:=hg.B;omega) wx)
  have CL:=zhz (fun (s:LmS) wx (hx:LmAt wx N s)=>zc7 key hs wx hx (by have:=hg.L;omega) (by unfold inR;have:=hg.B;omega))
  have CA:=zhz (fun wx (hx:LmAt wx N s)=>zgr key hs cost (by have:=hg.B;omega) wx hx.hr)
  have CW:=zhz (fun wx (hx:LmAt wx N s)=>zeF key hs cost (by have:=hg.B;omega) wx hx.hr (s.r.now_le N.R hx.hr.bd.2.1.1 ⟨hx.hr.ht.1,hg.t⟩))
  obtain ⟨est,hest⟩:=zeq (estZ N.R s.r key)
  rw [← hest] at CE CS hin ⊢
  obtain ⟨sm,hsm⟩:=zeq (clamp (est+cost))
  rw [← hsm] at CS ⊢
  have kw:=K1.out.wr
  clear hest hsm hpos hp
  have RST:=zhz (fun (Wo:World) (hW:LmAt Wo N s)=>hW.hl.rd)
  have DN:∀ d,decide (sm≤N.L)=d→d=true∨d=false:=by intro d _;cases d <;> simp
  by_cases hle:sm≤N.L
  ·rw [if_pos hle]
   have t1:decide (sm≤N.L)=true:=by rw [decide_eq_true_eq];exact hle
   clear DN hle
   go_enter Tryz.func220,Tryz.ntmps220
   go_upto_region 1 with (fail)
   rw [← HB.out]
   clear hw1 hbx
   go_upto_region 6 with (first
    | (go_at_call 62;((with_reducible refine CF.out.mono ?_);rintro e w2 ⟨rfl,b2⟩;have H2:=zhz (H1.out.keep b2);have kl2:=H2.out.hl.rd;have K2:=zhz (K1.out.keep b2);have B2:=zhz (zae L1.out b2);clear b2)))
   have BN:=zhz (show Below w2.heap.size w2 w2.drew from zaa (Below.refl _ _) 1)
   have st:=RST.out _ (H2.out.keep BN.out)
   clear kl kw kl2
   refine wp_region_held_drew (S:=fun Wo=>∀ j,Wo.cell? ⟨N.l,j,none⟩=(limC N s.al s.de s.ba)[j]?) (by kernel_rfl) st (fun hHeld=>?_)
   clear st
   refine wR 0 ?_
   refine wR 1 ?_
   refine wR 2 ?_
   refine wR 3 ?_
   refine wR 4 ?_
   refine wR 6 ?_
   refine wR 8 ?_
   refine wR 9 ?_
   refine wR 10 ?_
   refine wR 11 ?_
   refine wR 12 ?_
   refine wC 5 fun K hK=>?_
   go_simp
   ((with_reducible refine (CE.out _ (H2.out.keep BN.out)).mono ?_);rintro e w5 ⟨rfl,be⟩;have N5:=zhz (G.below_on BN.out be);clear be)
   refine hK.out _ _ (RST.out _ (H2.out.keep N5.out)) fun hHeld=>?_
   clear hK K
   try simp only [Act.put,zs1,zs2,zs3]
   refine wC 7 fun K hK=>?_
   go_simp
   ((with_reducible refine (CS.out _).mono ?_);rintro e w6 ⟨rfl,rfl⟩)
   refine hK.out _ _ (RST.out _ (H2.out.keep N5.out)) fun hHeld=>?_
   clear hK K
   try simp only [Act.put,zs1,zs2,zs3]
   refine wR 13 ?_
   refine wpAnyH_done (by kernel_rfl) ?_ _
   clear hHeld
   have H5:=zhz (H2.out.keep N5.out)
   have K5:=zhz (K2.out.keep N5.out)
   have kl5:=H5.out.hl.rd
   go_wp2_with (first
    | (go_at_call 238;((with_reducible refine (CA.out _ H5.out).mono ?_);rintro e w7 ⟨rfl,r7,f7⟩;have H7:=zhz (H5.out.ring r7 f7 (fun k hk=>Or.inl hk));have K7:=zhz (K5.out.fr f7 (fun hk=>HLT.out bx (Or.inl (Or.inr (Or.inl (Or.inl hk)))) rfl));have F7:=zhz ((Fr.of_below (zae B2.out N5.out)).trans (f7.mono (fun k hk=>show N.all k from Or.inl (Or.inr (Or.inl (Or.inl hk))))));have kl7:=H7.out.hl.rd;clear r7 f7))
    | (go_at_call 225;((with_reducible refine (CL.out _ _ H7.out).mono ?_);rintro e w8 ⟨rfl,b8⟩;have H8:=zhz (H7.out.keep b8);have K8:=zhz (K7.out.keep b8);have F8:=zhz (F7.out.trans (Fr.of_below b8));have kw8:=K8.out.wr;have kr8:=K8.out.rd;clear b8)))
   rw [zal K8.out]
   refine bodyPost_ret (results_cell_row rfl _ _ bx _ _ (0,0) _ rfl (zab (lt_of_block K8.out) _) Tryz.underlying87 rfl (by kernel_rfl)) rfl ?_
   refine ⟨rfl,H8.out.fr (Fr.setObj (F:=fun k=>k=bx) (Fr.refl _ _) rfl _) (fun k hk e=>HLT.out k hk e),?_⟩
   exact Fr.drop_new (F:=N.all) (s:=bx) (Fr.setObj (F:=fun k=>N.all k∨k=bx) (F8.out.mono (fun k hk=>Or.inl hk)) (Or.inr rfl) _) (by have:=HB.out;omega)
  ·rw [if_neg hle]
   have t1:decide (sm≤N.L)=false:=by rw [zdn];exact hle
   clear DN hle
   go_enter Tryz.func220,Tryz.ntmps220
   go_upto_region 1 with (fail)
   rw [← HB.out]
   clear hw1 hbx
   go_upto_region 6 with (first
    | (go_at_call 62;((with_reducible refine CF.out.mono ?_);rintro e w2 ⟨rfl,b2⟩;have H2:=zhz (H1.out.keep b2);have kl2:=H2.out.hl.rd;have K2:=zhz (K1.out.keep b2);have B2:=zhz (zae L1.out b2);clear b2)))
   have BN:=zhz (show Below w2.heap.size w2 w2.drew from zaa (Below.refl _ _) 1)
   have st:=RST.out _ (H2.out.keep BN.out)
   clear kl kw kl2
   refine wp_region_held_drew (S:=fun Wo=>∀ j,Wo.cell? ⟨N.l,j,none⟩=(limC N s.al s.de s.ba)[j]?) (by kernel_rfl) st (fun hHeld=>?_)
   clear st
   refine wR 0 ?_
   refine wR 1 ?_
   refine wR 2 ?_
   refine wR 3 ?_
   refine wR 4 ?_
   refine wR 6 ?_
   refine wR 8 ?_
   refine wR 9 ?_
   refine wR 10 ?_
   refine wR 11 ?_
   refine wR 12 ?_
   refine wC 5 fun K hK=>?_
   go_simp
   ((with_reducible refine (CE.out _ (H2.out.keep BN.out)).mono ?_);rintro e w5 ⟨rfl,be⟩;have N5:=zhz (G.below_on BN.out be);clear be)
   refine hK.out _ _ (RST.out _ (H2.out.keep N5.out)) fun hHeld=>?_
   clear hK K
   try simp only [Act.put,zs1,zs2,zs3]
   refine wC 7 fun K hK=>?_
   go_simp
   ((with_reducible refine (CS.out _).mono ?_);rintro e w6 ⟨rfl,rfl⟩)
   refine hK.out _ _ (RST.out _ (H2.out.keep N5.out)) fun hHeld=>?_
   clear hK K
   try simp only [Act.put,zs1,zs2,zs3]
   refine wR 13 ?_
   refine wpAnyH_done (by kernel_rfl) ?_ _
   clear hHeld
   have H5:=zhz (H2.out.keep N5.out)
   have K5:=zhz (K2.out.keep N5.out)
   have kl5:=H5.out.hl.rd
   go_upto_region 9 with (fail)
   have BM:=zhz (show Below w5.heap.size w5 w5.drew from zaa (Below.refl _ _) 1)
   have st:=RST.out _ (H5.out.keep BM.out)
   clear kl5
   refine wp_region_held_drew (S:=fun Wo=>∀ j,Wo.cell? ⟨N.l,j,none⟩=(limC N s.al s.de s.ba)[j]?) (by kernel_rfl) st (fun hHeld=>?_)
   clear st
   refine wR 0 ?_
   refine wR 1 ?_
   refine wR 3 ?_
   refine wR 4 ?_
   refine wR 5 ?_
   refine wR 6 ?_
   refine wR 7 ?_
   refine wR 8 ?_
   refine wC 2 fun K hK=>?_
   go_simp
   ((with_reducible refine (CL.out _ _ (H5.out.keep BM.out)).mono ?_);rintro e w8 ⟨rfl,be⟩;have M2:=zhz (G.below_on BM.out be);clear be)
   refine hK.out _ _ (RST.out _ (H5.out.keep M2.out)) fun hHeld=>?_
   clear hK K
   try simp only [Act.put,zs1,zs2,zs3]
   refine wC 9 fun K hK=>?_
   go_simp
   ((with_reducible refine (CW.out _ (H5.out.keep M2.out)).mono ?_);rintro e w9 ⟨rfl,be⟩;have M9:=zhz (G.below_on M2.out be);have K9:=zhz (K5.out.keep M9.out);have kw9:=K9.out.wr;have kr9:=K9.out.rd;clear be)
   refine hK.out _ _ (RST.out _ (H5.out.keep M9.out)) fun hHeld=>?_
   clear hK K
   try simp only [Act.put,zs1,zs2,zs3]
   refine wR 10 ?_
   refine wC 11 fun K hK=>?_
   go_simp
   rw [zal K9.out]
   refine hK.out _ _ (RST.out _ ((H5.out.keep M9.out).fr (Fr.setObj (F:=fun k=>k=bx) (Fr.refl _ _) rfl _) (fun k hk e=>HLT.out k hk e))) fun hHeld=>?_
   clear hK K
   try simp only [Act.put,zs1,zs2,zs3]
   refine wpAnyH_done (by kernel_rfl) ?_ _
   clear hHeld
   go_wp2
   refine bodyPost_ret (results_cell_row rfl _ _ bx _ _ (0,0) _ rfl (zab (lt_of_block K9.out) _) Tryz.underlying87 rfl (by kernel_rfl)) rfl ?_
   refine ⟨rfl,(H5.out.keep M9.out).fr (Fr.setObj (F:=fun k=>k=bx) (Fr.refl _ _) rfl _) (fun k hk e=>HLT.out k hk e),?_⟩
   exact Fr.drop_new (F:=N.all) (s:=bx) (Fr.setObj (F:=fun k=>N.all k∨k=bx) ((Fr.of_below (zae (zae B2.out N5.out) M9.out)).mono (fun k (hk:False)=>hk.elim)) (Or.inr rfl) _) (by have:=HB.out;omega)
end
end
section
open Go.Shelf
open Ar (inR)
attribute [local go_sem] Oper.semAt_some
theorem smleastS {w1:World} {Q:SmN} {M:List Tri} {tot:Int} (h:SmM w1 Q M tot):Calls Tryz.prog 247 #[.pointer (some ⟨Q.s,0,none⟩)] w1 fun e w'=>e=.returned (.int .i64 (leastM Q.N.n M))∧Below w1.heap.size w1 w':=by
 obtain ⟨L,σ,h1,rfl⟩:=h
 have e:leastE Q.N.n L=leastM Q.N.n (L.map Ent.c):=by
  unfold leastE leastM
  rw [List.length_map,List.getLast?_map]
  cases L.getLast? <;> rfl
 rw [← e]
 exact zbI w1 h1
theorem zhi {P:Program} {fn:Func} {p q r:Tmp} (h:fn.results=#[.tmp p,.tmp q,.tmp r]) (tmps:Array Value) (w:World):(results fn tmps).run P w=.ok (.tuple #[tmps.getD p undef,tmps.getD q undef,tmps.getD r undef]) w:=by
 simp [results,h]
def mostM (n:Nat) (M:List Tri) (s:ByteArray):Int:=if (tellM M s).2.2 then (tellM M s).1 else leastM n M
def lightS (f:ByteArray→Int) (a:ByteArray × Int × Bool) (s:ByteArray):ByteArray × Int × Bool:=if a.2.2=false∨f s<a.2.1 then (s,f s,true) else a
def lightL (f:ByteArray→Int) (l:List (ByteArray × Cel)):ByteArray × Int × Bool:=l.foldl (fun a x=>lightS f a x.1) (⟨#[]⟩,0,false)
theorem zfc (f:ByteArray→Int) (l:List (ByteArray × Cel)) (x:ByteArray × Cel):lightL f (l++[x])=lightS f (lightL f l) x.1:=by
 unfold lightL
 rw [List.foldl_append]
 rfl
theorem zjv {w:World} {b1 b2 b3:Nat} {t1 t2 t3:TypeId} {a1 a2 a3:Value} (h1:Blk w b1 t1 #[a1]) (h2:Blk w b2 t2 #[a2]) (h3:Blk w b3 t3 #[a3]) (n12:b1≠b2) (n13:b1≠b3) (n23:b2≠b3) (v1 v2 v3:Value) :
  ∃ Y,((w.setCell ⟨b1,0,none⟩ v1).setCell ⟨b2,0,none⟩ v2).setCell ⟨b3,0,none⟩ v3=Y∧Blk Y b1 t1 #[v1]∧Blk Y b2 t2 #[v2]∧Blk Y b3 t3 #[v3]∧Fr (fun k=>k=b1∨k=b2∨k=b3) w Y:=by
 have e1:w.setCell ⟨b1,0,none⟩ v1=setObj w b1 (.cells #[v1] t1 (0,0)):=zac h1 _
 have f1:Fr (fun k=>k=b1) w (setObj w b1 (.cells #[v1] t1 (0,0))):=Fr.setObj (F:=fun k=>k=b1) (Fr.refl _ _) rfl _
 have k1:Blk (setObj w b1 (.cells #[v1] t1 (0,0))) b1 t1 #[v1]:=zab (lt_of_block h1) _
 have k2:=h2.fr f1 (fun e=>n12 e.symm)
 have k3:=h3.fr f1 (fun e=>n13 e.symm)
 rw [e1]
 generalize setObj w b1 (.cells #[v1] t1 (0,0))=w1 at *
 have e2:w1.setCell ⟨b2,0,none⟩ v2=setObj w1 b2 (.cells #[v2] t2 (0,0)):=zac k2 _
 have f2:Fr (fun k=>k=b2) w1 (setObj w1 b2 (.cells #[v2] t2 (0,0))):=Fr.setObj (F:=fun k=>k=b2) (Fr.refl _ _) rfl _
 have q2:Blk (setObj w1 b2 (.cells #[v2] t2 (0,0))) b2 t2 #[v2]:=zab (lt_of_block k2) _
 have q1:=k1.fr f2 n12
 have q3:=k3.fr f2 (fun e=>n23 e.symm)
 rw [e2]
 generalize setObj w1 b2 (.cells #[v2] t2 (0,0))=w2 at *
 have e3:w2.setCell ⟨b3,0,none⟩ v3=setObj w2 b3 (.cells #[v3] t3 (0,0)):=zac q3 _
 have f3:Fr (fun k=>k=b3) w2 (setObj w2 b3 (.cells #[v3] t3 (0,0))):=Fr.setObj (F:=fun k=>k=b3) (Fr.refl _ _) rfl _
 rw [e3]
 exact ⟨_,rfl,q1.fr f3 n13,q2.fr f3 n23,zab (lt_of_block q3) _,(f1.mono (fun k h=>Or.inl h)).trans ((f2.mono (fun k h=>Or.inr (Or.inl h))).trans (f3.mono (fun k h=>Or.inr (Or.inr h))))⟩
section
variable {N:LmN} {s:LmS}
abbrev LmS.res (s:LmS) (N:LmN):List (ByteArray × Cel):=plL s.σ.K s.C N.Q.N.n
def LmS.light (s:LmS) (N:LmN):ByteArray × Int × Bool:=lightL (mostM N.S.N.n s.M) (s.res N)
theorem zcV (w:World) (h:LmAt w N s) (hk:∀ x ∈ s.res N,x.1.size≤maxLen) :
  Calls Tryz.prog 250 #[.pointer (some ⟨N.l,0,none⟩)] w fun e w'=>e=.returned (.tuple #[.string (s.light N).1,.int .i64 (s.light N).2.1,.bool (s.light N).2.2])∧Below w.heap.size w w':=by
 obtain ⟨f,hf⟩:=zeq (mostM N.S.N.n s.M)
 have HF:=zhz hf
 have e0:s.light N=lightL f (s.res N):=by rw [hf];rfl
 rw [e0]
 clear e0 hf
 refine callsM Tryz.func250 rfl ?_
 simp only [Tryz.ntmps250,List.size_toArray,List.length_cons,List.length_nil,Nat.reduceAdd,Nat.reduceSub,Array.replicate_succ,Array.replicate_zero,List.push_toArray,List.append_toArray,List.nil_append,List.cons_append]
 go_upto_region 2 with (fail)
 obtain ⟨w4,e4,m1,m2,m3,m4,bw⟩:=zaE w #[.pointer (some ⟨N.l,0,none⟩)] #[.string ⟨#[]⟩] #[.int .i64 0] #[.bool false] 54 9 2 4
 rw [e4]
 have hsz:w4.heap.size=w.heap.size+1+1+1+1:=by rw [← e4];simp
 have P4:=h.hp.keep bw
 have M4:=h.hm.keep bw
 have L4:=h.hl.keep bw
 clear e4
 obtain ⟨r3,hr3⟩:=zeq (w.heap.size+1+1+1)
 obtain ⟨r2,hr2⟩:=zeq (w.heap.size+1+1)
 obtain ⟨r1,hr1⟩:=zeq (w.heap.size+1)
 obtain ⟨r0,hr0⟩:=zeq (w.heap.size)
 rw [← hr3] at m4 ⊢
 rw [← hr2] at m3 ⊢
 rw [← hr1] at m2 ⊢
 rw [← hr0] at m1 ⊢
 have HR:=zhz (And.intro hr0 (And.intro hr1 (And.intro hr2 (And.intro hr3 hsz))))
 have HN:=zhz (show ∀ k,N.all k→k<w.heap.size from fun k hk=>h.lt k hk)
 have HK:=zhz hk
 clear hr0 hr1 hr2 hr3 hk hsz
 have z0:=m1.rd
 have zl:=L4.rd
 have H4:=zhz (And.intro P4 (And.intro M4 (And.intro L4 (And.intro m1 (And.intro m2 (And.intro m3 (And.intro m4 bw)))))))
 clear P4 M4 L4 m1 m2 m3 m4 bw h
 go_wp2
 clear z0 zl
 refine (wpIn_wide (n:=0)).1 (zi2 (gf:=257) (fb:=#[.pointer (some ⟨N.Q.p,0,none⟩)]) rfl (enters_of Tryz.func257 (by kernel_rfl) rfl) (zey N.Q s.σ s.C w4 H4.out.1) (Below.refl _ _) (fun _=>rfl) KeepB.trans (fun _ _ h=>KeepB.turn h)
   (fun pre W'=>PlAt W' N.Q s.σ s.C∧SmM W' N.S s.M s.tot∧Blk W' N.l 144 (limC N s.al s.de s.ba)∧Blk W' r0 54 #[.pointer (some ⟨N.l,0,none⟩)]∧Blk W' r1 9 #[.string (lightL f pre).1]∧Blk W' r2 2 #[.int .i64 (lightL f pre).2.1]∧Blk W' r3 4 #[.bool (lightL f pre).2.2]∧Below w.heap.size w W')
   (fun c pre W'=>False)
   ?hI ?hIx ?h0 ?round ?done ?stop)
 case hI=>exact fun pre X Y hs hT=>⟨KeepB.pl (KeepB.turn hT) hs.1,KeepB.smM (KeepB.turn hT) hs.2.1,hs.2.2.1.turn hT,hs.2.2.2.1.turn hT,hs.2.2.2.2.1.turn hT,hs.2.2.2.2.2.1.turn hT,hs.2.2.2.2.2.2.1.turn hT,hT.below hs.2.2.2.2.2.2.2 (by have:=HR.out;omega)⟩
 case hIx=>exact fun c pre X Y hs hT=>hs
 case h0=>exact H4.out
 case stop=>exact fun D c pre W hD hpre h _=>h.elim
 case round =>
  rintro l pre ⟨sk,c⟩ X K hl hpx hI hK
  have HI:=zhz hI
  have HKK:=zhz hK
  have hmem:(sk,c) ∈ s.res N:=hpx.subset (by simp)
  have HSK:=zhz (show sk.size≤maxLen from HK.out _ hmem)
  clear hI hK hpx hmem
  gi_wp2
  refine HKK.out _ _ (zat (Below.refl _ _)) (KeepB.refl _ _) ?_
  intro W2 hT
  have HT:=zhz hT
  have HI2:=zhz (show PlAt W2 N.Q s.σ s.C∧SmM W2 N.S s.M s.tot∧Blk W2 N.l 144 (limC N s.al s.de s.ba)∧Blk W2 r0 54 #[.pointer (some ⟨N.l,0,none⟩)]∧Blk W2 r1 9 #[.string (lightL f pre).1]∧Blk W2 r2 2 #[.int .i64 (lightL f pre).2.1]∧Blk W2 r3 4 #[.bool (lightL f pre).2.2]∧Below w.heap.size w W2 from by
   have hs:=HI.out
   exact ⟨KeepB.pl (KeepB.turn hT) hs.1,KeepB.smM (KeepB.turn hT) hs.2.1,hs.2.2.1.turn hT,hs.2.2.2.1.turn hT,hs.2.2.2.2.1.turn hT,hs.2.2.2.2.2.1.turn hT,hs.2.2.2.2.2.2.1.turn hT,hT.below hs.2.2.2.2.2.2.2 (by have:=HR.out;omega)⟩)
  clear hT HI
  have CC:=zhz (fun (wx:World) (hx:SmM wx N.S s.M s.tot)=>zcj sk HSK.out wx hx)
  have CL:=zhz (fun (wx:World) (hx:SmM wx N.S s.M s.tot)=>smleastS hx)
  have hv:f sk=if (tellM s.M sk).2.2 then (tellM s.M sk).1 else leastM N.S.N.n s.M:=by rw [HF.out];rfl
  obtain ⟨⟨tn,te,tk⟩,htt⟩:∃ x,x=tellM s.M sk:=⟨_,rfl⟩
  rw [← htt] at CC hv
  clear htt
  obtain ⟨lm,hlm⟩:=zeq (leastM N.S.N.n s.M)
  rw [← hlm] at CL hv
  clear hlm
  have z0:=HI2.out.2.2.2.1.rd
  have zl:=HI2.out.2.2.1.rd
  cases tk
  focus
    obtain ⟨v,hvv⟩:=zeq (lm)
    have HV:=zhz (show f sk=v from by rw [hv,hvv];rfl)
    rw [← hvv] at CL
    clear hv hvv
    gi_wp2
    refine ⟨trivial,rfl,(CallsIn.inRound l (callsIn_wide.2 (CC.out W2 HI2.out.2.1))).mono ?_⟩
    rintro e w3 ⟨rfl,b3⟩
    have B3:=zhz b3
    have z0:=(HI2.out.2.2.2.1.keep b3).rd
    have zl:=(HI2.out.2.2.1.keep b3).rd
    clear b3
    gi_wp2
    refine ⟨trivial,rfl,(CallsIn.inRound l (callsIn_wide.2 (CL.out w3 (HI2.out.2.1.keep B3.out)))).mono ?_⟩
    rintro e w5 ⟨rfl,b5⟩
    have B5:=zhz (zae B3.out b5)
    clear b5 z0 zl B3
  rotate_left
  focus
    obtain ⟨v,hvv⟩:=zeq (tn)
    have HV:=zhz (show f sk=v from by rw [hv,hvv];rfl)
    rw [← hvv] at CC
    clear hv hvv
    gi_wp2
    refine ⟨trivial,rfl,(CallsIn.inRound l (callsIn_wide.2 (CC.out W2 HI2.out.2.1))).mono ?_⟩
    rintro e w5 ⟨rfl,b5⟩
    have B5:=zhz b5
    clear b5 z0 zl
  rotate_left
  all_goals
    clear CC CL
    have HS:=zhz (zfc f pre (sk,c))
    have HI5:=zhz (show Blk w5 r1 9 #[.string (lightL f pre).1]∧Blk w5 r2 2 #[.int .i64 (lightL f pre).2.1]∧Blk w5 r3 4 #[.bool (lightL f pre).2.2] from ⟨HI2.out.2.2.2.2.1.keep B5.out,HI2.out.2.2.2.2.2.1.keep B5.out,HI2.out.2.2.2.2.2.2.1.keep B5.out⟩)
    obtain ⟨⟨lk,ln,lf⟩,hle⟩:∃ x,x=lightL f pre:=⟨_,rfl⟩
    rw [← hle] at HI5 HS
    clear hle
    have v1:=HI5.out.1.rd
    have v2:=HI5.out.2.1.rd
    have v3:=HI5.out.2.2.rd
    have u1:=HI5.out.1.wr
    have u2:=HI5.out.2.1.wr
    have u3:=HI5.out.2.2.wr
    have hr:=HR.out
    have n12:r1≠r2:=by omega
    have n13:r1≠r3:=by omega
    have n23:r2≠r3:=by omega
    have n21:r2≠r1:=by omega
    have n31:r3≠r1:=by omega
    have n32:r3≠r2:=by omega
    clear hr
    have hcase:(lf=false)∨(lf=true∧decide (v<ln)=true)∨(lf=true∧decide (v<ln)=false):=by
     cases lf
     ·exact Or.inl rfl
     ·cases decide (v<ln) <;> simp
    rcases hcase with rfl | ⟨rfl,t1⟩ | ⟨rfl,t1⟩
    focus
      have HS:=zhz (show lightL f (pre++[(sk,c)])=(sk,v,true) from by rw [HS.out];unfold lightS;rw [if_pos (Or.inl rfl),HV.out])
      gi_wp2
    rotate_left
    focus
      have HS:=zhz (show lightL f (pre++[(sk,c)])=(sk,v,true) from by rw [HS.out];unfold lightS;rw [HV.out,if_pos (Or.inr (of_decide_eq_true t1))])
      gi_wp2
    rotate_left
    focus
      have HS:=zhz (show lightL f (pre++[(sk,c)])=(lk,ln,true) from by rw [HS.out];unfold lightS;rw [HV.out,if_neg (by intro h;rcases h with h | h;cases h;exact absurd h (of_decide_eq_false t1))])
      gi_wp2
      refine ⟨zat B5.out,KeepB.below B5.out,?_⟩
      dsimp only
      rw [HS.out]
      have hs:=HI2.out
      exact ⟨hs.1.keep B5.out,hs.2.1.keep B5.out,hs.2.2.1.keep B5.out,hs.2.2.2.1.keep B5.out,HI5.out.1,HI5.out.2.1,HI5.out.2.2,zae hs.2.2.2.2.2.2.2 B5.out⟩
    all_goals
      have hr:=HR.out
      have q1:=HI5.out.1
      have q2:=HI5.out.2.1
      have q3:=HI5.out.2.2
      obtain ⟨Y,hY,y1,y2,y3,fY⟩:=zjv q1 q2 q3 n12 n13 n23 (.string sk) (.int .i64 v) (.bool true)
      rw [hY]
      have hs:=HI2.out
      have hlt:=HN.out
      have hB5:=zae hs.2.2.2.2.2.2.2 B5.out
      refine ⟨(zat B5.out).trans (za1 fY (fun k o hk hB=>by omega)),(KeepB.below B5.out).trans (KeepB.fr fY (fun k hk=>by have:=hlt k (Or.inl (Or.inl hk));omega)),?_⟩
      dsimp only
      rw [HS.out]
      exact ⟨(hs.1.keep B5.out).fr fY (fun k hk=>by have:=hlt k (Or.inl (Or.inl hk));omega),(hs.2.1.keep B5.out).fr fY (fun k hk=>by have:=hlt k (Or.inl (Or.inr (Or.inr hk)));omega),(hs.2.2.1.keep B5.out).fr fY (by have:=hlt N.l (Or.inr rfl);omega),(hs.2.2.2.1.keep B5.out).fr fY (by omega),y1,y2,y3,hB5.trans (fY.below hB5.size (fun k hk=>by omega))⟩
 case done =>
  rintro D X hD ⟨hP,hM,hlb,k0,k1,k2,k3,hB⟩ hd
  obtain ⟨⟨lk,ln,lf⟩,hle⟩:∃ x,x=lightL f (s.res N):=⟨_,rfl⟩
  have hle':lightL f (plL s.σ.K s.C N.Q.N.n)=(lk,ln,lf):=hle.symm
  rw [hle'] at k1 k2 k3
  have HLE:=zhz hle
  have v1:=k1.rd
  have v2:=k2.rd
  have v3:=k3.rd
  have HX:=zhz (And.intro hB hd)
  have HDD:=zhz hD
  clear hP hM hlb k0 k1 k2 k3 hB hd hle hle' hD
  go_upto_region 9 with (fail)
  refine wp_region_held_drew (S:=fun Wo=>(∀ j,Wo.cell? ⟨r1,j,none⟩=(#[.string lk]:Array Value)[j]?)∧(∀ j,Wo.cell? ⟨r2,j,none⟩=(#[.int .i64 ln]:Array Value)[j]?)∧(∀ j,Wo.cell? ⟨r3,j,none⟩=(#[.bool lf]:Array Value)[j]?)) (by kernel_rfl) ⟨v1,v2,v3⟩ (fun hHeld=>?_)
  refine wR 0 ?_
  refine wR 1 ?_
  refine wR 2 ?_
  refine wR 3 ?_
  refine wR 4 ?_
  refine wR 5 ?_
  refine wpAnyH_done (by kernel_rfl) ?_ _
  clear hHeld
  go_wp2
  have hT:=Turn.putObj X.drew w4.heap.size D (.deferred none) HDD.out HX.out.2 rfl
  refine za6 rfl HX.out.2 (zhi rfl _ _) ⟨by rw [← HLE.out];rfl,hT.below (zaa HX.out.1 1) (by have:=HR.out;omega)⟩
end
end
section
open Ar (inR)
theorem zmd {w:World} {Q:SmN} {M:List Tri} {tot:Int} (h:SmM w Q M tot) (k:ByteArray):(0≤(tellM M k).1∧(tellM M k).1≤4611686018427387904)∧(0≤(tellM M k).2.1∧(tellM M k).2.1≤4611686018427387904):=by
 obtain ⟨L,σ,g,rfl⟩:=h
 unfold tellM
 cases hf:(L.map Ent.c).find? (fun t=>decide (t.1=k)) with
 | none=>exact ⟨⟨Int.le_refl _,by decide⟩,Int.le_refl _,by decide⟩
 | some t =>
  obtain ⟨x,hx,rfl⟩:=List.mem_map.1 (List.mem_of_find?_eq_some hf)
  have h1:=g.ok.bd x hx
  have h2:=g.ok.tb
  exact ⟨⟨h1.1,by show x.n≤_;omega⟩,h1.2.2.1,by show x.e≤_;omega⟩
section
variable {N:LmN} {s:LmS}
def LmS.giver (s:LmS) (N:LmN) (now:Int) (key:ByteArray):Option ByteArray :=
 match plIdle (s.res N) N.W now with
 | some x=>some x.1
 | none=>if (tellM s.M key).2.2=false then none else if (s.light N).2.2=false∨(tellM s.M key).1 - (tellM s.M key).2.1≤(s.light N).2.1 then none else some (s.light N).1
def giveV:Option ByteArray→Value
 | some k=>.tuple #[.string k,.bool true]
 | none=>.tuple #[.string ⟨#[]⟩,.bool false]
theorem zfg (now:Int) (key:ByteArray) (hs:key.size≤maxLen) (w:World) (h:LmAt w N s) (hg:LmG N s now) (hk:∀ x ∈ s.res N,x.1.size≤maxLen) :
  Calls Tryz.prog 232 #[.pointer (some ⟨N.l,0,none⟩),.int .i64 now,.string key] w fun e w'=>e=.returned (giveV (s.giver N now key))∧Below w.heap.size w w':=by
 have hW:inR N.W:=by unfold inR;have:=hg.W;omega
 have CI:=zhz (fun wx (hx:LmAt wx N s)=>zdg N.Q s.σ s.C N.U N.W N.B N.L now hW wx hx.hp (fun x hx=>by have:=(hg.c x hx).1.S;unfold inR;omega))
 have CC:=zhz (fun wx (hx:LmAt wx N s)=>zcj key hs wx hx.hm)
 have CL:=zhz (fun wx (hx:LmAt wx N s)=>zcV wx hx hk)
 have hb:=zmd h.hm key
 have eg:s.giver N now key=match plIdle (s.res N) N.W now with
   | some x=>some x.1
   | none=>if (tellM s.M key).2.2=false then none else if (s.light N).2.2=false∨(tellM s.M key).1 - (tellM s.M key).2.1≤(s.light N).2.1 then none else some (s.light N).1:=rfl
 rw [eg]
 obtain ⟨⟨tn,te,tk⟩,ht⟩:∃ x,x=tellM s.M key:=⟨_,rfl⟩
 obtain ⟨⟨lk,ln,lf⟩,hl⟩:∃ x,x=s.light N:=⟨_,rfl⟩
 rw [← ht] at CC hb ⊢
 rw [← hl] at CL ⊢
 have H0:=zhz h
 have ST:=zhz (fun (Wo:World) (hW:LmAt Wo N s)=>hW.hl.rd)
 have BN:=zhz (show Below w.heap.size w w.drew from zaa (Below.refl _ _) 1)
 have ew:IntKind.i64.wrap (tn - te)=tn - te:=by rw [IntKind.wrap_i64];have:=hb.1;have:=hb.2;dsimp only at *;omega
 obtain ⟨d,hd⟩:=zeq (tn - te)
 rw [← hd] at ew
 have hdb : -9223372036854775808≤tn - te∧tn - te≤9223372036854775807:=by have:=hb.1;have:=hb.2;dsimp only at *;omega
 have ed:tn - te=d:=hd.symm
 clear hd
 have CK:=ST.out
 have st:=ST.out _ (h.keep BN.out)
 clear CK h eg ht hl hb
 cases hp:plIdle (s.res N) N.W now with
 | some x =>
  have CI:=zhz (fun wx (hx:LmAt wx N s)=>show Calls Tryz.prog 239 #[.pointer (some ⟨N.Q.p,0,none⟩),pv N.U N.W N.B N.L,.int .i64 now] wx (fun e w'=>e=.returned (.tuple #[.string x.1,.bool true])∧Below wx.heap.size wx w') from (CI.out wx hx).mono (fun e w' hh=>by
   obtain ⟨⟨y,hy⟩,hb⟩:=hh
   rcases hy with ⟨hy,he⟩ | ⟨hy,he⟩
   ·have:some y=some x:=hy.symm.trans hp
    cases this
    exact ⟨he,hb⟩
   ·exact absurd (hy.symm.trans hp) (by simp)))
  clear hp CC CL
  go_enter Tryz.func232,Tryz.ntmps232
  go_upto_region 1 with (fail)
  refine wp_region_held_drew (S:=fun Wo=>∀ j,Wo.cell? ⟨N.l,j,none⟩=(limC N s.al s.de s.ba)[j]?) (by kernel_rfl) st (fun hHeld=>?_)
  clear st
  refine wR 0 ?_
  refine wR 1 ?_
  refine wR 2 ?_
  refine wR 3 ?_
  refine wR 4 ?_
  refine wR 5 ?_
  refine wR 6 ?_
  refine wR 7 ?_
  refine wR 8 ?_
  refine wC 9 fun K hK=>?_
  go_simp
  ((with_reducible refine (CI.out _ (H0.out.keep BN.out)).mono ?_);rintro e w9 ⟨rfl,be⟩;have N9:=zhz (G.below_on BN.out be);clear be)
  refine hK.out _ _ (ST.out _ (H0.out.keep N9.out)) fun hHeld=>?_
  clear hK K
  try simp only [Act.put,zs1,zs2,zs3]
  refine wR 10 ?_
  refine wR 11 ?_
  refine wR 12 ?_
  refine wR 13 ?_
  refine wR 14 ?_
  refine wpAnyH_done (by kernel_rfl) ?_ _
  clear hHeld
  go_wp2
  go_ret2
  exact ⟨rfl,N9.out⟩
 | none =>
  have CI:=zhz (fun wx (hx:LmAt wx N s)=>show Calls Tryz.prog 239 #[.pointer (some ⟨N.Q.p,0,none⟩),pv N.U N.W N.B N.L,.int .i64 now] wx (fun e w'=>e=.returned (.tuple #[.string ⟨#[]⟩,.bool false])∧Below wx.heap.size wx w') from (CI.out wx hx).mono (fun e w' hh=>by
   obtain ⟨⟨y,hy⟩,hb⟩:=hh
   rcases hy with ⟨hy,he⟩ | ⟨hy,he⟩
   ·exact absurd (hy.symm.trans hp) (by simp)
   ·exact ⟨he,hb⟩))
  clear hp
  have hcase:tk=false∨(tk=true∧lf=false)∨(tk=true∧lf=true∧decide (d≤ln)=true)∨(tk=true∧lf=true∧decide (d≤ln)=false):=by
   cases tk <;> cases lf <;> cases decide (d≤ln) <;> simp
  rcases hcase with rfl | ⟨rfl,rfl⟩ | ⟨rfl,rfl,t1⟩ | ⟨rfl,rfl,t1⟩
  focus
    simp only [if_true]
    have HL:=zhz trivial
  rotate_left
  focus
    simp only [Bool.true_eq_false,if_false,true_or,if_true]
  rotate_left
  focus
    have t2:=of_decide_eq_true t1
    simp only [Bool.true_eq_false,if_false,false_or]
    rw [ed,if_pos t2]
    clear t2
  rotate_left
  focus
    have t2:=of_decide_eq_false t1
    simp only [Bool.true_eq_false,if_false,false_or]
    rw [ed,if_neg t2]
    clear t2
  rotate_left
  all_goals
    go_enter Tryz.func232,Tryz.ntmps232
    go_upto_region 1 with (fail)
    refine wp_region_held_drew (S:=fun Wo=>∀ j,Wo.cell? ⟨N.l,j,none⟩=(limC N s.al s.de s.ba)[j]?) (by kernel_rfl) st (fun hHeld=>?_)
    clear st
    refine wR 0 ?_
    refine wR 1 ?_
    refine wR 2 ?_
    refine wR 3 ?_
    refine wR 4 ?_
    refine wR 5 ?_
    refine wR 6 ?_
    refine wR 7 ?_
    refine wR 8 ?_
    refine wC 9 fun K hK=>?_
    go_simp
    ((with_reducible refine (CI.out _ (H0.out.keep BN.out)).mono ?_);rintro e w9 ⟨rfl,be⟩;have N9:=zhz (G.below_on BN.out be);clear be)
    refine hK.out _ _ (ST.out _ (H0.out.keep N9.out)) fun hHeld=>?_
    clear hK K
    try simp only [Act.put,zs1,zs2,zs3]
    refine wR 10 ?_
    refine wR 11 ?_
    refine wR 12 ?_
    refine wR 13 ?_
    refine wR 14 ?_
    refine wpAnyH_done (by kernel_rfl) ?_ _
    clear hHeld
    have kl:=ST.out _ (H0.out.keep N9.out)
    go_wp2_with (first
     | (go_at_call 249;((with_reducible refine (CC.out _ (H0.out.keep N9.out)).mono ?_);rintro e w10 ⟨rfl,be⟩;have N10:=zhz (G.below_on N9.out be);have kl2:=ST.out _ (H0.out.keep N10.out);clear be))
     | (go_at_call 250;((with_reducible refine (CL.out _ (H0.out.keep N10.out)).mono ?_);rintro e w11 ⟨rfl,be⟩;have N11:=zhz (G.below_on N10.out be);clear be)))
    go_ret2
    first
     | exact ⟨rfl,N11.out⟩
     | exact ⟨rfl,N10.out⟩
end
end
section
open Ar (inR)
section
variable {N:LmN} {s:LmS}
def remC (C:List Cel):Option Nat→Cel
 | some i=>C.getD i (0,0,0,0)
 | none=>(0,0,0,0)
theorem zl5 (C:List Cel) (o:Option Nat):remV C o=.tuple #[celV (remC C o),.bool o.isSome]:=by cases o <;> rfl
def LmS.evict (s:LmS) (N:LmN) (now:Int) (key:ByteArray):LmS :=
 { s with σ:=(s.σ.del N.Q.N.n key).1,r:=s.r.add N.R key (boundP (remC s.C (s.σ.del N.Q.N.n key).2).1 (remC s.C (s.σ.del N.Q.N.n key).2).2.1 (remC s.C (s.σ.del N.Q.N.n key).2).2.2.2 N.U N.W N.L now) }
theorem LmG.rem {now:Int} (hg:LmG N s now) (o:Option Nat):celG (remC s.C o) N.U N.W N.B N.L now:=by
 have hz:celG (0,0,0,0) N.U N.W N.B N.L now:=⟨by decide,by decide,by decide,by decide,hg.U,hg.W,hg.B,hg.L,hg.n⟩
 cases o with
 | none=>exact hz
 | some i =>
  show celG (s.C.getD i (0,0,0,0)) _ _ _ _ _
  rw [List.getD_eq_getElem?_getD]
  cases hc:s.C[i]? with
  | none=>exact hz
  | some c=>exact (hg.c c (List.mem_of_getElem? hc)).1
theorem zfX {F S C D U W B L t:Int} (h:Rng F S C D U W B L t):0≤boundP F S D U W L t∧boundP F S D U W L t≤1048576:=by
 have hD:=h.D
 have hL:=h.L
 unfold boundP
 split <;> omega
theorem zff (now:Int) (key:ByteArray) (hs:key.size≤maxLen) (w:World) (h:LmAt w N s) (hg:LmG N s now) :
  Calls Tryz.prog 233 #[.pointer (some ⟨N.l,0,none⟩),.int .i64 now,.string key] w fun e w'=>e=.returned (.tuple #[])∧LmAt w' N (s.evict N now key)∧Fr N.parts w w':=by
 have CR:=zhz (zeA key hs w h.hp)
 have hG:=hg.rem (s.σ.del N.Q.N.n key).2
 have ee:s.evict N now key={ s with σ:=(s.σ.del N.Q.N.n key).1,r:=s.r.add N.R key (boundP (remC s.C (s.σ.del N.Q.N.n key).2).1 (remC s.C (s.σ.del N.Q.N.n key).2).2.1 (remC s.C (s.σ.del N.Q.N.n key).2).2.2.2 N.U N.W N.L now) }:=rfl
 rw [ee]
 clear ee
 obtain ⟨⟨σ',o⟩,ho⟩:∃ x,x=s.σ.del N.Q.N.n key:=⟨_,rfl⟩
 rw [← ho] at CR hG ⊢
 clear ho
 dsimp only at hG
 have CR:=zhz (show Calls Tryz.prog 251 #[.pointer (some ⟨N.Q.p,0,none⟩),.string key] w (fun e w'=>e=.returned (.tuple #[celV (remC s.C o),.bool o.isSome])∧PlAt w' N.Q σ' s.C∧Fr N.Q.F w w') from by rw [← zl5];exact CR.out)
 obtain ⟨c,hc⟩:=zeq (remC s.C o)
 dsimp only
 rw [← hc] at CR hG ⊢
 have hbd:=zfX hG
 have CB:=zhz (fun wx=>show Calls Tryz.prog 252 #[celV c,pv N.U N.W N.B N.L,.int .i64 now] wx (fun e w'=>e=.returned (.int .i64 (boundP c.1 c.2.1 c.2.2.2 N.U N.W N.L now))∧Below wx.heap.size wx w') from zhQ hG wx)
 obtain ⟨bd,hbe⟩:=zeq (boundP c.1 c.2.1 c.2.2.2 N.U N.W N.L now)
 rw [← hbe] at CB hbd ⊢
 have CA:=zhz (fun wx (r:RgS) (hx:RgAt wx N.R r)=>zgr key hs bd (by omega) wx hx)
 have H0:=zhz h
 have kl:=h.hl.rd
 clear hc hG hbe h hbd
 go_enter Tryz.func233,Tryz.ntmps233
 go_upto_region 1 with (first
  | (go_at_call 251;((with_reducible refine CR.out.mono ?_);rintro e w2 ⟨rfl,p2,f2⟩;have H2:=zhz (H0.out.pool p2 f2 (fun k hk=>Or.inl hk));have F2:=zhz (show Fr N.parts w w2 from f2.mono (fun k hk=>Or.inl (Or.inl hk)));clear p2 f2)))
 obtain ⟨w3,e3,k3,b3,s3⟩:=zad w2 #[.int .i64 c.1,.int .i64 c.2.1,.int .i64 c.2.2.1,.int .i64 c.2.2.2] 105
 rw [e3]
 have HNB:=zhz (show ∀ k,N.all k→k≠w2.heap.size from fun k hk e=>by have:=H2.out.lt k hk;omega)
 have H3:=zhz (H2.out.keep b3)
 have F3:=zhz (F2.out.trans (Fr.of_below b3))
 generalize w2.heap.size=cb at k3 HNB ⊢
 have K3:=zhz k3
 clear e3 b3 s3 k3 kl
 have ST:=zhz (fun (Wo:World) (r:RgS) (hW:LmAt Wo N { s with σ:=σ',r:=r }) (hK:Blk Wo cb 105 #[.int .i64 c.1,.int .i64 c.2.1,.int .i64 c.2.2.1,.int .i64 c.2.2.2])=>And.intro hW.hl.rd hK.rd)
 have BN:=zhz (show Below w3.heap.size w3 w3.drew from zaa (Below.refl _ _) 1)
 have st:=ST.out _ _ (H3.out.keep BN.out) (K3.out.keep BN.out)
 refine wp_region_held_drew (S:=fun Wo=>(∀ j,Wo.cell? ⟨N.l,j,none⟩=(limC N s.al s.de s.ba)[j]?)∧(∀ j,Wo.cell? ⟨cb,j,none⟩=(#[.int .i64 c.1,.int .i64 c.2.1,.int .i64 c.2.2.1,.int .i64 c.2.2.2]:Array Value)[j]?)) (by kernel_rfl) st (fun hHeld=>?_)
 clear st
 refine wR 0 ?_
 refine wR 1 ?_
 refine wR 2 ?_
 refine wR 3 ?_
 refine wR 4 ?_
 refine wR 5 ?_
 refine wR 6 ?_
 refine wR 7 ?_
 refine wR 8 ?_
 refine wR 9 ?_
 refine wR 10 ?_
 refine wC 11 fun K hK=>?_
 go_simp
 ((with_reducible refine (CB.out _).mono ?_);rintro e w11 ⟨rfl,be⟩;have N11:=zhz (G.below_on BN.out be);clear be)
 refine hK.out _ _ (ST.out _ _ (H3.out.keep N11.out) (K3.out.keep N11.out)) fun hHeld=>?_
 clear hK K
 try simp only [Act.put,zs1,zs2,zs3]
 refine wC 12 fun K hK=>?_
 go_simp
 ((with_reducible refine (CA.out _ _ (H3.out.keep N11.out).hr).mono ?_);rintro e w12 ⟨rfl,r12,f12⟩;have H12:=zhz ((H3.out.keep N11.out).ring r12 f12 (fun k hk=>Or.inl hk));have K12:=zhz ((K3.out.keep N11.out).fr f12 (fun hk=>HNB.out cb (Or.inl (Or.inr (Or.inl (Or.inl hk)))) rfl));have F12:=zhz ((F3.out.trans (Fr.of_below N11.out)).trans (f12.mono (fun k hk=>show N.parts k from Or.inr (Or.inl (Or.inl hk)))));clear r12 f12)
 refine hK.out _ _ (ST.out _ _ H12.out K12.out) fun hHeld=>?_
 clear hK K
 try simp only [Act.put,zs1,zs2,zs3]
 refine wpAnyH_done (by kernel_rfl) ?_ _
 clear hHeld
 go_wp2
 refine bodyPost_end (results_none rfl _ _ _) rfl ?_
 exact ⟨rfl,H12.out,F12.out⟩
end
end
section
open Ar (inR)
theorem Lm.own_fr {w w':World} {F:Nat→Prop} {base:Nat} {e:TypeId} {size n:Nat} {v:Value} {xs:List Value} (h:w.ownsRow base e size v n xs) (hf:Fr F w w') (hF:∀ k,F k→k<base):w'.ownsRow base e size v n xs:=by
 refine ⟨h.1,?_⟩
 rcases h.2 with h0 | ⟨g,cap,cur,hv,hbg,hg,h1⟩
 ·exact Or.inl h0
 ·exact Or.inr ⟨g,cap,cur,hv,hbg,by rw [hf.block g (lt_of_block hg) (fun hk=>by have:=hF g hk;omega)];exact hg,h1⟩
theorem Lm.fr_new {F:Nat→Prop} {G:Nat→Prop} {w w1 w2:World} (h:Fr F w w1) (h2:Fr G w1 w2) (hG:∀ k,G k→w.heap.size≤k):Fr F w w2 :=
 ⟨h2.os.trans h.os,h2.tape.trans h.tape,h2.output.trans h.output,Nat.le_trans h.size h2.size,fun k hk hF=>(h2.block k (Nat.lt_of_lt_of_le hk h.size) (fun g=>by have:=hG k g;omega)).trans (h.block k hk hF)⟩
theorem Lm.own_base {w:World} {base:Nat} {e:TypeId} {size n:Nat} {v:Value} {xs:List Value} (h:w.ownsRow base e size v n xs):∀ g,v.ownBlock=some g→base≤g:=by
 intro g hg
 rcases h.2 with ⟨rfl,_⟩ | ⟨g',cap,cur,rfl,hb,_⟩
 ·cases hg
 ·have:g'=g:=by simpa [Value.ownBlock] using hg
  omega
theorem infoEv:(Tryz.prog.info? 101).map (fun i=>(i.zero,i.size,i.bytes))=some (some (.agg #[.int .i64 0,.string ⟨#[]⟩,.bool false,.int .i64 0]),4,40):=by kernel_rfl
def evL (now:Int):List (ByteArray × Bool)→List Value
 | []=>[]
 | x :: r=>.int .i64 0 :: .string x.1 :: .bool x.2 :: .int .i64 now :: evL now r
section
variable {N:LmN} {s:LmS}
theorem zel (f:ByteArray→Int):∀ (l:List (ByteArray × Cel)) (a:ByteArray × Int × Bool),(l.foldl (fun a x=>lightS f a x.1) a).1=a.1∨∃ x ∈ l,x.1=(l.foldl (fun a x=>lightS f a x.1) a).1
 | [],a=>Or.inl rfl
 | x :: r,a=>by
  rw [List.foldl_cons]
  rcases zel f r (lightS f a x.1) with h | ⟨y,hy,h⟩
  ·rw [h]
   unfold lightS
   split
   ·exact Or.inr ⟨x,List.mem_cons_self,rfl⟩
   ·exact Or.inl rfl
  ·exact Or.inr ⟨y,List.mem_cons_of_mem _ hy,h⟩
theorem zgX {now:Int} {key o:ByteArray} (hk:∀ x ∈ s.res N,x.1.size≤maxLen) (h:s.giver N now key=some o):o.size≤maxLen:=by
 unfold LmS.giver at h
 cases hp:plIdle (s.res N) N.W now with
 | some x =>
  rw [hp] at h
  injection h with h
  subst h
  exact hk x (List.mem_of_find?_eq_some hp)
 | none =>
  rw [hp] at h
  dsimp only at h
  split at h
  ·cases h
  ·split at h
   ·cases h
   ·injection h with h
    subst h
    rcases zel (mostM N.S.N.n s.M) (s.res N) (⟨#[]⟩,0,false) with g | ⟨x,hx,g⟩
    ·show (lightL _ _).1.size≤_
     unfold lightL
     rw [g]
     exact Nat.zero_le _
    ·show (lightL _ _).1.size≤_
     unfold lightL
     rw [← g]
     exact hk x hx
def LmS.put (s:LmS) (N:LmN) (now:Int) (key:ByteArray):LmS :=
 { s with σ:=(s.σ.put N.Q.N.n key).1,C:=plSet s.C (now,now,estZ N.R s.r key,0) (s.σ.put N.Q.N.n key).2 }
def LmS.full (s:LmS) (N:LmN):Bool:=decide (((N.Q.N.n - s.σ.fl.length:Nat):Int)=(N.Q.N.n:Int))
def LmS.adm (s:LmS) (N:LmN) (now:Int) (key:ByteArray):LmS × List (ByteArray × Bool) :=
 if (posN N.Q.N.n s.σ.K key).isSome=true∨64<key.size then (s,[])
 else if s.full N=true then
  match s.giver N now key with
  | some o=>((s.evict N now o).put N now key,[(o,false),(key,true)])
  | none=>(s,[])
 else (s.put N now key,[(key,true)])
theorem zfd (now:Int) (key:ByteArray) (hs:key.size≤maxLen) (w:World) (h:LmAt w N s) (hg:LmG N s now) (hk:∀ x ∈ s.res N,x.1.size≤maxLen) :
  Calls Tryz.prog 219 #[.pointer (some ⟨N.l,0,none⟩),.int .i64 now,.string key] w fun e w'=>∃ v,e=.returned v∧w'.ownsRow w.heap.size 101 4 v (s.adm N now key).2.length (evL now (s.adm N now key).2)∧LmAt w' N (s.adm N now key).1∧Fr N.parts w w':=by
 have CF:=zhz (zbv key hs w h.hp)
 have CU:=zhz (fun wx (hx:LmAt wx N s)=>show Calls Tryz.prog 231 #[.pointer (some ⟨N.Q.p,0,none⟩)] wx (fun e w'=>e=.returned (.bool (s.full N))∧Below wx.heap.size wx w') from zdf wx hx.hp)
 have CG:=zhz (fun wx (hx:LmAt wx N s)=>zfg now key hs wx hx hg hk)
 have ea:s.adm N now key=if (posN N.Q.N.n s.σ.K key).isSome=true∨64<key.size then (s,[])
     else if s.full N=true then
      match s.giver N now key with
      | some o=>((s.evict N now o).put N now key,[(o,false),(key,true)])
      | none=>(s,[])
     else (s.put N now key,[(key,true)]):=rfl
 rw [ea]
 clear ea
 have H0:=zhz h
 have HG:=zhz hg
 have HKK:=zhz hk
 have HS:=zhz hs
 have kl:=h.hl.rd
 clear h hg hk
 by_cases hA:(posN N.Q.N.n s.σ.K key).isSome=true
 ·rw [if_pos (Or.inl hA)]
  obtain ⟨i,hi⟩:=Option.isSome_iff_exists.1 hA
  have CF:=zhz (show Calls Tryz.prog 62 #[.pointer (some ⟨N.Q.p,0,none⟩),.string key] w (fun e w'=>e=.returned (.pointer (some ⟨N.Q.cb,i*4,none⟩))∧Below w.heap.size w w') from by have:=CF.out;rw [hi] at this;exact this)
  clear hA hi CU CG hs
  go_enter Tryz.func219,Tryz.ntmps219
  go_wp2_with (go_at_call 62;((with_reducible refine CF.out.mono ?_);rintro e w2 ⟨rfl,b2⟩;have B2:=zhz b2;clear b2))
  go_ret
  exact ⟨_,rfl,World.ownsRow_nil _ _ _ _,H0.out.keep B2.out,(Fr.of_below B2.out).mono (fun k (hk:False)=>hk.elim)⟩
 have hn:posN N.Q.N.n s.σ.K key=none:=by
  cases hp:posN N.Q.N.n s.σ.K key with
  | none=>rfl
  | some i=>rw [hp] at hA;exact absurd rfl hA
 have CF:=zhz (show Calls Tryz.prog 62 #[.pointer (some ⟨N.Q.p,0,none⟩),.string key] w (fun e w'=>e=.returned (.pointer none)∧Below w.heap.size w w') from by have:=CF.out;rw [hn] at this;exact this)
 clear hn
 by_cases hB:64<key.size
 ·rw [if_pos (Or.inr hB)]
  have hB2:(64:Int)<(key.size:Int):=by omega
  clear hA CU CG hs
  go_enter Tryz.func219,Tryz.ntmps219
  go_wp2_with (go_at_call 62;((with_reducible refine CF.out.mono ?_);rintro e w2 ⟨rfl,b2⟩;have B2:=zhz b2;clear b2))
  go_ret
  exact ⟨_,rfl,World.ownsRow_nil _ _ _ _,H0.out.keep B2.out,(Fr.of_below B2.out).mono (fun k (hk:False)=>hk.elim)⟩
 rw [if_neg (by intro h;rcases h with h | h;exact hA h;exact hB h)]
 have hB2:¬ (64:Int)<(key.size:Int):=by omega
 have hB3:(key.size:Int)≤64:=by omega
 clear hA hB hs
 have t0:s.full N=true∨s.full N=false:=by cases s.full N <;> simp
 obtain ⟨fu,hfu⟩:=zeq (s.full N)
 rw [← hfu] at CU t0 ⊢
 clear hfu
 have hgs:∀ o,s.giver N now key=some o→o.size≤maxLen:=fun o ho=>zgX HKK.out ho
 obtain ⟨gi,hgi⟩:=zeq (s.giver N now key)
 rw [← hgi] at CG hgs ⊢
 clear hgi
 rcases t0 with rfl | rfl
 ·cases gi with
  | none =>
   simp only [if_true]
   clear hgs
   go_enter Tryz.func219,Tryz.ntmps219
   go_wp2_with (first
    | (go_at_call 62;((with_reducible refine CF.out.mono ?_);rintro e w2 ⟨rfl,b2⟩;have B2:=zhz b2;have kl2:=(H0.out.keep b2).hl.rd;clear b2))
    | (go_at_call 231;((with_reducible refine (CU.out _ (H0.out.keep B2.out)).mono ?_);rintro e w3 ⟨rfl,b3⟩;have B3:=zhz (zae B2.out b3);have kl3:=(H0.out.keep B3.out).hl.rd;clear b3))
    | (go_at_call 232;((with_reducible refine (CG.out _ (H0.out.keep B3.out)).mono ?_);rintro e w4 ⟨rfl,b4⟩;have B4:=zhz (zae B3.out b4);simp only [giveV];clear b4)))
   go_ret
   exact ⟨_,rfl,World.ownsRow_nil _ _ _ _,H0.out.keep B4.out,(Fr.of_below B4.out).mono (fun k (hk:False)=>hk.elim)⟩
  | some o =>
   simp only [if_true]
   have hos:=hgs o rfl
   have CE:=zhz (fun wx (hx:LmAt wx N s)=>zff now o hos wx hx HG.out)
   clear hgs hos
   go_enter Tryz.func219,Tryz.ntmps219
   go_upto_region 9 with (first
    | (go_at_call 62;((with_reducible refine CF.out.mono ?_);rintro e w2 ⟨rfl,b2⟩;have B2:=zhz b2;have kl2:=(H0.out.keep b2).hl.rd;clear b2))
    | (go_at_call 231;((with_reducible refine (CU.out _ (H0.out.keep B2.out)).mono ?_);rintro e w3 ⟨rfl,b3⟩;have B3:=zhz (zae B2.out b3);have kl3:=(H0.out.keep B3.out).hl.rd;clear b3))
    | (go_at_call 232;((with_reducible refine (CG.out _ (H0.out.keep B3.out)).mono ?_);rintro e w4 ⟨rfl,b4⟩;have B4:=zhz (zae B3.out b4);simp only [giveV];clear b4))
    | (go_at_call 233;((with_reducible refine (CE.out _ (H0.out.keep B4.out)).mono ?_);rintro e w5 ⟨rfl,h5,f5⟩;have H5:=zhz h5;have F5:=zhz (((Fr.of_below B4.out).mono (fun k (hk:False)=>show N.parts k from hk.elim)).trans f5);have S5:=zhz (show w.heap.size≤w5.heap.size from Nat.le_trans B4.out.size f5.size);clear h5 f5)))
   clear kl kl2 kl3
   obtain ⟨i0,hi0,hz0,hz1,hz2⟩:=info_parts infoEv
   have HI:=zhz (And.intro hi0 (And.intro hz0 (And.intro hz1 hz2)))
   clear hi0 hz0 hz1 hz2
   go_upto_region 10 with (at_builtin;refine G.wpList_push (w0:=w5) (by rfl) _ _ (by rfl) (by rfl) (by rfl) (by rfl) HI.out.1 HI.out.2.1 HI.out.2.2.1 HI.out.2.2.2 (by rfl) (by omega) (World.ownsRow_nil w5 w.heap.size 101 4) S5.out [.int .i64 0,.string o,.bool false,.int .i64 now] (by rfl) (by simp [Value.oneCell']) (by omega) (by unfold maxLen;omega) ?_;intro g6 cl6 w7 hown6 hf6 hat6;have O7:=zhz hown6;have H7:=zhz (H5.out.fr hf6 (fun k hk e=>by cases e));have F7:=zhz (F5.out.trans (hf6.mono (fun k e=>by cases e)));have S7:=zhz (Nat.le_trans S5.out hf6.size);clear hown6 hf6 hat6)
   obtain ⟨i1,hi0,hz0,hz1,hz2⟩:=info_parts infoEv
   have HI2:=zhz (And.intro hi0 (And.intro hz0 (And.intro hz1 hz2)))
   clear hi0 hz0 hz1 hz2
   have CS:=zhz (fun wx (hx:LmAt wx N (s.evict N now o))=>zaG key HS.out wx hx.hr)
   have CN:=zhz (fun wx=>zfl now (estZ N.R ((s.evict N now o)).r key) wx)
   have CP:=zhz (fun wx (hx:LmAt wx N (s.evict N now o))=>zez key HS.out (now,now,estZ N.R ((s.evict N now o)).r key,0) wx hx.hp)
   have EP:=zhz (show ((s.evict N now o)).put N now key={ (s.evict N now o) with σ:=(((s.evict N now o)).σ.put N.Q.N.n key).1,C:=plSet ((s.evict N now o)).C (now,now,estZ N.R ((s.evict N now o)).r key,0) (((s.evict N now o)).σ.put N.Q.N.n key).2 } from rfl)
   have NP:=zhz (fun wx (hx:Calls Tryz.prog 234 #[.pointer (some ⟨N.Q.p,0,none⟩),.string key,celV (now,now,estZ N.R ((s.evict N now o)).r key,0)] wx (fun e w'=>e=.returned (plP N.Q (((s.evict N now o)).σ.put N.Q.N.n key).2)∧PlAt w' N.Q (((s.evict N now o)).σ.put N.Q.N.n key).1 (plSet ((s.evict N now o)).C (now,now,estZ N.R ((s.evict N now o)).r key,0) (((s.evict N now o)).σ.put N.Q.N.n key).2)∧Fr N.Q.F wx w'))=>hx)
   obtain ⟨est,hest⟩:=zeq (estZ N.R ((s.evict N now o)).r key)
   rw [← hest] at CS CN CP EP NP
   clear hest
   have ST:=zhz (fun (Wo:World) (hW:LmAt Wo N (s.evict N now o))=>show ∀ (j:Nat),Wo.cell? ⟨N.l,j,none⟩=(limC N s.al s.de s.ba)[j]? from hW.hl.rd)
   have BN:=zhz (show Below w7.heap.size w7 w7.drew from zaa (Below.refl _ _) 1)
   have st:=ST.out _ (H7.out.keep BN.out)
   refine wp_region_held_drew (S:=fun Wo=>∀ j,Wo.cell? ⟨N.l,j,none⟩=(limC N s.al s.de s.ba)[j]?) (by kernel_rfl) st (fun hHeld=>?_)
   clear st
   refine wR 0 ?_
   refine wR 1 ?_
   refine wR 2 ?_
   refine wR 3 ?_
   refine wR 4 ?_
   refine wR 5 ?_
   refine wR 6 ?_
   refine wR 7 ?_
   refine wR 8 ?_
   refine wR 9 ?_
   refine wR 10 ?_
   refine wC 11 fun K hK=>?_
   go_simp
   ((with_reducible refine (CS.out _ (H7.out.keep BN.out)).mono ?_);rintro e w11 ⟨rfl,be⟩;have N11:=zhz (G.below_on BN.out be);clear be)
   refine hK.out _ _ (ST.out _ (H7.out.keep N11.out)) fun hHeld=>?_
   clear hK K
   try simp only [Act.put,zs1,zs2,zs3]
   refine wC 12 fun K hK=>?_
   go_simp
   ((with_reducible refine (CN.out _).mono ?_);rintro e w12 ⟨rfl,be⟩;have N12:=zhz (G.below_on N11.out be);clear be)
   refine hK.out _ _ (ST.out _ (H7.out.keep N12.out)) fun hHeld=>?_
   clear hK K
   try simp only [Act.put,zs1,zs2,zs3]
   refine wC 13 fun K hK=>?_
   go_simp
   refine ((CP.out _ (H7.out.keep N12.out)).mono ?_);rintro e w13 ⟨rfl,p13,f13⟩;have H13:=zhz (show LmAt w13 N (((s.evict N now o)).put N now key) from by rw [EP.out];exact (H7.out.keep N12.out).pool p13 f13 (fun k hk=>Or.inl hk));have F13:=zhz ((F7.out.trans ((Fr.of_below N12.out).mono (fun k (hk:False)=>hk.elim))).trans (f13.mono (fun k hk=>show N.parts k from Or.inl (Or.inl hk))));have O13:=zhz (Lm.own_fr (Lm.own_fr (F:=fun _=>False) O7.out (Fr.of_below N12.out) (fun k hk=>hk.elim)) f13 (fun k hk=>H0.out.lt k (Or.inl (Or.inl (Or.inl hk)))));have S13:=zhz (Nat.le_trans S7.out (Nat.le_trans N12.out.size f13.size));clear p13 f13
   refine hK.out _ _ (show ∀ j,w13.cell? ⟨N.l,j,none⟩=(limC N s.al s.de s.ba)[j]? from H13.out.hl.rd) fun hHeld=>?_
   clear hK K
   try simp only [Act.put,zs1,zs2,zs3]
   refine wpAnyH_done (by kernel_rfl) ?_ _
   clear hHeld
   go_wp2_with (at_builtin;refine G.wpList_push (w0:=w13) (by rfl) _ _ (by rfl) (by rfl) (by rfl) (by rfl) HI2.out.1 HI2.out.2.1 HI2.out.2.2.1 HI2.out.2.2.2 (by rfl) (by omega) O13.out S13.out [.int .i64 0,.string key,.bool true,.int .i64 now] (by rfl) (by simp [Value.oneCell']) (by omega) (by unfold maxLen;omega) ?_;intro g14 cl14 w14 hown14 hf14 hat14;have O14:=zhz hown14;have H14:=zhz (H13.out.fr hf14 (fun k hk e=>by have:=Lm.own_base O13.out k e;have:=H0.out.lt k hk;omega));have F14:=zhz (show Fr N.parts w w14 from Lm.fr_new F13.out hf14 (fun k e=>Lm.own_base O13.out k e));clear hown14 hf14 hat14)
   go_ret
   exact ⟨_,rfl,O14.out,H14.out,F14.out⟩
 ·simp only [Bool.false_eq_true,if_false]
  clear hgs CG
  go_enter Tryz.func219,Tryz.ntmps219
  go_upto_region 10 with (first
   | (go_at_call 62;((with_reducible refine CF.out.mono ?_);rintro e w2 ⟨rfl,b2⟩;have B2:=zhz b2;have kl2:=(H0.out.keep b2).hl.rd;clear b2))
   | (go_at_call 231;((with_reducible refine (CU.out _ (H0.out.keep B2.out)).mono ?_);rintro e w7 ⟨rfl,b3⟩;have B3:=zhz (zae B2.out b3);clear b3)))
  have O7:=zhz (World.ownsRow_nil w7 w.heap.size 101 4)
  have H7:=zhz (H0.out.keep B3.out)
  have F7:=zhz ((Fr.of_below B3.out).mono (fun k (hk:False)=>show N.parts k from hk.elim))
  have S7:=zhz (show w.heap.size≤w7.heap.size from B3.out.size)
  clear kl kl2
  obtain ⟨i1,hi0,hz0,hz1,hz2⟩:=info_parts infoEv
  have HI2:=zhz (And.intro hi0 (And.intro hz0 (And.intro hz1 hz2)))
  clear hi0 hz0 hz1 hz2
  have CS:=zhz (fun wx (hx:LmAt wx N s)=>zaG key HS.out wx hx.hr)
  have CN:=zhz (fun wx=>zfl now (estZ N.R s.r key) wx)
  have CP:=zhz (fun wx (hx:LmAt wx N s)=>zez key HS.out (now,now,estZ N.R s.r key,0) wx hx.hp)
  have EP:=zhz (show s.put N now key={ s with σ:=(s.σ.put N.Q.N.n key).1,C:=plSet s.C (now,now,estZ N.R s.r key,0) (s.σ.put N.Q.N.n key).2 } from rfl)
  have NP:=zhz (fun wx (hx:Calls Tryz.prog 234 #[.pointer (some ⟨N.Q.p,0,none⟩),.string key,celV (now,now,estZ N.R s.r key,0)] wx (fun e w'=>e=.returned (plP N.Q (s.σ.put N.Q.N.n key).2)∧PlAt w' N.Q (s.σ.put N.Q.N.n key).1 (plSet s.C (now,now,estZ N.R s.r key,0) (s.σ.put N.Q.N.n key).2)∧Fr N.Q.F wx w'))=>hx)
  obtain ⟨est,hest⟩:=zeq (estZ N.R s.r key)
  rw [← hest] at CS CN CP EP NP
  clear hest
  have ST:=zhz (fun (Wo:World) (hW:LmAt Wo N s)=>show ∀ (j:Nat),Wo.cell? ⟨N.l,j,none⟩=(limC N s.al s.de s.ba)[j]? from hW.hl.rd)
  have BN:=zhz (show Below w7.heap.size w7 w7.drew from zaa (Below.refl _ _) 1)
  have st:=ST.out _ (H7.out.keep BN.out)
  refine wp_region_held_drew (S:=fun Wo=>∀ j,Wo.cell? ⟨N.l,j,none⟩=(limC N s.al s.de s.ba)[j]?) (by kernel_rfl) st (fun hHeld=>?_)
  clear st
  refine wR 0 ?_
  refine wR 1 ?_
  refine wR 2 ?_
  refine wR 3 ?_
  refine wR 4 ?_
  refine wR 5 ?_
  refine wR 6 ?_
  refine wR 7 ?_
  refine wR 8 ?_
  refine wR 9 ?_
  refine wR 10 ?_
  refine wC 11 fun K hK=>?_
  go_simp
  ((with_reducible refine (CS.out _ (H7.out.keep BN.out)).mono ?_);rintro e w11 ⟨rfl,be⟩;have N11:=zhz (G.below_on BN.out be);clear be)
  refine hK.out _ _ (ST.out _ (H7.out.keep N11.out)) fun hHeld=>?_
  clear hK K
  try simp only [Act.put,zs1,zs2,zs3]
  refine wC 12 fun K hK=>?_
  go_simp
  ((with_reducible refine (CN.out _).mono ?_);rintro e w12 ⟨rfl,be⟩;have N12:=zhz (G.below_on N11.out be);clear be)
  refine hK.out _ _ (ST.out _ (H7.out.keep N12.out)) fun hHeld=>?_
  clear hK K
  try simp only [Act.put,zs1,zs2,zs3]
  refine wC 13 fun K hK=>?_
  go_simp
  refine ((CP.out _ (H7.out.keep N12.out)).mono ?_);rintro e w13 ⟨rfl,p13,f13⟩;have H13:=zhz (show LmAt w13 N (s.put N now key) from by rw [EP.out];exact (H7.out.keep N12.out).pool p13 f13 (fun k hk=>Or.inl hk));have F13:=zhz ((F7.out.trans ((Fr.of_below N12.out).mono (fun k (hk:False)=>hk.elim))).trans (f13.mono (fun k hk=>show N.parts k from Or.inl (Or.inl hk))));have O13:=zhz (Lm.own_fr (Lm.own_fr (F:=fun _=>False) O7.out (Fr.of_below N12.out) (fun k hk=>hk.elim)) f13 (fun k hk=>H0.out.lt k (Or.inl (Or.inl (Or.inl hk)))));have S13:=zhz (Nat.le_trans S7.out (Nat.le_trans N12.out.size f13.size));clear p13 f13
  refine hK.out _ _ (show ∀ j,w13.cell? ⟨N.l,j,none⟩=(limC N s.al s.de s.ba)[j]? from H13.out.hl.rd) fun hHeld=>?_
  clear hK K
  try simp only [Act.put,zs1,zs2,zs3]
  refine wpAnyH_done (by kernel_rfl) ?_ _
  clear hHeld
  go_wp2_with (at_builtin;refine G.wpList_push (w0:=w13) (by rfl) _ _ (by rfl) (by rfl) (by rfl) (by rfl) HI2.out.1 HI2.out.2.1 HI2.out.2.2.1 HI2.out.2.2.2 (by rfl) (by omega) O13.out S13.out [.int .i64 0,.string key,.bool true,.int .i64 now] (by rfl) (by simp [Value.oneCell']) (by omega) (by unfold maxLen;omega) ?_;intro g14 cl14 w14 hown14 hf14 hat14;have O14:=zhz hown14;have H14:=zhz (H13.out.fr hf14 (fun k hk e=>by have:=Lm.own_base O13.out k e;have:=H0.out.lt k hk;omega));have F14:=zhz (show Fr N.parts w w14 from Lm.fr_new F13.out hf14 (fun k e=>Lm.own_base O13.out k e));clear hown14 hf14 hat14)
  go_ret
  exact ⟨_,rfl,O14.out,H14.out,F14.out⟩
end
end
section
open Ar (inR)
section
variable {N:LmN} {s:LmS}
def LmS.resi (s:LmS) (N:LmN) (now:Int) (key:ByteArray):Option Cel :=
 match posN N.Q.N.n s.σ.K key with
 | some i=>some (s.C.getD i (0,0,0,0))
 | none=>if s.full N=true∧(plIdle (s.res N) N.W now).isSome=false then none else some (now,now,estZ N.R s.r key,0)
def resV:Option Cel→Value
 | some c=>.tuple #[celV c,.bool true]
 | none=>.tuple #[celV (0,0,0,0),.bool false]
theorem zcW (now:Int) (key:ByteArray) (hs:key.size≤maxLen) (w:World) (h:LmAt w N s) (hg:LmG N s now) :
  Calls Tryz.prog 222 #[.pointer (some ⟨N.l,0,none⟩),.int .i64 now,.string key] w fun e w'=>e=.returned (resV (s.resi N now key))∧Below w.heap.size w w':=by
 obtain ⟨w1,hw1,k1,l1,s1⟩:=zad w #[.int .i64 0,.int .i64 0,.int .i64 0,.int .i64 0] 105
 obtain ⟨bx,hbx⟩:=zeq (w.heap.size)
 have CF:=zhz (zbv key hs w1 (h.hp.keep l1))
 have H1:=zhz (h.keep l1)
 have HLT:=zhz (show ∀ k,N.all k→k≠bx from fun k hk e=>by have:=h.lt k hk;omega)
 have hlen:=h.hp.len
 have hpos:∀ i,posN N.Q.N.n s.σ.K key=some i→i<s.C.length:=fun i hi=>by rw [hlen];exact (zax hi).1
 have hW:inR N.W:=by unfold inR;have:=hg.W;omega
 have CI:=zhz (fun wx (hx:LmAt wx N s)=>zdg N.Q s.σ s.C N.U N.W N.B N.L now hW wx hx.hp (fun x hx=>by have:=(hg.c x hx).1.S;unfold inR;omega))
 have CU:=zhz (fun wx (hx:LmAt wx N s)=>show Calls Tryz.prog 231 #[.pointer (some ⟨N.Q.p,0,none⟩)] wx (fun e w'=>e=.returned (.bool (s.full N))∧Below wx.heap.size wx w') from zdf wx hx.hp)
 have CE:=zhz (fun wx (hx:LmAt wx N s)=>zaG key hs wx hx.hr)
 have CN:=zhz (fun wx=>zfl now (estZ N.R s.r key) wx)
 rw [← hbx] at k1
 have K1:=zhz k1
 have L1:=zhz l1
 have HB:=zhz hbx
 have kl:=H1.out.hl.rd
 have kr:=k1.rd
 have kw:=k1.wr
 have er:s.resi N now key=match posN N.Q.N.n s.σ.K key with
   | some i=>some (s.C.getD i (0,0,0,0))
   | none=>if s.full N=true∧(plIdle (s.res N) N.W now).isSome=false then none else some (now,now,estZ N.R s.r key,0):=rfl
 rw [er]
 clear er k1 l1 s1 h hlen hW
 cases hp:posN N.Q.N.n s.σ.K key with
 | some i =>
  rw [hp] at CF
  have hil:=hpos i hp
  obtain ⟨c,hci⟩:∃ c,s.C[i]?=some c:=⟨_,zge hil⟩
  have hcD:s.C.getD i (0,0,0,0)=c:=by rw [List.getD_eq_getElem?_getD,hci];rfl
  simp only [hcD]
  have HSI:=zhz hci
  have CF:=zhz (show Calls Tryz.prog 62 #[.pointer (some ⟨N.Q.p,0,none⟩),.string key] w1 (fun e w'=>e=.returned (.pointer (some ⟨N.Q.cb,i*4,none⟩))∧Below w1.heap.size w1 w') from CF.out)
  clear hp hpos hil hci hcD CI CU CE CN
  go_enter Tryz.func222,Tryz.ntmps222
  go_upto_region 1 with (fail)
  rw [← HB.out]
  clear hw1 hbx
  go_wp2_with (go_at_call 62;((with_reducible refine CF.out.mono ?_);rintro e w2 ⟨rfl,b2⟩;have H2:=zhz (H1.out.keep b2);obtain ⟨q0,q1,q2,q3⟩:=H2.out.hp.cell HSI.out;have K2:=zhz (K1.out.keep b2);have kr2:=K2.out.rd;have kw2:=K2.out.wr;have B2:=zhz (zae L1.out b2);clear b2 kr kw))
  rw [zaj K2.out]
  refine bodyPost_ret (zak rfl _ _ bx _ _ (0,0) _ rfl (zab (lt_of_block K2.out) _) Tryz.underlying105 rfl (by kernel_rfl)) rfl ?_
  exact ⟨rfl,B2.out.trans ((Fr.setObj (F:=fun k=>k=bx) (Fr.refl _ _) rfl _).below B2.out.size (fun k hk=>by have:=HB.out;omega))⟩
 | none =>
  rw [hp] at CF
  have CF:=zhz (show Calls Tryz.prog 62 #[.pointer (some ⟨N.Q.p,0,none⟩),.string key] w1 (fun e w'=>e=.returned (.pointer none)∧Below w1.heap.size w1 w') from CF.out)
  have CI:=zhz (fun wx (hx:LmAt wx N s)=>show Calls Tryz.prog 239 #[.pointer (some ⟨N.Q.p,0,none⟩),pv N.U N.W N.B N.L,.int .i64 now] wx (fun e w'=>∃ k,e=.returned (.tuple #[.string k,.bool (plIdle (s.res N) N.W now).isSome])∧Below wx.heap.size wx w') from (CI.out wx hx).mono (fun e w' hh=>by
   obtain ⟨⟨y,hy⟩,hb⟩:=hh
   rcases hy with ⟨hy,he⟩ | ⟨hy,he⟩
   ·rw [show plIdle (s.res N) N.W now=some y from hy];exact ⟨_,he,hb⟩
   ·rw [show plIdle (s.res N) N.W now=none from hy];exact ⟨_,he,hb⟩))
  clear hp hpos
  obtain ⟨id,hid⟩:=zeq ((plIdle (s.res N) N.W now).isSome)
  obtain ⟨fu,hfu⟩:=zeq (s.full N)
  obtain ⟨est,hest⟩:=zeq (estZ N.R s.r key)
  rw [← hid] at CI
  rw [← hfu] at CU
  rw [← hest] at CE CN
  simp only [← hid,← hfu,← hest]
  clear hid hfu hest
  have ST:=zhz (fun (Wo:World) (hW:LmAt Wo N s)=>hW.hl.rd)
  have hcase:(fu=true∧id=false)∨fu=false∨(fu=true∧id=true):=by cases fu <;> cases id <;> simp
  rcases hcase with ⟨rfl,rfl⟩ | rfl | ⟨rfl,rfl⟩
  focus
    simp only [and_self,if_true]
  rotate_left
  focus
    simp only [Bool.false_eq_true,false_and,if_false]
  rotate_left
  focus
    simp only [Bool.true_eq_false,and_false,if_false]
  rotate_left
  all_goals
    go_enter Tryz.func222,Tryz.ntmps222
    go_upto_region 1 with (fail)
    rw [← HB.out]
    clear hw1 hbx
    go_upto_region 4 with (go_at_call 62;((with_reducible refine CF.out.mono ?_);rintro e w2 ⟨rfl,b2⟩;have H2:=zhz (H1.out.keep b2);have K2:=zhz (K1.out.keep b2);have B2:=zhz (zae L1.out b2);clear b2 kr kw kl))
    have BN:=zhz (show Below w2.heap.size w2 w2.drew from zaa (Below.refl _ _) 1)
    have st:=ST.out _ (H2.out.keep BN.out)
    refine wp_region_held_drew (S:=fun Wo=>∀ j,Wo.cell? ⟨N.l,j,none⟩=(limC N s.al s.de s.ba)[j]?) (by kernel_rfl) st (fun hHeld=>?_)
    clear st
    refine wR 0 ?_
    refine wR 1 ?_
    refine wR 2 ?_
    refine wR 3 ?_
    refine wR 4 ?_
    refine wR 5 ?_
    refine wR 6 ?_
    refine wR 7 ?_
    refine wR 8 ?_
    refine wC 9 fun K hK=>?_
    go_simp
    ((with_reducible refine (CI.out _ (H2.out.keep BN.out)).mono ?_);rintro e w9 ⟨ik,rfl,be⟩;have N9:=zhz (G.below_on BN.out be);clear be)
    refine hK.out _ _ (ST.out _ (H2.out.keep N9.out)) fun hHeld=>?_
    clear hK K
    try simp only [Act.put,zs1,zs2,zs3]
    refine wR 10 ?_
    refine wR 11 ?_
    refine wR 12 ?_
    refine wR 13 ?_
    refine wR 14 ?_
    refine wpAnyH_done (by kernel_rfl) ?_ _
    clear hHeld
    have H9:=zhz (H2.out.keep N9.out)
    have kl9:=H9.out.hl.rd
    have K9:=zhz (K2.out.keep N9.out)
    have kw9:=K9.out.wr
    have kr9:=K9.out.rd
    go_wp2_with (first
     | (go_at_call 231;((with_reducible refine (CU.out _ H9.out).mono ?_);rintro e w10 ⟨rfl,be⟩;have N10:=zhz (zae N9.out be);have H10:=zhz (H9.out.keep be);have kl10:=H10.out.hl.rd;have K10:=zhz (K9.out.keep be);have kw10:=K10.out.wr;have kr10:=K10.out.rd;clear be))
     | (go_at_call 236;((with_reducible refine (CE.out _ H10.out).mono ?_);rintro e w11 ⟨rfl,be⟩;have N11:=zhz (zae N10.out be);have K11:=zhz (K10.out.keep be);clear be))
     | (go_at_call 235;((with_reducible refine (CN.out _).mono ?_);rintro e w12 ⟨rfl,be⟩;have N12:=zhz (zae N11.out be);have K12:=zhz (K11.out.keep be);have kw12:=K12.out.wr;have kr12:=K12.out.rd;clear be)))
    first
     | (rw [zaj K12.out]
        refine bodyPost_ret (zak rfl _ _ bx _ _ (0,0) _ rfl (zab (lt_of_block K12.out) _) Tryz.underlying105 rfl (by kernel_rfl)) rfl ?_
        exact ⟨rfl,(zae B2.out N12.out).trans ((Fr.setObj (F:=fun k=>k=bx) (Fr.refl _ _) rfl _).below (zae B2.out N12.out).size (fun k hk=>by have:=HB.out;omega))⟩)
     | (rw [zaj K10.out]
        refine bodyPost_ret (zak rfl _ _ bx _ _ (0,0) _ rfl (zab (lt_of_block K10.out) _) Tryz.underlying105 rfl (by kernel_rfl)) rfl ?_
        exact ⟨rfl,(zae B2.out N10.out).trans ((Fr.setObj (F:=fun k=>k=bx) (Fr.refl _ _) rfl _).below (zae B2.out N10.out).size (fun k hk=>by have:=HB.out;omega))⟩)
end
end
section
open Ar (inR)
theorem zia {w:World} {b:Nat} {t:TypeId} {a0 a1 a2 a3 a4 v0 v1 v2 v3 v4:Value} (h:Blk w b t #[a0,a1,a2,a3,a4]) :
  (((((w.setCell ⟨b,0,none⟩ v0).setCell ⟨b,1,none⟩ v1).setCell ⟨b,2,none⟩ v2).setCell ⟨b,3,none⟩ v3).setCell ⟨b,4,none⟩ v4)=setObj w b (.cells #[v0,v1,v2,v3,v4] t (0,0)):=by
 have hl:=lt_of_block h
 rw [zac h]
 simp only [zai hl,zs1,zs2,zs3]
section
variable {N:LmN} {s:LmS}
def LmS.len (s:LmS) (N:LmN):Int:=((N.Q.N.n - s.σ.fl.length:Nat):Int)
abbrev totV (a d b c t:Int):Value:=.agg #[.int .i64 a,.int .i64 d,.int .i64 b,.int .i64 c,.int .i64 t]
theorem zen (w:World) (h:LmAt w N s) :
  Calls Tryz.prog 30 #[.pointer (some ⟨N.l,0,none⟩)] w fun e w'=>e=.returned (totV s.al s.de s.ba (s.len N) s.tot)∧Below w.heap.size w w':=by
 obtain ⟨w1,hw1,k1,l1,s1⟩:=zad w #[.int .i64 0,.int .i64 0,.int .i64 0,.int .i64 0,.int .i64 0] 84
 obtain ⟨bx,hbx⟩:=zeq (w.heap.size)
 have H1:=zhz (h.keep l1)
 have HLT:=zhz (show ∀ k,N.all k→k<w.heap.size from fun k hk=>h.lt k hk)
 rw [← hbx] at k1
 have K1:=zhz k1
 have L1:=zhz l1
 have HB:=zhz hbx
 have kl:=H1.out.hl.rd
 have CL:=zhz (fun wx (hx:LmAt wx N s)=>show Calls Tryz.prog 57 #[.pointer (some ⟨N.Q.p,0,none⟩)] wx (fun e w'=>e=.returned (.int .i64 (s.len N))∧Below wx.heap.size wx w') from ziU wx hx.hp)
 have CT:=zhz (fun wx (hx:LmAt wx N s)=>smtotalM wx hx.hm)
 obtain ⟨le,hle⟩:=zeq (s.len N)
 rw [← hle] at CL ⊢
 clear hle k1 l1 s1 h
 go_enter Tryz.func30,Tryz.ntmps30
 go_upto_region 1 with (fail)
 rw [← HB.out]
 clear hw1 hbx
 go_upto_region 2 with (fail)
 obtain ⟨w3,e3,k3,b3,s3⟩:=zad w1 #[.int .i64 s.al,.int .i64 s.de,.int .i64 s.ba,.int .i64 0,.int .i64 0] 84
 rw [e3]
 have H3:=zhz (H1.out.keep b3)
 have KX:=zhz (K1.out.keep b3)
 have F3:=zhz (show Below w.heap.size w w3 from zae L1.out b3)
 have NY:=zhz (show w.heap.size≤w1.heap.size∧bx<w1.heap.size from ⟨L1.out.size,lt_of_block K1.out⟩)
 generalize w1.heap.size=yb at k3 NY ⊢
 have NXY:=zhz (show (∀ k,N.all k→k≠bx∧k≠yb)∧bx≠yb from ⟨fun k hk=>by have:=HLT.out k hk;have:=HB.out;have:=NY.out;omega,by have:=NY.out;omega⟩)
 have KY:=zhz k3
 clear e3 b3 s3 k3 kl
 have ST:=zhz (fun (Wo:World) (hW:LmAt Wo N s)=>hW.hl.rd)
 have BN:=zhz (show Below w3.heap.size w3 w3.drew from zaa (Below.refl _ _) 1)
 have st:=ST.out _ (H3.out.keep BN.out)
 refine wp_region_held_drew (S:=fun Wo=>∀ j,Wo.cell? ⟨N.l,j,none⟩=(limC N s.al s.de s.ba)[j]?) (by kernel_rfl) st (fun hHeld=>?_)
 clear st
 refine wR 0 ?_
 refine wR 1 ?_
 refine wR 2 ?_
 refine wR 3 ?_
 refine wR 5 ?_
 refine wR 6 ?_
 refine wR 7 ?_
 refine wR 8 ?_
 refine wC 4 fun K hK=>?_
 go_simp
 ((with_reducible refine (CL.out _ (H3.out.keep BN.out)).mono ?_);rintro e w4 ⟨rfl,be⟩;have N4:=zhz (G.below_on BN.out be);clear be)
 refine hK.out _ _ (ST.out _ (H3.out.keep N4.out)) fun hHeld=>?_
 clear hK K
 try simp only [Act.put,zs1,zs2,zs3]
 refine wR 10 ?_
 refine wC 9 fun K hK=>?_
 go_simp
 ((with_reducible refine (CT.out _ (H3.out.keep N4.out)).mono ?_);rintro e w5 ⟨rfl,rfl⟩;have K5:=zhz (KY.out.keep N4.out);have kw5:=K5.out.wr;have kr5:=K5.out.rd)
 refine hK.out _ _ (ST.out _ (H3.out.keep N4.out)) fun hHeld=>?_
 clear hK K
 try simp only [Act.put,zs1,zs2,zs3]
 refine wC 11 fun K hK=>?_
 go_simp
 rw [zac K5.out];simp only [zs1,zs2,zs3];have f6:=Fr.setObj (F:=fun k=>k=yb) (Fr.refl _ w4) rfl (.cells #[.int .i64 s.al,.int .i64 s.de,.int .i64 s.ba,.int .i64 le,.int .i64 0] 84 (0,0));have k6:Blk (setObj w4 yb (.cells #[.int .i64 s.al,.int .i64 s.de,.int .i64 s.ba,.int .i64 le,.int .i64 0] 84 (0,0))) yb 84 #[.int .i64 s.al,.int .i64 s.de,.int .i64 s.ba,.int .i64 le,.int .i64 0]:=zab (lt_of_block K5.out) _;generalize setObj w4 yb (.cells #[.int .i64 s.al,.int .i64 s.de,.int .i64 s.ba,.int .i64 le,.int .i64 0] 84 (0,0))=w6 at f6 k6 ⊢;have H6:=zhz ((H3.out.keep N4.out).fr f6 (fun k hk e=>(NXY.out.1 k hk).2 e));have F6:=zhz f6;have K6:=zhz k6;have kw6:=k6.wr;have kr6:=k6.rd;clear f6 k6 kw5 kr5
 refine hK.out _ _ (ST.out _ H6.out) fun hHeld=>?_
 clear hK K
 try simp only [Act.put,zs1,zs2,zs3]
 refine wR 12 ?_
 refine wC 13 fun K hK=>?_
 go_simp
 rw [zac K6.out];simp only [zs1,zs2,zs3];have f7:=Fr.setObj (F:=fun k=>k=yb) (Fr.refl _ w6) rfl (.cells #[.int .i64 s.al,.int .i64 s.de,.int .i64 s.ba,.int .i64 le,.int .i64 s.tot] 84 (0,0));have k7:Blk (setObj w6 yb (.cells #[.int .i64 s.al,.int .i64 s.de,.int .i64 s.ba,.int .i64 le,.int .i64 s.tot] 84 (0,0))) yb 84 #[.int .i64 s.al,.int .i64 s.de,.int .i64 s.ba,.int .i64 le,.int .i64 s.tot]:=zab (lt_of_block K6.out) _;generalize setObj w6 yb (.cells #[.int .i64 s.al,.int .i64 s.de,.int .i64 s.ba,.int .i64 le,.int .i64 s.tot] 84 (0,0))=w7 at f7 k7 ⊢;have H7:=zhz (H6.out.fr f7 (fun k hk e=>(NXY.out.1 k hk).2 e));have F7:=zhz (F6.out.trans f7);have K7:=zhz k7;clear f7 k7 kw6 kr6
 refine hK.out _ _ (ST.out _ H7.out) fun hHeld=>?_
 clear hK K
 try simp only [Act.put,zs1,zs2,zs3]
 refine wpAnyH_done (by kernel_rfl) ?_ _
 clear hHeld
 have KX7:=zhz ((KX.out.keep N4.out).fr F7.out NXY.out.2)
 have kx:=KX7.out.rd
 have kw:=KX7.out.wr
 have ky:=K7.out.rd
 go_wp2
 rw [zia KX7.out]
 refine bodyPost_ret (results_cell_row rfl _ _ bx _ _ (0,0) _ rfl (zab (lt_of_block KX7.out) _) Tryz.underlying84 rfl (by kernel_rfl)) rfl ?_
 have b7:Below w.heap.size w w7:=(zae F3.out N4.out).trans (F7.out.below (zae F3.out N4.out).size (fun k hk=>by have:=NY.out;omega))
 exact ⟨rfl,b7.trans ((Fr.setObj (F:=fun k=>k=bx) (Fr.refl _ _) rfl _).below b7.size (fun k hk=>by have:=HB.out;omega))⟩
def LmS.cellOf (s:LmS) (N:LmN) (key:ByteArray):Option Cel:=(posN N.Q.N.n s.σ.K key).map fun i=>s.C.getD i (0,0,0,0)
theorem zg7 (key:ByteArray) (hs:key.size≤maxLen) (w:World) (h:LmAt w N s) :
  Calls Tryz.prog 34 #[.pointer (some ⟨N.l,0,none⟩),.string key] w fun e w'=>e=.returned (resV (s.cellOf N key))∧Below w.heap.size w w':=by
 obtain ⟨w1,hw1,k1,l1,s1⟩:=zad w #[.int .i64 0,.int .i64 0,.int .i64 0,.int .i64 0] 105
 obtain ⟨bx,hbx⟩:=zeq (w.heap.size)
 have CF:=zhz (zbv key hs w1 (h.hp.keep l1))
 have H1:=zhz (h.keep l1)
 have hlen:=h.hp.len
 have hpos:∀ i,posN N.Q.N.n s.σ.K key=some i→i<s.C.length:=fun i hi=>by rw [hlen];exact (zax hi).1
 rw [← hbx] at k1
 have K1:=zhz k1
 have L1:=zhz l1
 have HB:=zhz hbx
 have kl:=H1.out.hl.rd
 have kr:=k1.rd
 have kw:=k1.wr
 unfold LmS.cellOf
 clear k1 l1 s1 h hlen
 cases hp:posN N.Q.N.n s.σ.K key with
 | some i =>
  rw [hp] at CF
  have hil:=hpos i hp
  obtain ⟨c,hci⟩:∃ c,s.C[i]?=some c:=⟨_,zge hil⟩
  have hcD:s.C.getD i (0,0,0,0)=c:=by rw [List.getD_eq_getElem?_getD,hci];rfl
  simp only [Option.map_some,hcD]
  have HSI:=zhz hci
  have CF:=zhz (show Calls Tryz.prog 62 #[.pointer (some ⟨N.Q.p,0,none⟩),.string key] w1 (fun e w'=>e=.returned (.pointer (some ⟨N.Q.cb,i*4,none⟩))∧Below w1.heap.size w1 w') from CF.out)
  clear hp hpos hil hci hcD
  go_enter Tryz.func34,Tryz.ntmps34
  go_upto_region 1 with (fail)
  rw [← HB.out]
  clear hw1 hbx
  go_wp2_with (go_at_call 62;((with_reducible refine CF.out.mono ?_);rintro e w2 ⟨rfl,b2⟩;have H2:=zhz (H1.out.keep b2);obtain ⟨q0,q1,q2,q3⟩:=H2.out.hp.cell HSI.out;have K2:=zhz (K1.out.keep b2);have kr2:=K2.out.rd;have kw2:=K2.out.wr;have B2:=zhz (zae L1.out b2);clear b2 kr kw))
  rw [zaj K2.out]
  refine bodyPost_ret (zak rfl _ _ bx _ _ (0,0) _ rfl (zab (lt_of_block K2.out) _) Tryz.underlying105 rfl (by kernel_rfl)) rfl ?_
  exact ⟨rfl,B2.out.trans ((Fr.setObj (F:=fun k=>k=bx) (Fr.refl _ _) rfl _).below B2.out.size (fun k hk=>by have:=HB.out;omega))⟩
 | none =>
  rw [hp] at CF
  have CF:=zhz (show Calls Tryz.prog 62 #[.pointer (some ⟨N.Q.p,0,none⟩),.string key] w1 (fun e w'=>e=.returned (.pointer none)∧Below w1.heap.size w1 w') from CF.out)
  clear hp hpos
  go_enter Tryz.func34,Tryz.ntmps34
  go_upto_region 1 with (fail)
  rw [← HB.out]
  clear hw1 hbx
  go_wp2_with (go_at_call 62;((with_reducible refine CF.out.mono ?_);rintro e w2 ⟨rfl,b2⟩;have K2:=zhz (K1.out.keep b2);have kr2:=K2.out.rd;have kw2:=K2.out.wr;have B2:=zhz (zae L1.out b2);clear b2 kr kw))
  rw [zaj K2.out]
  refine bodyPost_ret (zak rfl _ _ bx _ _ (0,0) _ rfl (zab (lt_of_block K2.out) _) Tryz.underlying105 rfl (by kernel_rfl)) rfl ?_
  exact ⟨rfl,B2.out.trans ((Fr.setObj (F:=fun k=>k=bx) (Fr.refl _ _) rfl _).below B2.out.size (fun k hk=>by have:=HB.out;omega))⟩
end
end
section
open Ar (inR)
section
variable {N:LmN} {s:LmS}
theorem ziv (k:Int) (hk : -9223372036854775808≤k∧k≤9223372036854775807) (w:World) (h:LmAt w N s) :
  Calls Tryz.prog 32 #[.pointer (some ⟨N.l,0,none⟩),.int .i64 k] w fun e w'=>∃ A c,e=.returned (.slice A (min (topN k N.S.N.n) s.M.length) c)∧RdT w.heap.size w' A (min (topN k N.S.N.n) s.M.length) c (s.M.take (topN k N.S.N.n))∧Below w.heap.size w w':=by
 have CT:=zhz (smtopM (w:=w) k hk h.hm)
 have kl:=h.hl.rd
 clear h
 go_enter Tryz.func32,Tryz.ntmps32
 go_wp2_with (go_at_call 60;((with_reducible refine CT.out.mono ?_);rintro e w4 ⟨A,c,rfl,r4,b4⟩;have R4:=zhz (And.intro r4 b4);clear r4 b4))
 go_ret
 exact ⟨_,_,rfl,R4.out⟩
def LmS.peek (s:LmS) (N:LmN) (now held:Int) (key:ByteArray) (cost:Int):Int × Int × Int :=
 if (refZ N now held cost).2=true then (refZ N now held cost).1
 else match ({ s with r:=⟨max s.r.t now,s.r.num,s.r.F⟩ }:LmS).resi N now key with
  | some c=>(if celW c N.U N.W N.B N.L now cost=0 then 1 else 2,celR c N.U N.W N.B N.L now,celW c N.U N.W N.B N.L now cost)
  | none=>(if waitR N.R ⟨max s.r.t now,s.r.num,s.r.F⟩ key cost=0 then 1 else 2,({ s with r:=⟨max s.r.t now,s.r.num,s.r.F⟩ }:LmS).left N key,waitR N.R ⟨max s.r.t now,s.r.num,s.r.F⟩ key cost)
def LmS.peeked (s:LmS) (N:LmN) (now held cost:Int):LmS:=if (refZ N now held cost).2=true then s else { s with r:=⟨max s.r.t now,s.r.num,s.r.F⟩ }
end
end
section
open Ar (inR)
theorem Lm.own_less {w:World} {base base':Nat} {e:TypeId} {size n:Nat} {v:Value} {xs:List Value} (h:w.ownsRow base e size v n xs) (hb:base'≤base):w.ownsRow base' e size v n xs:=by
 refine ⟨h.1,?_⟩
 rcases h.2 with h0 | ⟨g,cap,cur,hv,hbg,h1⟩
 ·exact Or.inl h0
 ·exact Or.inr ⟨g,cap,cur,hv,Nat.le_trans hb hbg,h1⟩
section
variable {N:LmN} {s:LmS}
def LmS.seen (s:LmS) (N:LmN) (now:Int) (key:ByteArray) (cost:Int):LmS :=
 { s with r:=⟨max s.r.t now,s.r.num,s.r.F⟩,M:=(offerM N.S.N.n s.M s.tot key cost).1,tot:=(offerM N.S.N.n s.M s.tot key cost).2 }
def LmS.check (s:LmS) (N:LmN) (now held:Int) (key:ByteArray) (cost:Int):LmS × (Int × Int × Int) × List (ByteArray × Bool) :=
 if (refZ N now held cost).2=true then (s.count (refZ N now held cost).1.1,(refZ N now held cost).1,[])
 else ((((s.seen N now key cost).adm N now key).1.judge N now key cost).2.count (((s.seen N now key cost).adm N now key).1.judge N now key cost).1.1,(((s.seen N now key cost).adm N now key).1.judge N now key cost).1,((s.seen N now key cost).adm N now key).2)
theorem zmH (N:LmN) (now held cost:Int) (h:(refZ N now held cost).2=true):(refZ N now held cost).1.1=1∨(refZ N now held cost).1.1=2∨(refZ N now held cost).1.1=3:=by
 unfold refZ at *
 split
 ·exact Or.inr (Or.inr rfl)
 ·split
  ·exact Or.inr (Or.inl rfl)
  ·split
   ·exact Or.inr (Or.inl rfl)
   ·rename_i h1 h2 h3
    rw [if_neg h1,if_neg h2,if_neg h3] at h
    cases h
theorem zfs (N:LmN) (now held cost:Int) (h:(refZ N now held cost).2=false):(1≤cost∧cost≤N.B)∧now<4611686018427387904:=by
 unfold refZ at h
 by_cases h1:cost<1∨N.B<cost
 ·rw [if_pos h1] at h;cases h
 ·rw [if_neg h1] at h
  by_cases h2:4611686018427387904≤now
  ·rw [if_pos h2] at h;cases h
  ·omega
theorem zlE (now:Int) (key:ByteArray) (cost:Int):(s.judge N now key cost).1.1=1∨(s.judge N now key cost).1.1=2∨(s.judge N now key cost).1.1=3:=by
 unfold LmS.judge
 split
 ·split
  ·exact Or.inl rfl
  ·exact Or.inr (Or.inl rfl)
 ·split
  ·exact Or.inl rfl
  ·exact Or.inr (Or.inl rfl)
theorem zin (now:Int) (key:ByteArray) (cost:Int):(s.judge N now key cost).2.al=s.al∧(s.judge N now key cost).2.de=s.de∧(s.judge N now key cost).2.ba=s.ba:=by
 unfold LmS.judge
 split
 ·split <;> exact ⟨rfl,rfl,rfl⟩
 ·split <;> exact ⟨rfl,rfl,rfl⟩
theorem zhP (now:Int) (key:ByteArray):(s.adm N now key).1.al=s.al∧(s.adm N now key).1.de=s.de∧(s.adm N now key).1.ba=s.ba:=by
 unfold LmS.adm
 split
 ·exact ⟨rfl,rfl,rfl⟩
 ·split
  ·split <;> exact ⟨rfl,rfl,rfl⟩
  ·exact ⟨rfl,rfl,rfl⟩
theorem zfe (now held:Int) (key:ByteArray) (cost:Int) (hs:key.size≤maxLen) (hn:inR now) (hh:inR held) (hc:inR cost) (w:World) (h:LmAt w N s)
  (hb:(0≤s.al∧s.al≤1152921504606846976)∧(0≤s.de∧s.de≤1152921504606846976)∧(0≤s.ba∧s.ba≤1152921504606846976))
  (hgo:(refZ N now held cost).2=false→LmG N (s.seen N now key cost) now∧(∀ x ∈ (s.seen N now key cost).res N,x.1.size≤maxLen)∧LmG N ((s.seen N now key cost).adm N now key).1 now) :
  Calls Tryz.prog 209 #[.pointer (some ⟨N.l,0,none⟩),.int .i64 now,.int .i64 held,.string key,.int .i64 cost] w fun e w'=>∃ v,e=.returned (.tuple #[ansT (s.check N now held key cost).2.1,v]) ∧
   w'.ownsRow w.heap.size 101 4 v (s.check N now held key cost).2.2.length (evL now (s.check N now held key cost).2.2)∧LmAt w' N (s.check N now held key cost).1∧Fr N.all w w':=by
 obtain ⟨w1,hw1,k1,l1,s1⟩:=zad w #[.int .i64 0,.int .i64 0,.int .i64 0] 87
 obtain ⟨bx,hbx⟩:=zeq (w.heap.size)
 have CR:=zhz (zcg now held cost hn hh hc w1 (h.keep l1))
 have H1:=zhz (h.keep l1)
 have HLT:=zhz (show ∀ k,N.all k→k<w.heap.size from fun k hk=>h.lt k hk)
 rw [← hbx] at k1
 have K1:=zhz k1
 have L1:=zhz l1
 have HB:=zhz hbx
 have HCB:=zhz hb
 have ec:s.check N now held key cost=if (refZ N now held cost).2=true then (s.count (refZ N now held cost).1.1,(refZ N now held cost).1,[])
     else ((((s.seen N now key cost).adm N now key).1.judge N now key cost).2.count (((s.seen N now key cost).adm N now key).1.judge N now key cost).1.1,(((s.seen N now key cost).adm N now key).1.judge N now key cost).1,((s.seen N now key cost).adm N now key).2):=rfl
 rw [ec]
 have hrv:=zmH N now held cost
 have hrn:=zfs N now held cost
 obtain ⟨⟨⟨a0,a1,a2⟩,rf⟩,hr⟩:∃ x,x=refZ N now held cost:=⟨_,rfl⟩
 rw [← hr] at CR hrv hrn hgo ⊢
 clear hr ec k1 l1 s1 hb h
 dsimp only at hrv hrn hgo ⊢
 cases rf with
 | true =>
  have CC:=zhz (fun wx (hx:LmAt wx N s)=>zcF a0 a1 a2 (hrv rfl) HCB.out wx hx)
  simp only [if_true]
  clear hrv hrn hgo
  go_enter Tryz.func209,Tryz.ntmps209
  go_upto_region 1 with (fail)
  rw [← HB.out]
  clear hw1 hbx
  go_upto_region 2 with (go_at_call 215;((with_reducible refine CR.out.mono ?_);rintro e w2 ⟨rfl,b2⟩;have B2:=zhz b2;clear b2))
  obtain ⟨w3,e3,k3,b3,s3⟩:=zad w2 #[.int .i64 a0,.int .i64 a1,.int .i64 a2] 87
  rw [e3]
  have H3:=zhz ((H1.out.keep B2.out).keep b3)
  have KX:=zhz ((K1.out.keep B2.out).keep b3)
  have F3:=zhz (show Below w.heap.size w w3 from zae (zae L1.out B2.out) b3)
  have NY:=zhz (show w.heap.size≤w2.heap.size∧bx<w2.heap.size from ⟨(zae L1.out B2.out).size,by have:=lt_of_block (K1.out.keep B2.out);omega⟩)
  generalize w2.heap.size=yb at k3 NY ⊢
  have KY:=zhz k3
  have k3r:=k3.rd
  clear e3 b3 s3 k3
  go_wp2_with (go_at_call 216;((with_reducible refine (CC.out _ H3.out).mono ?_);rintro e w4 ⟨rfl,h4,f4⟩;have H4:=zhz h4;have F4:=zhz f4;have KX4:=zhz (KX.out.fr f4 (fun e=>by have:=HLT.out N.l (Or.inr rfl);have:=HB.out;omega));have KY4:=zhz (KY.out.fr f4 (fun e=>by have:=HLT.out N.l (Or.inr rfl);have:=NY.out;omega));have ky:=KY4.out.rd;have kx:=KX4.out.rd;have kw:=KX4.out.wr;clear h4 f4))
  rw [zal KX4.out]
  refine bodyPost_ret (zak rfl _ _ bx _ _ (0,0) _ rfl (zab (lt_of_block KX4.out) _) Tryz.underlying87 rfl (by kernel_rfl)) rfl ?_
  refine ⟨_,rfl,World.ownsRow_nil _ _ _ _,H4.out.fr (Fr.setObj (F:=fun k=>k=bx) (Fr.refl _ _) rfl _) (fun k hk e=>by have:=HLT.out k hk;have:=HB.out;omega),?_⟩
  exact Fr.drop_new (F:=N.all) (s:=bx) (Fr.setObj (F:=fun k=>N.all k∨k=bx) ((Fr.of_below F3.out).trans (F4.out.mono (fun k hk=>Or.inl (Or.inr hk)))) (Or.inr rfl) _) (by have:=HB.out;omega)
 | false =>
  obtain ⟨g1,g2,g3⟩:=hgo rfl
  obtain ⟨hcb,hnow⟩:=hrn rfl
  simp only [Bool.false_eq_true,if_false]
  have CT:=zhz (fun wx (hx:LmAt wx N s)=>zi9 now (by unfold inR at hn;omega) wx hx.hr)
  have CO:=zhz (fun wx (hx:LmAt wx N { s with r:=⟨max s.r.t now,s.r.num,s.r.F⟩ })=>zfH key hs cost wx hx.hm)
  have CA:=zhz (fun wx (hx:LmAt wx N (s.seen N now key cost))=>zfd now key hs wx hx g1 g2)
  have hac:=zhP (s:=s.seen N now key cost) (N:=N) now key
  have HSE:=zhz (show (s.seen N now key cost)={ s with r:=⟨max s.r.t now,s.r.num,s.r.F⟩,M:=(offerM N.S.N.n s.M s.tot key cost).1,tot:=(offerM N.S.N.n s.M s.tot key cost).2 } from rfl)
  obtain ⟨⟨s3,ev⟩,hse⟩:∃ x,x=(s.seen N now key cost).adm N now key:=⟨_,rfl⟩
  rw [← hse] at CA hac g3 ⊢
  clear hse
  dsimp only at hac g3 ⊢
  have CJ:=zhz (fun wx (hx:LmAt wx N s3)=>zfh now key cost hs hcb wx hx g3)
  have hjv:=zlE (N:=N) (s:=s3) now key cost
  have hjc:=zin (N:=N) (s:=s3) now key cost
  obtain ⟨⟨⟨v0,v1,v2⟩,s4⟩,hsj⟩:∃ x,x=s3.judge N now key cost:=⟨_,rfl⟩
  rw [← hsj] at CJ hjv hjc ⊢
  clear hsj
  dsimp only at hjv hjc ⊢
  have e1:s.al=s4.al∧s.de=s4.de∧s.ba=s4.ba:=⟨(hjc.1.trans hac.1).symm,(hjc.2.1.trans hac.2.1).symm,(hjc.2.2.trans hac.2.2).symm⟩
  have CC:=zhz (fun wx (hx:LmAt wx N s4)=>zcF v0 v1 v2 hjv (by have:=HCB.out;rw [e1.1,e1.2.1,e1.2.2] at this;exact this) wx hx)
  clear hrv hjv hjc hac e1 g1 g2 g3 hgo hrn
  go_enter Tryz.func209,Tryz.ntmps209
  go_upto_region 1 with (fail)
  rw [← HB.out]
  clear hw1 hbx
  go_upto_region 2 with (go_at_call 215;((with_reducible refine CR.out.mono ?_);rintro e w2 ⟨rfl,b2⟩;have B2:=zhz b2;clear b2))
  obtain ⟨w3,e3,k3,b3,s3'⟩:=zad w2 #[.int .i64 a0,.int .i64 a1,.int .i64 a2] 87
  rw [e3]
  have H3:=zhz ((H1.out.keep B2.out).keep b3)
  have KX:=zhz ((K1.out.keep B2.out).keep b3)
  have F3:=zhz (show Below w.heap.size w w3 from zae (zae L1.out B2.out) b3)
  have NY:=zhz (show w.heap.size≤w2.heap.size∧bx<w2.heap.size from ⟨(zae L1.out B2.out).size,by have:=lt_of_block (K1.out.keep B2.out);omega⟩)
  generalize w2.heap.size=yb at k3 NY ⊢
  have KY:=zhz k3
  have NXY:=zhz (show (∀ k,N.all k→k≠bx∧k≠yb)∧bx≠yb from ⟨fun k hk=>by have:=HLT.out k hk;have:=HB.out;have:=NY.out;omega,by have:=NY.out;omega⟩)
  have kl:=H3.out.hl.rd
  clear e3 b3 s3' k3
  go_upto_region 8 with (first
   | (go_at_call 217;((with_reducible refine (CT.out _ H3.out).mono ?_);rintro e w4 ⟨rfl,r4,f4⟩;have H4:=zhz (H3.out.ring r4 f4 (fun k hk=>Or.inl (Or.inl hk)));have F4:=zhz (show Fr N.all w3 w4 from f4.mono (fun k hk=>Or.inl (Or.inr (Or.inl (Or.inl (Or.inl hk))))));have kl4:=H4.out.hl.rd;clear r4 f4))
   | (go_at_call 218;((with_reducible refine (CO.out _ H4.out).mono ?_);rintro e w5 ⟨rfl,m5,f5⟩;have H5:=zhz (show LmAt w5 N (s.seen N now key cost) from by rw [HSE.out];exact H4.out.summ m5 f5 (fun k hk=>Or.inl hk));have F5:=zhz (F4.out.trans (f5.mono (fun k hk=>show N.all k from Or.inl (Or.inr (Or.inr (Or.inl hk))))));clear m5 f5))
   | (go_at_call 219;((with_reducible refine (CA.out _ H5.out).mono ?_);rintro e w6 ⟨ve,rfl,o6,h6,f6⟩;have H6:=zhz h6;have O6:=zhz o6;have F6:=zhz (F5.out.trans (f6.mono (fun k hk=>show N.all k from Or.inl hk)));have S6:=zhz (show w.heap.size≤w5.heap.size from Nat.le_trans F3.out.size F5.out.size);clear h6 o6 f6)))
  have KX6:=zhz (KX.out.fr F6.out (fun hk=>(NXY.out.1 _ hk).1 rfl))
  have KY6:=zhz (KY.out.fr F6.out (fun hk=>(NXY.out.1 _ hk).2 rfl))
  have HYL:=zhz (show yb<w5.heap.size∧bx<w5.heap.size from ⟨Nat.lt_of_lt_of_le (lt_of_block KY.out) F5.out.size,Nat.lt_of_lt_of_le (lt_of_block KX.out) F5.out.size⟩)
  clear kl kl4
  go_upto_region 9 with (go_at_call 220;((with_reducible refine (CJ.out _ H6.out).mono ?_);rintro e w7 ⟨rfl,h7,f7⟩;have H7:=zhz h7;have O7:=zhz (Lm.own_fr O6.out f7 (fun k hk=>by have:=HLT.out k hk;have:=S6.out;omega));have F7:=zhz (F6.out.trans f7);have KX7:=zhz (KX6.out.fr f7 (fun hk=>(NXY.out.1 _ hk).1 rfl));have KY7:=zhz (KY6.out.fr f7 (fun hk=>(NXY.out.1 _ hk).2 rfl));have kyr:=KY7.out.rd;have kyw:=KY7.out.wr;clear h7 f7))
  rw [zal KY7.out]
  have f8:Fr (fun k=>k=yb) w7 (setObj w7 yb (.cells #[.int .i64 v0,.int .i64 v1,.int .i64 v2] 87 (0,0))):=Fr.setObj (F:=fun k=>k=yb) (Fr.refl _ _) rfl _
  have k8:Blk (setObj w7 yb (.cells #[.int .i64 v0,.int .i64 v1,.int .i64 v2] 87 (0,0))) yb 87 #[.int .i64 v0,.int .i64 v1,.int .i64 v2]:=zab (lt_of_block KY7.out) _
  clear kyr kyw
  change Code.wp _ _ _ _ (setObj w7 yb (.cells #[.int .i64 v0,.int .i64 v1,.int .i64 v2] 87 (0,0)))
  generalize setObj w7 yb (.cells #[.int .i64 v0,.int .i64 v1,.int .i64 v2] 87 (0,0))=w8 at f8 k8 ⊢
  have H8:=zhz (H7.out.fr f8 (fun k hk e=>(NXY.out.1 k hk).2 e))
  have KX8:=zhz (KX7.out.fr f8 NXY.out.2)
  have KY8:=zhz k8
  have O8:=zhz (Lm.own_fr O7.out f8 (fun k hk=>by rw [hk];exact HYL.out.1))
  have F8:=zhz (show Fr (fun k=>N.all k∨k=yb) w3 w8 from (F7.out.mono (fun k hk=>Or.inl hk)).trans (f8.mono (fun k hk=>Or.inr hk)))
  have k8r:=k8.rd
  clear f8 k8
  go_wp2_with (go_at_call 216;((with_reducible refine (CC.out _ H8.out).mono ?_);rintro e w9 ⟨rfl,h9,f9⟩;have H9:=zhz h9;have O9:=zhz (Lm.own_fr O8.out f9 (fun k hk=>by have:=HLT.out N.l (Or.inr rfl);have:=S6.out;rw [hk];omega));have F9:=zhz (F8.out.trans (f9.mono (fun k hk=>show N.all k∨k=yb from Or.inl (Or.inr hk))));have KX9:=zhz (KX8.out.fr f9 (fun e=>(NXY.out.1 N.l (Or.inr rfl)).1 e.symm));have KY9:=zhz (KY8.out.fr f9 (fun e=>(NXY.out.1 N.l (Or.inr rfl)).2 e.symm));have ky:=KY9.out.rd;have kx:=KX9.out.rd;have kw:=KX9.out.wr;clear h9 f9))
  rw [zal KX9.out]
  refine bodyPost_ret (zak rfl _ _ bx _ _ (0,0) _ rfl (zab (lt_of_block KX9.out) _) Tryz.underlying87 rfl (by kernel_rfl)) rfl ?_
  have fe:=Fr.setObj (F:=fun k=>k=bx) (Fr.refl _ w9) rfl (.cells #[.int .i64 v0,.int .i64 v1,.int .i64 v2] 87 (0,0))
  refine ⟨_,rfl,Lm.own_less (Lm.own_fr O9.out fe (fun k hk=>by rw [hk];exact HYL.out.2)) S6.out,H9.out.fr fe (fun k hk e=>(NXY.out.1 k hk).1 e),?_⟩
  refine Fr.drop_new (F:=N.all) (s:=bx) (Fr.drop_new (F:=fun k=>N.all k∨k=bx) (s:=yb) (((Fr.of_below F3.out).mono (fun k (hk:False)=>hk.elim)).trans ((F9.out.mono (fun k hk=>?_)).trans (fe.mono (fun k hk=>Or.inl (Or.inr hk))))) (by have:=NY.out;omega)) (by have:=HB.out;omega)
  rcases hk with hk | hk
  ·exact Or.inl (Or.inl hk)
  ·exact Or.inr hk
end
end
section
open Ar (inR)
section
variable {N:LmN} {s:LmS}
theorem zg8 (now held:Int) (key:ByteArray) (cost:Int) (hs:key.size≤maxLen) (hn:inR now) (hh:inR held) (hc:inR cost) (w:World) (h:LmAt w N s)
  (hgo:(refZ N now held cost).2=false→LmG N { s with r:=⟨max s.r.t now,s.r.num,s.r.F⟩ } now∧∀ c,({ s with r:=⟨max s.r.t now,s.r.num,s.r.F⟩ }:LmS).resi N now key=some c→celG c N.U N.W N.B N.L now) :
  Calls Tryz.prog 212 #[.pointer (some ⟨N.l,0,none⟩),.int .i64 now,.int .i64 held,.string key,.int .i64 cost] w fun e w'=>e=.returned (ansT (s.peek N now held key cost))∧LmAt w' N (s.peeked N now held cost)∧Fr N.parts w w':=by
 obtain ⟨w1,hw1,k1,l1,s1⟩:=zad w #[.int .i64 0,.int .i64 0,.int .i64 0] 87
 obtain ⟨bx,hbx⟩:=zeq (w.heap.size)
 have CR:=zhz (zcg now held cost hn hh hc w1 (h.keep l1))
 have H1:=zhz (h.keep l1)
 have HLT:=zhz (show ∀ k,N.all k→k<w.heap.size from fun k hk=>h.lt k hk)
 rw [← hbx] at k1
 have K1:=zhz k1
 have L1:=zhz l1
 have HB:=zhz hbx
 have kx1:=k1.rd
 have kw1:=k1.wr
 have hrn:=zfs N now held cost
 unfold LmS.peek LmS.peeked
 obtain ⟨⟨⟨a0,a1,a2⟩,rf⟩,hr⟩:∃ x,x=refZ N now held cost:=⟨_,rfl⟩
 rw [← hr] at CR hrn hgo ⊢
 clear hr k1 l1 s1 h
 dsimp only at hrn hgo ⊢
 cases rf with
 | true =>
  simp only [if_true]
  clear hrn hgo
  go_enter Tryz.func212,Tryz.ntmps212
  go_upto_region 1 with (fail)
  rw [← HB.out]
  clear hw1 hbx
  go_upto_region 2 with (go_at_call 215;((with_reducible refine CR.out.mono ?_);rintro e w2 ⟨rfl,b2⟩;have B2:=zhz b2;clear b2 kx1 kw1))
  obtain ⟨w3,e3,k3,b3,s3⟩:=zad w2 #[.int .i64 a0,.int .i64 a1,.int .i64 a2] 87
  rw [e3]
  have H3:=zhz ((H1.out.keep B2.out).keep b3)
  have KX:=zhz ((K1.out.keep B2.out).keep b3)
  have F3:=zhz (show Below w.heap.size w w3 from zae (zae L1.out B2.out) b3)
  generalize w2.heap.size=yb at k3 ⊢
  have k3r:=k3.rd
  have kx:=KX.out.rd
  have kw:=KX.out.wr
  clear e3 b3 s3 k3
  go_wp2
  rw [zal KX.out]
  refine bodyPost_ret (results_cell_row rfl _ _ bx _ _ (0,0) _ rfl (zab (lt_of_block KX.out) _) Tryz.underlying87 rfl (by kernel_rfl)) rfl ?_
  refine ⟨rfl,H3.out.fr (Fr.setObj (F:=fun k=>k=bx) (Fr.refl _ _) rfl _) (fun k hk e=>by have:=HLT.out k hk;have:=HB.out;omega),?_⟩
  exact Fr.drop_new (F:=N.parts) (s:=bx) (Fr.setObj (F:=fun k=>N.parts k∨k=bx) ((Fr.of_below F3.out).mono (fun k (hk:False)=>hk.elim)) (Or.inr rfl) _) (by have:=HB.out;omega)
 | false =>
  obtain ⟨g1,g2⟩:=hgo rfl
  obtain ⟨hcb,hnow⟩:=hrn rfl
  simp only [Bool.false_eq_true,if_false]
  have CT:=zhz (fun wx (hx:LmAt wx N s)=>zi9 now (by unfold inR at hn;omega) wx hx.hr)
  have CS:=zhz (fun wx (hx:LmAt wx N { s with r:=⟨max s.r.t now,s.r.num,s.r.F⟩ })=>zcW now key hs wx hx g1)
  clear hgo hrn
  cases hres:({ s with r:=⟨max s.r.t now,s.r.num,s.r.F⟩ }:LmS).resi N now key with
  | none =>
   rw [hres] at CS
   have CL:=zhz (fun wx (hx:LmAt wx N { s with r:=⟨max s.r.t now,s.r.num,s.r.F⟩ })=>zc7 key hs wx hx (by have:=g1.L;omega) (by unfold inR;have:=g1.B;omega))
   have CW7:=zhz (fun wx (hx:LmAt wx N { s with r:=⟨max s.r.t now,s.r.num,s.r.F⟩ })=>zeF key hs cost (by have:=g1.B;omega) wx hx.hr (RgS.now_le _ N.R hx.hr.bd.2.1.1 ⟨hx.hr.ht.1,g1.t⟩))
   dsimp only at CW7 ⊢
   obtain ⟨rm,hrm⟩:∃ rm,rm=({ s with r:=⟨max s.r.t now,s.r.num,s.r.F⟩ }:LmS).left N key:=⟨_,rfl⟩
   obtain ⟨wt,hwt⟩:=zeq (waitR N.R ⟨max s.r.t now,s.r.num,s.r.F⟩ key cost)
   rw [← hrm] at CL
   rw [← hwt] at CW7
   simp only [← hrm,← hwt]
   clear hrm hwt hres g1 g2
   go_enter Tryz.func212,Tryz.ntmps212
   go_upto_region 1 with (fail)
   rw [← HB.out]
   clear hw1 hbx
   go_upto_region 2 with (go_at_call 215;((with_reducible refine CR.out.mono ?_);rintro e w2 ⟨rfl,b2⟩;have B2:=zhz b2;clear b2 kx1 kw1))
   obtain ⟨w3,e3,k3,b3,s3⟩:=zad w2 #[.int .i64 a0,.int .i64 a1,.int .i64 a2] 87
   rw [e3]
   have H3:=zhz ((H1.out.keep B2.out).keep b3)
   have KX:=zhz ((K1.out.keep B2.out).keep b3)
   have F3:=zhz (show Below w.heap.size w w3 from zae (zae L1.out B2.out) b3)
   have NY:=zhz (show w.heap.size≤w2.heap.size∧bx<w2.heap.size from ⟨(zae L1.out B2.out).size,by have:=lt_of_block (K1.out.keep B2.out);omega⟩)
   generalize w2.heap.size=yb at k3 NY ⊢
   have KY:=zhz k3
   have NXY:=zhz (show (∀ k,N.all k→k≠bx∧k≠yb)∧bx≠yb from ⟨fun k hk=>by have:=HLT.out k hk;have:=HB.out;have:=NY.out;omega,by have:=NY.out;omega⟩)
   have kl:=H3.out.hl.rd
   clear e3 b3 s3 k3
   go_upto_region 6 with (first
    | (go_at_call 217;((with_reducible refine (CT.out _ H3.out).mono ?_);rintro e w4 ⟨rfl,r4,f4⟩;have H4:=zhz (H3.out.ring r4 f4 (fun k hk=>Or.inl (Or.inl hk)));have F4:=zhz (show Fr N.parts w3 w4 from f4.mono (fun k hk=>Or.inr (Or.inl (Or.inl (Or.inl hk)))));clear r4 f4))
    | (go_at_call 222;((with_reducible refine (CS.out _ H4.out).mono ?_);rintro e w5 ⟨rfl,b5⟩;have H5:=zhz (H4.out.keep b5);have F5:=zhz (F4.out.trans (Fr.of_below b5));simp only [resV];clear b5)))
   obtain ⟨w6,e6,k6,b6,s6⟩:=zad w5 #[.int .i64 0,.int .i64 0,.int .i64 0,.int .i64 0] 105
   rw [e6]
   have H6:=zhz (H5.out.keep b6)
   have F6:=zhz (F5.out.trans (Fr.of_below b6))
   have KX6:=zhz (KX.out.fr F6.out (fun hk=>(NXY.out.1 _ (Or.inl hk)).1 rfl))
   have KY6:=zhz (KY.out.fr F6.out (fun hk=>(NXY.out.1 _ (Or.inl hk)).2 rfl))
   have NZ:=zhz (show yb<w5.heap.size from Nat.lt_of_lt_of_le (lt_of_block KY.out) F5.out.size)
   generalize w5.heap.size=zb at k6 NZ ⊢
   have KZ:=zhz k6
   clear e6 b6 s6 k6 kl
   go_upto_region 8 with (fail)
   have ST:=zhz (fun (Wo:World) (hW:LmAt Wo N { s with r:=⟨max s.r.t now,s.r.num,s.r.F⟩ })=>show ∀ (j:Nat),Wo.cell? ⟨N.l,j,none⟩=(limC N s.al s.de s.ba)[j]? from hW.hl.rd)
   have BN:=zhz (show Below w6.heap.size w6 w6.drew from zaa (Below.refl _ _) 1)
   have st:=ST.out _ (H6.out.keep BN.out)
   refine wp_region_held_drew (S:=fun Wo=>∀ j,Wo.cell? ⟨N.l,j,none⟩=(limC N s.al s.de s.ba)[j]?) (by kernel_rfl) st (fun hHeld=>?_)
   clear st
   refine wR 0 ?_
   refine wR 1 ?_
   refine wR 3 ?_
   refine wR 4 ?_
   refine wR 5 ?_
   refine wR 6 ?_
   refine wR 7 ?_
   refine wR 8 ?_
   refine wC 2 fun K hK=>?_
   go_simp
   ((with_reducible refine (CL.out _ (H6.out.keep BN.out)).mono ?_);rintro e w7 ⟨rfl,be⟩;have N6:=zhz (G.below_on BN.out be);clear be)
   refine hK.out _ _ (ST.out _ (H6.out.keep N6.out)) fun hHeld=>?_
   clear hK K
   try simp only [Act.put,zs1,zs2,zs3]
   refine wR 10 ?_
   refine wC 9 fun K hK=>?_
   go_simp
   ((with_reducible refine (CW7.out _ (H6.out.keep N6.out)).mono ?_);rintro e w8 ⟨rfl,be⟩;have N14:=zhz (G.below_on N6.out be);have K8:=zhz (KY6.out.keep N14.out);have kw8:=K8.out.wr;have kr8:=K8.out.rd;clear be)
   refine hK.out _ _ (ST.out _ (H6.out.keep N14.out)) fun hHeld=>?_
   clear hK K
   try simp only [Act.put,zs1,zs2,zs3]
   refine wC 11 fun K hK=>?_
   go_simp
   rw [zac K8.out];simp only [zs1,zs2,zs3];have f9:=Fr.setObj (F:=fun k=>k=yb) (Fr.refl _ w8) rfl (.cells #[.int .i64 a0,.int .i64 rm,.int .i64 a2] 87 (0,0));have k9:Blk (setObj w8 yb (.cells #[.int .i64 a0,.int .i64 rm,.int .i64 a2] 87 (0,0))) yb 87 #[.int .i64 a0,.int .i64 rm,.int .i64 a2]:=zab (lt_of_block K8.out) _;generalize setObj w8 yb (.cells #[.int .i64 a0,.int .i64 rm,.int .i64 a2] 87 (0,0))=w9 at f9 k9 ⊢;have H9:=zhz ((H6.out.keep N14.out).fr f9 (fun k hk e=>(NXY.out.1 k hk).2 e));have F9:=zhz f9;have K9:=zhz k9;have kw9:=k9.wr;have kr9:=k9.rd;clear f9 k9 kw8 kr8
   refine hK.out _ _ (ST.out _ H9.out) fun hHeld=>?_
   clear hK K
   try simp only [Act.put,zs1,zs2,zs3]
   refine wR 12 ?_
   refine wC 13 fun K hK=>?_
   go_simp
   rw [zac K9.out];simp only [zs1,zs2,zs3];have f10:=Fr.setObj (F:=fun k=>k=yb) (Fr.refl _ w9) rfl (.cells #[.int .i64 a0,.int .i64 rm,.int .i64 wt] 87 (0,0));have k10:Blk (setObj w9 yb (.cells #[.int .i64 a0,.int .i64 rm,.int .i64 wt] 87 (0,0))) yb 87 #[.int .i64 a0,.int .i64 rm,.int .i64 wt]:=zab (lt_of_block K9.out) _;generalize setObj w9 yb (.cells #[.int .i64 a0,.int .i64 rm,.int .i64 wt] 87 (0,0))=w10 at f10 k10 ⊢;have H10:=zhz (H9.out.fr f10 (fun k hk e=>(NXY.out.1 k hk).2 e));have F10:=zhz (F9.out.trans f10);have K10:=zhz k10;clear f10 k10 kw9 kr9
   refine hK.out _ _ (ST.out _ H10.out) fun hHeld=>?_
   clear hK K
   try simp only [Act.put,zs1,zs2,zs3]
   refine wpAnyH_done (by kernel_rfl) ?_ _
   clear hHeld
   have KX10:=zhz ((KX6.out.keep N14.out).fr F10.out NXY.out.2)
   have k10r:=K10.out.rd
   have k10w:=K10.out.wr
   go_upto_region 10 with (fail)
   rw [zac K10.out]
   simp only [zs1,zs2,zs3]
   have f11:=Fr.setObj (F:=fun k=>k=yb) (Fr.refl _ w10) rfl (.cells #[.int .i64 2,.int .i64 rm,.int .i64 wt] 87 (0,0))
   have k11:Blk (setObj w10 yb (.cells #[.int .i64 2,.int .i64 rm,.int .i64 wt] 87 (0,0))) yb 87 #[.int .i64 2,.int .i64 rm,.int .i64 wt]:=zab (lt_of_block K10.out) _
   generalize setObj w10 yb (.cells #[.int .i64 2,.int .i64 rm,.int .i64 wt] 87 (0,0))=w11 at f11 k11 ⊢
   have H11:=zhz (H10.out.fr f11 (fun k hk e=>(NXY.out.1 k hk).2 e))
   have F11:=zhz (F10.out.trans f11)
   have KX11:=zhz (KX10.out.fr f11 NXY.out.2)
   have K11:=zhz k11
   clear f11 k11
   clear k10r k10w
   have k11r:=K11.out.rd
   have k11w:=K11.out.wr
   by_cases hw0:wt=0
   ·have t1:(wt==0)=true:=by simpa using hw0
    have HW:=zhz hw0
    clear hw0
    go_upto_region 12 with (fail)
    rw [zac K11.out]
    simp only [zs1,zs2,zs3]
    have f12:=Fr.setObj (F:=fun k=>k=yb) (Fr.refl _ w11) rfl (.cells #[.int .i64 1,.int .i64 rm,.int .i64 wt] 87 (0,0))
    have k12:Blk (setObj w11 yb (.cells #[.int .i64 1,.int .i64 rm,.int .i64 wt] 87 (0,0))) yb 87 #[.int .i64 1,.int .i64 rm,.int .i64 wt]:=zab (lt_of_block K11.out) _
    generalize setObj w11 yb (.cells #[.int .i64 1,.int .i64 rm,.int .i64 wt] 87 (0,0))=w12 at f12 k12 ⊢
    have H12:=zhz (H11.out.fr f12 (fun k hk e=>(NXY.out.1 k hk).2 e))
    have F12:=zhz (F11.out.trans f12)
    have KX12:=zhz (KX11.out.fr f12 NXY.out.2)
    have K12:=zhz k12
    clear f12 k12
    clear k11r k11w
    have kx:=KX12.out.rd
    have kw:=KX12.out.wr
    have ky:=K12.out.rd
    go_wp2
    rw [zal KX12.out]
    refine bodyPost_ret (results_cell_row rfl _ _ bx _ _ (0,0) _ rfl (zab (lt_of_block KX12.out) _) Tryz.underlying87 rfl (by kernel_rfl)) rfl ?_
    refine ⟨rfl,H12.out.fr (Fr.setObj (F:=fun k=>k=bx) (Fr.refl _ _) rfl _) (fun k hk e=>(NXY.out.1 k hk).1 e),?_⟩
    refine Fr.drop_new (F:=N.parts) (s:=bx) (Fr.drop_new (F:=fun k=>N.parts k∨k=bx) (s:=yb) (((Fr.of_below F3.out).mono (fun k (hk:False)=>hk.elim)).trans ((F6.out.mono (fun k hk=>Or.inl (Or.inl hk))).trans (((Fr.of_below N14.out).mono (fun k (hk:False)=>hk.elim)).trans ((F12.out.mono (fun k hk=>Or.inr hk)).trans (Fr.setObj (F:=fun k=>(N.parts k∨k=bx)∨k=yb) (Fr.refl _ _) (Or.inl (Or.inr rfl)) _))))) (by have:=NY.out;omega)) (by have:=HB.out;omega)
   ·have t1:(wt==0)=false:=by simpa using hw0
    have HW:=zhz hw0
    clear hw0
    have kx:=KX11.out.rd
    have kw:=KX11.out.wr
    have ky:=K11.out.rd
    go_wp2
    rw [zal KX11.out]
    refine bodyPost_ret (results_cell_row rfl _ _ bx _ _ (0,0) _ rfl (zab (lt_of_block KX11.out) _) Tryz.underlying87 rfl (by kernel_rfl)) rfl ?_
    refine ⟨rfl,H11.out.fr (Fr.setObj (F:=fun k=>k=bx) (Fr.refl _ _) rfl _) (fun k hk e=>(NXY.out.1 k hk).1 e),?_⟩
    refine Fr.drop_new (F:=N.parts) (s:=bx) (Fr.drop_new (F:=fun k=>N.parts k∨k=bx) (s:=yb) (((Fr.of_below F3.out).mono (fun k (hk:False)=>hk.elim)).trans ((F6.out.mono (fun k hk=>Or.inl (Or.inl hk))).trans (((Fr.of_below N14.out).mono (fun k (hk:False)=>hk.elim)).trans ((F11.out.mono (fun k hk=>Or.inr hk)).trans (Fr.setObj (F:=fun k=>(N.parts k∨k=bx)∨k=yb) (Fr.refl _ _) (Or.inl (Or.inr rfl)) _))))) (by have:=NY.out;omega)) (by have:=HB.out;omega)
  | some c =>
   have hG:=g2 c hres
   rw [hres] at CS
   have CR7:=zhz (fun wx=>show Calls Tryz.prog 223 #[celV c,pv N.U N.W N.B N.L,.int .i64 now] wx (fun e w'=>e=.returned (.int .i64 (celR c N.U N.W N.B N.L now))∧Below wx.heap.size wx w') from zdV hG wx)
   have CW7:=zhz (fun wx=>show Calls Tryz.prog 224 #[celV c,pv N.U N.W N.B N.L,.int .i64 now,.int .i64 cost] wx (fun e w'=>e=.returned (.int .i64 (celW c N.U N.W N.B N.L now cost))∧Below wx.heap.size wx w') from zgJ hG hcb wx)
   dsimp only
   obtain ⟨rm,hrm⟩:=zeq (celR c N.U N.W N.B N.L now)
   obtain ⟨wt,hwt⟩:=zeq (celW c N.U N.W N.B N.L now cost)
   rw [← hrm] at CR7
   rw [← hwt] at CW7
   simp only [← hrm,← hwt]
   clear hrm hwt hG hres g1 g2
   go_enter Tryz.func212,Tryz.ntmps212
   go_upto_region 1 with (fail)
   rw [← HB.out]
   clear hw1 hbx
   go_upto_region 2 with (go_at_call 215;((with_reducible refine CR.out.mono ?_);rintro e w2 ⟨rfl,b2⟩;have B2:=zhz b2;clear b2 kx1 kw1))
   obtain ⟨w3,e3,k3,b3,s3⟩:=zad w2 #[.int .i64 a0,.int .i64 a1,.int .i64 a2] 87
   rw [e3]
   have H3:=zhz ((H1.out.keep B2.out).keep b3)
   have KX:=zhz ((K1.out.keep B2.out).keep b3)
   have F3:=zhz (show Below w.heap.size w w3 from zae (zae L1.out B2.out) b3)
   have NY:=zhz (show w.heap.size≤w2.heap.size∧bx<w2.heap.size from ⟨(zae L1.out B2.out).size,by have:=lt_of_block (K1.out.keep B2.out);omega⟩)
   generalize w2.heap.size=yb at k3 NY ⊢
   have KY:=zhz k3
   have NXY:=zhz (show (∀ k,N.all k→k≠bx∧k≠yb)∧bx≠yb from ⟨fun k hk=>by have:=HLT.out k hk;have:=HB.out;have:=NY.out;omega,by have:=NY.out;omega⟩)
   have kl:=H3.out.hl.rd
   clear e3 b3 s3 k3
   go_upto_region 6 with (first
    | (go_at_call 217;((with_reducible refine (CT.out _ H3.out).mono ?_);rintro e w4 ⟨rfl,r4,f4⟩;have H4:=zhz (H3.out.ring r4 f4 (fun k hk=>Or.inl (Or.inl hk)));have F4:=zhz (show Fr N.parts w3 w4 from f4.mono (fun k hk=>Or.inr (Or.inl (Or.inl (Or.inl hk)))));clear r4 f4))
    | (go_at_call 222;((with_reducible refine (CS.out _ H4.out).mono ?_);rintro e w5 ⟨rfl,b5⟩;have H5:=zhz (H4.out.keep b5);have F5:=zhz (F4.out.trans (Fr.of_below b5));simp only [resV];clear b5)))
   obtain ⟨w6,e6,k6,b6,s6⟩:=zad w5 #[.int .i64 c.1,.int .i64 c.2.1,.int .i64 c.2.2.1,.int .i64 c.2.2.2] 105
   rw [e6]
   have H6:=zhz (H5.out.keep b6)
   have F6:=zhz (F5.out.trans (Fr.of_below b6))
   have KX6:=zhz (KX.out.fr F6.out (fun hk=>(NXY.out.1 _ (Or.inl hk)).1 rfl))
   have KY6:=zhz (KY.out.fr F6.out (fun hk=>(NXY.out.1 _ (Or.inl hk)).2 rfl))
   have NZ:=zhz (show yb<w5.heap.size from Nat.lt_of_lt_of_le (lt_of_block KY.out) F5.out.size)
   generalize w5.heap.size=zb at k6 NZ ⊢
   have KZ:=zhz k6
   clear e6 b6 s6 k6 kl
   go_upto_region 7 with (fail)
   have ST:=zhz (fun (Wo:World) (hW:LmAt Wo N { s with r:=⟨max s.r.t now,s.r.num,s.r.F⟩ }) (hZ:Blk Wo zb 105 #[.int .i64 c.1,.int .i64 c.2.1,.int .i64 c.2.2.1,.int .i64 c.2.2.2])=>And.intro (show ∀ (j:Nat),Wo.cell? ⟨N.l,j,none⟩=(limC N s.al s.de s.ba)[j]? from hW.hl.rd) hZ.rd)
   have BN:=zhz (show Below w6.heap.size w6 w6.drew from zaa (Below.refl _ _) 1)
   have st:=ST.out _ (H6.out.keep BN.out) (KZ.out.keep BN.out)
   refine wp_region_held_drew (S:=fun Wo=>(∀ j,Wo.cell? ⟨N.l,j,none⟩=(limC N s.al s.de s.ba)[j]?)∧(∀ j,Wo.cell? ⟨zb,j,none⟩=(#[.int .i64 c.1,.int .i64 c.2.1,.int .i64 c.2.2.1,.int .i64 c.2.2.2]:Array Value)[j]?)) (by kernel_rfl) st (fun hHeld=>?_)
   clear st
   refine wR 0 ?_
   refine wR 1 ?_
   refine wR 2 ?_
   refine wR 3 ?_
   refine wR 4 ?_
   refine wR 5 ?_
   refine wR 7 ?_
   refine wR 8 ?_
   refine wR 9 ?_
   refine wR 10 ?_
   refine wR 11 ?_
   refine wR 12 ?_
   refine wR 13 ?_
   refine wC 6 fun K hK=>?_
   go_simp
   ((with_reducible refine (CR7.out _).mono ?_);rintro e w7 ⟨rfl,be⟩;have N6:=zhz (G.below_on BN.out be);clear be)
   refine hK.out _ _ (ST.out _ (H6.out.keep N6.out) (KZ.out.keep N6.out)) fun hHeld=>?_
   clear hK K
   try simp only [Act.put,zs1,zs2,zs3]
   refine wR 15 ?_
   refine wC 14 fun K hK=>?_
   go_simp
   ((with_reducible refine (CW7.out _).mono ?_);rintro e w8 ⟨rfl,be⟩;have N14:=zhz (G.below_on N6.out be);have K8:=zhz (KY6.out.keep N14.out);have kw8:=K8.out.wr;have kr8:=K8.out.rd;clear be)
   refine hK.out _ _ (ST.out _ (H6.out.keep N14.out) (KZ.out.keep N14.out)) fun hHeld=>?_
   clear hK K
   try simp only [Act.put,zs1,zs2,zs3]
   refine wC 16 fun K hK=>?_
   go_simp
   rw [zac K8.out];simp only [zs1,zs2,zs3];have f9:=Fr.setObj (F:=fun k=>k=yb) (Fr.refl _ w8) rfl (.cells #[.int .i64 a0,.int .i64 rm,.int .i64 a2] 87 (0,0));have k9:Blk (setObj w8 yb (.cells #[.int .i64 a0,.int .i64 rm,.int .i64 a2] 87 (0,0))) yb 87 #[.int .i64 a0,.int .i64 rm,.int .i64 a2]:=zab (lt_of_block K8.out) _;generalize setObj w8 yb (.cells #[.int .i64 a0,.int .i64 rm,.int .i64 a2] 87 (0,0))=w9 at f9 k9 ⊢;have H9:=zhz ((H6.out.keep N14.out).fr f9 (fun k hk e=>(NXY.out.1 k hk).2 e));have Z9:=zhz ((KZ.out.keep N14.out).fr f9 (by have:=NZ.out;omega));have F9:=zhz f9;have K9:=zhz k9;have kw9:=k9.wr;have kr9:=k9.rd;clear f9 k9 kw8 kr8
   refine hK.out _ _ (ST.out _ H9.out Z9.out) fun hHeld=>?_
   clear hK K
   try simp only [Act.put,zs1,zs2,zs3]
   refine wR 17 ?_
   refine wC 18 fun K hK=>?_
   go_simp
   rw [zac K9.out];simp only [zs1,zs2,zs3];have f10:=Fr.setObj (F:=fun k=>k=yb) (Fr.refl _ w9) rfl (.cells #[.int .i64 a0,.int .i64 rm,.int .i64 wt] 87 (0,0));have k10:Blk (setObj w9 yb (.cells #[.int .i64 a0,.int .i64 rm,.int .i64 wt] 87 (0,0))) yb 87 #[.int .i64 a0,.int .i64 rm,.int .i64 wt]:=zab (lt_of_block K9.out) _;generalize setObj w9 yb (.cells #[.int .i64 a0,.int .i64 rm,.int .i64 wt] 87 (0,0))=w10 at f10 k10 ⊢;have H10:=zhz (H9.out.fr f10 (fun k hk e=>(NXY.out.1 k hk).2 e));have Z10:=zhz (Z9.out.fr f10 (by have:=NZ.out;omega));have F10:=zhz (F9.out.trans f10);have K10:=zhz k10;clear f10 k10 kw9 kr9
   refine hK.out _ _ (ST.out _ H10.out Z10.out) fun hHeld=>?_
   clear hK K
   try simp only [Act.put,zs1,zs2,zs3]
   refine wpAnyH_done (by kernel_rfl) ?_ _
   clear hHeld
   have KX10:=zhz ((KX6.out.keep N14.out).fr F10.out NXY.out.2)
   have k10r:=K10.out.rd
   have k10w:=K10.out.wr
   go_upto_region 10 with (fail)
   rw [zac K10.out]
   simp only [zs1,zs2,zs3]
   have f11:=Fr.setObj (F:=fun k=>k=yb) (Fr.refl _ w10) rfl (.cells #[.int .i64 2,.int .i64 rm,.int .i64 wt] 87 (0,0))
   have k11:Blk (setObj w10 yb (.cells #[.int .i64 2,.int .i64 rm,.int .i64 wt] 87 (0,0))) yb 87 #[.int .i64 2,.int .i64 rm,.int .i64 wt]:=zab (lt_of_block K10.out) _
   generalize setObj w10 yb (.cells #[.int .i64 2,.int .i64 rm,.int .i64 wt] 87 (0,0))=w11 at f11 k11 ⊢
   have H11:=zhz (H10.out.fr f11 (fun k hk e=>(NXY.out.1 k hk).2 e))
   have F11:=zhz (F10.out.trans f11)
   have KX11:=zhz (KX10.out.fr f11 NXY.out.2)
   have K11:=zhz k11
   clear f11 k11
   clear k10r k10w
   have k11r:=K11.out.rd
   have k11w:=K11.out.wr
   by_cases hw0:wt=0
   ·have t1:(wt==0)=true:=by simpa using hw0
    have HW:=zhz hw0
    clear hw0
    go_upto_region 12 with (fail)
    rw [zac K11.out]
    simp only [zs1,zs2,zs3]
    have f12:=Fr.setObj (F:=fun k=>k=yb) (Fr.refl _ w11) rfl (.cells #[.int .i64 1,.int .i64 rm,.int .i64 wt] 87 (0,0))
    have k12:Blk (setObj w11 yb (.cells #[.int .i64 1,.int .i64 rm,.int .i64 wt] 87 (0,0))) yb 87 #[.int .i64 1,.int .i64 rm,.int .i64 wt]:=zab (lt_of_block K11.out) _
    generalize setObj w11 yb (.cells #[.int .i64 1,.int .i64 rm,.int .i64 wt] 87 (0,0))=w12 at f12 k12 ⊢
    have H12:=zhz (H11.out.fr f12 (fun k hk e=>(NXY.out.1 k hk).2 e))
    have F12:=zhz (F11.out.trans f12)
    have KX12:=zhz (KX11.out.fr f12 NXY.out.2)
    have K12:=zhz k12
    clear f12 k12
    clear k11r k11w
    have kx:=KX12.out.rd
    have kw:=KX12.out.wr
    have ky:=K12.out.rd
    go_wp2
    rw [zal KX12.out]
    refine bodyPost_ret (results_cell_row rfl _ _ bx _ _ (0,0) _ rfl (zab (lt_of_block KX12.out) _) Tryz.underlying87 rfl (by kernel_rfl)) rfl ?_
    refine ⟨rfl,H12.out.fr (Fr.setObj (F:=fun k=>k=bx) (Fr.refl _ _) rfl _) (fun k hk e=>(NXY.out.1 k hk).1 e),?_⟩
    refine Fr.drop_new (F:=N.parts) (s:=bx) (Fr.drop_new (F:=fun k=>N.parts k∨k=bx) (s:=yb) (((Fr.of_below F3.out).mono (fun k (hk:False)=>hk.elim)).trans ((F6.out.mono (fun k hk=>Or.inl (Or.inl hk))).trans (((Fr.of_below N14.out).mono (fun k (hk:False)=>hk.elim)).trans ((F12.out.mono (fun k hk=>Or.inr hk)).trans (Fr.setObj (F:=fun k=>(N.parts k∨k=bx)∨k=yb) (Fr.refl _ _) (Or.inl (Or.inr rfl)) _))))) (by have:=NY.out;omega)) (by have:=HB.out;omega)
   ·have t1:(wt==0)=false:=by simpa using hw0
    have HW:=zhz hw0
    clear hw0
    have kx:=KX11.out.rd
    have kw:=KX11.out.wr
    have ky:=K11.out.rd
    go_wp2
    rw [zal KX11.out]
    refine bodyPost_ret (results_cell_row rfl _ _ bx _ _ (0,0) _ rfl (zab (lt_of_block KX11.out) _) Tryz.underlying87 rfl (by kernel_rfl)) rfl ?_
    refine ⟨rfl,H11.out.fr (Fr.setObj (F:=fun k=>k=bx) (Fr.refl _ _) rfl _) (fun k hk e=>(NXY.out.1 k hk).1 e),?_⟩
    refine Fr.drop_new (F:=N.parts) (s:=bx) (Fr.drop_new (F:=fun k=>N.parts k∨k=bx) (s:=yb) (((Fr.of_below F3.out).mono (fun k (hk:False)=>hk.elim)).trans ((F6.out.mono (fun k hk=>Or.inl (Or.inl hk))).trans (((Fr.of_below N14.out).mono (fun k (hk:False)=>hk.elim)).trans ((F11.out.mono (fun k hk=>Or.inr hk)).trans (Fr.setObj (F:=fun k=>(N.parts k∨k=bx)∨k=yb) (Fr.refl _ _) (Or.inl (Or.inr rfl)) _))))) (by have:=NY.out;omega)) (by have:=HB.out;omega)
end
end
section
open Ar (inR)
section
variable {R:RgN} {σ:RgS} {T:Int}
def RgOk (R:RgN) (σ:RgS):Prop:=∃ w,RgAt w R σ
theorem RgOk.to (h:RgOk R σ) {t:Int} (ht:t≤9223372036854775807):RgOk R ⟨max σ.t t,σ.num,σ.F⟩:=by
 obtain ⟨w,h⟩:=h
 have hf:Fr (fun b=>b=R.x) w (setObj w R.x (.cells (ringC R (max σ.t t)) 230 (0,0))):=Fr.setObj (F:=fun b=>b=R.x) (Fr.refl _ _) rfl _
 exact ⟨_,zab (lt_of_block h.hx) _,h.hp.fr hf (fun e=>h.nx e.symm),fun i hi=>(h.hs i hi).fr hf (h.ns i hi).1.1 (h.ns i hi).2.1,h.nx,h.ns,h.ng,h.bd,(by have:=h.ht;show 0≤max σ.t t∧max σ.t t≤_;omega),h.hn⟩
theorem zgn:Sk.okC (fun _ _=>0):=fun _ _=>by show (0:Int)≤0∧(0:Int)≤9223372036854775807;omega
theorem RgOk.add (h:RgOk R σ) (s:ByteArray) {c:Int} (hc:c≤9223372036854775807):RgOk R (σ.add R s c):=by
 obtain ⟨w,h⟩:=h
 have hpl:=h.pl_lt.1
 have h1:=h.putN (i:=σ.pl R) (v:=σ.now R) hpl h.now_in
 have h0:Sk.okC (if σ.num (σ.pl R)=σ.now R then σ.F (σ.pl R) else fun _ _=>0):=by
  split
  ·exact h.ok _ hpl
  ·exact zgn
 have h2:=h0.add R.P R.k s hc
 have h3:=(h1.hs (σ.pl R) hpl).put h2
 exact ⟨_,h1.putF hpl h3 (Fr.setObj (F:=fun b=>b=R.gs (σ.pl R)) (Fr.refl _ _) rfl _)⟩
theorem RgOk.few_add (h:RgOk R σ) (hf:FewR R σ T) (s:ByteArray) {c:Int} (hc:0≤c∧c≤9223372036854775807):FewR R (σ.add R s c) (T+c):=by
 obtain ⟨w,h⟩:=h
 exact hf.add h s hc
theorem RgOk.est (h:RgOk R σ) (hf:FewR R σ T) (hT:T≤9223372036854775807) (s:ByteArray):0≤estZ R σ s∧estZ R σ s≤T:=by
 obtain ⟨w,h⟩:=h
 obtain ⟨p1,p2,p3,p4⟩:=zd7 (s:=s) h hf hT
 have hn:=h.bd.1
 have ha:=hf.all s
 have sp:=zca (R:=R) (σ:=σ) (s:=s) (a:=σ.now R - ((R.n:Int) - 1)) (b:=σ.now R) (c:=σ.now R - ((R.n:Int) - 1)) (by omega) (by omega) R.n
 have r3:=zbd (R:=R) (σ:=σ) (s:=s) h.ok (σ.now R - ((R.n:Int) - 1)) (σ.now R)
 have r4:=zbd (R:=R) (σ:=σ) (s:=s) h.ok (σ.now R - ((R.n:Int) - 1)+1) (σ.now R)
 omega
end
theorem RgOk.cnt_add {R:RgN} {σ:RgS} {T:Int} (h:RgOk R σ) (hT:0≤T) (hf:∀ i j p,σ.F i j p≤T) (s:ByteArray) {c:Int} (hc:0≤c∧c≤9223372036854775807):∀ i j p,(σ.add R s c).F i j p≤T+c:=by
 obtain ⟨w,h⟩:=h
 intro i j p
 have hpl:=h.pl_lt.1
 have h0:Sk.okC (if σ.num (σ.pl R)=σ.now R then σ.F (σ.pl R) else fun _ _=>0):=by
  split
  ·exact h.ok _ hpl
  ·exact zgn
 show updN σ.F (σ.pl R) (Sk.add (if σ.num (σ.pl R)=σ.now R then σ.F (σ.pl R) else fun _ _=>0) R.P R.k s c) i j p≤T+c
 by_cases e:i=σ.pl R
 ·subst e
  rw [zan]
  refine Int.le_trans (Sk.add_le h0 R.P s hc j p) ?_
  have:(if σ.num (σ.pl R)=σ.now R then σ.F (σ.pl R) else fun _ _=>0) j p≤T:=by
   split
   ·exact hf _ j p
   ·exact hT
  omega
 ·rw [zaz _ _ e]
  have:=hf i j p
  omega
theorem FewR.mono {R:RgN} {σ:RgS} {T T':Int} (h:FewR R σ T) (hT:T≤T'):FewR R σ T':=⟨fun s=>Int.le_trans (h.all s) hT,h.now⟩
structure LmI (N:LmN) (s:LmS) (t m:Int):Prop where
 rg:RgOk N.R s.r
 few:FewR N.R s.r m
 cnt:∀ i j p,s.r.F i j p≤m
 t1:s.r.t≤t
 t0:0≤t∧t≤4611686018427387904
 c:∀ c ∈ s.C,(0≤c.1∧c.1≤t+1099511627776)∧(0≤c.2.1∧c.2.1≤t)∧(0≤c.2.2.1∧c.2.2.1≤m)∧0≤c.2.2.2∧c.2.2.2≤m
 al:0≤s.al∧s.al≤m
 de:0≤s.de∧s.de≤m
 ba:0≤s.ba∧s.ba≤m
 m:0≤m∧m≤576460752303423488
 U:1≤N.U∧N.U≤1048576
 W:1≤N.W∧N.W≤1048576
 B:1≤N.B∧N.B≤1048576
 L:1≤N.L∧N.L≤1048576
section
variable {N:LmN} {s:LmS} {t m now:Int}
theorem LmI.g (h:LmI N s now m):LmG N s now:=by
 have t0:=h.t0
 have hm:=h.m
 refine ⟨fun c hc=>?_,by have:=h.t1;omega,t0,h.U,h.W,h.B,h.L⟩
 obtain ⟨h1,h2,h3,h4⟩:=h.c c hc
 exact ⟨⟨by omega,by omega,by omega,by omega,h.U,h.W,h.B,h.L,t0⟩,by omega⟩
theorem LmI.mono (h:LmI N s t m) {t' m':Int} (ht:t≤t'∧t'≤4611686018427387904) (hm:m≤m'∧m'≤576460752303423488):LmI N s t' m':=by
 have t0:=h.t0
 have m0:=h.m
 refine ⟨h.rg,h.few.mono hm.1,fun i j p=>Int.le_trans (h.cnt i j p) hm.1,by have:=h.t1;omega,by omega,fun c hc=>?_,by have:=h.al;omega,by have:=h.de;omega,by have:=h.ba;omega,by omega,h.U,h.W,h.B,h.L⟩
 obtain ⟨h1,h2,h3,h4⟩:=h.c c hc
 omega
theorem LmI.to (h:LmI N s now m):LmI N { s with r:=⟨max s.r.t now,s.r.num,s.r.F⟩ } now m:=by
 obtain ⟨rg,few,cnt,t1,t0,c,al,de,ba,hm,U,W,B,L⟩:=h
 have hs:1≤N.R.s:=by obtain ⟨w,hw⟩:=rg;exact hw.bd.2.1.1
 exact ⟨rg.to (by omega),few.to hs (by omega),cnt,by show max s.r.t now≤now;omega,t0,c,al,de,ba,hm,U,W,B,L⟩
theorem LmI.seen (h:LmI N s now m) (key:ByteArray) (cost:Int):LmI N (s.seen N now key cost) now m:=by
 obtain ⟨rg,few,cnt,t1,t0,c,al,de,ba,hm,U,W,B,L⟩:=h.to
 exact ⟨rg,few,cnt,t1,t0,c,al,de,ba,hm,U,W,B,L⟩
theorem LmI.est (h:LmI N s now m) (key:ByteArray):0≤estZ N.R s.r key∧estZ N.R s.r key≤m:=h.rg.est h.few (by have:=h.m;omega) key
theorem LmI.evict (h:LmI N s now m) (hm:m+1048576≤576460752303423488) (o:ByteArray):LmI N (s.evict N now o) now (m+1048576):=by
 have hb:=zfX (h.g.rem (s.σ.del N.Q.N.n o).2)
 have h2:=h.mono (t':=now) (m':=m+1048576) ⟨Int.le_refl _,h.t0.2⟩ ⟨by omega,hm⟩
 obtain ⟨rg,few,cnt,t1,t0,c,al,de,ba,hm,U,W,B,L⟩:=h2
 have f1:=h.rg.few_add h.few o (c:=boundP (remC s.C (s.σ.del N.Q.N.n o).2).1 (remC s.C (s.σ.del N.Q.N.n o).2).2.1 (remC s.C (s.σ.del N.Q.N.n o).2).2.2.2 N.U N.W N.L now) (by omega)
 have f2:=h.rg.cnt_add h.m.1 h.cnt o (c:=boundP (remC s.C (s.σ.del N.Q.N.n o).2).1 (remC s.C (s.σ.del N.Q.N.n o).2).2.1 (remC s.C (s.σ.del N.Q.N.n o).2).2.2.2 N.U N.W N.L now) (by omega)
 exact ⟨rg.add o (by omega),f1.mono (by omega),fun i j p=>Int.le_trans (f2 i j p) (by omega),t1,t0,c,al,de,ba,hm,U,W,B,L⟩
theorem ziS {C:List Cel} {c x:Cel} {o:Option Nat} (h:x ∈ plSet C c o):x=c∨x ∈ C:=by
 cases o with
 | none=>exact Or.inr h
 | some i =>
  rcases List.mem_or_eq_of_mem_set h with h | h
  ·exact Or.inr h
  ·exact Or.inl h
theorem LmI.put (h:LmI N s now m) (key:ByteArray):LmI N (s.put N now key) now m:=by
 have he:=h.est key
 have ht:=h.t0
 obtain ⟨rg,few,cnt,t1,t0,c,al,de,ba,hm,U,W,B,L⟩:=h
 refine ⟨rg,few,cnt,t1,t0,fun x hx=>?_,al,de,ba,hm,U,W,B,L⟩
 rcases ziS hx with rfl | hx
 ·exact ⟨by show 0≤now∧now≤_;omega,by show 0≤now∧now≤_;omega,he,by show (0:Int)≤0∧0≤m;omega⟩
 ·exact c x hx
theorem LmI.adm (h:LmI N s now m) (hm:m+1048576≤576460752303423488) (key:ByteArray):LmI N (s.adm N now key).1 now (m+1048576):=by
 have h0:=h.mono (t':=now) (m':=m+1048576) ⟨Int.le_refl _,h.t0.2⟩ ⟨by omega,hm⟩
 unfold LmS.adm
 split
 ·exact h0
 ·split
  ·split
   ·exact (h.evict hm _).put key
   ·exact h0
  ·exact h0.put key
theorem LmI.judge (h:LmI N s now m) (hm:m+1048576≤576460752303423488) (key:ByteArray) {cost:Int} (hc:1≤cost∧cost≤N.B):LmI N (s.judge N now key cost).2 now (m+1048576):=by
 have h0:=h.mono (t':=now) (m':=m+1048576) ⟨Int.le_refl _,h.t0.2⟩ ⟨by omega,hm⟩
 have hB:=h.B
 have hg:=h.g
 have hcs:=h.c
 unfold LmS.judge
 split
 ·rename_i i hi
  split
  ·rename_i hle
   obtain ⟨rg,few,cnt,t1,t0,c,al,de,ba,hm,U,W,B,L⟩:=h0
   refine ⟨rg,few,cnt,t1,t0,fun x hx=>?_,al,de,ba,hm,U,W,B,L⟩
   have hG:celG (s.C.getD i (0,0,0,0)) N.U N.W N.B N.L now:=hg.rem (some i)
   rcases List.mem_or_eq_of_mem_set hx with hx | hx
   ·exact c x hx
   ·have hin:s.C.getD i (0,0,0,0) ∈ s.C∨s.C.getD i (0,0,0,0)=(0,0,0,0):=by
     rw [List.getD_eq_getElem?_getD]
     cases hq:s.C[i]? with
     | none=>exact Or.inr rfl
     | some y=>exact Or.inl (List.mem_of_getElem? hq)
    obtain ⟨cc,hcc⟩:=zeq (s.C.getD i (0,0,0,0))
    rw [← hcc] at hG hle hin hx
    have hcel:(0≤cc.1∧cc.1≤now+1099511627776)∧(0≤cc.2.1∧cc.2.1≤now)∧(0≤cc.2.2.1∧cc.2.2.1≤m)∧0≤cc.2.2.2∧cc.2.2.2≤m:=by
     rcases hin with hin | hin
     ·exact hcs cc hin
     ·rw [hin]
      have:=h.m
      refine ⟨?_,?_,?_,?_⟩
      ·show (0:Int)≤0∧(0:Int)≤_;omega
      ·show (0:Int)≤0∧(0:Int)≤_;omega
      ·show (0:Int)≤0∧(0:Int)≤_;omega
      ·show (0:Int)≤0∧(0:Int)≤_;omega
    have hl:=(zcT hG ⟨hc.1,hle⟩).1
    have hbu:=hG.bu
    have hcu:=(hG.kb hc).2.2.2
    rw [hx]
    obtain ⟨g1,g2,g3,g4⟩:=hcel
    exact ⟨by show 0≤max cc.1 now+cost*N.U∧max cc.1 now+cost*N.U≤_;omega,g2,by show 0≤cc.2.2.1∧cc.2.2.1≤_;omega,by show 0≤cc.2.2.2+cost∧cc.2.2.2+cost≤_;omega⟩
  ·exact h0
 ·split
  ·obtain ⟨rg,few,cnt,t1,t0,c,al,de,ba,hm,U,W,B,L⟩:=h0
   have f1:=h.rg.few_add h.few key (c:=cost) (by omega)
   have f2:=h.rg.cnt_add h.m.1 h.cnt key (c:=cost) (by omega)
   exact ⟨rg.add key (by omega),f1.mono (by omega),fun i j p=>Int.le_trans (f2 i j p) (by omega),t1,t0,c,al,de,ba,hm,U,W,B,L⟩
  ·exact h0
theorem LmI.count (h:LmI N s now m) (hm:m+1≤576460752303423488) (v:Int):LmI N (s.count v) now (m+1):=by
 have h0:=h.mono (t':=now) (m':=m+1) ⟨Int.le_refl _,h.t0.2⟩ ⟨by omega,hm⟩
 have a1:=h.al
 have a2:=h.de
 have a3:=h.ba
 obtain ⟨rg,few,cnt,t1,t0,c,al,de,ba,hm,U,W,B,L⟩:=h0
 unfold LmS.count
 split
 ·exact ⟨rg,few,cnt,t1,t0,c,by show 0≤s.al+1∧s.al+1≤m+1;omega,de,ba,hm,U,W,B,L⟩
 ·split
  ·exact ⟨rg,few,cnt,t1,t0,c,al,by show 0≤s.de+1∧s.de+1≤m+1;omega,ba,hm,U,W,B,L⟩
  ·split
   ·exact ⟨rg,few,cnt,t1,t0,c,al,de,by show 0≤s.ba+1∧s.ba+1≤m+1;omega,hm,U,W,B,L⟩
   ·exact ⟨rg,few,cnt,t1,t0,c,al,de,ba,hm,U,W,B,L⟩
theorem LmI.check (h:LmI N s now m) (hm:m+2097153≤576460752303423488) (held:Int) (key:ByteArray) (cost:Int):LmI N (s.check N now held key cost).1 now (m+2097153):=by
 unfold LmS.check
 split
 ·exact (h.count (by omega) _).mono ⟨Int.le_refl _,h.t0.2⟩ ⟨by omega,by omega⟩
 ·rename_i hr
  have hr:(refZ N now held cost).2=false:=by
   cases hq:(refZ N now held cost).2
   ·rfl
   ·exact absurd hq hr
  have h1:=((h.seen key cost).adm (by omega) key).judge (by omega) key (zfs N now held cost hr).1
  exact (h1.count (by omega) _).mono ⟨Int.le_refl _,h.t0.2⟩ ⟨by omega,by omega⟩
theorem LmI.peeked (h:LmI N s now m) (held cost:Int):LmI N (s.peeked N now held cost) now m:=by
 unfold LmS.peeked
 split
 ·exact h
 ·exact h.to
theorem LmI.resi (h:LmI N s now m) {key:ByteArray} {c:Cel} (hc:s.resi N now key=some c):celG c N.U N.W N.B N.L now:=by
 have hg:=h.g
 unfold LmS.resi at hc
 split at hc
 ·rename_i i hi
  injection hc with hc
  rw [← hc]
  exact hg.rem (some i)
 ·split at hc
  ·cases hc
  ·injection hc with hc
   rw [← hc]
   have he:=h.est key
   have ht:=h.t0
   have hm:=h.m
   exact ⟨by show 0≤now∧now≤_;omega,by show 0≤now∧now≤_;omega,by show 0≤estZ N.R s.r key∧estZ N.R s.r key≤_;omega,by show (0:Int)≤0∧(0:Int)≤_;omega,h.U,h.W,h.B,h.L,ht⟩
theorem LmAt.keys {w:World} (h:LmAt w N s):∀ x ∈ s.res N,x.1.size≤64:=by
 intro x hx
 obtain ⟨i,_,he⟩:=List.mem_filterMap.1 hx
 cases hk:s.σ.K i with
 | none=>rw [hk] at he;cases he
 | some y =>
  rw [hk] at he
  injection he with he
  rw [← he]
  exact (h.hp.ix.uni.2.1 i y hk).2
end
end
section
open Ar (inR)
def lmZ (Ce:Nat):LmS:=⟨kNew Ce,List.replicate Ce (0,0,0,0),⟨0,fun _=>0,fun _ _ _=>0⟩,[],0,0,0,0⟩
structure LmP (N:LmN) (L Wd Bu:Int) (Sl s k W Ce Tr:Nat) (sm:Bool) (X A B:Nat→Nat):Prop where
 pU:N.U=unitZ Wd (L+1 - Bu)
 pW:N.W=Wd
 pB:N.B=Bu
 pL:N.L=L
 pC:N.Q.N.n=Ce
 pT:N.S.N.n=Tr
 pn:N.R.n=Sl+1
 ps:N.R.s=s
 pRL:N.R.L=L
 psm:N.R.sm=sm
 pk:N.R.k=k
 pRW:N.R.W=W
 pX:N.R.X=X
 pA:N.R.A=A
 pRB:N.R.B=B
theorem zem (L Wd Bu:Int) (Sl s k W Ce Tr:Nat) (sm:Bool) (hL:1≤L∧L≤9223372036854775000) (hBu:1≤Bu∧Bu≤L) (hWd:0≤Wd∧Wd≤9223372036854775807) (hSl:1≤Sl∧Sl≤64) (hs:Wd / (Sl:Int)=(s:Int)∧1≤s) (hk:1≤k∧k≤8) (hW:1≤W∧(Sl+1)*(8*(k*W))≤2147483647)
  (hCe:1≤Ce∧Ce≤1024) (hTr:1≤Tr∧Tr≤64) (A0:Option Addr) (n0 c0:Nat) (zs:List Int) (w:World) (hr:RdI w .u64 A0 n0 c0 zs) :
  Calls Tryz.prog 65 #[rlV L Wd Bu Sl Ce k W Tr sm,.slice A0 n0 c0] w fun e w'=>∃ N:LmN,e=.returned (.pointer (some ⟨N.l,0,none⟩))∧LmAt w' N (lmZ Ce)∧LmP N L Wd Bu Sl s k W Ce Tr sm (rX zs) (rA zs) (rB zs)∧(∀ b,N.all b→w.heap.size≤b)∧Below w.heap.size w w':=by
 obtain ⟨w1,hw1,k1,l1,s1⟩:=zad w (rlC L Wd Bu Sl Ce k W Tr sm) 52
 obtain ⟨rb,hrb⟩:=zeq (w.heap.size)
 rw [← hrb] at k1
 have kr:=k1.rd
 have K1:=zhz (And.intro k1 l1)
 have HRB:=zhz hrb
 obtain ⟨m,hm⟩:=zeq (k+1)
 have CH:=zhz (fun wx (hb:Below w.heap.size w wx)=>zks wx A0 n0 c0 zs (hr.below hb) m (by omega))
 have CO:=zhz (fun wx=>zmz L Wd Bu (Sl:Int) (Ce:Int) (k:Int) (W:Int) (Tr:Int) sm (by unfold inR;omega) (by unfold inR;omega) (by unfold inR;omega) wx)
 have e1:min (k:Int) 8=(k:Int):=by omega
 have e2:max 0 (k:Int)=(k:Int):=by omega
 have e3:IntKind.i64.wrap ((k:Int)+1)=(m:Int):=by rw [IntKind.wrap_i64];omega
 have e4:(k:Int)<(m:Int):=by omega
 have e5:(k:Int)≤(m:Int):=by omega
 have e6:(0:Int)≤(k:Int):=by omega
 have HM:=zhz hm
 obtain ⟨u,hu⟩:=zeq (unitZ Wd (L+1 - Bu))
 rw [← hu] at CO
 have HU:=zhz hu
 obtain ⟨Xk,hXk⟩:=zeq (rX zs k)
 obtain ⟨Ak,hAk⟩:=zeq (rA zs k)
 obtain ⟨Bk,hBk⟩:=zeq (rB zs k)
 have hlt:=zl9 zs m
 have hltk:=hlt k (by omega)
 rw [← hXk,← hAk,← hBk] at hltk
 have HX:=zhz (And.intro hXk (And.intro hAk hBk))
 have CP:=zhz (fun wx=>ziV Xk Ak Bk hltk.1 hltk.2.1 hltk.2.2 Ce hCe.1 hCe.2 wx)
 have CS:=zhz (fun wx=>zjj Xk Ak Bk hltk.1 hltk.2.1 hltk.2.2 Tr hTr.1 hTr.2 wx)
 have CR:=zhz (fun b0 wx (hx:RowsGe wx b0 k (rX zs) (rA zs) (rB zs))=>show Calls Tryz.prog 93 #[rlV L Wd Bu Sl Ce k W Tr sm,.slice (some ⟨b0,0,none⟩) k m] wx _ from by rw [hm];exact zkr L Wd Bu Ce k Tr Sl s k W sm (by unfold inR;omega) hWd hSl hs hk hW b0 (rX zs) (rA zs) (rB zs) wx hx (fun j hj=>hlt j (by omega)))
 clear k1 l1 s1 hr hrb hm hu hXk hAk hBk hlt hltk hs hW hL hBu hWd hSl hk hCe hTr
 go_enter Tryz.func65,Tryz.ntmps65
 go_upto_region 1 with (fail)
 rw [← HRB.out]
 clear hw1
 go_upto_region 3 with (go_at_call 90;((with_reducible refine (CH.out _ K1.out.2).mono ?_);rintro e w2 ⟨rfl,r2,b2⟩;have R2:=zhz r2;have K2:=zhz (K1.out.1.keep b2);have B2:=zhz (zae K1.out.2 b2);have G2:=zhz (show rb<w1.heap.size from lt_of_block K1.out.1);clear r2 b2))
 clear kr CH
 obtain ⟨rwb,hrw⟩:=zeq (w1.heap.size)
 rw [← hrw] at R2 G2 ⊢
 have SB:=zhz (fun wx (hb:Below w2.heap.size w2 wx)=>show (∀ i,wx.cell? ⟨rb,i,none⟩=(rlC L Wd Bu Sl Ce k W Tr sm)[i]?)∧wx.cell? ⟨rwb,k*3,none⟩=some (.int .u64 (Xk:Int))∧wx.cell? ⟨rwb,k*3+1,none⟩=some (.int .u64 (Ak:Int))∧wx.cell? ⟨rwb,k*3+2,none⟩=some (.int .u64 (Bk:Int)) from by
  obtain ⟨C,hC,_,hj⟩:=(zeD R2.out hb).blk
  have h3:=hj k (by have:=HM.out;omega)
  rw [Nat.mul_comm 3 k,← HX.out.1,← HX.out.2.1,← HX.out.2.2] at h3
  exact ⟨(K2.out.keep hb).rd,(zag hC).trans h3.1,(zag hC).trans h3.2.1,(zag hC).trans h3.2.2⟩)
 have BN:=zhz (show Below w2.heap.size w2 w2.drew from zaa (Below.refl _ _) 1)
 have st:=SB.out _ BN.out
 clear hrw
 refine wp_region_held_drew (S:=fun wx=>(∀ i,wx.cell? ⟨rb,i,none⟩=(rlC L Wd Bu Sl Ce k W Tr sm)[i]?)∧wx.cell? ⟨rwb,k*3,none⟩=some (.int .u64 (Xk:Int))∧wx.cell? ⟨rwb,k*3+1,none⟩=some (.int .u64 (Ak:Int))∧wx.cell? ⟨rwb,k*3+2,none⟩=some (.int .u64 (Bk:Int))) (by kernel_rfl) st (fun hHeld=>?_)
 clear st
 refine wR 0 ?_
 refine wR 2 ?_
 refine wR 3 ?_
 refine wR 4 ?_
 refine wR 5 ?_
 refine wR 6 ?_
 refine wR 7 ?_
 refine wR 8 ?_
 refine wR 10 ?_
 refine wR 11 ?_
 refine wR 12 ?_
 refine wR 13 ?_
 refine wR 15 ?_
 refine wR 16 ?_
 refine wR 17 ?_
 refine wR 18 ?_
 refine wR 19 ?_
 refine wR 20 ?_
 refine wC 1 fun K hK=>?_
 go_simp
 ((with_reducible refine (CO.out _).mono ?_);rintro e w3 ⟨rfl,be⟩;have N1:=zhz (G.below_on BN.out be);clear be)
 refine hK.out _ _ (SB.out _ N1.out) fun hHeld=>?_
 clear hK K
 try simp only [Act.put,zs1,zs2,zs3]
 refine wC 9 fun K hK=>?_
 go_simp
 ((with_reducible refine (CP.out _).mono ?_);rintro e w4 ⟨Q,rfl,p4,n4,a4,be⟩;have N2:=zhz (G.below_on N1.out be);have Q4:=zhz (And.intro p4 (And.intro n4 (fun k hk=>Nat.le_trans N1.out.size (a4 k hk))));clear p4 n4 a4 be)
 refine hK.out _ _ (SB.out _ N2.out) fun hHeld=>?_
 clear hK K
 try simp only [Act.put,zs1,zs2,zs3]
 refine wC 14 fun K hK=>?_
 go_simp
 ((with_reducible refine (CR.out _ _ ((zeD R2.out N2.out).ge (by have:=HM.out;omega))).mono ?_);rintro e w5 ⟨R,rfl,p5,n5,a5,be⟩;have N3:=zhz (G.below_on N2.out be);have Q5:=zhz (Q4.out.1.keep be);have R5:=zhz (And.intro p5 (And.intro n5 (And.intro a5 (show w4.heap.size≤w5.heap.size from be.size))));clear p5 n5 a5 be)
 refine hK.out _ _ (SB.out _ N3.out) fun hHeld=>?_
 clear hK K
 try simp only [Act.put,zs1,zs2,zs3]
 refine wC 21 fun K hK=>?_
 go_simp
 ((with_reducible refine (CS.out _).mono ?_);rintro e w6 ⟨T,rfl,p6,n6,a6,be⟩;have N4:=zhz (G.below_on N3.out be);have Q6:=zhz (Q5.out.keep be);have R6:=zhz (R5.out.1.keep be);have S6:=zhz (And.intro p6 (And.intro n6 (And.intro a6 be.size)));clear p6 n6 a6 be)
 refine hK.out _ _ (SB.out _ N4.out) fun hHeld=>?_
 clear hK K
 try simp only [Act.put,zs1,zs2,zs3]
 refine wR 22 ?_
 refine wC 23 fun K hK=>?_
 go_simp
 (obtain ⟨w7,hw7,k7,l7,s7⟩:=zad w6 #[.int .i64 u,.int .i64 Wd,.int .i64 Bu,.int .i64 L,.slice (some ⟨rwb,0,none⟩) m m,.pointer (some ⟨Q.p,0,none⟩),.pointer (some ⟨R.x,0,none⟩),.pointer (some ⟨T.s,0,none⟩),.int .i64 0,.int .i64 0,.int .i64 0,.int .i64 0,.int .i64 0] 144;rw [hw7];have N5:=zhz (G.below_on N4.out l7);have K7:=zhz (And.intro k7 l7);clear hw7 k7 l7 s7)
 refine hK.out _ _ (SB.out _ N5.out) fun hHeld=>?_
 clear hK K
 try simp only [Act.put,zs1,zs2,zs3]
 refine wR 24 ?_
 refine wpAnyH_done (by kernel_rfl) ?_ _
 clear hHeld
 go_wp2
 go_ret
 have q4:=Q4.out.1.lt
 have r5:=R5.out.1.lt
 have s6:=S6.out.1.lt
 have z1:=R5.out.2.2.2
 have z2:=S6.out.2.2.2
 have z3:=N4.out.size
 have z4:=B2.out.size
 have a4:=Q4.out.2.2
 have a5:=R5.out.2.2.1
 have a6:=S6.out.2.2.1
 have z5:=N2.out.size
 have hn:=R5.out.2.1
 refine ⟨⟨w6.heap.size,.slice (some ⟨rwb,0,none⟩) m m,u,Wd,Bu,L,Q,R,T⟩,rfl,⟨K7.out.1,Q6.out.keep K7.out.2,R6.out.keep K7.out.2,⟨[],_,S6.out.1.keep K7.out.2,rfl⟩,?_,?_,?_⟩,⟨HU.out,rfl,rfl,rfl,Q4.out.2.1,S6.out.2.1,hn.1,hn.2.1,hn.2.2.1,hn.2.2.2.1,hn.2.2.2.2.1,hn.2.2.2.2.2.1,hn.2.2.2.2.2.2.1,hn.2.2.2.2.2.2.2.1,hn.2.2.2.2.2.2.2.2⟩,?_,?_⟩
 ·rintro j (hj | hj | hj) e
  ·have:=q4 j hj
   have e:j=w6.heap.size:=e
   omega
  ·have:=r5 j hj
   have e:j=w6.heap.size:=e
   omega
  ·have:=s6 j hj
   have e:j=w6.heap.size:=e
   omega
 ·intro j hj
  have h1:=q4 j hj
  exact ⟨fun h=>by have:=a5 j h;omega,fun h=>by have:=a6 j h;omega⟩
 ·intro j hj h
  have h1:=r5 j hj
  have:=a6 j h
  omega
 ·rintro j ((hj | hj | hj) | hj)
  ·have:=a4 j hj;omega
  ·have:=a5 j hj;omega
  ·have:=a6 j hj;omega
  ·have e:j=w6.heap.size:=hj
   omega
 ·exact zae B2.out N5.out
end
theorem zfL (ru:Int) (n:Nat) (hn:n≤1000) (w:World) :
  Calls Tryz.prog 66 #[.slice none 0 0,.int .i64 ru,.int .i64 (n:Int)] w fun e w'=>∃ g,e=.returned (.slice (some ⟨g,0,none⟩) n n)∧RdI w' .u64 (some ⟨g,0,none⟩) n n (List.replicate n 0)∧Below w.heap.size w w':=by
 have hmk:=fun w=>G.make_one (P:=Tryz.prog) (t:=23) (e:=69) (z:=.int .u64 0) (B:=8) Tryz.underlying23 (i:=(Tryz.prog.info? 69).get (by kernel_rfl)) (by rfl) (by kernel_rfl) rfl (by kernel_rfl) (by kernel_rfl) n (by omega) (by omega) w
 obtain ⟨w1,hw1,k1,b1,s1⟩:=zad w (List.replicate n (.int .u64 0)).toArray 69
 have H1:=zhz (And.intro k1 b1)
 have HM:=zhz hn
 obtain ⟨z0,hz0⟩:=zeq ((List.replicate n (Value.int .u64 0)).toArray)
 simp only [← hz0] at hmk
 rw [← hz0] at hw1
 have HZ:=zhz hz0
 clear k1 b1 s1 hn hz0
 go_enter Tryz.func66,Tryz.ntmps66
 go_wp2
 go_ret
 refine ⟨_,rfl,zbh (zs:=List.replicate n 0) (by have:=H1.out.1;rw [List.map_replicate];exact this) (List.length_replicate) (by have:=HM.out;unfold maxLen;omega) (fun z hz=>by rw [List.eq_of_mem_replicate hz];rfl),H1.out.2⟩
theorem zj1 (r:RuZ) (hp:r.p) (A0:Option Addr) (n0 c0:Nat) (zs:List Int) (w:World) (hr:RdI w .u64 A0 n0 c0 zs) :
  Calls Tryz.prog 65 #[.agg r.c,.slice A0 n0 c0] w fun e w'=>∃ N:LmN,e=.returned (.pointer (some ⟨N.l,0,none⟩))∧LmAt w' N (lmZ r.Ce.toNat)∧LmP N r.L r.W r.B r.Sl.toNat (r.W / r.Sl).toNat r.Ro.toNat r.Wi.toNat r.Ce.toNat r.Tr.toNat r.sm (rX zs) (rA zs) (rB zs)∧(∀ b,N.all b→w.heap.size≤b)∧Below w.heap.size w w':=by
 obtain ⟨h1,h2,h3,h4,h5,h6,h7,h8,h9,h10,h11⟩:=hp
 have hs0:0≤r.W / r.Sl:=Int.ediv_nonneg (by omega) (by omega)
 have hs1:1≤r.W / r.Sl:=by
  have h:=Int.mul_ediv_add_emod r.W r.Sl
  rw [h5] at h
  rcases Int.lt_or_le 0 (r.W / r.Sl) with q | q
  ·omega
  ·have:r.W / r.Sl=0:=by omega
   rw [this] at h
   omega
 have hb:r.Wi.toNat≤4096:=by omega
 have hk:r.Ro.toNat≤8:=by omega
 have m1:r.Ro.toNat*r.Wi.toNat≤8*4096:=Nat.mul_le_mul hk hb
 have m2:(r.Sl.toNat+1)*(8*(r.Ro.toNat*r.Wi.toNat))≤65*(8*(8*4096)):=Nat.mul_le_mul (by omega) (by omega)
 have:=zem r.L r.W r.B r.Sl.toNat (r.W / r.Sl).toNat r.Ro.toNat r.Wi.toNat r.Ce.toNat r.Tr.toNat r.sm (by omega) (by omega) (by omega) (by omega) ⟨by rw [Int.toNat_of_nonneg (by omega),Int.toNat_of_nonneg hs0],by omega⟩ (by omega) ⟨by omega,by omega⟩ (by omega) (by omega) A0 n0 c0 zs w hr
 rw [Int.toNat_of_nonneg (show 0≤r.Sl by omega),Int.toNat_of_nonneg (show 0≤r.Ce by omega),Int.toNat_of_nonneg (show 0≤r.Ro by omega),Int.toNat_of_nonneg (show 0≤r.Wi by omega),Int.toNat_of_nonneg (show 0≤r.Tr by omega)] at this
 exact this
abbrev pcL (N:LmN):Value:=.pointer (some ⟨N.l,0,none⟩)
structure JdAt (w:World) (base:Nat) (Ns:List LmN) (Ss:List LmS):Prop where
 ln:Ns.length=Ss.length
 at_:∀ (i:Nat) N s,Ns[i]?=some N→Ss[i]?=some s→LmAt w N s
 lo:∀ (i:Nat) N,Ns[i]?=some N→∀ b,N.all b→base≤b
 ap:∀ (i j:Nat) N M,i≠j→Ns[i]?=some N→Ns[j]?=some M→∀ b,N.all b→¬ M.all b
section
variable {w w' W:World} {base:Nat} {Ns:List LmN} {Ss:List LmS}
theorem JdAt.fr {F:Nat→Prop} (h:JdAt w base Ns Ss) (hf:Fr F w w') (hF:∀ (i:Nat) N,Ns[i]?=some N→∀ b,N.all b→¬ F b):JdAt w' base Ns Ss :=
 ⟨h.ln,fun i N s hN hs=>(h.at_ i N s hN hs).fr hf (hF i N hN),h.lo,h.ap⟩
theorem JdAt.keep (h:JdAt w base Ns Ss) (hb:Below w.heap.size w w'):JdAt w' base Ns Ss:=h.fr (F:=fun _=>False) (Fr.of_below hb) (fun _ _ _ _ _=>id)
theorem JdAt.nil (w:World) (base:Nat):JdAt w base [] []:=⟨rfl,fun i N s h=>by simp at h,fun i N h=>by simp at h,fun i j N M _ h=>by simp at h⟩
theorem JdAt.lt (h:JdAt w base Ns Ss) {i:Nat} {N:LmN} (hN:Ns[i]?=some N):∀ b,N.all b→b<w.heap.size:=by
 have hi:i<Ns.length:=by
  rcases Nat.lt_or_ge i Ns.length with q | q
  ·exact q
  ·rw [List.getElem?_eq_none q] at hN;cases hN
 exact (h.at_ i N (Ss[i]'(by rw [← h.ln];exact hi)) hN (zge _)).lt
theorem zay {α:Type} {l:List α} {a x:α} {i:Nat} (h:(l++[a])[i]?=some x):(i<l.length∧l[i]?=some x)∨(i=l.length∧x=a):=by
 rcases Nat.lt_or_ge i l.length with q | q
 ·rw [List.getElem?_append_left q] at h;exact Or.inl ⟨q,h⟩
 ·rw [List.getElem?_append_right q] at h
  rcases Nat.eq_zero_or_pos (i - l.length) with q2 | q2
  ·rw [q2] at h;simp at h;exact Or.inr ⟨by omega,h.symm⟩
  ·rw [List.getElem?_eq_none (by simp;omega)] at h;cases h
theorem JdAt.snoc (h:JdAt w base Ns Ss) {N:LmN} {s:LmS} (hN:LmAt w N s) (hlo:∀ b,N.all b→base≤b) (hap:∀ (i:Nat) M,Ns[i]?=some M→∀ b,M.all b→¬ N.all b):JdAt w base (Ns++[N]) (Ss++[s]):=by
 refine ⟨by rw [List.length_append,List.length_append,h.ln];rfl,fun i M t hM ht=>?_,fun i M hM=>?_,fun i j M M' hij hM hM'=>?_⟩
 ·rcases zay hM with ⟨q1,q2⟩ | ⟨q1,q2⟩
  ·rcases zay ht with ⟨q3,q4⟩ | ⟨q3,q4⟩
   ·exact h.at_ i M t q2 q4
   ·have:=h.ln;omega
  ·rcases zay ht with ⟨q3,q4⟩ | ⟨q3,q4⟩
   ·have:=h.ln;omega
   ·rw [q2,q4];exact hN
 ·rcases zay hM with ⟨q1,q2⟩ | ⟨q1,q2⟩
  ·exact h.lo i M q2
  ·rw [q2];exact hlo
 ·rcases zay hM with ⟨q1,q2⟩ | ⟨q1,q2⟩
  ·rcases zay hM' with ⟨q3,q4⟩ | ⟨q3,q4⟩
   ·exact h.ap i j M M' hij q2 q4
   ·rw [q4];exact hap i M q2
  ·rcases zay hM' with ⟨q3,q4⟩ | ⟨q3,q4⟩
   ·rw [q2];exact fun b h1 h2=>hap j M' q4 b h2 h1
   ·omega
end
theorem zms {Ns:List LmN} {J:List Value} {i:Nat} (h:Ns.length=i):(Ns.map pcL++J.drop i)[i]?=J[i]?:=by
 rw [List.getElem?_append_right (by rw [List.length_map,h];omega),List.length_map,h,List.getElem?_drop]
 simp
theorem zmt {Ns:List LmN} {J:List Value} {i:Nat} (h:Ns.length=i) (hi:i<J.length) (N:LmN):(Ns.map pcL++J.drop i).set i (pcL N)=(Ns++[N]).map pcL++J.drop (i+1):=by
 have e:J.drop i=J[i] :: J.drop (i+1):=(List.drop_eq_getElem_cons hi)
 rw [e,List.set_append_right _ _ (by rw [List.length_map,h];omega),List.length_map,h,Nat.sub_self,zs2,List.map_append]
 simp
def LmR (r:RuZ) (zs:List Int) (N:LmN):Prop:=LmP N r.L r.W r.B r.Sl.toNat (r.W / r.Sl).toNat r.Ro.toNat r.Wi.toNat r.Ce.toNat r.Tr.toNat r.sm (rX zs) (rA zs) (rB zs)
def rsZ (rs:List RuZ):List LmS:=rs.map fun r=>lmZ r.Ce.toNat
section
variable {w w' W:World} {s:Nat} {c:SvC} {rs:List RuZ} {zf:Nat→List Int}
theorem zcR (seeds:Value) (w:World) (h:Sv w s c) (hm:c.many=(rs.length:Int)) (hl:rs.length≤8) (hp:∀ r ∈ rs,r.p)
  (hR:∀ (i:Nat) r,rs[i]?=some r→∀ j,j<9→c.R[i*9+j]?=r.c[j]?)
  (hd:∀ (i:Nat) r wx,rs[i]?=some r→Fr (fun k=>k=s) w wx→Calls Tryz.prog 66 #[seeds,.int .i64 (i:Int),.int .i64 (3*(r.Ro+1))] wx fun e w'=>∃ A n c,e=.returned (.slice A n c)∧RdI w' .u64 A n c (zf i)∧Below wx.heap.size wx w') :
  Calls Tryz.prog 37 #[.pointer (some ⟨s,0,none⟩),seeds] w fun e w'=>e=.returned (.tuple #[])∧∃ Ns:List LmN,Sv w' s { c with J:=Ns.map pcL++c.J.drop rs.length }∧JdAt w' w.heap.size Ns (rsZ rs)∧(∀ (k:Nat) r N,rs[k]?=some r→Ns[k]?=some N→LmR r (zf k) N)∧Fr (fun k=>k=s) w w':=by
 have H0:=zhz h
 have k5:=h.c5
 rw [hm] at k5
 have HL:=zhz hl
 have HPR:=zhz hp
 have HRC:=zhz hR
 have HD:=zhz hd
 obtain ⟨n,hn⟩:=zeq (rs.length)
 rw [← hn] at k5
 have HN:=zhz hn
 clear h hm hl hp hR hd hn
 go_enter Tryz.func37,Tryz.ntmps37
 go_wp2
 clear k5
 go_loopg [9] n (fun kk si wr=>∃ (i:Nat) (Ns:List LmN),i≤n∧Hid (kk=n - i)∧si=.int .i64 (i:Int)∧Hid (Ns.length=i)∧Hid (Sv wr s { c with J:=Ns.map pcL++c.J.drop i })∧Hid (JdAt wr w.heap.size Ns (rsZ (rs.take i)))∧Hid (∀ (k:Nat) r N,rs[k]?=some r→Ns[k]?=some N→LmR r (zf k) N)∧Hid (Fr (fun k=>k=s) w wr))
 case atStart=>exact ⟨0,[],by omega,zhz rfl,rfl,zhz rfl,zhz (by have:=H0.out;cases c;exact this),zhz (by rw [List.take_zero];exact JdAt.nil _ _),zhz (fun k r N _ h=>by simp at h),zhz (Fr.refl _ _)⟩
 case round =>
  obtain ⟨i,Ns,hi,HKK,rfl,HNL,HS,HJ,HPs,HF⟩:=hrel
  by_cases hin:i<n
  ·have hir:i<rs.length:=by have:=HN.out;omega
   obtain ⟨r,hr⟩:∃ r,rs[i]?=some r:=⟨_,zge hir⟩
   have hrc:=HRC.out i r hr
   have hi8:i<8:=by have:=HN.out;have:=HL.out;omega
   have q (j:Nat) (hj:j<9):∀ wx J',Sv wx s { c with J:=J' }→wx.cell? ⟨s,6+i*9+j,none⟩=r.c[j]?:=fun wx J' hx=>by
    rw [show 6+i*9+j=6+(i*9+j) by omega]
    exact (hx.cR (by omega)).trans (hrc j hj)
   have ST:=zhz (fun wx J' (hx:Sv wx s { c with J:=J' })=>show wx.cell? ⟨s,6+i*9,none⟩=some (.int .i64 r.L)∧wx.cell? ⟨s,6+i*9+1,none⟩=some (.int .i64 r.W)∧wx.cell? ⟨s,6+i*9+2,none⟩=some (.int .i64 r.B)∧wx.cell? ⟨s,6+i*9+3,none⟩=some (.int .i64 r.Sl)∧wx.cell? ⟨s,6+i*9+4,none⟩=some (.int .i64 r.Ce)∧wx.cell? ⟨s,6+i*9+5,none⟩=some (.int .i64 r.Ro)∧wx.cell? ⟨s,6+i*9+6,none⟩=some (.int .i64 r.Wi)∧wx.cell? ⟨s,6+i*9+7,none⟩=some (.int .i64 r.Tr)∧wx.cell? ⟨s,6+i*9+8,none⟩=some (.bool r.sm) from
    ⟨q 0 (by omega) wx J' hx,q 1 (by omega) wx J' hx,q 2 (by omega) wx J' hx,q 3 (by omega) wx J' hx,q 4 (by omega) wx J' hx,q 5 (by omega) wx J' hx,q 6 (by omega) wx J' hx,q 7 (by omega) wx J' hx,q 8 (by omega) wx J' hx⟩)
   have hrp:=HPR.out r (List.mem_of_getElem? hr)
   have hRo:1≤r.Ro∧r.Ro≤8:=hrp.2.2.2.2.2.2.1
   have HRP:=zhz hrp
   have e1:IntKind.i64.wrap (r.Ro+1)=r.Ro+1:=by rw [IntKind.wrap_i64];omega
   have e2:IntKind.i64.wrap (3*(r.Ro+1))=3*(r.Ro+1):=by rw [IntKind.wrap_i64];omega
   have t1:(i:Int)<(n:Int):=by omega
   have t2:¬ (i:Int)<0:=by omega
   have t3:(i:Int)<8:=by omega
   have HI8:=zhz hi8
   have HRI:=zhz hr
   have HIN:=zhz hin
   clear hrc q hrp hir hr hi8 hin
   go_upto_region 3 with (fail)
   have N0:=zhz (show Below wr.heap.size wr wr.drew from zaa (Below.refl _ _) 1)
   have CD:=zhz (HD.out i r wr.drew HRI.out (HF.out.trans ((Fr.of_below N0.out).mono (fun k (hk:False)=>hk.elim))))
   have st:=ST.out _ _ (HS.out.keep N0.out)
   refine wp_region_held_drew (S:=fun wx=>wx.cell? ⟨s,6+i*9,none⟩=some (.int .i64 r.L)∧wx.cell? ⟨s,6+i*9+1,none⟩=some (.int .i64 r.W)∧wx.cell? ⟨s,6+i*9+2,none⟩=some (.int .i64 r.B)∧wx.cell? ⟨s,6+i*9+3,none⟩=some (.int .i64 r.Sl)∧wx.cell? ⟨s,6+i*9+4,none⟩=some (.int .i64 r.Ce)∧wx.cell? ⟨s,6+i*9+5,none⟩=some (.int .i64 r.Ro)∧wx.cell? ⟨s,6+i*9+6,none⟩=some (.int .i64 r.Wi)∧wx.cell? ⟨s,6+i*9+7,none⟩=some (.int .i64 r.Tr)∧wx.cell? ⟨s,6+i*9+8,none⟩=some (.bool r.sm)) (by kernel_rfl) st (fun hHeld=>?_)
   clear st
   refine wR 0 ?_
   refine wR 1 ?_
   refine wR 2 ?_
   refine wR 3 ?_
   refine wR 4 ?_
   refine wR 5 ?_
   refine wR 6 ?_
   refine wR 7 ?_
   refine wR 8 ?_
   refine wR 9 ?_
   refine wR 10 ?_
   refine wR 11 ?_
   refine wR 12 ?_
   refine wR 13 ?_
   refine wR 14 ?_
   refine wR 15 ?_
   refine wR 16 ?_
   refine wR 17 ?_
   refine wR 18 ?_
   refine wR 21 ?_
   refine wR 22 ?_
   refine wC 19 fun K hK=>?_
   go_simp
   ((with_reducible refine CD.out.mono ?_);rintro v w1 ⟨A,m,cc,rfl,r1,b1⟩;have N1:=zhz (G.below_on N0.out b1);have CN:=zhz (show Calls Tryz.prog 65 #[.agg #[.int .i64 r.L,.int .i64 r.W,.int .i64 r.B,.int .i64 r.Sl,.int .i64 r.Ce,.int .i64 r.Ro,.int .i64 r.Wi,.int .i64 r.Tr,.bool r.sm],.slice A m cc] w1 _ from zj1 r HRP.out A m cc _ w1 r1);clear r1 b1)
   refine hK.out _ _ (ST.out _ _ (HS.out.keep N1.out)) fun hHeld=>?_
   clear hK K
   try simp only [Act.put,zs1,zs2,zs3]
   refine wC 20 fun K hK=>?_
   go_simp
   ((with_reducible refine CN.out.mono ?_);rintro v w2 ⟨N,rfl,a2,p2,l2,b2⟩;have N2:=zhz (G.below_on N1.out b2);have A2:=zhz a2;have P2:=zhz p2;have L2:=zhz (show ∀ b,N.all b→wr.heap.size≤b from fun b hb=>Nat.le_trans N1.out.size (l2 b hb));have S2:=HS.out.keep N2.out;have kw:=S2.wr;have kJ:=S2.cJ HI8.out;obtain ⟨v0,hv0⟩:∃ v0,c.J[i]?=some v0:=⟨_,zge (by rw [H0.out.hJ];exact HI8.out)⟩;replace kJ:=kJ.trans ((zms HNL.out).trans hv0);have S2:=zhz S2;clear a2 p2 l2 b2 hv0)
   refine hK.out _ _ (ST.out _ _ (HS.out.keep N2.out)) fun hHeld=>?_
   clear hK K
   try simp only [Act.put,zs1,zs2,zs3]
   refine wR 23 ?_
   refine wC 24 fun K hK=>?_
   go_simp
   (obtain ⟨w4,e4,h4,f4⟩:=S2.out.setJ HI8.out (pcL N);(try rw [e4]);have S4:=zhz h4;have F4:=zhz f4;clear e4 h4 f4 kw kJ)
   refine hK.out _ _ (ST.out _ _ S4.out) fun hHeld=>?_
   clear hK K
   try simp only [Act.put,zs1,zs2,zs3]
   refine wpAnyH_done (by kernel_rfl) ?_ _
   clear hHeld
   have hlt:s<w.heap.size:=H0.out.lt
   have F5:=zhz (show Fr (fun k=>k=s) w w4 from HF.out.trans (((Fr.of_below N2.out).mono (fun k (hk:False)=>hk.elim)).trans F4.out))
   have J5:=zhz (show JdAt w4 w.heap.size (Ns++[N]) (rsZ (rs.take (i+1))) from by
    have hir:i<rs.length:=by have:=HN.out;have:=HIN.out;omega
    have e:rsZ (rs.take (i+1))=rsZ (rs.take i)++[lmZ r.Ce.toNat]:=by
     have hg:rs[i]=r:=by have:=HRI.out;rw [zge hir] at this;injection this
     rw [List.take_succ_eq_append_getElem hir,hg];simp [rsZ]
    rw [e]
    refine ((HJ.out.keep N2.out).fr F4.out (fun k M hM b hb e=>by have:=HJ.out.lo k M hM b hb;omega)).snoc (A2.out.fr F4.out (fun b hb e=>by have:=L2.out b hb;have:=HF.out.size;omega)) (fun b hb=>by have:=L2.out b hb;have:=HF.out.size;omega) (fun k M hM b hb h2=>by have:=HJ.out.lt hM b hb;have:=L2.out b h2;omega))
   have P5:=zhz (show ∀ (k:Nat) r N',rs[k]?=some r→(Ns++[N])[k]?=some N'→LmR r (zf k) N' from fun k r' N' hr' hN'=>by
    rcases zay hN' with ⟨q1,q2⟩ | ⟨q1,q2⟩
    ·exact HPs.out k r' N' hr' q2
    ·rw [q1,HNL.out] at hr' ⊢
     have:=HRI.out
     rw [hr'] at this
     injection this with this
     rw [q2,this]
     exact P2.out)
   have S5:=zhz (show Sv w4 s { c with J:=(Ns++[N]).map pcL++c.J.drop (i+1) } from by
    have:=S4.out
    rw [zmt HNL.out (by rw [H0.out.hJ];exact HI8.out) N] at this
    exact this)
   have hi8:(i:Int)<8:=by have:=HI8.out;omega
   clear hlt
   go_wp2
   go_roundg (n - (i+1))
   case measure=>have:=HKK.out;have:=HIN.out;omega
   case rel=>exact ⟨i+1,Ns++[N],HIN.out,zhz rfl,by go_num,zhz (by rw [List.length_append,HNL.out];rfl),S5,J5,P5,F5⟩
  ·have hie:i=n:=by omega
   subst hie
   go_wp2
   go_end0
   refine ⟨rfl,Ns,?_,?_,HPs.out,HF.out⟩
   ·rw [← HN.out];exact HS.out
   ·have:=HJ.out
    rw [HN.out,List.take_length] at this
    exact this
end
theorem zdX {P:Program} (w:World) (dT sT ty elem:TypeId) (k n g o dLen dCap:Nat) (a:Addr) (sLen sCap:Nat) (cur:Array Value) (t:TypeId) (cs:List Value)
  (hu:P.underlying dT=some (.slice elem)) (hs:(P.info? elem).map (·.size)=some k)
  (hg:w.heap[g]?=some (.cells cur t (0,0))) (hm:n=Nat.min sLen dLen) (hn:cs.length=n*k)
  (hsrc:∀ j v,cs[j]?=some v→w.cell? (a.add j)=some v) (hfit:o+cs.length≤cur.size) (h1:∀ v ∈ cs,v.oneCell'=true) :
  (Builtin.copy_ #[dT,sT] ty #[.slice (some ⟨g,o,none⟩) dLen dCap,.slice (some a) sLen sCap]).run P w =
   .ok (goInt n) (w.setRow g (cur.toList.take o++cs++cur.toList.drop (o+cs.length)).toArray):=by
 have hl:=run_loadCells_list (P:=P) w a cs hsrc
 rw [hn] at hl
 have hst:=run_storeCells_at P g o t cs 0 cur w hg (by simpa using hfit) h1
 cases hq:P.info? elem with
 | none=>simp [hq] at hs
 | some i =>
  have hi:i.size=k:=by simpa [hq] using hs
  simp [Builtin.copy_,run_underlying hu,Builtin.lenOf,Builtin.firstCells,sizeOf,typeInfo,hq,hi,← hm,hl,hst]
section
variable {w w':World} {s:Nat} {c:SvC}
def ruL (rs:List RuZ):List Value:=rws (fun r:RuZ=>r.c.toList) rs
theorem zja (r:RuZ):r.c.toList.length=9:=rfl
theorem zfz (rs:List RuZ):(ruL rs).length=rs.length*9:=zaN zja rs
theorem zfy (rs:List RuZ) {i:Nat} {r:RuZ} (hi:rs[i]?=some r) {j:Nat} (hj:j<9):(ruL rs)[i*9+j]?=r.c[j]?:=by
 have:=zaR zja rs i j r hi hj
 exact this.trans (by simp)
theorem zmb (rs:List RuZ):∀ v ∈ ruL rs,v.oneCell'=true:=by
 intro v hv
 obtain ⟨r,_,hr⟩:=List.mem_flatMap.1 hv
 have:r.c.toList=[.int .i64 r.L,.int .i64 r.W,.int .i64 r.B,.int .i64 r.Sl,.int .i64 r.Ce,.int .i64 r.Ro,.int .i64 r.Wi,.int .i64 r.Tr,.bool r.sm]:=rfl
 rw [this] at hr
 simp only [List.mem_cons,List.not_mem_nil,or_false] at hr
 rcases hr with rfl | rfl | rfl | rfl | rfl | rfl | rfl | rfl | rfl <;> rfl
theorem Sv.copy (h:Sv w s c) {A:Option Addr} {n cc:Nat} {rs:List RuZ} (hr:RdRu w A n cc rs) (h1:1≤rs.length) (h8:rs.length≤8) (ty:TypeId) :
  ∃ w',(Builtin.copy_ #[27,27] ty #[.slice (some ⟨s,6,none⟩) 8 8,.slice A n cc]).run Tryz.prog w=.ok (goInt n) w'∧Sv w' s { c with R:=ruL rs++c.R.drop (rs.length*9) }∧Fr (fun k=>k=s) w w':=by
 have hln:=hr.len
 obtain ⟨b,off,rfl,hlt,hcell⟩:=hr.at_ (by omega)
 have hl9:=zfz rs
 have hR:=h.hR
 have hcp:=zdX (P:=Tryz.prog) w 27 27 ty 52 9 n s 6 8 8 ⟨b,off,none⟩ n cc c.l.toArray _ (ruL rs) Tryz.underlying27 (by kernel_rfl) h.hb (by show n=min n 8;omega) (by rw [hl9,hln]) (fun j v hv=>by
   have hjl:j<rs.length*9:=by
    rcases Nat.lt_or_ge j (rs.length*9) with q | q
    ·exact q
    ·rw [List.getElem?_eq_none (by rw [hl9];exact q)] at hv;cases hv
   have hi:j / 9<rs.length:=by omega
   have:=hcell (j / 9) hi (j % 9) (by omega)
   have h3:=zfy rs (zge hi) (j:=j % 9) (by omega)
   rw [show j / 9*9+j % 9=j by omega,hv] at h3
   rw [show (⟨b,off,none⟩:Addr).add j=⟨b,off+j,none⟩ from by simp [Addr.add]]
   rw [show off+j=off+j / 9*9+j % 9 by omega,this,← h3]) (by rw [hl9];have:=h.len;simp;omega) (zmb rs)
 have hnew:(c.l.take 6++ruL rs++c.l.drop (6+(ruL rs).length))=({ c with R:=ruL rs++c.R.drop (rs.length*9) }:SvC).l:=by
  unfold SvC.l
  rw [hl9,List.take_append_of_le_length (by simp),List.drop_append]
  rw [List.drop_of_length_le (show List.length [Value.int .i64 c.now,.int .i64 c.first,.bool c.rd,.bool c.rs,.int .i64 c.out,.int .i64 c.many]≤6+rs.length*9 by simp),show 6+rs.length*9 - List.length [Value.int .i64 c.now,.int .i64 c.first,.bool c.rd,.bool c.rs,.int .i64 c.out,.int .i64 c.many]=rs.length*9 by simp,List.drop_append_of_le_length (by omega)]
  simp
 refine ⟨_,hcp,⟨?_,?_,h.hJ,h.hK⟩,?_⟩
 ·show Blk _ s _ _
  have:=setRow_heap w s c.l.toArray (c.l.toArray.toList.take 6++ruL rs++c.l.toArray.toList.drop (6+(ruL rs).length)).toArray _ _ h.hb
  rw [← hnew]
  exact this
 ·show (ruL rs++c.R.drop (rs.length*9)).length=72
  rw [List.length_append,hl9,List.length_drop,hR];omega
 ·exact ⟨rfl,rfl,rfl,by simp [World.setRow],fun k hk hF=>setRow_other w s k _ hF⟩
end
section
open Ar (inR)
def lqL (a:Int):Int:=a % 32+1
def lqS (b:Int):Nat:=(b % 32).toNat+1
def lqB (a c:Int):Int:=c % 32 % (a % 32+1)+1
def lqN (d:Int):Nat:=(d % 8).toNat+1
def lqC (e:Int):Nat:=(e % 8).toNat+1
def lqR (f:Int):Nat:=(f % 4).toNat+1
def lqW (g:Int):Nat:=(g % 16).toNat+1
def lqT (h:Int):Nat:=(h % 8).toNat+1
def lqM (sm:Bool) (d:Int):Bool:=sm && decide ((1:Int)<(lqN d:Int))
abbrev planV (a b c d e f g h:Int) (sm:Bool):Value:=.agg #[.int .i64 a,.int .i64 b,.int .i64 c,.int .i64 d,.int .i64 e,.int .i64 f,.int .i64 g,.int .i64 h,.bool sm]
abbrev planC (a b c d e f g h:Int) (sm:Bool):Array Value:=#[.int .i64 a,.int .i64 b,.int .i64 c,.int .i64 d,.int .i64 e,.int .i64 f,.int .i64 g,.int .i64 h,.bool sm]
theorem zc9 (a c:Int):1≤lqB a c∧lqB a c≤lqL a:=by
 unfold lqB lqL
 have h1:=Int.emod_nonneg (c % 32) (show a % 32+1≠0 by omega)
 have h2:=Int.emod_lt_of_pos (c % 32) (show 0<a % 32+1 by omega)
 omega
theorem zc8 (a b c d e f g h:Int) (sm:Bool) (w:World) :
  Calls Tryz.prog 35 #[planV a b c d e f g h sm] w fun v w'=>v=.returned (rlV (lqL a) ((lqS b*lqN d:Nat):Int) (lqB a c) (lqN d:Nat) (lqC e:Nat) (lqR f:Nat) (lqW g:Nat) (lqT h:Nat) (lqM sm d))∧Below w.heap.size w w':=by
 obtain ⟨L,hL⟩:=zeq (lqL a)
 obtain ⟨s,hs⟩:=zeq (lqS b)
 obtain ⟨Bu,hBu⟩:=zeq (lqB a c)
 obtain ⟨n,hn⟩:=zeq (lqN d)
 obtain ⟨Ce,hCe⟩:=zeq (lqC e)
 obtain ⟨k,hk⟩:=zeq (lqR f)
 obtain ⟨W,hW⟩:=zeq (lqW g)
 obtain ⟨Tr,hTr⟩:=zeq (lqT h)
 have hbb:=zc9 a c
 have eM:lqM sm d=(sm && decide ((1:Int)<(n:Int))):=by rw [hn];rfl
 rw [eM,← hL,← hs,← hBu,← hn,← hCe,← hk,← hW,← hTr]
 rw [← hBu,← hL] at hbb
 unfold lqL at hL
 unfold lqS at hs
 unfold lqB at hBu
 unfold lqN at hn
 unfold lqC at hCe
 unfold lqR at hk
 unfold lqW at hW
 unfold lqT at hTr
 obtain ⟨a0,ha0⟩:=zeq (a % 32)
 obtain ⟨b0,hb0⟩:=zeq (b % 32)
 obtain ⟨c0,hc0⟩:=zeq (c % 32)
 obtain ⟨d0,hd0⟩:=zeq (d % 8)
 obtain ⟨e0,he0⟩:=zeq (e % 8)
 obtain ⟨f0,hf0⟩:=zeq (f % 4)
 obtain ⟨g0,hg0⟩:=zeq (g % 16)
 obtain ⟨h0,hh0⟩:=zeq (h % 8)
 have e1:bits .and .i64 a 31=a0:=by rw [ha0];exact zcD a
 have e2:bits .and .i64 b 31=b0:=by rw [hb0];exact zcD b
 have e3:bits .and .i64 c 31=c0:=by rw [hc0];exact zcD c
 have e4:bits .and .i64 d 7=d0:=by rw [hd0];exact zcB d
 have e5:bits .and .i64 e 7=e0:=by rw [he0];exact zcB e
 have e6:bits .and .i64 f 3=f0:=by rw [hf0];exact zcA f
 have e7:bits .and .i64 g 15=g0:=by rw [hg0];exact zcC g
 have e8:bits .and .i64 h 7=h0:=by rw [hh0];exact zcB h
 rw [← ha0] at hL hBu
 rw [← hc0] at hBu
 have f1:IntKind.i64.wrap (a0+1)=L:=by rw [IntKind.wrap_i64];omega
 have f2:IntKind.i64.wrap (b0+1)=(s:Int):=by rw [IntKind.wrap_i64];omega
 rw [← hL] at hBu
 have hL0:¬ L=0:=by omega
 obtain ⟨x0,hx0⟩:=zeq (c0 % L)
 rw [← hx0] at hBu
 have m0:c0.tmod L=x0:=by rw [hx0];exact Int.tmod_eq_emod_of_nonneg (by omega)
 have f3:IntKind.i64.wrap (x0+1)=Bu:=by clear hx0 m0;rw [IntKind.wrap_i64];omega
 have f4:IntKind.i64.wrap (d0+1)=(n:Int):=by clear hx0 m0;rw [IntKind.wrap_i64];omega
 have f5:IntKind.i64.wrap (e0+1)=(Ce:Int):=by clear hx0 m0;rw [IntKind.wrap_i64];omega
 have f6:IntKind.i64.wrap (f0+1)=(k:Int):=by clear hx0 m0;rw [IntKind.wrap_i64];omega
 have f7:IntKind.i64.wrap (g0+1)=(W:Int):=by clear hx0 m0;rw [IntKind.wrap_i64];omega
 have f8:IntKind.i64.wrap (h0+1)=(Tr:Int):=by clear hx0 m0;rw [IntKind.wrap_i64];omega
 have g1:n≤8:=by clear hx0 m0;omega
 have g2:s≤32:=by clear hx0 m0;omega
 obtain ⟨m,hm⟩:=zeq (s*n)
 have hmb:m≤256:=by rw [hm];exact Nat.le_trans (Nat.mul_le_mul g2 g1) (by decide)
 have f9:(s:Int)*(n:Int)=(m:Int):=by rw [hm,Int.natCast_mul]
 have f0':IntKind.i64.wrap (m:Int)=(m:Int):=by clear hx0 m0;rw [IntKind.wrap_i64];omega
 rw [← hm]
 obtain ⟨w1,hw1,k1,l1,s1⟩:=zad w (planC a b c d e f g h sm) 113
 obtain ⟨w2,hw2,k2,l2,s2⟩:=zad w1 (rlC 0 0 0 0 0 0 0 0 false) 52
 obtain ⟨b1,hb1⟩:=zeq (w.heap.size)
 obtain ⟨b2,hb2⟩:=zeq (w1.heap.size)
 have k1':=k1.keep l2
 rw [← hb1] at k1'
 rw [← hb2] at k2
 have kr1:=k1'.rd
 have K1:=zhz k1'
 have K2:=zhz k2
 have BL:=zhz (zae l1 l2)
 have HB:=zhz (And.intro hb1 (And.intro hb2 (And.intro s1 s2)))
 clear hL hs hBu hn hCe hk hW hTr ha0 hb0 hc0 hd0 he0 hf0 hg0 hh0 hx0 g1 g2 hm hmb k1 k2 k1' l1 l2 s1 s2 hbb eM
 go_enter Tryz.func35,Tryz.ntmps35
 go_upto_region 1 with (fail)
 rw [← HB.out.1,← HB.out.2.1]
 clear hw1 hw2 hb1 hb2
 go_upto_region 3 with (fail)
 have BN:=zhz (show Below w2.heap.size w2 w2.drew from zaa (Below.refl _ _) 1)
 have SB:=zhz (fun wx (hb:Below w2.heap.size w2 wx)=>show ∀ i,wx.cell? ⟨b1,i,none⟩=(planC a b c d e f g h sm)[i]? from (K1.out.keep hb).rd)
 have st:=SB.out _ BN.out
 clear kr1
 obtain ⟨w3,hw3,k3,l3,s3⟩:=zad w2 (rlC 0 0 0 0 0 0 0 0 false) 52
 have N3:=zhz (show Below w2.heap.size w2 w3.drew from zaa l3 1)
 have N3':=zhz l3
 have K3:=zhz k3
 have k3r:=k3.rd
 have k3w:=k3.wr
 have H3:=zhz (show b1<w2.heap.size∧b2<w2.heap.size from ⟨lt_of_block K1.out,lt_of_block K2.out⟩)
 have SX:=zhz (fun o=>show ∀ i,(setObj w3 w2.heap.size o).drew.cell? ⟨b1,i,none⟩=(planC a b c d e f g h sm)[i]? from ((K1.out.keep N3'.out).fr (Fr.setObj (F:=fun k=>k=w2.heap.size) (Fr.refl _ _) rfl o) (by have:=H3.out;omega)).drew.rd)
 clear k3 l3 s3
 refine wp_region_held_drew (S:=fun wx=>∀ i,wx.cell? ⟨b1,i,none⟩=(planC a b c d e f g h sm)[i]?) (by kernel_rfl) st (fun hHeld=>?_)
 clear st
 refine wR 0 ?_
 refine wR 1 ?_
 refine wR 2 ?_
 refine wR 3 ?_
 refine wR 4 ?_
 refine wR 5 ?_
 refine wR 6 ?_
 refine wR 7 ?_
 refine wR 8 ?_
 refine wR 9 ?_
 refine wR 10 ?_
 refine wR 11 ?_
 refine wR 12 ?_
 refine wR 13 ?_
 refine wR 14 ?_
 refine wR 15 ?_
 refine wR 16 ?_
 refine wR 17 ?_
 refine wR 18 ?_
 refine wR 19 ?_
 refine wR 20 ?_
 refine wR 21 ?_
 refine wR 22 ?_
 refine wR 23 ?_
 refine wR 24 ?_
 refine wR 25 ?_
 refine wR 26 ?_
 refine wR 27 ?_
 refine wR 28 ?_
 refine wR 29 ?_
 refine wR 30 ?_
 refine wC 31 fun K hK=>?_
 go_simp
 skip
 refine hK.out _ _ (SB.out _ N3.out) fun hHeld=>?_
 clear hK K
 try simp only [Act.put,zs1,zs2,zs3]
 refine wC 32 fun K hK=>?_
 go_simp
 rw [zbj K3.out]
 refine hK.out _ _ (SX.out _) fun hHeld=>?_
 clear hK K
 try simp only [Act.put,zs1,zs2,zs3]
 refine wpAnyH_done (by kernel_rfl) ?_ _
 clear hHeld hw3 k3r k3w
 obtain ⟨b3,hb3⟩:=zeq (w2.heap.size)
 rw [← hb3] at H3 K3 ⊢
 have f4:Fr (fun k=>k=b3) w3 (setObj w3 b3 (.cells (rlC L m Bu n Ce k W Tr false) 52 (0,0))):=Fr.setObj (F:=fun k=>k=b3) (Fr.refl _ _) rfl _
 have k4:Blk (setObj w3 b3 (.cells (rlC L m Bu n Ce k W Tr false) 52 (0,0))) b3 52 (rlC L m Bu n Ce k W Tr false):=zab (lt_of_block K3.out) _
 change Exit.then _ _ _ _ (setObj w3 b3 (.cells (rlC L m Bu n Ce k W Tr false) 52 (0,0))).drew
 generalize setObj w3 b3 (.cells (rlC L m Bu n Ce k W Tr false) 52 (0,0))=w4 at f4 k4 ⊢
 have Z4:=zhz (And.intro ((K1.out.keep N3'.out).fr f4 (by have:=H3.out;omega)).drew (And.intro ((K2.out.keep N3'.out).fr f4 (by have:=H3.out;omega)).drew (show Below w2.heap.size w2 w4.drew from zaa (N3'.out.trans (f4.below N3'.out.size (fun k hk=>by omega))) 1)))
 have k4:=k4.drew
 change Exit.then _ _ _ _ w4.drew
 generalize w4.drew=w4 at k4 Z4 ⊢
 have K4:=zhz k4
 have HB3:=zhz hb3
 have z1:=Z4.out.1.rd
 have z2:=Z4.out.2.1.wr
 have z2r:=Z4.out.2.1.rd
 have z4:=k4.rd
 have z4w:=k4.wr
 clear f4 k4 hb3
 cases sm
 ·go_upto_region 5 with (fail)
  rw [zac K4.out]
  simp only [zs1,zs2,zs3]
  clear z4 z4w
  have f5:Fr (fun k=>k=b3) w4 (setObj w4 b3 (.cells (rlC L m Bu n Ce k W Tr false) 52 (0,0))):=Fr.setObj (F:=fun k=>k=b3) (Fr.refl _ _) rfl _
  have k5:Blk (setObj w4 b3 (.cells (rlC L m Bu n Ce k W Tr false) 52 (0,0))) b3 52 (rlC L m Bu n Ce k W Tr false):=zab (lt_of_block K4.out) _
  generalize setObj w4 b3 (.cells (rlC L m Bu n Ce k W Tr false) 52 (0,0))=w5 at f5 k5 ⊢
  have Y2:=zhz (Z4.out.2.1.fr f5 (by have:=H3.out;omega))
  have q5:Below w2.heap.size w4 w5:=f5.below Z4.out.2.2.size (fun k hk=>by have h1:=HB3.out;have h2:k=b3:=hk;omega)
  have B5:=zhz (Z4.out.2.2.trans q5)
  have z5:=k5.rd
  have y2:=Y2.out.rd
  have y2w:=Y2.out.wr
  clear f5 k5 z1 z2 z2r q5
  go_wp2
  rw [zbj Y2.out]
  rw [show (false && decide ((1:Int)<(n:Int)))=false from rfl]
  refine bodyPost_ret (results_cell_row rfl _ _ b2 _ _ (0,0) _ rfl (zab (lt_of_block Y2.out) _) Tryz.underlying52 rfl (by kernel_rfl)) rfl ⟨rfl,?_⟩
  have hb:=HB.out
  have b5:=zae BL.out B5.out
  exact b5.trans ((Fr.setObj (F:=fun k=>k=b2) (Fr.refl _ _) rfl _).below b5.size (fun k hk=>by omega))
 ·go_upto_region 5 with (fail)
  rw [zac K4.out]
  simp only [zs1,zs2,zs3]
  clear z4 z4w
  obtain ⟨q,hq⟩:∃ q,q=decide ((1:Int)<(n:Int)):=⟨_,rfl⟩
  have HQ:=zhz (show (true && decide ((1:Int)<(n:Int)))=q from by rw [hq];rfl)
  rw [← hq]
  clear hq
  have f5:Fr (fun k=>k=b3) w4 (setObj w4 b3 (.cells (rlC L m Bu n Ce k W Tr q) 52 (0,0))):=Fr.setObj (F:=fun k=>k=b3) (Fr.refl _ _) rfl _
  have k5:Blk (setObj w4 b3 (.cells (rlC L m Bu n Ce k W Tr q) 52 (0,0))) b3 52 (rlC L m Bu n Ce k W Tr q):=zab (lt_of_block K4.out) _
  generalize setObj w4 b3 (.cells (rlC L m Bu n Ce k W Tr q) 52 (0,0))=w5 at f5 k5 ⊢
  have Y2:=zhz (Z4.out.2.1.fr f5 (by have:=H3.out;omega))
  have q5:Below w2.heap.size w4 w5:=f5.below Z4.out.2.2.size (fun k hk=>by have h1:=HB3.out;have h2:k=b3:=hk;omega)
  have B5:=zhz (Z4.out.2.2.trans q5)
  have z5:=k5.rd
  have y2:=Y2.out.rd
  have y2w:=Y2.out.wr
  clear f5 k5 z1 z2 z2r q5
  go_wp2
  rw [zbj Y2.out]
  rw [HQ.out]
  refine bodyPost_ret (results_cell_row rfl _ _ b2 _ _ (0,0) _ rfl (zab (lt_of_block Y2.out) _) Tryz.underlying52 rfl (by kernel_rfl)) rfl ⟨rfl,?_⟩
  have hb:=HB.out
  have b5:=zae BL.out B5.out
  exact b5.trans ((Fr.setObj (F:=fun k=>k=b2) (Fr.refl _ _) rfl _).below b5.size (fun k hk=>by omega))
theorem lmplan_new (a b c d e f g h:Int) (sm:Bool) (A0:Option Addr) (n0 c0:Nat) (zs:List Int) (w:World) (hr:RdI w .u64 A0 n0 c0 zs) :
  Calls Tryz.prog 65 #[rlV (lqL a) ((lqS b*lqN d:Nat):Int) (lqB a c) (lqN d:Nat) (lqC e:Nat) (lqR f:Nat) (lqW g:Nat) (lqT h:Nat) sm,.slice A0 n0 c0] w fun v w'=>∃ N:LmN,v=.returned (.pointer (some ⟨N.l,0,none⟩))∧LmAt w' N (lmZ (lqC e))∧LmP N (lqL a) ((lqS b*lqN d:Nat):Int) (lqB a c) (lqN d) (lqS b) (lqR f) (lqW g) (lqC e) (lqT h) sm (rX zs) (rA zs) (rB zs)∧(∀ b,N.all b→w.heap.size≤b)∧Below w.heap.size w w':=by
 have h1:1≤lqN d∧lqN d≤8:=by unfold lqN;omega
 have h2:1≤lqS b∧lqS b≤32:=by unfold lqS;omega
 have h3:1≤lqW g∧lqW g≤16:=by unfold lqW;omega
 have h4:1≤lqR f∧lqR f≤4:=by unfold lqR;omega
 have h5:1≤lqC e∧lqC e≤8:=by unfold lqC;omega
 have h6:1≤lqT h∧lqT h≤8:=by unfold lqT;omega
 have h7:1≤lqL a∧lqL a≤32:=by unfold lqL;omega
 have hm:lqS b*lqN d≤32*8:=Nat.mul_le_mul h2.2 h1.2
 have hd:((lqS b*lqN d:Nat):Int) / ((lqN d:Nat):Int)=((lqS b:Nat):Int):=by
  rw [← Int.natCast_ediv,Nat.mul_div_cancel _ (by omega)]
 have hkw:lqR f*lqW g≤4*16:=Nat.mul_le_mul h4.2 h3.2
 have hall:(lqN d+1)*(8*(lqR f*lqW g))≤9*(8*(4*16)):=Nat.mul_le_mul (by omega) (by omega)
 exact zem (lqL a) _ (lqB a c) (lqN d) (lqS b) (lqR f) (lqW g) (lqC e) (lqT h) sm (by omega) (zc9 a c) ⟨Int.natCast_nonneg _,by omega⟩ ⟨h1.1,by omega⟩ ⟨hd,h2.1⟩ ⟨h4.1,by omega⟩ ⟨h3.1,Nat.le_trans hall (by decide)⟩ ⟨h5.1,by omega⟩ ⟨h6.1,by omega⟩ A0 n0 c0 zs w hr
theorem zkF {W n:Int} (hW:1≤W) (hn:1≤n):1≤unitZ W n∧unitZ W n≤W:=by
 unfold unitZ
 rw [if_neg (by omega)]
 have h1:=Int.mul_ediv_add_emod W n
 have h2:=Int.emod_nonneg W (show n≠0 by omega)
 have h3:=Int.emod_lt_of_pos W (show 0<n by omega)
 have h4:0≤W / n:=Int.ediv_nonneg (by omega) (by omega)
 have h5:W / n≤W:=Int.ediv_le_self _ (by omega)
 have h6:1*(W / n)≤n*(W / n):=Int.mul_le_mul_of_nonneg_right hn h4
 split
 ·rename_i h0
  rw [h0] at h1
  refine ⟨?_,h5⟩
  by_cases hz:W / n=0
  ·rw [hz,Int.mul_zero] at h1;omega
  ·omega
 ·refine ⟨by omega,?_⟩
  by_cases hz:W / n=0
  ·omega
  ·by_cases hn1:n=1
   ·subst hn1
    omega
   ·have h7:2*(W / n)≤n*(W / n):=Int.mul_le_mul_of_nonneg_right (by omega) h4
    omega
theorem zj3 {N:LmN} {a b c d e f g h:Int} {sm:Bool} {X A B:Nat→Nat} {w:World} (hA:LmAt w N (lmZ (lqC e))) (hp:LmP N (lqL a) ((lqS b*lqN d:Nat):Int) (lqB a c) (lqN d) (lqS b) (lqR f) (lqW g) (lqC e) (lqT h) sm X A B):LmI N (lmZ (lqC e)) 0 0:=by
 have h1:1≤lqN d∧lqN d≤8:=by unfold lqN;omega
 have h2:1≤lqS b∧lqS b≤32:=by unfold lqS;omega
 have h7:1≤lqL a∧lqL a≤32:=by unfold lqL;omega
 have hm:lqS b*lqN d≤32*8:=Nat.mul_le_mul h2.2 h1.2
 have hm1:1*1≤lqS b*lqN d:=Nat.mul_le_mul h2.1 h1.1
 have hB:=zc9 a c
 have hu:=zkF (W:=((lqS b*lqN d:Nat):Int)) (n:=lqL a+1 - lqB a c) (by omega) (by omega)
 refine ⟨⟨w,hA.hr⟩,FewR.new N.R,fun _ _ _=>Int.le_refl _,Int.le_refl _,by omega,fun c hc=>?_,⟨Int.le_refl _,Int.le_refl _⟩,⟨Int.le_refl _,Int.le_refl _⟩,⟨Int.le_refl _,Int.le_refl _⟩,by omega,?_,?_,?_,?_⟩
 ·rw [List.eq_of_mem_replicate hc]
  show (0≤(0:Int)∧(0:Int)≤0+1099511627776)∧(0≤(0:Int)∧(0:Int)≤0)∧(0≤(0:Int)∧(0:Int)≤0)∧0≤(0:Int)∧(0:Int)≤0
  omega
 ·rw [hp.pU];omega
 ·rw [hp.pW];omega
 ·rw [hp.pB];omega
 ·rw [hp.pL];omega
end
section
open Ar (inR)
def gapL (n:Int):Int:=if n % 2=1 then n / 2 % 1024 else n / 2 % 16
theorem zlC (n:Int):0≤gapL n∧gapL n≤1023:=by unfold gapL;split <;> omega
theorem zjR (n:Int) (w:World):Calls Tryz.prog 44 #[.int .i64 n] w fun e w'=>e=.returned (.int .i64 (gapL n))∧w=w':=by
 obtain ⟨m,hm⟩:=zeq (n / 2)
 obtain ⟨q,hq⟩:=zeq (n % 2)
 have e1:bits .and .i64 n 1=q:=by rw [G.i64_mask1,hq]
 obtain ⟨x,hx⟩:=zeq (m % 1024)
 obtain ⟨y,hy⟩:=zeq (m % 16)
 have e2:bits .and .i64 m 1023=x:=by rw [zgZ,hx]
 have e3:bits .and .i64 m 15=y:=by rw [zcC,hy]
 have e0:n / 2=m:=hm.symm
 have g:gapL n=if q=1 then x else y:=by unfold gapL;rw [← hq,← hm,hx,hy]
 rw [g]
 by_cases h:q=1
 ·have t:(q==1)=true:=by simpa using h
  have gg:(if q=1 then x else y)=x:=if_pos h
  rw [gg]
  clear hm hq hx hy g h gg
  go_enter Tryz.func44,Tryz.ntmps44
  go_wp2
  go_ret
  exact ⟨rfl,rfl⟩
 ·have t:(q==1)=false:=by simpa using h
  have gg:(if q=1 then x else y)=y:=if_neg h
  rw [gg]
  clear hm hq hx hy g h gg
  go_enter Tryz.func44,Tryz.ntmps44
  go_wp2
  go_ret
  exact ⟨rfl,rfl⟩
end
section
open Go.Deep
open Ar (inR)
section
variable {H:Type} {enc:TypeId × Value→H} {P:Program}
end
end
section
open Ar (inR)
section
variable {N:LmN} {X A B:Nat→Nat}
end
end
section
open Ar (inR)
structure LmB (N:LmN):Prop where
 BL:N.B≤N.L
 RL:N.R.L=N.L
 ns:(N.R.n:Int)*(N.R.s:Int)≤1152921504606846976
section
variable {N:LmN} {s:LmS} {now m cost:Int}
def AnsOK (B cost:Int) (a:Int × Int × Int):Prop:=((a.1=1∧a.2.2=0)∨(a.1=2∧1≤a.2.2∧a.2.1<cost))∧0≤a.2.1∧a.2.1≤B
theorem LmI.wait (h:LmI N s now m) (hb:LmB N) (key:ByteArray) (hc:1≤cost∧cost≤N.B) :
  0≤waitR N.R s.r key cost∧(waitR N.R s.r key cost=0 ↔ estZ N.R s.r key+cost≤N.L):=by
 obtain ⟨w,hw⟩:=h.rg
 have hm:=h.m
 have hB:=h.B
 have ht:=h.t1
 have h0:=h.t0
 have hl:=hb.BL
 have hns:=hb.ns
 have hrl:=hb.RL
 have hf:=zdt (s:=key) hw h.few (c:=cost) (by omega) (by omega) (by omega)
 rcases hf with ⟨h1,h2⟩ | ⟨h1,nx,_,_,_,h2,_⟩
 ·rw [h2];omega
 ·omega
theorem zjC (a:Int) {L:Int} (ha:0≤a) (hL:L<9223372036854775807):clamp a≤L ↔ a≤L:=by
 unfold clamp
 split
 ·omega
 ·split <;> omega
theorem LmI.peek_ok (h:LmI N s now m) (hb:LmB N) (key:ByteArray) (hc:1≤cost∧cost≤N.B) (hn:now<4611686018427387904) :
  AnsOK N.B cost (s.peek N now 0 key cost)∧((s.peek N now 0 key cost).1=1→cost≤(s.peek N now 0 key cost).2.1):=by
 have hr:(refZ N now 0 cost).2=false:=by
  unfold refZ
  rw [if_neg (by omega),if_neg (by omega),if_neg (by omega)]
 have ht:=h.to
 have hB:=h.B
 have hU:=h.U.1
 have hW:=h.W.1
 unfold LmS.peek
 rw [hr]
 simp only [Bool.false_eq_true,if_false]
 cases hs:({ s with r:=⟨max s.r.t now,s.r.num,s.r.F⟩ }:LmS).resi N now key with
 | some c =>
  have f:=zbB (F:=c.1) (S:=c.2.1) (C:=c.2.2.1) (D:=c.2.2.2) (L:=N.L) (t:=now) hU hW hc rfl
  have r1:=zfx c.1 c.2.1 c.2.2.1 c.2.2.2 N.U N.W N.B N.L now
  have r2:=zcN (F:=c.1) (S:=c.2.1) (C:=c.2.2.1) (D:=c.2.2.2) (U:=N.U) (W:=N.W) (L:=N.L) (t:=now) (show 0≤N.B by omega)
  dsimp only
  show AnsOK N.B cost (if waitP c.1 c.2.1 c.2.2.1 c.2.2.2 N.U N.W N.B N.L now cost=0 then 1 else 2,roomP c.1 c.2.1 c.2.2.1 c.2.2.2 N.U N.W N.B N.L now,waitP c.1 c.2.1 c.2.2.1 c.2.2.2 N.U N.W N.B N.L now cost)∧((if waitP c.1 c.2.1 c.2.2.1 c.2.2.2 N.U N.W N.B N.L now cost=0 then (1:Int) else 2)=1→cost≤roomP c.1 c.2.1 c.2.2.1 c.2.2.2 N.U N.W N.B N.L now)
  generalize waitP c.1 c.2.1 c.2.2.1 c.2.2.2 N.U N.W N.B N.L now cost=wt at *
  generalize roomP c.1 c.2.1 c.2.2.1 c.2.2.2 N.U N.W N.B N.L now=rm at *
  unfold AnsOK
  dsimp only
  by_cases hz:wt=0
  ·rw [if_pos hz]
   exact ⟨⟨Or.inl ⟨rfl,hz⟩,r1,r2⟩,fun _=>f.2.1.1 hz⟩
  ·rw [if_neg hz]
   exact ⟨⟨Or.inr ⟨rfl,by omega,by have:=fun g=>hz (f.2.1.2 g);omega⟩,r1,r2⟩,fun g=>absurd g (by decide)⟩
 | none =>
  have f:=ht.wait hb key hc
  have he:=ht.est key
  dsimp only at f he ⊢
  unfold LmS.left
  dsimp only
  generalize waitR N.R ⟨max s.r.t now,s.r.num,s.r.F⟩ key cost=wt at *
  generalize estZ N.R ⟨max s.r.t now,s.r.num,s.r.F⟩ key=es at *
  unfold AnsOK
  dsimp only
  by_cases hz:wt=0
  ·rw [if_pos hz]
   have:=f.2.1 hz
   exact ⟨⟨Or.inl ⟨rfl,hz⟩,by omega,by omega⟩,fun _=>by omega⟩
  ·rw [if_neg hz]
   have:=fun g=>hz (f.2.2 g)
   exact ⟨⟨Or.inr ⟨rfl,by omega,by omega⟩,by omega,by omega⟩,fun g=>absurd g (by decide)⟩
theorem LmI.judge_ok (h:LmI N s now m) (hb:LmB N) (key:ByteArray) (hc:1≤cost∧cost≤N.B):AnsOK N.B cost (s.judge N now key cost).1:=by
 have hB:=h.B
 have hU:=h.U.1
 have hW:=h.W.1
 unfold LmS.judge
 split
 ·rename_i i hi
  generalize s.C.getD i (0,0,0,0)=c
  split
  ·have r1:=zfx (celT c N.U now cost).1 (celT c N.U now cost).2.1 (celT c N.U now cost).2.2.1 (celT c N.U now cost).2.2.2 N.U N.W N.B N.L now
   have r2:=zcN (F:=(celT c N.U now cost).1) (S:=(celT c N.U now cost).2.1) (C:=(celT c N.U now cost).2.2.1) (D:=(celT c N.U now cost).2.2.2) (U:=N.U) (W:=N.W) (L:=N.L) (t:=now) (show 0≤N.B by omega)
   exact ⟨Or.inl ⟨rfl,rfl⟩,r1,r2⟩
  ·rename_i hle
   have f:=zbB (F:=c.1) (S:=c.2.1) (C:=c.2.2.1) (D:=c.2.2.2) (L:=N.L) (t:=now) hU hW hc rfl
   have r1:=zfx c.1 c.2.1 c.2.2.1 c.2.2.2 N.U N.W N.B N.L now
   have r2:=zcN (F:=c.1) (S:=c.2.1) (C:=c.2.2.1) (D:=c.2.2.2) (U:=N.U) (W:=N.W) (L:=N.L) (t:=now) (show 0≤N.B by omega)
   have hle:¬ cost≤roomP c.1 c.2.1 c.2.2.1 c.2.2.2 N.U N.W N.B N.L now:=hle
   have h1:¬ waitP c.1 c.2.1 c.2.2.1 c.2.2.2 N.U N.W N.B N.L now cost=0:=fun g=>hle (f.2.1.1 g)
   have h2:=f.1
   exact ⟨Or.inr ⟨rfl,by show 1≤waitP c.1 c.2.1 c.2.2.1 c.2.2.2 N.U N.W N.B N.L now cost;omega,Int.not_le.1 hle⟩,r1,r2⟩
 ·have hL:=h.L
  have he:=h.est key
  have hcl:=zjC (estZ N.R s.r key+cost) (L:=N.L) (by omega) (by omega)
  split
  ·unfold LmS.left
   dsimp only
   generalize estZ N.R (s.r.add N.R key cost) key=es
   exact ⟨Or.inl ⟨rfl,rfl⟩,by dsimp only;omega,by dsimp only;omega⟩
  ·rename_i hle
   have f:=h.wait hb key hc
   unfold LmS.left
   dsimp only
   have hle:¬ estZ N.R s.r key+cost≤N.L:=fun g=>hle (hcl.2 g)
   have h1:¬ waitR N.R s.r key cost=0:=fun g=>hle (f.2.1 g)
   generalize estZ N.R s.r key=es at *
   generalize waitR N.R s.r key cost=wt at *
   exact ⟨Or.inr ⟨rfl,by dsimp only;omega,by dsimp only;omega⟩,by dsimp only;omega,by dsimp only;omega⟩
theorem zl4 (hc:1≤cost∧cost≤N.B) (hn:now<4611686018427387904):refZ N now 0 cost=((0,0,0),false):=by
 unfold refZ
 rw [if_neg (by omega),if_neg (by omega),if_neg (by omega)]
theorem LmI.check_ok (h:LmI N s now m) (hb:LmB N) (hm:m+2097153≤576460752303423488) (key:ByteArray) (hc:1≤cost∧cost≤N.B) (hn:now<4611686018427387904):AnsOK N.B cost (s.check N now 0 key cost).2.1:=by
 unfold LmS.check
 rw [zl4 hc hn]
 simp only [Bool.false_eq_true,if_false]
 exact ((h.seen key cost).adm (by omega) key).judge_ok hb key hc
end
end
section
open Ar (inR)
section
variable {W w w':World} {N:LmN} {s s':LmS} {t t' m m':Int}
end
theorem zj2 {N:LmN} {a b c d e f g h:Int} {sm:Bool} {X A B:Nat→Nat} (hp:LmP N (lqL a) ((lqS b*lqN d:Nat):Int) (lqB a c) (lqN d) (lqS b) (lqR f) (lqW g) (lqC e) (lqT h) sm X A B):LmB N∧N.B=lqB a c∧1≤lqB a c∧lqB a c≤32:=by
 have h1:1≤lqN d∧lqN d≤8:=by unfold lqN;omega
 have h2:1≤lqS b∧lqS b≤32:=by unfold lqS;omega
 have h7:1≤lqL a∧lqL a≤32:=by unfold lqL;omega
 have hm:(lqN d+1)*lqS b≤9*32:=Nat.mul_le_mul (by omega) h2.2
 have hB:=zc9 a c
 refine ⟨⟨?_,?_,?_⟩,hp.pB,hB.1,by omega⟩
 ·rw [hp.pB,hp.pL];exact hB.2
 ·rw [hp.pRL,hp.pL]
 ·rw [hp.pn,hp.ps,← Int.natCast_mul];omega
theorem boxA (X:World) (a b c:Int):∃ w1 w2,X.alloc (.cells #[.int .i64 0,.int .i64 0,.int .i64 0] 87)=w1 ∧
  (∀ j,w1.cell? ⟨X.heap.size,j,none⟩=(#[.int .i64 0,.int .i64 0,.int .i64 0]:Array Value)[j]?)∧(∀ j,w1.frozen? ⟨X.heap.size,j,none⟩=false) ∧
  ((w1.setCell ⟨X.heap.size,0,none⟩ (.int .i64 a)).setCell ⟨X.heap.size,1,none⟩ (.int .i64 b)).setCell ⟨X.heap.size,2,none⟩ (.int .i64 c)=w2 ∧
  Below X.heap.size X w2∧Blk w2 X.heap.size 87 #[.int .i64 a,.int .i64 b,.int .i64 c]:=box3R X 87 _ _ _ _ _ _
end
section
open Ar (inR)
section
variable {R1 R2:RgN}
end
section
variable {N1 N2:LmN}
end
/-! #### what a key without a cell is answered -/
section
variable {N:LmN} {s:LmS} {now m cost:Int}
theorem zdD (v:Int):(s.count v).σ=s.σ:=by
 unfold LmS.count
 split
 ·rfl
 ·split
  ·rfl
  ·split <;> rfl
theorem zio (key:ByteArray):(s.judge N now key cost).2.σ=s.σ:=by
 unfold LmS.judge
 split
 ·split <;> rfl
 ·split <;> rfl
end
end
section
open Ar (inR)
section
variable {W w w':World} {N1 N2:LmN} {s1 s2 s':LmS} {t1 t2 t1' t2' m m':Int}
end
section
variable {N:LmN} {s:LmS} {now m cost x:Int}
end
end
section
open Ar (inR)
end
section
open Ar (inR)
structure KsOk (n:Nat) (σ:KSt):Prop where
 pl:Places n σ.fl σ.K
 inj:∀ i j s,σ.K i=some s→σ.K j=some s→i=j
 bd:∀ i s,σ.K i=some s→i<n∧s.size≤64
theorem LmAt.ks {w:World} {N:LmN} {s:LmS} (h:LmAt w N s):KsOk N.Q.N.n s.σ:=by
 have u:=h.hp.ix.uni
 exact ⟨u.2.2.2,u.1,u.2.1⟩
section
variable {n:Nat} {σ:KSt}
theorem za4 {K:Nat→Option ByteArray} {k:ByteArray}:(posN n K k).isSome=true ↔ ∃ i,i<n∧K i=some k:=by
 constructor
 ·intro h
  obtain ⟨i,hi⟩:=Option.isSome_iff_exists.1 h
  exact ⟨i,zax hi⟩
 ·rintro ⟨i,hi,hk⟩
  cases hp:posN n K k with
  | some j=>rfl
  | none=>exact absurd hk (zbl hp i hi)
theorem zbH {K:Nat→Option ByteArray} {k:ByteArray} (h:¬ (posN n K k).isSome=true):posN n K k=none:=by
 cases hp:posN n K k with
 | none=>rfl
 | some i=>rw [hp] at h;exact absurd rfl h
theorem zl6 {K:Nat→Option ByteArray} {i:Nat} {key:ByteArray} (hi:i<n) (hK:K i=none) (k:ByteArray):((posN n (fun j=>if j=i then some key else K j) k).isSome=true) ↔ (k=key∨(posN n K k).isSome=true):=by
 rw [za4,za4]
 constructor
 ·rintro ⟨j,hj,hk⟩
  by_cases e:j=i
  ·rw [if_pos e] at hk;exact Or.inl (Option.some.inj hk).symm
  ·rw [if_neg e] at hk;exact Or.inr ⟨j,hj,hk⟩
 ·rintro (e | ⟨j,hj,hk⟩)
  ·exact ⟨i,hi,by rw [if_pos rfl,e]⟩
  ·refine ⟨j,hj,?_⟩
   rw [if_neg (fun e=>by rw [e,hK] at hk;cases hk)]
   exact hk
theorem zkn (hinj:∀ i j s,σ.K i=some s→σ.K j=some s→i=j) {i:Nat} {o key:ByteArray} (hi:i<n) (hK:σ.K i=some o) (hne:key≠o) (k:ByteArray):((posN n (fun j=>if j=i then some key else σ.K j) k).isSome=true) ↔ (k=key∨(k≠o∧(posN n σ.K k).isSome=true)):=by
 rw [za4,za4]
 constructor
 ·rintro ⟨j,hj,hk⟩
  by_cases e:j=i
  ·rw [if_pos e] at hk;exact Or.inl (Option.some.inj hk).symm
  ·rw [if_neg e] at hk
   refine Or.inr ⟨fun h=>e (hinj j i o (by rw [hk,h]) hK),j,hj,hk⟩
 ·rintro (e | ⟨e,j,hj,hk⟩)
  ·exact ⟨i,hi,by rw [if_pos rfl,e]⟩
  ·refine ⟨j,hj,?_⟩
   rw [if_neg (fun h=>e (by rw [h,hK] at hk;exact (Option.some.inj hk).symm))]
   exact hk
end
section
variable {N:LmN} {s:LmS} {now held cost:Int}
theorem zgf (f:ByteArray→Int):∀ (l:List (ByteArray × Cel)) (a:ByteArray × Int × Bool),(l.foldl (fun a x=>lightS f a x.1) a).2.2=true→(l.foldl (fun a x=>lightS f a x.1) a)=a∧a.2.2=true∨∃ x ∈ l,x.1=(l.foldl (fun a x=>lightS f a x.1) a).1
 | [],a,h=>Or.inl ⟨rfl,h⟩
 | x :: r,a,h=>by
  rw [List.foldl_cons] at h ⊢
  rcases zgf f r (lightS f a x.1) h with ⟨h1,h2⟩ | ⟨y,hy,h1⟩
  ·rw [h1]
   unfold lightS at h1 h2 ⊢
   split at h2
   ·rename_i hc
    rw [if_pos hc]
    exact Or.inr ⟨x,List.mem_cons_self,rfl⟩
   ·rename_i hc
    rw [if_neg hc]
    exact Or.inl ⟨rfl,h2⟩
  ·exact Or.inr ⟨y,List.mem_cons_of_mem _ hy,h1⟩
theorem zie {key o:ByteArray} (h:s.giver N now key=some o):∃ i,i<N.Q.N.n∧s.σ.K i=some o:=by
 have hm:∃ x ∈ s.res N,x.1=o:=by
  unfold LmS.giver at h
  cases hp:plIdle (s.res N) N.W now with
  | some x =>
   rw [hp] at h
   injection h with h
   exact ⟨x,List.mem_of_find?_eq_some hp,h⟩
  | none =>
   rw [hp] at h
   dsimp only at h
   split at h
   ·cases h
   ·split at h
    ·cases h
    ·rename_i hl
     injection h with h
     have h2:(s.light N).2.2=true:=by
      cases hq:(s.light N).2.2
      ·exact absurd (Or.inl hq) hl
      ·rfl
     rcases zgf (mostM N.S.N.n s.M) (s.res N) (⟨#[]⟩,0,false) h2 with ⟨_,h3⟩ | ⟨x,hx,h3⟩
     ·cases h3
     ·exact ⟨x,hx,h3.trans h⟩
 obtain ⟨x,hx,rfl⟩:=hm
 obtain ⟨i,hi,he⟩:=List.mem_filterMap.1 hx
 refine ⟨i,List.mem_range.1 hi,?_⟩
 cases hk:s.σ.K i with
 | none=>rw [hk] at he;cases he
 | some y =>
  rw [hk] at he
  injection he with he
  rw [← he]
theorem zjy {key:ByteArray} (hk:KsOk N.Q.N.n s.σ) (hs:key.size≤64) :
  ((s.adm N now key).2=[]∧(s.adm N now key).1.σ=s.σ) ∨
  ((s.adm N now key).2=[(key,true)]∧(posN N.Q.N.n s.σ.K key).isSome=false∧∃ i,i<N.Q.N.n∧s.σ.K i=none∧(s.adm N now key).1.σ.K=(fun j=>if j=i then some key else s.σ.K j)∧(s.adm N now key).1.σ.fl.length+1=s.σ.fl.length) ∨
  (∃ o i,(s.adm N now key).2=[(o,false),(key,true)]∧(posN N.Q.N.n s.σ.K key).isSome=false∧key≠o∧o.size≤64∧i<N.Q.N.n∧s.σ.K i=some o∧(s.adm N now key).1.σ.K=(fun j=>if j=i then some key else s.σ.K j)∧(s.adm N now key).1.σ.fl.length=s.σ.fl.length):=by
 unfold LmS.adm
 by_cases h1:(posN N.Q.N.n s.σ.K key).isSome=true∨64<key.size
 ·rw [if_pos h1];exact Or.inl ⟨rfl,rfl⟩
 ·rw [if_neg h1]
  have hp:posN N.Q.N.n s.σ.K key=none:=zbH (fun g=>h1 (Or.inl g))
  have hpb:(posN N.Q.N.n s.σ.K key).isSome=false:=by rw [hp];rfl
  by_cases h2:s.full N=true
  ·rw [if_pos h2]
   cases ho:s.giver N now key with
   | none=>exact Or.inl ⟨rfl,rfl⟩
   | some o =>
    obtain ⟨i0,hi0,hK0⟩:=zie ho
    have hpo:(posN N.Q.N.n s.σ.K o).isSome=true:=za4.2 ⟨i0,hi0,hK0⟩
    obtain ⟨i,hi⟩:=Option.isSome_iff_exists.1 hpo
    obtain ⟨hin,hKi⟩:=zax hi
    have hne:key≠o:=fun e=>by rw [← e,hp] at hi;cases hi
    refine Or.inr (Or.inr ⟨o,i,rfl,hpb,hne,(hk.bd i o hKi).2,hin,hKi,?_⟩)
    have hdel:s.σ.del N.Q.N.n o=(⟨s.σ.fl++[i],fun j=>if j=i then none else s.σ.K j⟩,some i):=by
     unfold KSt.del;rw [hi]
    have hev:(s.evict N now o).σ=⟨s.σ.fl++[i],fun j=>if j=i then none else s.σ.K j⟩:=by
     unfold LmS.evict;rw [hdel]
    have hpk:posN N.Q.N.n (fun j=>if j=i then none else s.σ.K j) key=none:=by
     refine zbH (fun g=>?_)
     obtain ⟨j,hj,hkj⟩:=za4.1 g
     by_cases e:j=i
     ·rw [if_pos e] at hkj;cases hkj
     ·rw [if_neg e] at hkj;exact zbl hp j hj hkj
    have hput:(s.evict N now o).σ.put N.Q.N.n key=(⟨s.σ.fl,fun j=>if j=i then some key else if j=i then none else s.σ.K j⟩,some i):=by
     rw [hev]
     unfold KSt.put
     rw [hpk]
     dsimp only
     rw [if_neg (by omega),List.getLast?_append]
     simp
    have hpt:((s.evict N now o).put N now key).σ=⟨s.σ.fl,fun j=>if j=i then some key else if j=i then none else s.σ.K j⟩:=by
     show ((s.evict N now o).σ.put N.Q.N.n key).1=_
     rw [hput]
    show ((s.evict N now o).put N now key).σ.K=_∧((s.evict N now o).put N now key).σ.fl.length=_
    rw [hpt]
    refine ⟨?_,rfl⟩
    funext j
    by_cases e:j=i
    ·simp [e]
    ·simp [e]
  ·rw [if_neg h2]
   have hle:=hk.pl.le
   have hfl:1≤s.σ.fl.length:=by
    unfold LmS.full at h2
    rw [decide_eq_true_iff] at h2
    omega
   have hne:s.σ.fl≠[]:=by intro g;rw [g] at hfl;simp at hfl
   have hf:=hk.pl.free (List.getLast_mem hne)
   refine Or.inr (Or.inl ⟨rfl,hpb,s.σ.fl.getLast hne,hf.1,hf.2,?_⟩)
   have hput:s.σ.put N.Q.N.n key=(⟨s.σ.fl.dropLast,fun j=>if j=s.σ.fl.getLast hne then some key else s.σ.K j⟩,some (s.σ.fl.getLast hne)):=by
    unfold KSt.put
    rw [hp]
    dsimp only
    rw [if_neg (by omega),List.getLast?_eq_some_getLast hne]
   have hpt:(s.put N now key).σ=⟨s.σ.fl.dropLast,fun j=>if j=s.σ.fl.getLast hne then some key else s.σ.K j⟩:=by
    show (s.σ.put N.Q.N.n key).1=_
    rw [hput]
   show (s.put N now key).σ.K=_∧(s.put N now key).σ.fl.length+1=_
   rw [hpt]
   refine ⟨rfl,?_⟩
   show s.σ.fl.dropLast.length+1=_
   rw [List.length_dropLast];omega
def thereM (n:Nat) (σ:KSt):ByteArray→Option Value:=fun k=>if (posN n σ.K k).isSome=true then some (.bool true) else none
def stepE (M:ByteArray→Option Value) (x:ByteArray × Bool):ByteArray→Option Value:=fun k=>if k=x.1 then (if x.2 then some (.bool true) else none) else M k
def stepC (c:Nat) (x:ByteArray × Bool):Nat:=if x.2 then c+1 else c - 1
def okE (key:ByteArray):(ByteArray→Option Value)→List (ByteArray × Bool)→Prop
 | _,[]=>True
 | M,x :: l=>(M x.1=if x.2 then none else some (.bool true))∧(x.2=true→x.1=key)∧x.1.size≤64∧okE key (stepE M x) l
theorem zgQ {key:ByteArray} (hk:KsOk N.Q.N.n s.σ) (hs:key.size≤64) :
  okE key (thereM N.Q.N.n s.σ) (s.check N now held key cost).2.2∧(s.check N now held key cost).2.2.foldl stepE (thereM N.Q.N.n s.σ)=thereM N.Q.N.n (s.check N now held key cost).1.σ ∧
  (s.check N now held key cost).2.2.foldl stepC (N.Q.N.n - s.σ.fl.length)=N.Q.N.n - (s.check N now held key cost).1.σ.fl.length:=by
 unfold LmS.check
 split
 ·rw [zdD];exact ⟨trivial,rfl,rfl⟩
 ·dsimp only
  rw [zdD,zio]
  have hle:=hk.pl.le
  have hk':KsOk N.Q.N.n (s.seen N now key cost).σ:=hk
  have hth:thereM N.Q.N.n (s.seen N now key cost).σ=thereM N.Q.N.n s.σ:=rfl
  have hsl:(s.seen N now key cost).σ=s.σ:=rfl
  rcases zjy (now:=now) hk' hs with ⟨h1,h2⟩ | ⟨h1,h2,i,h3,h4,h5,h6⟩ | ⟨o,i,h1,h2,h3,h4,h5,h6,h7,h8⟩
  ·rw [h1,h2];exact ⟨trivial,rfl,rfl⟩
  ·rw [hsl] at h2 h4 h5 h6
   rw [h1]
   refine ⟨⟨?_,fun _=>rfl,hs,trivial⟩,?_,?_⟩
   ·show thereM N.Q.N.n s.σ key=none
    unfold thereM
    rw [if_neg (by rw [h2];simp)]
   ·funext k
    show stepE (thereM N.Q.N.n s.σ) (key,true) k=_
    unfold stepE thereM
    rw [h5]
    have hr:=zl6 (n:=N.Q.N.n) (key:=key) h3 h4 k
    by_cases e:k=key
    ·rw [if_pos e,if_pos (hr.2 (Or.inl e))];rfl
    ·rw [if_neg e]
     by_cases g:(posN N.Q.N.n s.σ.K k).isSome=true
     ·rw [if_pos g,if_pos (hr.2 (Or.inr g))]
     ·rw [if_neg g,if_neg (fun q=>(hr.1 q).elim e g)]
   ·show N.Q.N.n - s.σ.fl.length+1=_
    omega
  ·rw [hsl] at h2 h6 h7 h8
   rw [h1]
   have ho:thereM N.Q.N.n s.σ o=some (.bool true):=by
    unfold thereM
    rw [if_pos (za4.2 ⟨i,h5,h6⟩)]
   have hfl:=hk.pl.lt (i:=i) (by rw [h6];rfl)
   refine ⟨⟨ho,fun q=>(by cases q),h4,?_,fun _=>rfl,hs,trivial⟩,?_,?_⟩
   ·show stepE (thereM N.Q.N.n s.σ) (o,false) key=none
    unfold stepE
    rw [if_neg h3]
    unfold thereM
    rw [if_neg (by rw [h2];simp)]
   ·funext k
    show stepE (stepE (thereM N.Q.N.n s.σ) (o,false)) (key,true) k=_
    unfold stepE thereM
    rw [h7]
    have hr:=zkn (n:=N.Q.N.n) (key:=key) hk.inj h5 h6 h3 k
    by_cases e:k=key
    ·rw [if_pos e,if_pos (hr.2 (Or.inl e))];rfl
    ·rw [if_neg e]
     by_cases eo:k=o
     ·rw [if_pos eo,if_neg (fun q=>(hr.1 q).elim e (fun z=>z.1 eo))];rfl
     ·rw [if_neg eo]
      by_cases g:(posN N.Q.N.n s.σ.K k).isSome=true
      ·rw [if_pos g,if_pos (hr.2 (Or.inr ⟨eo,g⟩))]
      ·rw [if_neg g,if_neg (fun q=>(hr.1 q).elim e (fun z=>g z.2))]
   ·show N.Q.N.n - s.σ.fl.length - 1+1=_
    omega
end
end
end Go.Proofs.YtannniobeanhlaaGreat
