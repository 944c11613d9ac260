import Derived.Test.YtambcbbekoehiaaGreatZSvW
set_option linter.unusedSimpArgs false
set_option linter.unusedVariables false
set_option maxRecDepth 100000
set_option maxHeartbeats 9000000
namespace Go.Proofs.YtambcbbekoehiaaGreat
open Go.ChangeShapes Go.WideShapes Go.ChangeAt Go.RowKit
structure ZC (Ns1:List LmN) (Ks1:List CnN) (c1:SvC) (Ns2:List LmN) (Ks2:List CnN) (c2:SvC) (now:Int):Prop where
 la:LmDs Ns1 Ns2
 k1:Ks1.length=3
 k2:Ks2.length=3
 n1:(0≤c1.now∧c1.now≤now)∧c1.rs=false
 n2:(0≤c2.now∧c2.now≤now)∧c2.rs=false
theorem ZC.next {Ns1 Ns2:List LmN} {Ks1 Ks2:List CnN} {c1 c2:SvC} {now ck:Int} (h:ZC Ns1 Ks1 c1 Ns2 Ks2 c2 now) (hck:now≤ck):ZC Ns1 Ks1 (c1.next ck) Ns2 Ks2 (c2.next ck) ck:=by
 have h1:=h.n1.1
 have h2:=h.n2.1
 exact ⟨h.la,h.k1,h.k2,⟨⟨(show 0≤max c1.now ck by omega),(show max c1.now ck≤ck by omega)⟩,h.n1.2⟩,⟨⟨(show 0≤max c2.now ck by omega),(show max c2.now ck≤ck by omega)⟩,h.n2.2⟩⟩
def ZS (W0 w:World) (b1 s b2 t h0:Nat) (ps:List RuZ) (now m:Int):Prop:=∃ Ns1 Ks1 c1 Ns2 Ks2 c2 Ss σs,TwC W0 w b1 s b2 t h0 (confR ps) Ns1 Ks1 c1 Ss σs Ns2 Ks2 c2 Ss σs m∧ZC Ns1 Ks1 c1 Ns2 Ks2 c2 now∧SdL Ns1 Ss∧∀ σ ∈ σs,CnB σ
def ZH (W0 w:World) (b1 s b2 t h0:Nat) (ps:List RuZ) (now m:Int) (a:DoV) (zs:List Int) (ev:Int) (nn:Nat) (zo:List Int) (L:List EvZ):Prop:=∃ Ns1 Ks1 c1 Ns2 Ks2 c2 Ss σs Ss1 σs1,TwC W0 w b1 s b2 t h0 (confR ps) Ns1 Ks1 (c1.next a.ck) Ss1 σs1 Ns2 Ks2 c2 Ss σs m∧ZC Ns1 Ks1 c1 Ns2 Ks2 c2 now∧SdL Ns1 Ss∧(∀ σ ∈ σs,CnB σ) ∧
 ((a.k=3∧Ss1=Ss∧σs1=σs∧ev=1∧nn=0∧zo=[]∧L=[]) ∨
  (∃ (hn:HoN (confR ps) Ns1) (K1:CnN) (σ:CnS) (R:ActR),Ks1[a.k]?=some K1∧σs[a.k]?=some σ∧K1.size=660∧K1.rules=((confR ps).length:Int)∧R=actS hn K1 c1 Ss σ a.kd a.ck a.n zs∧Ss1=R.Ss∧σs1=σs.set a.k R.σ∧CnB R.σ∧ev=R.e∧nn=R.n∧zo=R.out∧L=R.evs))
def ZA (W0 w:World) (b1 s b2 t h0:Nat) (ps:List RuZ) (now m:Int) (P:Prop):Prop:=∃ Ns1 Ks1 c1 Ns2 Ks2 c2 Ss1 σs1 Ss2 σs2,TwC W0 w b1 s b2 t h0 (confR ps) Ns1 Ks1 c1 Ss1 σs1 Ns2 Ks2 c2 Ss2 σs2 m∧ZC Ns1 Ks1 c1 Ns2 Ks2 c2 now∧(FullL Ss1∨((Ss1=Ss2∧σs1=σs2∧SdL Ns1 Ss1∧∀ σ ∈ σs1,CnB σ)∧P))
section
variable {W0 w w':World} {b1 s b2 t h0:Nat} {ps:List RuZ} {now m:Int} {a:DoV} {zs zo:List Int} {ev:Int} {nn:Nat} {L:List EvZ} {P:Prop}
theorem ZS.keep (h:ZS W0 w b1 s b2 t h0 ps now m) (hb:Below w.heap.size w w'):ZS W0 w' b1 s b2 t h0 ps now m:=by
 obtain ⟨Ns1,Ks1,c1,Ns2,Ks2,c2,Ss,σs,h1,h2⟩:=h
 exact ⟨Ns1,Ks1,c1,Ns2,Ks2,c2,Ss,σs,h1.keep hb,h2⟩
theorem ZS.mono (h:ZS W0 w b1 s b2 t h0 ps now m) {m':Int} (hm:m≤m'∧m'≤576460752303423488):ZS W0 w b1 s b2 t h0 ps now m':=by
 obtain ⟨Ns1,Ks1,c1,Ns2,Ks2,c2,Ss,σs,h1,h2⟩:=h
 exact ⟨Ns1,Ks1,c1,Ns2,Ks2,c2,Ss,σs,h1.mono hm,h2⟩
theorem ZS.hi (h:ZS W0 w b1 s b2 t h0 ps now m):h0≤w.heap.size:=by
 obtain ⟨Ns1,Ks1,c1,Ns2,Ks2,c2,Ss,σs,h1,_⟩:=h
 exact h1.hi.2
theorem ZS.bl (h:ZS W0 w b1 s b2 t h0 ps now m):Below W0.heap.size W0 w:=by
 obtain ⟨Ns1,Ks1,c1,Ns2,Ks2,c2,Ss,σs,h1,_⟩:=h
 exact h1.bl
theorem ZH.keep (h:ZH W0 w b1 s b2 t h0 ps now m a zs ev nn zo L) (hb:Below w.heap.size w w'):ZH W0 w' b1 s b2 t h0 ps now m a zs ev nn zo L:=by
 obtain ⟨Ns1,Ks1,c1,Ns2,Ks2,c2,Ss,σs,Ss1,σs1,h1,h2⟩:=h
 exact ⟨Ns1,Ks1,c1,Ns2,Ks2,c2,Ss,σs,Ss1,σs1,h1.keep hb,h2⟩
theorem ZH.hi (h:ZH W0 w b1 s b2 t h0 ps now m a zs ev nn zo L):h0≤w.heap.size:=by
 obtain ⟨Ns1,Ks1,c1,Ns2,Ks2,c2,Ss,σs,Ss1,σs1,h1,_⟩:=h
 exact h1.hi.2
theorem ZA.keep (h:ZA W0 w b1 s b2 t h0 ps now m P) (hb:Below w.heap.size w w'):ZA W0 w' b1 s b2 t h0 ps now m P:=by
 obtain ⟨Ns1,Ks1,c1,Ns2,Ks2,c2,Ss1,σs1,Ss2,σs2,h1,h2⟩:=h
 exact ⟨Ns1,Ks1,c1,Ns2,Ks2,c2,Ss1,σs1,Ss2,σs2,h1.keep hb,h2⟩
theorem ZA.own (h:ZA W0 w b1 s b2 t h0 ps now m P) {d:Nat} (f:Fr (fun b=>b=d) w w') (hd:h0≤d) (hW:W0.heap.size≤h0):ZA W0 w' b1 s b2 t h0 ps now m P:=by
 obtain ⟨Ns1,Ks1,c1,Ns2,Ks2,c2,Ss1,σs1,Ss2,σs2,h1,h2⟩:=h
 exact ⟨Ns1,Ks1,c1,Ns2,Ks2,c2,Ss1,σs1,Ss2,σs2,h1.keepQ f (fun b e=>by rw [e];exact Or.inr hd) (fun b e=>by rw [e];omega),h2⟩
theorem ZA.bl (h:ZA W0 w b1 s b2 t h0 ps now m P):Below W0.heap.size W0 w:=by
 obtain ⟨Ns1,Ks1,c1,Ns2,Ks2,c2,Ss1,σs1,Ss2,σs2,h1,_⟩:=h
 exact h1.bl
theorem TwC.inA {rs:List RuZ} {Ns1 Ns2:List LmN} {Ks1 Ks2:List CnN} {c1 c2:SvC} {Ss1 Ss2:List LmS} {σs1 σs2:List CnS} (h:TwC W0 w b1 s b2 t h0 rs Ns1 Ks1 c1 Ss1 σs1 Ns2 Ks2 c2 Ss2 σs2 m):(∀ b,svF s Ns1 Ks1 b→inS b1 h0 b)∧∀ b,svF t Ns2 Ks2 b→inS b1 h0 b :=
 ⟨fun b hb=>⟨h.a.sv_lo b hb,h.hi.1 b (Or.inl hb)⟩,fun b hb=>⟨Nat.le_trans h.lo.2 (h.b.sv_lo b hb),h.hi.1 b (Or.inr hb)⟩⟩
theorem ZS.one (h:ZS W0 w b1 s b2 t h0 ps now m) (ha:DoOK a) (h4:a.kd≠4) (hck:now≤a.ck) (hz:RdI w .u8 a.A a.na a.ca zs) (hg:∀ b off,0<a.na→a.A=some ⟨b,off,none⟩→b<b1∨h0≤b) (sed:Value) (hm:m+500*2097153≤576460752303423488) :
  Calls Tryz.prog 30 #[.pointer (some ⟨s,0,none⟩),actV a.kd a.ck (a.k:Int) (.slice a.A a.na a.ca) a.n sed] w fun e w'=>∃ (ev:Int) (nn:Nat) (zo:List Int) (L:List EvZ) (A3:Option Addr) (n3 c3:Nat) (A4:Option Addr) (n4 c4:Nat),e=.returned (stepQ ev (nn:Int) A3 n3 c3 A4 n4 c4)∧ZH W0 w' b1 s b2 t h0 ps now (m+500*2097153) a zs ev nn zo L∧RdI w' .u8 A3 n3 c3 zo∧(∀ b off,0<n3→A3=some ⟨b,off,none⟩→w.heap.size≤b)∧RdE w' A4 n4 L∧(∀ b off,0<n4→A4=some ⟨b,off,none⟩→w.heap.size≤b)∧n4≤1000000∧(∀ e ∈ L,e.key.size≤64)∧Fr (inS b1 h0) w w':=by
 obtain ⟨Ns1,Ks1,c1,Ns2,Ks2,c2,Ss,σs,h1,h2,h3,h5⟩:=h
 have hin:=h1.inA.1
 have hmm:m≤m+500*2097153∧m+500*2097153≤576460752303423488:=⟨by omega,hm⟩
 have hk:=ha.k
 have hl:σs.length=3:=by rw [← h1.a.at_.K.ln,h2.k1]
 obtain ⟨K0,hK0⟩:∃ K,Ks1[0]?=some K:=⟨_,zge (by rw [h2.k1];decide)⟩
 by_cases e3:a.k=3
 ·rw [e3]
  refine (h1.a.absent a.kd a.ck a.n 3 ha.ck _ _ h4 (fun wx c' hc e=>?_)).mono ?_
  ·exact (zc8 (i:=3) (by omega) (by rw [e];exact zmZ h1.a.at_.cK h2.k1 3 (by omega) (by omega)) wx hc).mono (fun e w2 h=>h)
  ·rintro e w' ⟨rfl,g1,g3⟩
   have f:Fr (chF s Ns1 K0) w w':=g3.mono (fun b hb=>Or.inr (Or.inl hb))
   exact ⟨1,0,[],[],none,0,0,none,0,0,rfl,⟨Ns1,Ks1,c1,Ns2,Ks2,c2,Ss,σs,Ss,σs,h1.opA hK0 (g1.mono hmm) hmm f,h2,h3,h5,Or.inl ⟨e3,rfl,rfl,rfl,rfl,rfl,rfl⟩⟩,zcH _ _,fun b off h0 _=>absurd h0 (by omega),RdE.nil _,fun b off h0 _=>absurd h0 (by omega),by omega,(fun e he=>by cases he),f.mono (fun b hb=>hin b (zcw hK0 hb))⟩
 ·obtain ⟨K1,hK1⟩:∃ K,Ks1[a.k]?=some K:=⟨_,zge (by rw [h2.k1];omega)⟩
  obtain ⟨σ,hσ⟩:∃ σ,σs[a.k]?=some σ:=⟨_,zge (by omega)⟩
  refine (h1.a.actP a.kd a.ck a.n ha.ck a.k a.A a.na a.ca zs sed hK1 hσ (h5 σ (List.mem_of_getElem? hσ)) h4 ha.na hm hz (fun b off h0 e=>h1.ncA hK1 (hg b off h0 e))).mono ?_
  rintro e w' ⟨A3,n3,c3,A4,n4,c4,rfl,r3,l3,r4,l4,h41,g1,g2,g3⟩
  have hkb:KBs Ss:=fun i τ hτ j k hk=>by
   obtain ⟨N,hN⟩:∃ N,Ns1[i]?=some N:=⟨_,zge (by rw [h1.a.at_.J.ln];exact (zgs.1 hτ).1)⟩
   exact ((h1.a.at_.J.at_ i N τ hN hτ).ks.bd j k hk).2
  exact ⟨_,_,_,_,A3,n3,c3,A4,n4,c4,rfl,⟨Ns1,Ks1,c1,Ns2,Ks2,c2,Ss,σs,_,_,h1.opA hK1 g1 hmm g3,h2,h3,h5,Or.inr ⟨h1.a.hn,K1,σ,_,hK1,hσ,(h1.a.K _ _ hK1).1,(h1.a.K _ _ hK1).2,rfl,rfl,rfl,g2,rfl,rfl,rfl,rfl⟩⟩,r3,l3,r4,l4,h41,zlD h1.a.hn hkb σ a.kd a.n zs,g3.mono (fun b hb=>hin b (zcw hK1 hb))⟩
theorem ZH.two (h:ZH W0 w b1 s b2 t h0 ps now m a zs ev nn zo L) (ha:DoOK a) (h4:a.kd≠4) (hck:now≤a.ck) (hz:RdI w .u8 a.A a.na a.ca zs) (hg:∀ b off,0<a.na→a.A=some ⟨b,off,none⟩→b<b1∨h0≤b) (sed:Value) (hm:m+500*2097153≤576460752303423488) :
  Calls Tryz.prog 30 #[.pointer (some ⟨t,0,none⟩),actV a.kd a.ck (a.k:Int) (.slice a.A a.na a.ca) a.n sed] w fun e w'=>∃ (ev2:Int) (nn2:Nat) (zo2:List Int) (L2:List EvZ) (B3:Option Addr) (m3 d3:Nat) (B4:Option Addr) (m4 d4:Nat),e=.returned (stepQ ev2 (nn2:Int) B3 m3 d3 B4 m4 d4)∧ZA W0 w' b1 s b2 t h0 ps a.ck (m+500*2097153) (ev=ev2∧nn=nn2∧zo=zo2∧L=L2)∧RdI w' .u8 B3 m3 d3 zo2∧(∀ b off,0<m3→B3=some ⟨b,off,none⟩→w.heap.size≤b)∧RdE w' B4 m4 L2∧(∀ b off,0<m4→B4=some ⟨b,off,none⟩→w.heap.size≤b)∧m4≤1000000∧Fr (inS b1 h0) w w':=by
 obtain ⟨Ns1,Ks1,c1,Ns2,Ks2,c2,Ss,σs,Ss1,σs1,h1,h2,h3,h5,h6⟩:=h
 have hin:=h1.inA.2
 have hmm:m≤m+500*2097153∧m+500*2097153≤576460752303423488:=⟨by omega,hm⟩
 have hk:=ha.k
 have hl:σs.length=3:=by rw [← h1.b.at_.K.ln,h2.k2]
 obtain ⟨K0,hK0⟩:∃ K,Ks2[0]?=some K:=⟨_,zge (by rw [h2.k2];decide)⟩
 rcases h6 with ⟨e3,rfl,rfl,rfl,rfl,rfl,rfl⟩ | ⟨hn,K1,σ,R,hK1,hσ,hs1,hr1,hR,rfl,rfl,hRB,rfl,rfl,rfl,rfl⟩
 ·rw [e3]
  refine (h1.b.absent a.kd a.ck a.n 3 ha.ck _ _ h4 (fun wx c' hc e=>?_)).mono ?_
  ·exact (zc8 (i:=3) (by omega) (by rw [e];exact zmZ h1.b.at_.cK h2.k2 3 (by omega) (by omega)) wx hc).mono (fun e w2 h=>h)
  ·rintro e w' ⟨rfl,g1,g3⟩
   have f:Fr (chF t Ns2 K0) w w':=g3.mono (fun b hb=>Or.inr (Or.inl hb))
   exact ⟨1,0,[],[],none,0,0,none,0,0,rfl,⟨Ns1,Ks1,_,Ns2,Ks2,_,Ss1,σs1,Ss1,σs1,h1.opB hK0 (g1.mono hmm) hmm f,h2.next hck,Or.inr ⟨⟨rfl,rfl,h3,h5⟩,rfl,rfl,rfl,rfl⟩⟩,zcH _ _,fun b off h0 _=>absurd h0 (by omega),RdE.nil _,fun b off h0 _=>absurd h0 (by omega),by omega,f.mono (fun b hb=>hin b (zcw hK0 hb))⟩
 ·have hk3:a.k<3:=by rw [← hl];exact (zgs.1 hσ).1
  obtain ⟨K2,hK2⟩:∃ K,Ks2[a.k]?=some K:=⟨_,zge (by rw [h2.k2];omega)⟩
  have hB:=h5 σ (List.mem_of_getElem? hσ)
  have hE:HoE (confR ps) (ho0 c1 a.ck Ss) (ho0 c2 a.ck Ss):=HoE.free h2.n1.2 h2.n2.2 (by have:=h2.n1.1;have:=h2.n2.1;omega) Ss
  have hT:=zlE (K1:=K1) (K2:=K2) hn h1.b.hn h2.la (by rw [hs1,(h1.b.K _ _ hK2).1]) (by rw [hr1,(h1.b.K _ _ hK2).2]) hE h3 hB.z a.kd a.n hz.byt
  rw [← hR] at hT
  refine (h1.b.actP a.kd a.ck a.n ha.ck a.k a.A a.na a.ca zs sed hK2 hσ hB h4 ha.na hm hz (fun b off h0 e=>h1.ncB hK2 (hg b off h0 e))).mono ?_
  rintro e w' ⟨B3,m3,d3,B4,m4,d4,rfl,r3,l3,r4,l4,h41,g1,g2,g3⟩
  refine ⟨_,_,_,_,B3,m3,d3,B4,m4,d4,rfl,⟨Ns1,Ks1,_,Ns2,Ks2,_,_,_,_,_,h1.opB hK2 g1 hmm g3,h2.next hck,?_⟩,r3,l3,r4,l4,h41,g3.mono (fun b hb=>hin b (zcw hK2 hb))⟩
  rcases hT with q | ⟨q1,q2⟩
  ·exact Or.inl q
  ·refine Or.inr ⟨⟨congrArg ActR.Ss q1,congrArg (fun r:ActR=>σs.set a.k r.σ) q1,q2,fun y hy=>?_⟩,congrArg ActR.e q1,congrArg ActR.n q1,congrArg ActR.out q1,congrArg ActR.evs q1⟩
   rcases zma hy with rfl | q
   ·exact hRB
   ·exact h5 y q
theorem ZA.tot (h:ZA W0 w b1 s b2 t h0 ps now m P) {p:RuZ} (hp:ps=[p]) (h7:p.Ce=7):∃ (l:Nat) (al de ba ln tt:Int),(∀ wx,Below w.heap.size w wx→Calls Tryz.prog 39 #[.pointer (some ⟨s,0,none⟩),.int .i64 0] wx (fun e w'=>e=.returned (.pointer (some ⟨l,0,none⟩))∧wx=w')∧Calls Tryz.prog 40 #[.pointer (some ⟨l,0,none⟩)] wx (fun e w'=>e=.returned (totV al de ba ln tt)∧Below wx.heap.size wx w'))∧(ln≠8→ZS W0 w b1 s b2 t h0 ps now m∧P):=by
 obtain ⟨Ns1,Ks1,c1,Ns2,Ks2,c2,Ss1,σs1,Ss2,σs2,h1,h2,h3⟩:=h
 have hc:confR ps=[planR p]:=by rw [hp];rfl
 have hl:Ns1.length=1:=by rw [h1.a.hn.nl,hc];rfl
 obtain ⟨N,hN⟩:∃ N,Ns1[0]?=some N:=⟨_,zge (by omega)⟩
 obtain ⟨σ,hσ⟩:∃ σ,Ss1[0]?=some σ:=⟨_,zge (by rw [← h1.a.at_.J.ln];omega)⟩
 obtain ⟨zz,hL⟩:=h1.a.hn.lr 0 (planR p) N (by rw [hc];rfl) hN
 have hn:=hL.pC
 have hn8:N.Q.N.n=8:=by
  rw [hn]
  show ((lqC p.Ce:Nat):Int).toNat=8
  rw [h7];rfl
 refine ⟨N.l,σ.al,σ.de,σ.ba,σ.len N,σ.tot,fun wx hb=>⟨ze4 (i:=0) (by omega) (znI h1.a hN) wx (h1.a.keep hb).at_.sv,zcr wx ((h1.a.keep hb).at_.J.at_ 0 N σ hN hσ)⟩,fun h8=>?_⟩
 rcases h3 with ⟨i,τ,h4,h5⟩ | ⟨⟨rfl,rfl,h5,h6⟩,h7'⟩
 ·exfalso
  have hi:i=0:=by
   have:=(zgs.1 h4).1
   have h9:=h1.a.at_.J.ln
   omega
  subst hi
  rw [hσ] at h4
  injection h4 with h4
  apply h8
  unfold LmS.len
  rw [h4,h5,hn8];rfl
 ·exact ⟨⟨Ns1,Ks1,c1,Ns2,Ks2,c2,Ss1,σs1,h1,h2,h5,h6⟩,h7'⟩
end
theorem ZS.start {W0 w w':World} {b1 s t:Nat} {ps:List RuZ} {sd1 sd2:List Int} {nb1 nb2:Nat} (h1:NwS w b1 s ps sd1 nb1) (h2:NwS w' w.heap.size t ps sd2 nb2) (hb:Below w.heap.size w w') (hbb:b1≤w.heap.size) (h0:W0.heap.size≤b1) (hbl:Below W0.heap.size W0 w):ZS W0 w' b1 s w.heap.size t w'.heap.size ps 0 0:=by
 obtain ⟨c1,Ns1,Ks1,g1,g2,g3,g4⟩:=h1
 obtain ⟨c2,Ns2,Ks2,k1,k2,k3,k4⟩:=h2
 have ga:=g1.keep hb
 refine ⟨Ns1,Ks1,c1,Ns2,Ks2,c2,_,[cZ,cZ,cZ],⟨ga,k1,fun b hb' hs=>by have h1:=g1.sv_lt b hb';have h2:=k1.sv_lo b hs;omega,⟨h0,hbb⟩,⟨fun x hx=>?_,Nat.le_refl _⟩,hbl.trans (hb.mono hbl.size)⟩,⟨znw g1.hn.nl k1.hn.nl g3 k3,g4,k4,⟨by rw [g2.now];decide,g2.rs⟩,⟨by rw [k2.now];decide,k2.rs⟩⟩,SdL.new g1.hn.nl g3,fun y hy=>?_⟩
 ·rcases hx with hx | hx
  ·exact ga.sv_lt x hx
  ·exact k1.sv_lt x hx
 ·have e:y=cZ:=by simpa using hy
  rw [e];exact zmL
structure AcL (W0 W w:World) (h0 hi:Nat) (v:Value) (ls:List DoV):Prop where
 ac:AcR W w v ls
 lo:h0≤W.heap.size∧hi≤w.heap.size
 db:∀ b,(DB ls b∨v.ownBlock=some b)→W.heap.size≤b∧b<hi
section
variable {W0 W w w':World} {b1 h0 hi:Nat} {v:Value} {ls:List DoV}
theorem AcL.keep (h:AcL W0 W w h0 hi v ls) (hb:Below w.heap.size w w'):AcL W0 W w' h0 hi v ls :=
 ⟨h.ac.fr (F:=fun _=>False) (Fr.of_below hb) (fun _ hk=>hk.elim),⟨h.lo.1,Nat.le_trans h.lo.2 hb.size⟩,h.db⟩
theorem AcL.sv (h:AcL W0 W w h0 hi v ls) (f:Fr (inS b1 h0) w w'):AcL W0 W w' h0 hi v ls :=
 ⟨h.ac.fr2 f (fun b hb hF=>by have h1:=h.db b hb;have h2:=hF.2;have h3:=h.lo.1;omega),⟨h.lo.1,Nat.le_trans h.lo.2 f.size⟩,h.db⟩
theorem AcL.own (h:AcL W0 W w h0 hi v ls) {d:Nat} (f:Fr (fun b=>b=d) w w') (hd:d<W.heap.size∨hi≤d):AcL W0 W w' h0 hi v ls :=
 ⟨h.ac.fr2 f (fun b hb hF=>by have h1:=h.db b hb;omega),⟨h.lo.1,Nat.le_trans h.lo.2 f.size⟩,h.db⟩
theorem AcL.start (ha:AcR w w' v ls) (hb:Below w.heap.size w w') (hh0:h0≤w.heap.size):AcL W0 w w' h0 w'.heap.size v ls:=by
 refine ⟨ha,⟨hh0,Nat.le_refl _⟩,fun b hb'=>?_⟩
 rcases hb' with q | q
 ·obtain ⟨a,ha',hq⟩:=q
  exact ⟨(ha.db b ⟨a,ha',hq⟩).1,(ha.hold a ha').lt b ⟨a,List.mem_singleton.2 rfl,hq⟩⟩
 ·exact ⟨ha.out.base_le b q,ha.out.lt b q⟩
theorem AcL.dat (h:AcL W0 W w h0 hi v ls) {a:DoV} (ha:a ∈ ls):DoOK a∧∃ zs,RdI w .u8 a.A a.na a.ca zs∧∀ b off,0<a.na→a.A=some ⟨b,off,none⟩→W.heap.size≤b∧b<hi:=by
 have hH:=h.ac.hold a ha
 obtain ⟨zs,hz⟩:=hH.dat
 exact ⟨hH.ok,zs,hz,fun b off h1 e=>h.db b (Or.inl ⟨a,ha,Or.inl ⟨h1,off,e⟩⟩)⟩
end
end Go.Proofs.YtambcbbekoehiaaGreat
