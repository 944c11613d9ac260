import Derived.Test.YtambcbbekoehiaaGreatSdB
set_option linter.unusedSimpArgs false
set_option linter.unusedVariables false
set_option maxRecDepth 100000
set_option maxHeartbeats 9000000
namespace Go.Proofs.YtambcbbekoehiaaGreat
open Go.ChangeShapes Go.WideShapes Go.ChangeAt Go.RowKit
section
variable {w w':World} {b1 h0 hi b d mb:Nat} {T:TypeId} {cs:Array Value} {A:Option Addr} {n c:Nat} {L:List EvZ} {zs:List Int}
abbrev BxA (w:World) (h0 hi b:Nat) (T:TypeId) (cs:Array Value):Prop:=Blk w b T cs∧h0≤b∧hi≤b
abbrev NeZ (A:Option Addr) (n d:Nat):Prop:=∀ b off,0<n→A=some ⟨b,off,none⟩→b≠d
structure OuA (w:World) (h0 mb:Nat) (A:Option Addr) (n c:Nat) (zs:List Int):Prop where
 r:RdI w .u8 A n c zs
 lo:∀ b off,0<n→A=some ⟨b,off,none⟩→h0≤b
 ne:NeZ A n mb
structure EvB (w:World) (h0 mb:Nat) (A:Option Addr) (n:Nat) (L:List EvZ):Prop where
 r:RdE w A n L
 lo:∀ b off,0<n→A=some ⟨b,off,none⟩→h0≤b
 ne:NeZ A n mb
theorem bxK (h:Hid (BxA w h0 hi b T cs)) (hb:Below w.heap.size w w'):Hid (BxA w' h0 hi b T cs):=zhz ⟨h.out.1.keep hb,h.out.2⟩
theorem bxF (h:Hid (BxA w h0 hi b T cs)) (f:Fr (inS b1 h0) w w'):Hid (BxA w' h0 hi b T cs):=zhz ⟨h.out.1.fr f (fun hh=>by have h9:=hh.2;have:=h.out.2;omega),h.out.2⟩
theorem bxO (h:Hid (BxA w h0 hi b T cs)) (f:Fr (fun k=>k=d) w w') (hn:Hid (b≠d)):Hid (BxA w' h0 hi b T cs):=zhz ⟨h.out.1.fr f (fun hh=>hn.out hh),h.out.2⟩
theorem bxN (h:Hid (BxA w h0 hi b T cs)) (hd:d=w.heap.size):Hid (b≠d):=zhz (by have:=lt_of_block h.out.1;omega)
theorem bxN' (h:Hid (BxA w h0 hi b T cs)) (hd:d=w.heap.size):Hid (d≠b):=zhz (by have:=lt_of_block h.out.1;omega)
theorem OuA.keep (h:OuA w h0 mb A n c zs) (hb:Below w.heap.size w w'):OuA w' h0 mb A n c zs:=⟨h.r.below hb,h.lo,h.ne⟩
theorem OuA.sv (h:OuA w h0 mb A n c zs) (f:Fr (inS b1 h0) w w'):OuA w' h0 mb A n c zs:=⟨zd7 h.r f (fun b off h1 e hh=>by have h9:=hh.2;have:=h.lo b off h1 e;omega),h.lo,h.ne⟩
theorem OuA.own (h:OuA w h0 mb A n c zs) (f:Fr (fun k=>k=d) w w') (hn:NeZ A n d):OuA w' h0 mb A n c zs:=⟨zd7 h.r f (fun b off h1 e hh=>hn b off h1 e hh),h.lo,h.ne⟩
theorem EvB.keep (h:EvB w h0 mb A n L) (hb:Below w.heap.size w w'):EvB w' h0 mb A n L:=⟨h.r.below hb,h.lo,h.ne⟩
theorem EvB.sv (h:EvB w h0 mb A n L) (f:Fr (inS b1 h0) w w'):EvB w' h0 mb A n L:=⟨h.r.fr f (fun b off h1 e hh=>by have h9:=hh.2;have:=h.lo b off h1 e;omega),h.lo,h.ne⟩
theorem EvB.own (h:EvB w h0 mb A n L) (f:Fr (fun k=>k=d) w w') (hn:NeZ A n d):EvB w' h0 mb A n L:=⟨h.r.fr f (fun b off h1 e hh=>hn b off h1 e hh),h.lo,h.ne⟩
structure ReA (w:World) (h0 mb:Nat) (A:Option Addr) (n c:Nat) (zs:List Int) (B:Option Addr) (m:Nat) (L:List EvZ):Prop where
 r:OuA w h0 mb A n c zs
 e:EvB w h0 mb B m L
abbrev NeR (A:Option Addr) (n:Nat) (B:Option Addr) (m d:Nat):Prop:=NeZ A n d∧NeZ B m d
structure BsA (w0 W w:World) (h0 hi mb cnt:Nat) (V:ByteArray→Option Value) (v:Value) (ls:List DoV) (b:Nat) (T:TypeId) (cs:Array Value) (A:Option Addr) (n c:Nat) (zs:List Int):Prop where
 q:BxA w h0 hi b T cs
 al:AcL w0 W w h0 hi v ls
 mp:Mp.MapS Tryz.prog 9 w mb cnt V
 dt:OuA w h0 mb A n c zs
 dh:∀ b off,0<n→A=some ⟨b,off,none⟩→b<hi
 hm:h0≤mb∧mb<hi∧h0≤hi
variable {w0 W:World} {cnt m:Nat} {V:ByteArray→Option Value} {v:Value} {ls:List DoV} {B:Option Addr}
theorem ReA.keep (h:ReA w h0 mb A n c zs B m L) (hb:Below w.heap.size w w'):ReA w' h0 mb A n c zs B m L:=⟨h.r.keep hb,h.e.keep hb⟩
theorem ReA.mpF (h:ReA w h0 mb A n c zs B m L) (f:Fr (fun k=>k=mb) w w'):ReA w' h0 mb A n c zs B m L:=⟨h.r.own f h.r.ne,h.e.own f h.e.ne⟩
theorem reK (h:Hid (ReA w h0 mb A n c zs B m L)) (hb:Below w.heap.size w w'):Hid (ReA w' h0 mb A n c zs B m L):=zhz (h.out.keep hb)
theorem reF (h:Hid (ReA w h0 mb A n c zs B m L)) (f:Fr (inS b1 h0) w w'):Hid (ReA w' h0 mb A n c zs B m L):=zhz ⟨h.out.r.sv f,h.out.e.sv f⟩
theorem reO (h:Hid (ReA w h0 mb A n c zs B m L)) (f:Fr (fun k=>k=d) w w') (hn:Hid (NeR A n B m d)):Hid (ReA w' h0 mb A n c zs B m L):=zhz ⟨h.out.r.own f hn.out.1,h.out.e.own f hn.out.2⟩
theorem bsK (h:Hid (BsA w0 W w h0 hi mb cnt V v ls b T cs A n c zs)) (hb:Below w.heap.size w w'):Hid (BsA w0 W w' h0 hi mb cnt V v ls b T cs A n c zs):=zhz ⟨⟨h.out.q.1.keep hb,h.out.q.2⟩,h.out.al.keep hb,h.out.mp.keep hb,h.out.dt.keep hb,h.out.dh,h.out.hm⟩
theorem bsF (h:Hid (BsA w0 W w h0 hi mb cnt V v ls b T cs A n c zs)) (f:Fr (inS b1 h0) w w'):Hid (BsA w0 W w' h0 hi mb cnt V v ls b T cs A n c zs):=zhz ⟨⟨h.out.q.1.fr f (fun hh=>by have h9:=hh.2;have:=h.out.q.2;omega),h.out.q.2⟩,h.out.al.sv f,h.out.mp.fr f (fun hh=>by have h9:=hh.2;have:=h.out.hm;omega),h.out.dt.sv f,h.out.dh,h.out.hm⟩
theorem bsO (h:Hid (BsA w0 W w h0 hi mb cnt V v ls b T cs A n c zs)) (f:Fr (fun k=>k=d) w w') (hd:hi≤d) (hn:Hid (b≠d)):Hid (BsA w0 W w' h0 hi mb cnt V v ls b T cs A n c zs):=zhz ⟨⟨h.out.q.1.fr f (fun hh=>hn.out hh),h.out.q.2⟩,h.out.al.own f (Or.inr hd),h.out.mp.fr f (fun (e:mb=d)=>by have:=h.out.hm;omega),h.out.dt.own f (fun b off h1 e e2=>by have:=h.out.dh b off h1 e;omega),h.out.dh,h.out.hm⟩
theorem bsN (h:Hid (BsA w0 W w h0 hi mb cnt V v ls b T cs A n c zs)) (hd:d=w.heap.size):Hid (b≠d):=zhz (by have:=lt_of_block h.out.q.1;omega)
theorem bxI {T':TypeId} {cs':Array Value} (k:Blk w' d T' cs') (hd:d=w.heap.size) (h:Hid (BsA w0 W w h0 hi mb cnt V v ls b T cs A n c zs)):Hid (BxA w' h0 hi d T' cs'):=zhz ⟨k,by have h1:=h.out.al.lo.2;have h2:=h.out.hm;omega⟩
theorem reI {A':Option Addr} {n' c':Nat} {zs':List Int} (h1:RdI w' .u8 A' n' c' zs') (hl1:∀ b off,0<n'→A'=some ⟨b,off,none⟩→w.heap.size≤b) (h2:RdE w' B m L) (hl2:∀ b off,0<m→B=some ⟨b,off,none⟩→w.heap.size≤b) (h:Hid (BsA w0 W w h0 hi mb cnt V v ls b T cs A n c zs)) (h0':h0≤w.heap.size):Hid (ReA w' h0 mb A' n' c' zs' B m L) :=
 have hm:=h.out.mp.lt
 zhz ⟨⟨h1,fun b off q e=>Nat.le_trans h0' (hl1 b off q e),fun b off q e h2=>by have:=hl1 b off q e;omega⟩,⟨h2,fun b off q e=>Nat.le_trans h0' (hl2 b off q e),fun b off q e h2=>by have:=hl2 b off q e;omega⟩⟩
theorem reD (hl1:∀ b off,0<n→A=some ⟨b,off,none⟩→w.heap.size≤b) (hl2:∀ b off,0<m→B=some ⟨b,off,none⟩→w.heap.size≤b) (h:Hid (BxA w h0 hi d T cs)):Hid (NeR A n B m d) :=
 have h4:=lt_of_block h.out.1
 zhz ⟨fun b off h1 e h2=>by have h3:=hl1 b off h1 e;omega,fun b off h1 e h2=>by have h3:=hl2 b off h1 e;omega⟩
theorem reN (h:Hid (ReA w h0 mb A n c zs B m L)) (hd:d=w.heap.size):Hid (NeR A n B m d):=zhz ⟨fun b off h1 e h2=>by
 obtain ⟨b',off',e',hlt,_⟩:=h.out.r.r.at_ h1
 rw [e] at e'
 injection e' with e'
 injection e' with e'
 omega,fun b off h1 e h2=>by
 obtain ⟨b',off',e',hlt,_⟩:=h.out.e.r.at_ h1
 rw [e] at e'
 injection e' with e'
 injection e' with e'
 omega⟩
theorem twiceT {Q:Prop} (G:Prop) (k:G→Q) (p:G):Q:=k p
theorem bNewS (w:World):∃ w' b,w.alloc (.cells #[.int .i64 0,.int .i64 0,.slice none 0 0,.slice none 0 0] 68)=w'∧Blk w' b 68 #[.int .i64 0,.int .i64 0,.slice none 0 0,.slice none 0 0]∧Below w.heap.size w w'∧b=w.heap.size:=by
 obtain ⟨w1,h1,k1,b1,s1⟩:=zad w #[.int .i64 0,.int .i64 0,.slice none 0 0,.slice none 0 0] 68
 exact ⟨w1,_,h1,k1,b1,rfl⟩
theorem zet {b:Nat} {t:TypeId} {a0 a1 a2 a3:Value} (h:Blk w b t #[a0,a1,a2,a3]) (v0 v1 v2 v3:Value):∃ y,((((w.setCell ⟨b,0,none⟩ v0).setCell ⟨b,1,none⟩ v1).setCell ⟨b,2,none⟩ v2).setCell ⟨b,3,none⟩ v3)=y∧Fr (fun k=>k=b) w y∧Blk y b t #[v0,v1,v2,v3] :=
 ⟨_,zaj h,Fr.setObj (F:=fun k=>k=b) (Fr.refl _ w) rfl _,zab (lt_of_block h) _⟩
end
theorem zns (a d b c t:Int) (w:World):(Instr.field 89 (.agg #[.int .i64 a,.int .i64 d,.int .i64 b,.int .i64 c,.int .i64 t]) 3).run Tryz.prog w=.ok (.int .i64 c) w:=by kernel_rfl
theorem wholeseeds_law (w:World) (a b c d e f g h:Int) (sm:Bool) (A1:Option Addr) (n1 c1:Nat) (z1:List Int) (A2:Option Addr) (n2 c2:Nat) (z2:List Int) (Ad:Option Addr) (nd cd:Nat) (L:List DeZ) (hpl:RuleOK a b c d e f g h) (hs1:RdI w .u64 A1 n1 c1 z1) (hs2:RdI w .u64 A2 n2 c2 z2) (hrd:RdDe w Ad nd cd L) :
  Calls Tryz.prog 6 #[planV a b c d e f g h sm,.agg #[.slice A1 n1 c1,.slice A2 n2 c2],.slice Ad nd cd] w fun e w'=>e=.returned (.bool true)∧Below w.heap.size w w':=by
 have hmx1:=hs1.max
 have hmx2:=hs2.max
 have hmxd:=hrd.max
 unfold maxLen at hmx1 hmx2 hmxd
 have hcp1:=hs1.cap
 have hcp2:=hs2.cap
 have hcpd:=hrd.cap
 have HS1:=zhz hs1
 have HS2:=zhz hs2
 have HRD:=zhz hrd
 have HPL:=zhz (show RuleOK a b c d 7 f g h from ⟨hpl.1,hpl.2.1,hpl.2.2.1,hpl.2.2.2.1,by unfold i64In;decide,hpl.2.2.2.2.2⟩)
 have HN:=zhz (show n1≤9223372036854775807∧n2≤9223372036854775807 from by omega)
 have hmm:=@run_makeMap Tryz.prog
 clear hs1 hs2 hrd hpl
 obtain ⟨w1,hw1,k1,l1',s1⟩:=zad w (planC a b c d e f g h sm) 72
 obtain ⟨w2,hw2,k2,l2',s2⟩:=zad w1 #[.slice A1 n1 c1,.slice A2 n2 c2] 96
 obtain ⟨pl,hpl⟩:=zeq (w.heap.size)
 obtain ⟨lb,hlb⟩:=zeq (w1.heap.size)
 have HLP:=zhz (show lb≠pl∧w.heap.size≤pl from by omega)
 rw [← hpl] at k1
 rw [← hlb] at k2
 have K2:=zhz (show Blk w2 pl _ _ from k1.keep l2')
 have KL2:=zhz k2
 have B2:=zhz (show Below w.heap.size w w2 from zae l1' l2')
 have HB:=zhz (And.intro hpl hlb)
 clear k1 l1' s1 k2 l2' s2
 go_enter Tryz.func6,Tryz.ntmps6
 go_upto_region 1 with (fail)
 rw [← HB.out.2,← HB.out.1]
 clear hw1 hw2 hpl hlb
 go_upto_region 3 with (go_at_call 14;((refine (zjB _).mono ?_);rintro e w3 ⟨rfl,b3⟩;have K3:=zhz (K2.out.keep b3);have KL3:=zhz (KL2.out.keep b3);have B3:=zhz (zae B2.out b3);clear b3))
 have kl:=KL3.out.rd
 obtain ⟨y0,hy0⟩:∃ z,z=IntKind.i64.wrap ((n1:Int)+(n2:Int)):=⟨_,rfl⟩
 have ey0:IntKind.i64.wrap ((n1:Int)+(n2:Int))=y0:=hy0.symm
 clear hy0
 have CL:=zhz (zf7 Ad nd cd L w3 (HRD.out.below B3.out))
 by_cases h50:(50:Int)<y0
 ·go_wp2
  go_ret
  exact ⟨rfl,B3.out⟩
 cases hlb:lightD L with
 | false =>
  rw [hlb] at CL
  go_wp2_with (go_at_call 15;((with_reducible refine CL.out.mono ?_);rintro e w5 ⟨rfl,b5⟩;have B5:=zhz (zae B3.out b5);clear b5))
  go_ret
  exact ⟨rfl,B5.out⟩
 | true =>
 rw [hlb] at CL
 have HLG:=zhz (ziI hlb)
 clear hlb
 go_upto_region 5 with (go_at_call 15;((with_reducible refine CL.out.mono ?_);rintro e w5 ⟨rfl,b5⟩;have B5:=zhz (zae B3.out b5);have K5:=zhz (K3.out.keep b5);have KL5:=zhz (KL3.out.keep b5);clear b5))
 clear CL h50 ey0 kl
 obtain ⟨w6,e6,k6,f6⟩:=zaW K5.out 4 (.int .i64 7)
 have K6:=zhz (show Blk w6 pl 72 (planC a b c d 7 f g h sm) from k6)
 have KL6:=zhz (KL5.out.fr f6 (fun hh=>HLP.out.1 hh))
 have B6:=zhz (B5.out.trans (f6.below B5.out.size (fun k hk=>by rw [hk];exact HLP.out.2)))
 have kpw:=K5.out.wr
 have kpr:=K5.out.rd
 clear k6 f6
 go_upto_region 6 with (fail)
 try rw [e6]
 clear e6 kpw kpr
 have kp:=K6.out.rd
 obtain ⟨w7,hw7,k7,b7,s7⟩:=zad w6 (planC a b c d 7 f g h sm) 72
 obtain ⟨pb,hpb⟩:=zeq (w6.heap.size)
 rw [← hpb] at k7
 have CF:=zhz (zgV [⟨a,b,c,d,7,f,g,h,sm⟩] 660 (some ⟨pb,0,none⟩) 1 1 0 rfl w7 (zkI k7 HPL.out))
 have B7:=zhz (zae B6.out b7)
 have KL7:=zhz (KL6.out.keep b7)
 have HPB:=zhz hpb
 obtain ⟨ps,hps⟩:∃ z:List RuZ,z=[⟨a,b,c,d,7,f,g,h,sm⟩]:=⟨_,rfl⟩
 rw [← hps] at CF
 have HPS:=zhz hps
 clear k7 b7 s7 hpb hps
 go_upto_region 7 with (first
  | (rw [← HPB.out];go_at_call 16;((with_reducible refine CF.out.mono ?_);rintro e w8 ⟨A',m',c',rfl,r8,z8,b8⟩;obtain ⟨x1,x2,ex1,kr,kw,ex2,b9,k9⟩:=box4K w8 (.int .i64 4294967296) (.int .i64 3) (.int .i64 660) (.slice A' m' c');have B9:=zhz (zae (zae B7.out b8) b9);have R9:=zhz (r8.below b9);have Z9:=zhz z8;have KC9:=zhz k9;have KL9:=zhz ((KL7.out.keep b8).keep b9);clear r8 z8 b8 b9 k9)))
 try rw [ex2]
 clear ex1 kr kw ex2 hw7 kp CF
 obtain ⟨cb,hcb⟩:=zeq (w8.heap.size)
 rw [← hcb] at KC9 ⊢
 clear hcb
 have kc:=KC9.out.rd
 have kl:=KL9.out.rd
 have HNW:=zhz (svnewN ps 660 A' m' c' A1 n1 c1 z1 x2 R9.out Z9.out (by omega) HN.out.1 (HS1.out.below B9.out))
 go_upto_region 8 with (go_at_call 17;((with_reducible refine HNW.out.mono ?_);rintro e wa ⟨s,rfl,ha,ba⟩;have HA:=zhz ha;have BA:=zhz (zae B9.out ba);have RA:=zhz (R9.out.below ba);have KCA:=zhz (KC9.out.keep ba);have KLA:=zhz (KL9.out.keep ba);have BX:=zhz ba;clear ha ba))
 clear HNW kc kl
 have kc:=KCA.out.rd
 have kl:=KLA.out.rd
 have HNW:=zhz (svnewN ps 660 A' m' c' A2 n2 c2 z2 wa RA.out Z9.out (by omega) HN.out.2 (HS2.out.below BA.out))
 go_upto_region 9 with (go_at_call 17;((with_reducible refine HNW.out.mono ?_);rintro e wb ⟨t,rfl,hb,bb⟩;have HS:=zhz (ZS.start HA.out hb bb BX.out.size B9.out.size BA.out);have HWW:=zhz (Nat.le_trans BA.out.size bb.size);clear hb bb))
 clear HNW kc kl
 obtain ⟨base,hbase⟩:=zeq (x2.heap.size)
 obtain ⟨b2,hb2'⟩:=zeq (wa.heap.size)
 obtain ⟨h0,hh0⟩:=zeq (wb.heap.size)
 have HWH:=zhz (show w.heap.size≤h0 from by rw [hh0];exact HWW.out)
 rw [← hbase,← hb2',← hh0] at HS
 clear hbase hb2'
 have hm0:Mp.MapS Tryz.prog 9 (wb.alloc (.map #[] 0)) wb.heap.size 0 (fun _=>none):=Mp.MapS.new (P:=Tryz.prog) (k:=9) wb
 obtain ⟨mb,hmb⟩:=zeq (wb.heap.size)
 rw [← hmb] at hm0
 have bl9:Below wb.heap.size wb (wb.alloc (.map #[] 0)):=(Below.refl _ _).alloc (Nat.le_refl _) _
 have T2:=zhz (HS.out.keep bl9)
 have M2:=zhz hm0
 have HM0:=zhz (show h0≤mb from by omega)
 have HME:=zhz hmb
 clear hm0 hmb bl9 hh0
 go_upto_region 10 with (fail)
 try rw [← HME.out]
 clear hmm
 generalize wb.alloc (.map #[] 0)=wm at T2 M2 ⊢
 have CDe:=zhz (zig Ad nd cd L wm (HRD.out.below T2.out.bl) (by have h1:=HLG.out.1;have h2:=HRD.out.len;omega))
 have HAc:=zhz (fun (wx:World) (g8 c8:Nat) (r8:RdDe wx (some ⟨g8,0,none⟩) (2+nd) c8 ([dzE 0,dzE 1]++L))=>show Calls Tryz.prog 20 #[.slice (some ⟨g8,0,none⟩) (2+nd) c8,.int .i64 1] wx (fun e w'=>∃ v ls,e=.returned v∧AcR wx w' v ls∧ls.length=2+nd∧Below wx.heap.size wx w') from zhI _ _ c8 _ 1 (by omega) wx r8 (by rw [List.length_append];have:=HLG.out.1;show 2+L.length≤160;omega) (fun d hd=>by
  rcases List.mem_append.1 hd with q | q
  ·rcases List.mem_cons.1 q with rfl | q
   ·exact ⟨Nat.zero_le _,Nat.zero_le _⟩
   ·rw [List.mem_singleton.1 q];exact ⟨Nat.zero_le _,Nat.zero_le _⟩
  ·exact HLG.out.2 d q))
 go_upto_region 11 with (first
  | (go_at_call 21;((with_reducible refine CDe.out.mono ?_);rintro e wd ⟨gd,cd',rfl,rd,bd⟩;have RD:=zhz rd;have TD:=zhz (T2.out.keep bd);have MD:=zhz (M2.out.keep bd);clear rd bd))
  | (go_at_call 20;((with_reducible refine (HAc.out _ _ _ RD.out).mono ?_);rintro e w9 ⟨v9,ls,rfl,a9,l9,b9⟩;obtain ⟨A9,c9,hv9⟩:=a9.slice;have AL9:=zhz (AcL.start (W0:=w) a9 b9 TD.out.hi);have L9:=zhz (And.intro l9 HLG.out.1);have T9:=zhz (TD.out.keep b9);have M9:=zhz (MD.out.keep b9);have S9:=zhz (show mb<wd.heap.size∧wd.heap.size≤w9.heap.size from ⟨MD.out.lt,b9.size⟩);subst hv9;clear a9 l9 b9)))
 clear CDe HAc
 obtain ⟨hi,hhi⟩:=zeq (w9.heap.size)
 rw [← hhi] at AL9
 have HMH:=zhz (show mb<hi from by have:=S9.out;omega)
 have HHI:=zhz (show h0≤hi from by rw [hhi];exact T9.out.hi)
 clear hhi
 have HMI:=zhz (show ¬ inS base h0 mb from fun hh=>by have h1:=hh.2;have h2:=HM0.out;omega)
 obtain ⟨nn,hnn⟩:=zeq (ls.length)
 have HNN:=zhz (show nn=ls.length∧nn≤152 from ⟨hnn,by have:=L9.out;have:=HRD.out.len;omega⟩)
 try rw [← hnn]
 rw [← hnn] at AL9
 clear hnn
 go_wp2
 go_loopg [57] nn (fun kk si wr=>∃ (i cnt:Nat) (now:Int) (V:ByteArray→Option Value),i≤nn∧Hid (kk=nn - i)∧si=.int .i64 (i:Int)∧Hid (ZS w wr base s b2 t h0 ps now (1000*2097153*(i:Int)))∧Hid (AcL w wd wr h0 hi (.slice A9 nn c9) ls)∧Hid (Mp.MapS Tryz.prog 9 wr mb cnt V)∧Hid (cnt≤1000000*i)∧Hid (0≤now∧∀ (j:Nat) a,i≤j→ls[j]?=some a→now≤a.ck))
 case atStart=>exact ⟨0,0,0,_,by omega,zhz rfl,rfl,zhz (by rw [show 1000*2097153*((0:Nat):Int)=0 by omega];exact T9.out),AL9,M9,zhz (by omega),zhz ⟨Int.le_refl _,fun j a _ ha=>(AL9.out.ac.hold a (List.mem_of_getElem? ha)).ck.1⟩⟩
 case round =>
  obtain ⟨i,cnt,now,V,hi',HKK,rfl,HZ,HL,HM,HCN,HNW⟩:=hrel
  by_cases hin:i<nn
  ·obtain ⟨g',cg,hvg,hg1,hg2,hcg⟩:=HL.out.ac.at_ (by have:=HNN.out;omega)
   injection hvg with hvA hvn hvc
   subst hvA
   clear hvn hvc
   obtain ⟨a',ha⟩:∃ a,ls[i]?=some a:=⟨_,zge (by have:=HNN.out;omega)⟩
   have HAM:=zhz (List.mem_of_getElem? ha)
   have HAH:=zhz (HL.out.ac.hold a' HAM.out)
   have HAS:=zhz (show ∀ (q:Nat) a2,i+1≤q→ls[q]?=some a2→a'.ck≤a2.ck from fun q a2 hq ha'=>by
    obtain ⟨h1,e1⟩:=zgs.1 ha
    obtain ⟨h2,e2⟩:=zgs.1 ha'
    have:=List.pairwise_iff_getElem.1 HL.out.ac.so i q h1 h2 (by omega)
    rw [e1,e2] at this
    omega)
   have HNA:=zhz (HNW.out.2 i a' (Nat.le_refl _) ha)
   have hca:=hcg i a' ha
   obtain ⟨kd,ck,k,dA,na,ca,dn,sB,nb,cb'⟩:=a'
   have kr0:wr.cell? ⟨g',i*6,none⟩=some (.int .i64 kd):=hca 0 (by omega)
   have kr1:wr.cell? ⟨g',i*6+1,none⟩=some (.int .i64 ck):=hca 1 (by omega)
   have kr2:wr.cell? ⟨g',i*6+2,none⟩=some (.int .i64 (k:Int)):=hca 2 (by omega)
   have kr3:wr.cell? ⟨g',i*6+3,none⟩=some (.slice dA na ca):=hca 3 (by omega)
   have kr4:wr.cell? ⟨g',i*6+4,none⟩=some (.int .i64 dn):=hca 4 (by omega)
   have kr5:wr.cell? ⟨g',i*6+5,none⟩=some (.slice sB nb cb'):=hca 5 (by omega)
   obtain ⟨x1,x2,ex1,kr,kw,ex2,bl2,kc2⟩:=box6E wr (.int .i64 kd) (.int .i64 ck) (.int .i64 (k:Int)) (.slice dA na ca) (.int .i64 dn) (.slice sB nb cb')
   obtain ⟨bx,hbx⟩:=zeq (wr.heap.size)
   rw [← hbx] at kc2
   have Z2:=zhz (HZ.out.keep bl2)
   have L2':=zhz (HL.out.keep bl2)
   have M2':=zhz (HM.out.keep bl2)
   have HBX:=zhz hbx
   have KC:=zhz (show BxA x2 h0 hi bx 64 #[.int .i64 kd,.int .i64 ck,.int .i64 (k:Int),.slice dA na ca,.int .i64 dn,.slice sB nb cb'] from ⟨kc2,by rw [hbx];exact HZ.out.hi,by rw [hbx];exact HL.out.lo.2⟩)
   have t2:(i:Int)<(nn:Int):=by omega
   have t3:(nn:Int)≤152:=by have:=HNN.out.2;omega
   have HIN:=zhz hin
   clear hcg hca ha bl2 kc2 hbx hg1 hg2 hin
   go_upto_region 13 with (fail)
   try rw [ex2]
   rw [← HBX.out]
   clear ex1 kr kw ex2 kr0 kr1 kr2 kr3 kr4 kr5
   have kx:=KC.out.1.rd
   by_cases h4:kd=4
   ·subst h4
    go_wp2
    go_roundg (nn - (i+1))
    case measure=>have:=HKK.out;have:=HIN.out;omega
    case rel=>exact ⟨i+1,cnt,now,V,HIN.out,zhz rfl,by go_num,zhz (Z2.out.mono (by have:=HIN.out;omega)),L2',M2',zhz (by have:=HCN.out;omega),zhz ⟨HNW.out.1,fun q a2 hq ha2=>Int.le_trans HNA.out (HAS.out q a2 hq ha2)⟩⟩
   ·have t4:(kd==4)=false:=by simp [h4]
    have H4:=zhz h4
    clear h4
    go_upto_region 14 with (fail)
    clear t4 kx
    obtain ⟨hok,zz,hzz,hzl⟩:=L2'.out.dat HAM.out
    have HOK:=zhz hok
    have D2:=zhz (show BsA w wd x2 h0 hi mb cnt V (.slice (some ⟨g',0,none⟩) nn c9) ls bx 64 #[.int .i64 kd,.int .i64 ck,.int .i64 (k:Int),.slice dA na ca,.int .i64 dn,.slice sB nb cb'] dA na ca zz from ⟨KC.out,L2'.out,M2'.out,⟨hzz,fun b off h1 e=>Nat.le_trans L2'.out.lo.1 (hzl b off h1 e).1,fun b off h1 e h2=>by have h3:=(hzl b off h1 e).1;have h4:=S9.out.1;omega⟩,fun b off h1 e=>(hzl b off h1 e).2,HM0.out,HMH.out,HHI.out⟩)
    clear hok hzz hzl
    go_cut [15,16] from 58 to 95 (fun s15 s16 wx=>∃ (xb yb:Nat) (ev:Int) (nx:Nat) (zo:List Int) (Lv:List EvZ) (A3:Option Addr) (n3 c3:Nat) (A4:Option Addr) (n4 c4:Nat) (ev2:Int) (nx2:Nat) (zo2:List Int) (L2:List EvZ) (B3:Option Addr) (m3 d3:Nat) (B4:Option Addr) (m4 d4:Nat),s15=.pointer (some ⟨xb,0,none⟩)∧s16=.pointer (some ⟨yb,0,none⟩)∧Hid (BxA wx h0 hi xb 68 #[.int .i64 ev,.int .i64 (nx:Int),.slice A3 n3 c3,.slice A4 n4 c4])∧Hid (BxA wx h0 hi yb 68 #[.int .i64 ev2,.int .i64 (nx2:Int),.slice B3 m3 d3,.slice B4 m4 d4])∧Hid (ReA wx h0 mb A3 n3 c3 zo A4 n4 Lv)∧Hid (ReA wx h0 mb B3 m3 d3 zo2 B4 m4 L2)∧Hid (n4≤1000000∧∀ e ∈ Lv,e.key.size≤64)∧Hid (ZA w wx base s b2 t h0 ps ck (1000*2097153*(i:Int)+500*2097153+500*2097153) (ev=ev2∧nx=nx2∧zo=zo2∧Lv=L2))∧Hid (AcL w wd wx h0 hi (.slice (some ⟨g',0,none⟩) nn c9) ls)∧Hid (Mp.MapS Tryz.prog 9 wx mb cnt V))
    case first =>
     have N1:=zhz (show Below x2.heap.size x2 x2.drew from zaa (Below.refl _ _) 1)
     obtain ⟨W0,hW0⟩:=zeq (x2.drew)
     rw [← hW0] at N1
     have TT:=zhz (Z2.out.keep N1.out)
     have BS:=bsK D2 N1.out
     have st:=BS.out.q.1.rd
     have c1':=fun (wx:World) (hT:ZS w wx base s b2 t h0 ps now (1000*2097153*(i:Int))) (hD:OuA wx h0 mb dA na ca zz)=>hT.one (a:=⟨kd,ck,k,dA,na,ca,dn,sB,nb,cb'⟩) HOK.out H4.out HNA.out hD.r (fun b off h1 e=>Or.inr (hD.lo b off h1 e)) (.slice sB nb cb') (by have:=HIN.out;have:=HNN.out.2;omega)
     have c2':=fun (wx:World) (ev:Int) (nx:Nat) (zo:List Int) (Lv:List EvZ) (hT:ZH w wx base s b2 t h0 ps now (1000*2097153*(i:Int)+500*2097153) ⟨kd,ck,k,dA,na,ca,dn,sB,nb,cb'⟩ zz ev nx zo Lv) (hD:OuA wx h0 mb dA na ca zz)=>hT.two HOK.out H4.out HNA.out hD.r (fun b off h1 e=>Or.inr (hD.lo b off h1 e)) (.slice sB nb cb') (by have:=HIN.out;have:=HNN.out.2;omega)
     dsimp only [actV,actC] at c1' c2'
     have C1:=zhz c1'
     have C2:=zhz c2'
     clear c1' c2'
     refine wp_region_held_drew (S:=fun wx=>∀ j,wx.cell? ⟨bx,j,none⟩=(#[.int .i64 kd,.int .i64 ck,.int .i64 (k:Int),.slice dA na ca,.int .i64 dn,.slice sB nb cb']:Array Value)[j]?) (by kernel_rfl) (by rw [← hW0];exact st) (fun hHeld=>?_)
     rw [← hW0] at hHeld ⊢
     clear hW0 st
     refine wR 0 ?_
     refine wR 1 ?_
     refine wR 3 ?_
     refine wR 4 ?_
     clear hHeld
     apply twiceT
     ·intro G2567
      apply twiceT
      ·intro G256
       apply twiceT
       ·intro G257
        apply twiceT
        ·intro G267
         apply twiceT
         ·intro G26
          apply twiceT
          ·intro G27
           apply twiceT
           ·intro G67
            refine wpAnyH_ready (rs:=[2,6,7]) (by kernel_rfl) (by simp) ?_
            refine AllReadyH.cons rfl ?_ ?_;rotate_left 1
            ·refine AllReadyH.cons rfl ?_ ?_;rotate_left 1
             ·refine AllReadyH.cons rfl ?_ ?_;rotate_left 1
              ·exact AllReadyH.nil
              intro K hK;go_simp
              obtain ⟨W1,yb,hw9,k9,b9,hb9⟩:=bNewS W0;rw [hw9,← hb9];have YB:=bxI k9 hb9 BS;have NQy:=bsN BS hb9;replace BS:=bsK BS b9;replace TT:=zhz (TT.out.keep b9);clear hw9 k9 b9 hb9
              try clear hHeld
              refine hK.out _ _ BS.out.q.1.rd (fun hHeld=>?_);clear hK K
              refine wpAnyH_ready (rs:=[2,6]) (by kernel_rfl) (by simp) ?_
              refine AllReadyH.cons rfl ?_ ?_;rotate_left 1
              ·refine AllReadyH.cons rfl ?_ ?_;rotate_left 1
               ·exact AllReadyH.nil
               intro K hK;go_simp
               obtain ⟨W2,xb,hw9,k9,b9,hb9⟩:=bNewS W1;rw [hw9,← hb9];have XB:=bxI k9 hb9 BS;have NQx:=bsN BS hb9;have NXY:=bxN' YB hb9;replace YB:=bxK YB b9;replace BS:=bsK BS b9;replace TT:=zhz (TT.out.keep b9);clear hw9 k9 b9 hb9
               try clear hHeld
               refine hK.out _ _ BS.out.q.1.rd (fun hHeld=>?_);clear hK K
               revert hHeld;revert TT;revert BS;revert NXY;revert NQy;revert YB;revert NQx;revert XB;revert yb;revert xb;revert W2
               exact G67
              intro K hK;go_simp
              (with_reducible refine (C1.out _ TT.out BS.out.dt).mono ?_);rintro v W2 ⟨ev,nx,zo,Lv,A3,n3,c3,A4,n4,c4,rfl,g9,r3,l3,r4,l4,h41,hsz,f9⟩;have HSZ:=zhz (And.intro h41 hsz);have N1y:=reD l3 l4 YB;replace YB:=bxF YB f9;have P1:=reI r3 l3 r4 l4 BS TT.out.hi;replace BS:=bsF BS f9;replace TT:=zhz g9;clear g9 r3 l3 r4 l4 f9 h41 hsz
              try clear hHeld
              refine hK.out _ _ BS.out.q.1.rd (fun hHeld=>?_);clear hK K
              revert hHeld;revert TT;revert BS;revert HSZ;revert P1;revert N1y;revert NQy;revert YB;revert c4;revert n4;revert A4;revert c3;revert n3;revert A3;revert Lv;revert zo;revert nx;revert ev;revert yb;revert W2
              exact G27
             intro K hK;go_simp
             obtain ⟨W1,xb,hw9,k9,b9,hb9⟩:=bNewS W0;rw [hw9,← hb9];have XB:=bxI k9 hb9 BS;have NQx:=bsN BS hb9;replace BS:=bsK BS b9;replace TT:=zhz (TT.out.keep b9);clear hw9 k9 b9 hb9
             try clear hHeld
             refine hK.out _ _ BS.out.q.1.rd (fun hHeld=>?_);clear hK K
             refine wpAnyH_ready (rs:=[2,7]) (by kernel_rfl) (by simp) ?_
             refine AllReadyH.cons rfl ?_ ?_;rotate_left 1
             ·refine AllReadyH.cons rfl ?_ ?_;rotate_left 1
              ·exact AllReadyH.nil
              intro K hK;go_simp
              obtain ⟨W2,yb,hw9,k9,b9,hb9⟩:=bNewS W1;rw [hw9,← hb9];have YB:=bxI k9 hb9 BS;have NQy:=bsN BS hb9;have NXY:=bxN XB hb9;replace XB:=bxK XB b9;replace BS:=bsK BS b9;replace TT:=zhz (TT.out.keep b9);clear hw9 k9 b9 hb9
              try clear hHeld
              refine hK.out _ _ BS.out.q.1.rd (fun hHeld=>?_);clear hK K
              exact G67 _ _ _ XB NQx YB NQy NXY BS TT hHeld
             intro K hK;go_simp
             (with_reducible refine (C1.out _ TT.out BS.out.dt).mono ?_);rintro v W2 ⟨ev,nx,zo,Lv,A3,n3,c3,A4,n4,c4,rfl,g9,r3,l3,r4,l4,h41,hsz,f9⟩;have HSZ:=zhz (And.intro h41 hsz);have N1x:=reD l3 l4 XB;replace XB:=bxF XB f9;have P1:=reI r3 l3 r4 l4 BS TT.out.hi;replace BS:=bsF BS f9;replace TT:=zhz g9;clear g9 r3 l3 r4 l4 f9 h41 hsz
             try clear hHeld
             refine hK.out _ _ BS.out.q.1.rd (fun hHeld=>?_);clear hK K
             revert hHeld;revert TT;revert BS;revert HSZ;revert P1;revert N1x;revert NQx;revert XB;revert c4;revert n4;revert A4;revert c3;revert n3;revert A3;revert Lv;revert zo;revert nx;revert ev;revert xb;revert W2
             exact G26
            intro K hK;go_simp
            (with_reducible refine (C1.out _ TT.out BS.out.dt).mono ?_);rintro v W1 ⟨ev,nx,zo,Lv,A3,n3,c3,A4,n4,c4,rfl,g9,r3,l3,r4,l4,h41,hsz,f9⟩;have HSZ:=zhz (And.intro h41 hsz);have P1:=reI r3 l3 r4 l4 BS TT.out.hi;replace BS:=bsF BS f9;replace TT:=zhz g9;clear g9 r3 l3 r4 l4 f9 h41 hsz
            try clear hHeld
            refine hK.out _ _ BS.out.q.1.rd (fun hHeld=>?_);clear hK K
            refine wpAnyH_ready (rs:=[5,6,7]) (by kernel_rfl) (by simp) ?_
            refine AllReadyH.cons rfl ?_ ?_;rotate_left 1
            ·refine AllReadyH.cons rfl ?_ ?_;rotate_left 1
             ·refine AllReadyH.cons rfl ?_ ?_;rotate_left 1
              ·exact AllReadyH.nil
              intro K hK;go_simp
              obtain ⟨W2,yb,hw9,k9,b9,hb9⟩:=bNewS W1;rw [hw9,← hb9];have YB:=bxI k9 hb9 BS;have NQy:=bsN BS hb9;have N1y:=reN P1 hb9;replace P1:=reK P1 b9;replace BS:=bsK BS b9;replace TT:=zhz (TT.out.keep b9);clear hw9 k9 b9 hb9
              try clear hHeld
              refine hK.out _ _ BS.out.q.1.rd (fun hHeld=>?_);clear hK K
              exact G27 _ _ _ _ _ _ _ _ _ _ _ _ YB NQy N1y P1 HSZ BS TT hHeld
             intro K hK;go_simp
             obtain ⟨W2,xb,hw9,k9,b9,hb9⟩:=bNewS W1;rw [hw9,← hb9];have XB:=bxI k9 hb9 BS;have NQx:=bsN BS hb9;have N1x:=reN P1 hb9;replace P1:=reK P1 b9;replace BS:=bsK BS b9;replace TT:=zhz (TT.out.keep b9);clear hw9 k9 b9 hb9
             try clear hHeld
             refine hK.out _ _ BS.out.q.1.rd (fun hHeld=>?_);clear hK K
             exact G26 _ _ _ _ _ _ _ _ _ _ _ _ XB NQx N1x P1 HSZ BS TT hHeld
            intro K hK;go_simp
            (with_reducible refine (C2.out _ _ _ _ _ TT.out BS.out.dt).mono ?_);rintro v W2 ⟨ev2,nx2,zo2,L2,B3,m3,d3,B4,m4,d4,rfl,g9,r3,l3,r4,l4,h41,f9⟩;replace P1:=reF P1 f9;have P2:=reI r3 l3 r4 l4 BS TT.out.hi;replace BS:=bsF BS f9;replace TT:=zhz g9;clear g9 r3 l3 r4 l4 f9 h41
            try clear hHeld
            refine hK.out _ _ BS.out.q.1.rd (fun hHeld=>?_);clear hK K
            refine wpAnyH_ready (rs:=[6,7]) (by kernel_rfl) (by simp) ?_
            refine AllReadyH.cons rfl ?_ ?_;rotate_left 1
            ·refine AllReadyH.cons rfl ?_ ?_;rotate_left 1
             ·exact AllReadyH.nil
             intro K hK;go_simp
             obtain ⟨W3,yb,hw9,k9,b9,hb9⟩:=bNewS W2;rw [hw9,← hb9];have YB:=bxI k9 hb9 BS;have NQy:=bsN BS hb9;have N1y:=reN P1 hb9;replace P1:=reK P1 b9;have N2y:=reN P2 hb9;replace P2:=reK P2 b9;replace BS:=bsK BS b9;replace TT:=zhz (TT.out.keep b9);clear hw9 k9 b9 hb9
             try clear hHeld
             refine hK.out _ _ BS.out.q.1.rd (fun hHeld=>?_);clear hK K
             revert hHeld;revert TT;revert BS;revert P2;revert HSZ;revert P1;revert N2y;revert N1y;revert NQy;revert YB;revert d4;revert m4;revert B4;revert d3;revert m3;revert B3;revert L2;revert zo2;revert nx2;revert ev2;revert c4;revert n4;revert A4;revert c3;revert n3;revert A3;revert Lv;revert zo;revert nx;revert ev;revert yb;revert W3
             exact G257
            intro K hK;go_simp
            obtain ⟨W3,xb,hw9,k9,b9,hb9⟩:=bNewS W2;rw [hw9,← hb9];have XB:=bxI k9 hb9 BS;have NQx:=bsN BS hb9;have N1x:=reN P1 hb9;replace P1:=reK P1 b9;have N2x:=reN P2 hb9;replace P2:=reK P2 b9;replace BS:=bsK BS b9;replace TT:=zhz (TT.out.keep b9);clear hw9 k9 b9 hb9
            try clear hHeld
            refine hK.out _ _ BS.out.q.1.rd (fun hHeld=>?_);clear hK K
            revert hHeld;revert TT;revert BS;revert P2;revert HSZ;revert P1;revert N2x;revert N1x;revert NQx;revert XB;revert d4;revert m4;revert B4;revert d3;revert m3;revert B3;revert L2;revert zo2;revert nx2;revert ev2;revert c4;revert n4;revert A4;revert c3;revert n3;revert A3;revert Lv;revert zo;revert nx;revert ev;revert xb;revert W3
            exact G256
           ·intro W2 xb yb XB NQx YB NQy NXY BS TT hHeld
            refine wpAnyH_ready (rs:=[2]) (by kernel_rfl) (by simp) ?_
            refine AllReadyH.cons rfl ?_ ?_;rotate_left 1
            ·exact AllReadyH.nil
            intro K hK;go_simp
            (with_reducible refine (C1.out _ TT.out BS.out.dt).mono ?_);rintro v W3 ⟨ev,nx,zo,Lv,A3,n3,c3,A4,n4,c4,rfl,g9,r3,l3,r4,l4,h41,hsz,f9⟩;have HSZ:=zhz (And.intro h41 hsz);have N1x:=reD l3 l4 XB;replace XB:=bxF XB f9;have N1y:=reD l3 l4 YB;replace YB:=bxF YB f9;have P1:=reI r3 l3 r4 l4 BS TT.out.hi;replace BS:=bsF BS f9;replace TT:=zhz g9;clear g9 r3 l3 r4 l4 f9 h41 hsz
            try clear hHeld
            refine hK.out _ _ BS.out.q.1.rd (fun hHeld=>?_);clear hK K
            revert hHeld;revert TT;revert BS;revert HSZ;revert P1;revert N1y;revert N1x;revert NXY;revert NQy;revert YB;revert NQx;revert XB;revert c4;revert n4;revert A4;revert c3;revert n3;revert A3;revert Lv;revert zo;revert nx;revert ev;revert yb;revert xb;revert W3
            exact G267
          ·intro W2 yb ev nx zo Lv A3 n3 c3 A4 n4 c4 YB NQy N1y P1 HSZ BS TT hHeld
           refine wpAnyH_ready (rs:=[5,6]) (by kernel_rfl) (by simp) ?_
           refine AllReadyH.cons rfl ?_ ?_;rotate_left 1
           ·refine AllReadyH.cons rfl ?_ ?_;rotate_left 1
            ·exact AllReadyH.nil
            intro K hK;go_simp
            obtain ⟨W3,xb,hw9,k9,b9,hb9⟩:=bNewS W2;rw [hw9,← hb9];have XB:=bxI k9 hb9 BS;have NQx:=bsN BS hb9;have NXY:=bxN' YB hb9;replace YB:=bxK YB b9;have N1x:=reN P1 hb9;replace P1:=reK P1 b9;replace BS:=bsK BS b9;replace TT:=zhz (TT.out.keep b9);clear hw9 k9 b9 hb9
            try clear hHeld
            refine hK.out _ _ BS.out.q.1.rd (fun hHeld=>?_);clear hK K
            exact G267 _ _ _ _ _ _ _ _ _ _ _ _ _ XB NQx YB NQy NXY N1x N1y P1 HSZ BS TT hHeld
           intro K hK;go_simp
           (with_reducible refine (C2.out _ _ _ _ _ TT.out BS.out.dt).mono ?_);rintro v W3 ⟨ev2,nx2,zo2,L2,B3,m3,d3,B4,m4,d4,rfl,g9,r3,l3,r4,l4,h41,f9⟩;have N2y:=reD l3 l4 YB;replace YB:=bxF YB f9;replace P1:=reF P1 f9;have P2:=reI r3 l3 r4 l4 BS TT.out.hi;replace BS:=bsF BS f9;replace TT:=zhz g9;clear g9 r3 l3 r4 l4 f9 h41
           try clear hHeld
           refine hK.out _ _ BS.out.q.1.rd (fun hHeld=>?_);clear hK K
           exact G257 _ _ _ _ _ _ _ _ _ _ _ _ _ _ _ _ _ _ _ _ _ _ YB NQy N1y N2y P1 HSZ P2 BS TT hHeld
         ·intro W2 xb ev nx zo Lv A3 n3 c3 A4 n4 c4 XB NQx N1x P1 HSZ BS TT hHeld
          refine wpAnyH_ready (rs:=[5,7]) (by kernel_rfl) (by simp) ?_
          refine AllReadyH.cons rfl ?_ ?_;rotate_left 1
          ·refine AllReadyH.cons rfl ?_ ?_;rotate_left 1
           ·exact AllReadyH.nil
           intro K hK;go_simp
           obtain ⟨W3,yb,hw9,k9,b9,hb9⟩:=bNewS W2;rw [hw9,← hb9];have YB:=bxI k9 hb9 BS;have NQy:=bsN BS hb9;have NXY:=bxN XB hb9;replace XB:=bxK XB b9;have N1y:=reN P1 hb9;replace P1:=reK P1 b9;replace BS:=bsK BS b9;replace TT:=zhz (TT.out.keep b9);clear hw9 k9 b9 hb9
           try clear hHeld
           refine hK.out _ _ BS.out.q.1.rd (fun hHeld=>?_);clear hK K
           exact G267 _ _ _ _ _ _ _ _ _ _ _ _ _ XB NQx YB NQy NXY N1x N1y P1 HSZ BS TT hHeld
          intro K hK;go_simp
          (with_reducible refine (C2.out _ _ _ _ _ TT.out BS.out.dt).mono ?_);rintro v W3 ⟨ev2,nx2,zo2,L2,B3,m3,d3,B4,m4,d4,rfl,g9,r3,l3,r4,l4,h41,f9⟩;have N2x:=reD l3 l4 XB;replace XB:=bxF XB f9;replace P1:=reF P1 f9;have P2:=reI r3 l3 r4 l4 BS TT.out.hi;replace BS:=bsF BS f9;replace TT:=zhz g9;clear g9 r3 l3 r4 l4 f9 h41
          try clear hHeld
          refine hK.out _ _ BS.out.q.1.rd (fun hHeld=>?_);clear hK K
          exact G256 _ _ _ _ _ _ _ _ _ _ _ _ _ _ _ _ _ _ _ _ _ _ XB NQx N1x N2x P1 HSZ P2 BS TT hHeld
        ·intro W3 xb yb ev nx zo Lv A3 n3 c3 A4 n4 c4 XB NQx YB NQy NXY N1x N1y P1 HSZ BS TT hHeld
         refine wpAnyH_ready (rs:=[5]) (by kernel_rfl) (by simp) ?_
         refine AllReadyH.cons rfl ?_ ?_;rotate_left 1
         ·exact AllReadyH.nil
         intro K hK;go_simp
         (with_reducible refine (C2.out _ _ _ _ _ TT.out BS.out.dt).mono ?_);rintro v W4 ⟨ev2,nx2,zo2,L2,B3,m3,d3,B4,m4,d4,rfl,g9,r3,l3,r4,l4,h41,f9⟩;have N2x:=reD l3 l4 XB;replace XB:=bxF XB f9;have N2y:=reD l3 l4 YB;replace YB:=bxF YB f9;replace P1:=reF P1 f9;have P2:=reI r3 l3 r4 l4 BS TT.out.hi;replace BS:=bsF BS f9;replace TT:=zhz g9;clear g9 r3 l3 r4 l4 f9 h41
         try clear hHeld
         refine hK.out _ _ BS.out.q.1.rd (fun hHeld=>?_);clear hK K
         revert hHeld;revert TT;revert BS;revert P2;revert HSZ;revert P1;revert N2y;revert N1y;revert N2x;revert N1x;revert NXY;revert NQy;revert YB;revert NQx;revert XB;revert d4;revert m4;revert B4;revert d3;revert m3;revert B3;revert L2;revert zo2;revert nx2;revert ev2;revert c4;revert n4;revert A4;revert c3;revert n3;revert A3;revert Lv;revert zo;revert nx;revert ev;revert yb;revert xb;revert W4
         exact G2567
       ·intro W3 yb ev nx zo Lv A3 n3 c3 A4 n4 c4 ev2 nx2 zo2 L2 B3 m3 d3 B4 m4 d4 YB NQy N1y N2y P1 HSZ P2 BS TT hHeld
        refine wpAnyH_ready (rs:=[6]) (by kernel_rfl) (by simp) ?_
        refine AllReadyH.cons rfl ?_ ?_;rotate_left 1
        ·exact AllReadyH.nil
        intro K hK;go_simp
        obtain ⟨W4,xb,hw9,k9,b9,hb9⟩:=bNewS W3;rw [hw9,← hb9];have XB:=bxI k9 hb9 BS;have NQx:=bsN BS hb9;have NXY:=bxN' YB hb9;replace YB:=bxK YB b9;have N1x:=reN P1 hb9;replace P1:=reK P1 b9;have N2x:=reN P2 hb9;replace P2:=reK P2 b9;replace BS:=bsK BS b9;replace TT:=zhz (TT.out.keep b9);clear hw9 k9 b9 hb9
        try clear hHeld
        refine hK.out _ _ BS.out.q.1.rd (fun hHeld=>?_);clear hK K
        exact G2567 _ _ _ _ _ _ _ _ _ _ _ _ _ _ _ _ _ _ _ _ _ _ _ XB NQx YB NQy NXY N1x N2x N1y N2y P1 HSZ P2 BS TT hHeld
      ·intro W3 xb ev nx zo Lv A3 n3 c3 A4 n4 c4 ev2 nx2 zo2 L2 B3 m3 d3 B4 m4 d4 XB NQx N1x N2x P1 HSZ P2 BS TT hHeld
       refine wpAnyH_ready (rs:=[7]) (by kernel_rfl) (by simp) ?_
       refine AllReadyH.cons rfl ?_ ?_;rotate_left 1
       ·exact AllReadyH.nil
       intro K hK;go_simp
       obtain ⟨W4,yb,hw9,k9,b9,hb9⟩:=bNewS W3;rw [hw9,← hb9];have YB:=bxI k9 hb9 BS;have NQy:=bsN BS hb9;have NXY:=bxN XB hb9;replace XB:=bxK XB b9;have N1y:=reN P1 hb9;replace P1:=reK P1 b9;have N2y:=reN P2 hb9;replace P2:=reK P2 b9;replace BS:=bsK BS b9;replace TT:=zhz (TT.out.keep b9);clear hw9 k9 b9 hb9
       try clear hHeld
       refine hK.out _ _ BS.out.q.1.rd (fun hHeld=>?_);clear hK K
       exact G2567 _ _ _ _ _ _ _ _ _ _ _ _ _ _ _ _ _ _ _ _ _ _ _ XB NQx YB NQy NXY N1x N2x N1y N2y P1 HSZ P2 BS TT hHeld
     ·intro W4 xb yb ev nx zo Lv A3 n3 c3 A4 n4 c4 ev2 nx2 zo2 L2 B3 m3 d3 B4 m4 d4 XB NQx YB NQy NXY N1x N2x N1y N2y P1 HSZ P2 BS TT hHeld
      have kx:=XB.out.1.rd
      have kw:=XB.out.1.wr
      refine wC 8 fun K hK=>?_
      go_simp
      (obtain ⟨W7,q7,f7,k7⟩:=zet XB.out.1 (.int .i64 ev) (.int .i64 (nx:Int)) (.slice A3 n3 c3) (.slice A4 n4 c4);rw [q7];clear q7 kx kw;replace BS:=bsO BS f7 XB.out.2.2 NQx;replace TT:=zhz (TT.out.own f7 XB.out.2.1 HWH.out);replace YB:=bxO YB f7 (zhz NXY.out.symm);replace P1:=reO P1 f7 N1x;replace P2:=reO P2 f7 N2x;replace XB:=zhz (And.intro k7 XB.out.2);clear f7 k7)
      refine hK.out _ _ BS.out.q.1.rd fun hHeld=>?_
      clear hK K
      try simp only [Act.put,zs1,zs2,zs3]
      have kx:=YB.out.1.rd
      have kw:=YB.out.1.wr
      refine wC 9 fun K hK=>?_
      go_simp
      (obtain ⟨W7,q7,f7,k7⟩:=zet YB.out.1 (.int .i64 ev2) (.int .i64 (nx2:Int)) (.slice B3 m3 d3) (.slice B4 m4 d4);rw [q7];clear q7 kx kw;replace BS:=bsO BS f7 YB.out.2.2 NQy;replace TT:=zhz (TT.out.own f7 YB.out.2.1 HWH.out);replace XB:=bxO XB f7 NXY;replace P1:=reO P1 f7 N1y;replace P2:=reO P2 f7 N2y;replace YB:=zhz (And.intro k7 YB.out.2);clear f7 k7)
      refine hK.out _ _ BS.out.q.1.rd fun hHeld=>?_
      clear hK K
      try simp only [Act.put,zs1,zs2,zs3]
      refine wpAnyH_done (by kernel_rfl) ?_ _
      clear hHeld
      go_wp2
      go_meet
      case rel=>exact ⟨xb,yb,ev,nx,zo,Lv,A3,n3,c3,A4,n4,c4,ev2,nx2,zo2,L2,B3,m3,d3,B4,m4,d4,rfl,rfl,XB,YB,P1,P2,HSZ,TT,zhz BS.out.al,zhz BS.out.mp⟩
    case rest =>
    obtain ⟨xb,yb,ev,nx,zo,Lv,A3,n3,c3,A4,n4,c4,ev2,nx2,zo2,L2,B3,m3,d3,B4,m4,d4,rfl,rfl,XB,YB,P1,P2,HSZ,TT,AL,MB⟩:=hcut
    have kx:=XB.out.1.rd
    have hn4c:n4≤1000000:=HSZ.out.1
    go_upto_region 16 with (fail)
    clear kx
    go_loopg [73] n4 (fun kv sj wv=>∃ (j cnt2:Nat) (V2:ByteArray→Option Value),j≤n4∧Hid (kv=n4 - j)∧sj=.int .i64 (j:Int)∧Hid (BxA wv h0 hi xb 68 #[.int .i64 ev,.int .i64 (nx:Int),.slice A3 n3 c3,.slice A4 n4 c4])∧Hid (BxA wv h0 hi yb 68 #[.int .i64 ev2,.int .i64 (nx2:Int),.slice B3 m3 d3,.slice B4 m4 d4])∧Hid (ReA wv h0 mb A3 n3 c3 zo A4 n4 Lv)∧Hid (ReA wv h0 mb B3 m3 d3 zo2 B4 m4 L2)∧Hid (ZA w wv base s b2 t h0 ps ck (1000*2097153*(i:Int)+500*2097153+500*2097153) (ev=ev2∧nx=nx2∧zo=zo2∧Lv=L2))∧Hid (AcL w wd wv h0 hi (.slice (some ⟨g',0,none⟩) nn c9) ls)∧Hid (Mp.MapS Tryz.prog 9 wv mb cnt2 V2)∧Hid (cnt2≤cnt+j))
    case atStart=>exact ⟨0,cnt,V,Nat.zero_le _,zhz rfl,rfl,XB,YB,P1,P2,TT,AL,MB,zhz (by omega)⟩
    case round =>
     obtain ⟨j,cnt2,V2,hj,HKJ,rfl,XJ,YJ,PJ1,PJ2,TJ,AJ,MJ,HCJ⟩:=hrel
     by_cases hjn:j<n4
     ·obtain ⟨be,oe,rfl,hbl,hce⟩:=PJ1.out.e.r.at_ (by omega)
      obtain ⟨⟨eru,eky,eup,eat⟩,hx⟩:∃ x,Lv[j]?=some x:=⟨_,zge (by rw [PJ1.out.e.r.len];exact hjn)⟩
      have HKY:=zhz (show eky.size≤maxLen from by have:eky.size≤64:=HSZ.out.2 _ (List.mem_of_getElem? hx);unfold maxLen;omega)
      have kr0:wr.cell? ⟨be,oe+j*4,none⟩=some (.int .i64 eru):=hce j _ hx 0 (by omega)
      have kr1:wr.cell? ⟨be,oe+j*4+1,none⟩=some (.string eky):=hce j _ hx 1 (by omega)
      have kr2:wr.cell? ⟨be,oe+j*4+2,none⟩=some (.bool eup):=hce j _ hx 2 (by omega)
      have kr3:wr.cell? ⟨be,oe+j*4+3,none⟩=some (.int .i64 eat):=hce j _ hx 3 (by omega)
      obtain ⟨u1,u2,eu1,kr,kw,eu2,bl3,kc3⟩:=box4E wr eru eky eup eat
      obtain ⟨bz,hbz⟩:=zeq (wr.heap.size)
      rw [← hbz] at kc3
      have HBZ:=zhz hbz
      have KE:=zhz kc3
      have XK:=bxK XJ bl3
      have YK:=bxK YJ bl3
      have PK1:=reK PJ1 bl3
      have PK2:=reK PJ2 bl3
      have TK:=zhz (TJ.out.keep bl3)
      have AK:=zhz (AJ.out.keep bl3)
      have MK:=zhz (MJ.out.keep bl3)
      have t5:(j:Int)<(n4:Int):=by omega
      have HJN:=zhz hjn
      clear hce hx hbl bl3 kc3 hbz hjn
      go_upto_region 18 with (fail)
      try rw [eu2]
      rw [← HBZ.out]
      clear kr0 kr1 kr2 kr3 eu1 kr kw eu2
      have ke:=KE.out.rd
      obtain ⟨y3,hst,m3',f3⟩:=MK.out.store Tryz.underlying9 Tryz.underlying97 (show cnt2<maxLen from by have h1:=HCJ.out;have h2:=HCN.out;have h3:=HIN.out;have h5:=HNN.out.2;have h6:=HJN.out;unfold maxLen;omega) (s:=eky) HKY.out (.bool true)
      have MS:=zhz m3'
      have HXM:=zhz (show xb≠mb∧yb≠mb from by have h1:=XK.out.2.2;have h2:=YK.out.2.2;have h3:=HMH.out;omega)
      have XL:=bxO XK f3 (zhz HXM.out.1)
      have YL:=bxO YK f3 (zhz HXM.out.2)
      have PL1:=zhz (PK1.out.mpF f3)
      have PL2:=zhz (PK2.out.mpF f3)
      have TL:=zhz (TK.out.own f3 HM0.out HWH.out)
      have ALL:=zhz (AK.out.own f3 (Or.inl S9.out.1))
      clear m3' f3
      have t6:(n4:Int)≤1000000:=by have:=HSZ.out.1;omega
      go_wp2
      go_roundg (n4 - (j+1))
      case measure=>have:=HKJ.out;have:=HJN.out;omega
      case rel=>exact ⟨j+1,_,_,HJN.out,zhz rfl,by go_num,XL,YL,PL1,PL2,TL,ALL,MS,zhz (by have h1:=HCJ.out;split <;> omega)⟩
     ·have hje:j=n4:=by omega
      subst hje
      have hlen:=MJ.out.len Tryz.underlying97
      by_cases h7:(7:Int)<(cnt2:Int)
      ·go_wp2
       go_ret
       exact ⟨rfl,TJ.out.bl⟩
      ·obtain ⟨l,al,de,ba,ln,tt,hT,h8⟩:=TJ.out.tot HPS.out rfl
       have CR:=zhz (hT _ (Below.refl _ _)).1
       have CT:=zhz (hT _ (Below.refl _ _)).2
       have H8:=zhz h8
       have hfd:=fun w=>zns al de ba ln tt w
       clear hT h8
       by_cases hln:ln=8
       ·subst hln
        go_wp2_with (first
         | (go_at_call 39;((with_reducible refine CR.out.mono ?_);rintro e u5 ⟨rfl,rfl⟩))
         | (go_at_call 40;((with_reducible refine CT.out.mono ?_);rintro e u6 ⟨rfl,b6⟩;have B8:=zhz (zae TJ.out.bl b6);clear b6)))
        go_ret
        exact ⟨rfl,B8.out⟩
       ·have t7:(ln==8)=false:=by simp [hln]
        obtain ⟨hZ,rfl,rfl,rfl,rfl⟩:=H8.out hln
        have hn3:m3=n3:=by rw [← PJ2.out.r.r.len,PJ1.out.r.r.len]
        have hn4:m4=j:=by rw [← PJ2.out.e.r.len,PJ1.out.e.r.len]
        subst hn3 hn4
        have ZZ:=zhz hZ
        clear hZ hln H8
        go_upto_region 22 with (first
         | (go_at_call 39;((with_reducible refine CR.out.mono ?_);rintro e u5 ⟨rfl,rfl⟩))
         | (go_at_call 40;((with_reducible refine CT.out.mono ?_);rintro e u6 ⟨rfl,b6⟩;have XM:=bxK XJ b6;have YM:=bxK YJ b6;have PM1:=reK PJ1 b6;have PM2:=reK PJ2 b6;have ZM:=zhz (ZZ.out.keep b6);have AM:=zhz (AJ.out.keep b6);have MM:=zhz (MJ.out.keep b6);clear b6)))
        clear t7 hlen h7 CR CT hfd
        have kx:=XM.out.1.rd
        have ky:=YM.out.1.rd
        have t8:IntKind.i64.wrap ((i:Int)+1)=(i:Int)+1:=by have:=HIN.out;have:=HNN.out.2;rw [IntKind.wrap_i64];omega
        have SM:=zhz (zkR ev (nx:Int) A3 B3 A4 B4 m3 m4 c3 d3 c4 d4 zo Lv u6 PM1.out.r.r PM2.out.r.r PM1.out.e.r PM2.out.e.r HSZ.out.1)
        go_wp2_with (go_at_call 29;((with_reducible refine SM.out.mono ?_);rintro e u7 ⟨rfl,b7⟩;have ZN:=zhz (ZM.out.keep b7);have AN:=zhz (AM.out.keep b7);have MN:=zhz (MM.out.keep b7);clear b7))
        go_roundg (nn - (i+1))
        case measure=>have:=HKK.out;have:=HIN.out;omega
        case rel=>exact ⟨i+1,cnt2,ck,V2,HIN.out,zhz rfl,by go_num,zhz (by rw [show 1000*2097153*((i+1:Nat):Int)=1000*2097153*(i:Int)+500*2097153+500*2097153 by omega];exact ZN.out),AN,MN,zhz (by have h1:=HCJ.out;have h2:=HCN.out;have h3:=HSZ.out.1;omega),zhz ⟨Int.le_trans HNW.out.1 HNA.out,fun q a2 hq ha2=>HAS.out q a2 hq ha2⟩⟩
  ·have hie:i=nn:=by omega
   subst hie
   go_wp2
   go_ret
   exact ⟨rfl,HZ.out.bl⟩
end Go.Proofs.YtambcbbekoehiaaGreat
