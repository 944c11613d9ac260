import Derived.Test.YtambcbbekoehiaaGreatHz
import Derived.Test.YtambcbbekoehiaaGreatZSvW
import Derived.Test.YtambcbbekoehiaaGreatZHa
import Derived.Test.YtambcbbekoehiaaGreatZLm
import Derived.Test.YtambcbbekoehiaaGreatZLiftS
namespace Go.Proofs.YtambcbbekoehiaaGreat
set_option linter.unusedSimpArgs false
set_option linter.unusedVariables false
set_option maxRecDepth 100000
set_option maxHeartbeats 9000000
open Go.ChangeShapes Go.WideShapes Go.ChangeAt Go.RowKit
section
variable {rs:List RuZ} {Ns:List LmN} {N:LmN} {σ:LmS} {r:RuZ}
theorem zlV {c:SvC} {ck:Int} {ky:ByteArray} (hr:rs[0]?=some r) (hN:Ns[0]?=some N) (hB:1≤N.B) (hn:4611686018427387904≤max c.now ck):((ho0 c ck [σ]).nx rs Ns (mkR 1 0 1 ky 0)).Ss=[σ.count 2]∧(ho0 c ck [σ]).ans rs Ns (mkR 1 0 1 ky 0)=frmZ (ansZ 1 2 0 9223372036854775807):=by
 obtain ⟨e1,e2⟩:=zl5 (rs:=rs) (Ns:=Ns) (h:=ho0 c ck [σ]) (q:=mkR 1 0 1 ky 0) (i:=0) rfl hr hN rfl
 have hz:refZ N (ho0 c ck [σ]).c.now ((ho0 c ck [σ]).c.held r.W) (mkR 1 0 1 ky 0).cost=((2,0,9223372036854775807),true):=by
  unfold refZ
  rw [if_neg (show ¬ ((mkR 1 0 1 ky 0).cost<1∨N.B<(mkR 1 0 1 ky 0).cost) from by show ¬ ((1:Int)<1∨N.B<1);omega),if_pos (show 4611686018427387904≤(ho0 c ck [σ]).c.now from hn)]
 obtain ⟨f1,f2,_⟩:=zhF (N:=N) (s:=σ) (now:=(ho0 c ck [σ]).c.now) (held:=(ho0 c ck [σ]).c.held r.W) (q:=mkR 1 0 1 ky 0) rfl hz
 rw [e1,e2]
 exact ⟨by show [σ].set 0 _=_;rw [f2];rfl,f1⟩
end
structure HorS (W w:World) (base s:Nat) (rs:List RuZ) (Ns:List LmN) (Ks:List CnN) (nw m:Int):Prop where
 sv:∃ c σ,SrB w base s rs 660 Ns Ks c [σ] [⟨[],0,[],true⟩,cZ,cZ] m∧c.now=nw∧σ.al=0
 bl:Below W.heap.size W w
theorem HorS.keep {W w w':World} {base s:Nat} {rs:List RuZ} {Ns:List LmN} {Ks:List CnN} {nw m:Int} (h:HorS W w base s rs Ns Ks nw m) (hb:Below w.heap.size w w'):HorS W w' base s rs Ns Ks nw m:=by
 obtain ⟨⟨c,σ,h1,h2⟩,h3⟩:=h
 exact ⟨⟨c,σ,h1.keep hb,h2⟩,h3.trans (hb.mono h3.size)⟩
theorem wholehorizon_law (w:World) (a b c d e f g h:Int) (sm:Bool) (nw0:Int) (A2:Option Addr) (n2 c2:Nat) (L:List Cl) (hpl:RuleOK a b c d e f g h) (hnw : -9223372036854775808≤nw0∧nw0≤9223372036854775807) (hr2:RdL w A2 n2 c2 4 encCl L) (hok:∀ a ∈ L,okCl a) :
  Calls Tryz.prog 7 #[planV a b c d e f g h sm,.int .i64 nw0,.slice A2 n2 c2] w fun e w'=>e=.returned (.bool true)∧Below w.heap.size w w':=by
 have hmx2:=hr2.max
 unfold maxLen at hmx2
 have hcp2:=hr2.cap
 have HR2:=zhz hr2
 have HO:=zhz hok
 have HPL:=zhz hpl
 clear hr2 hok hpl
 obtain ⟨w1,hw1,k1,l1',s1⟩:=zad w (planC a b c d e f g h sm) 72
 obtain ⟨pl,hpl⟩:=zeq (w.heap.size)
 rw [← hpl] at k1
 have K2:=zhz (And.intro k1 l1')
 have HB:=zhz hpl
 clear k1 l1' s1
 go_enter Tryz.func7,Tryz.ntmps7
 go_upto_region 1 with (fail)
 rw [← HB.out]
 clear hw1 hpl
 go_upto_region 3 with (go_at_call 14;((refine (zi9 _).mono ?_);rintro e w3 ⟨rfl,b3⟩;have K3:=zhz (And.intro (K2.out.1.keep b3) (zae K2.out.2 b3));clear b3))
 have CLi:=zhz (zfk A2 n2 c2 L w3 (HR2.out.below K3.out.2) HO.out)
 cases hlb:lightC L with
 | false =>
  rw [hlb] at CLi
  go_wp2_with (go_at_call 32;((with_reducible refine CLi.out.mono ?_);rintro e w4 ⟨rfl,b4⟩;have T4:=zhz (zae K3.out.2 b4);clear b4))
  go_ret
  exact ⟨rfl,T4.out⟩
 | true =>
 rw [hlb] at CLi
 have hlc:=zig hlb
 have hlen:=hlc.1
 have HLK:=zhz hlc.2
 have hln:=HR2.out.len
 have hb2:(n2:Int)≤150:=by omega
 clear hlb hlen hln hlc
 go_upto_region 5 with (go_at_call 32;((with_reducible refine CLi.out.mono ?_);rintro e w4 ⟨rfl,b4⟩;have K4:=zhz (And.intro (K3.out.1.keep b4) (zae K3.out.2 b4));clear b4))
 clear CLi
 have kp:=K4.out.1.rd
 obtain ⟨w5,hw5,k5,b5,s5⟩:=zad w4 (planC a b c d e f g h sm) 72
 obtain ⟨pb,hpb⟩:=zeq (w4.heap.size)
 rw [← hpb] at k5
 have CF:=zhz (zgy [⟨a,b,c,d,e,f,g,h,sm⟩] 660 (some ⟨pb,0,none⟩) 1 1 0 rfl w5 (zj9 k5 HPL.out))
 have B5:=zhz (zae K4.out.2 b5)
 have HPB:=zhz hpb
 obtain ⟨ps,hps⟩:∃ z:List RuZ,z=[⟨a,b,c,d,e,f,g,h,sm⟩]:=⟨_,rfl⟩
 rw [← hps] at CF
 have HPS:=zhz hps
 clear k5 b5 s5 hpb hps
 go_upto_region 6 with (first
  | (rw [← HPB.out];go_at_call 16;((with_reducible refine CF.out.mono ?_);rintro e w6 ⟨A',m',c',rfl,r6,z6,b6⟩;obtain ⟨x1,x2,ex1,kr,kw,ex2,b7,k7⟩:=box4K w6 (.int .i64 4294967296) (.int .i64 3) (.int .i64 660) (.slice A' m' c');have B7:=zhz (zae (zae B5.out b6) b7);have R7:=zhz (r6.below b7);have K7:=zhz k7;have CN:=zhz (svnew0 ps A' m' c' x2 (r6.below b7) z6);clear r6 z6 b6 b7 k7)))
 try rw [ex2]
 clear ex1 kr kw ex2 hw5 kp CF
 have kc7:=K7.out.rd
 go_upto_region 7 with (go_at_call 17;((with_reducible refine CN.out.mono ?_);rintro e w8 ⟨s,c0,Ns,Ks,rfl,h8,n8,l8,p8,b8⟩;have B8:=zhz (zae B7.out b8);have H8:=zhz h8;have N8:=zhz n8;have P8:=zhz p8;clear h8 n8 l8 p8 b8))
 clear kc7 CN
 obtain ⟨K0,hK0⟩:∃ K,Ks[0]?=some K:=⟨_,List.getElem?_eq_getElem (by rw [P8.out];decide)⟩
 have HK:=zhz hK0
 obtain ⟨base,hbase⟩:=zeq (x2.heap.size)
 rw [← hbase] at H8
 have HBS:=zhz (show w.heap.size≤base from by rw [hbase];exact B7.out.size)
 have HCF:=zhz (show confR ps=[planR ⟨a,b,c,d,e,f,g,h,sm⟩] from by rw [HPS.out];rfl)
 obtain ⟨rs,hrs⟩:=zeq (confR ps)
 obtain ⟨Ss0,hSs0⟩:=zeq (rsZ (confR ps))
 have HR0:=zhz (show rs[0]?=some (planR ⟨a,b,c,d,e,f,g,h,sm⟩)∧rs.length=1∧(∃ ps,rs=confR ps)∧Ss0=[lmZ (planR ⟨a,b,c,d,e,f,g,h,sm⟩).Ce.toNat] from ⟨by rw [hrs,HCF.out];rfl,by rw [hrs,HCF.out];rfl,⟨ps,hrs⟩,by rw [hSs0,HCF.out];rfl⟩)
 rw [← hSs0,← hrs] at H8
 clear hK0 hbase hrs hSs0
 obtain ⟨N0,hN0⟩:∃ N,Ns[0]?=some N:=⟨_,List.getElem?_eq_getElem (by rw [H8.out.hn.nl,HR0.out.2.1];decide)⟩
 have HN0:=zhz hN0
 clear hN0
 have C1:=zhz (fun (wx:World) (hx:SrB wx base s rs 660 Ns Ks c0 Ss0 [cZ,cZ,cZ] 0)=>show Calls Tryz.prog 30 #[.pointer (some ⟨s,0,none⟩),.agg #[.int .i64 0,.int .i64 0,.int .i64 0,.slice none 0 0,.int .i64 0,.slice none 0 0]] wx (fun e w'=>e=.returned (stepV 0)∧SrB w' base s rs 660 Ns Ks (c0.next 0) Ss0 [⟨[],0,[],true⟩,cZ,cZ] 0∧Fr (chF s Ns K0) wx w') from hx.open_ (ck:=0) (by decide) 0 HK.out rfl rfl 0 _ _)
 go_upto_region 8 with (go_at_call 30;((with_reducible refine (C1.out _ H8.out).mono ?_);rintro e w9 ⟨rfl,h9,f9⟩;have H9:=zhz h9;have B9:=zhz (H8.out.below HK.out f9 HBS.out B8.out (Nat.le_refl _));clear h9 f9))
 clear C1
 obtain ⟨nl,hnl⟩:∃ z:Nat,(z:Int)=nw0 % 4611686018427387904:=⟨(nw0 % 4611686018427387904).toNat,by omega⟩
 have el:bits .and .i64 nw0 4611686018427387903=(nl:Int):=by rw [zgO,hnl]
 obtain ⟨nw,hnwe⟩:∃ z:Int,z=(nl:Int)+4611686018427387904:=⟨_,rfl⟩
 have eo:bits .or .i64 (nl:Int) 4611686018427387904=nw:=by rw [or62 nl (by omega),hnwe]
 have HNW:=zhz (show 4611686018427387904≤nw∧nw≤9223372036854775807 by omega)
 clear hnl hnwe hnw
 go_upto_region 9 with (fail)
 clear el eo
 have C2:=zhz (fun (wx:World) (hx:SrB wx base s rs 660 Ns Ks (c0.next 0) Ss0 [⟨[],0,[],true⟩,cZ,cZ] 0)=>show Calls Tryz.prog 30 #[.pointer (some ⟨s,0,none⟩),.agg #[.int .i64 3,.int .i64 nw,.int .i64 0,.slice none 0 0,.int .i64 0,.slice none 0 0]] wx (fun e w'=>∃ g,e=.returned (stepQ 0 0 (some ⟨g,0,none⟩) 0 0 none 0 0)∧SrB w' base s rs 660 Ns Ks ((c0.next 0).next nw) Ss0 [⟨[],0,[],true⟩,cZ,cZ] 0∧Fr (chF s Ns K0) wx w') from (hx.drain2 nw 0 HNW.out.2 0 (o:=[]) HK.out rfl 0 rfl (by decide) _ _).mono (fun e w' hh=>by obtain ⟨g,h1,_,h3,h4,_⟩:=hh;exact ⟨g,h1,h3,h4⟩))
 go_upto_region 10 with (go_at_call 30;((with_reducible refine (C2.out _ H9.out).mono ?_);rintro e w10 ⟨g10,rfl,h10,f10⟩;have S10:=zhz (show HorS w w10 base s rs Ns Ks nw 0 from ⟨⟨_,_,by rw [HR0.out.2.2.2] at h10;exact h10,by show max (max c0.now 0) nw=nw;rw [N8.out.now];have:=HNW.out;omega,rfl⟩,H9.out.below HK.out f10 HBS.out B9.out (Nat.le_refl _)⟩);clear h10 f10))
 clear C2 H9 H8 B9 B8 K7 R7 B7 B5 K4 K3 K2
 go_wp2
 go_loopg [41] n2 (fun kk si wr=>∃ (i:Nat),i≤n2∧Hid (kk=n2 - i)∧si=.int .i64 (i:Int)∧Hid (HorS w wr base s rs Ns Ks nw (75*2097153*(i:Int))))
 case atStart=>exact ⟨0,by omega,zhz rfl,rfl,S10⟩
 case round =>
  obtain ⟨i,hi,HKK,rfl,HG⟩:=hrel
  by_cases hin:i<n2
  ·have hl2:=HR2.out.len
   obtain ⟨b',off,rfl,hbl,hcl⟩:=(HR2.out.below HG.out.bl).at_ (by omega)
   obtain ⟨⟨gp,cs,ky,pk⟩,ha⟩:∃ a,L[i]?=some a:=⟨_,List.getElem?_eq_getElem (by omega)⟩
   have HKY:=zhz (HLK.out _ (List.mem_of_getElem? ha))
   have HCS:=zhz (HO.out _ (List.mem_of_getElem? ha))
   have kr0:wr.cell? ⟨b',off+i*4,none⟩=some (.int .i64 gp):=hcl i _ ha 0 (by omega)
   have kr1:wr.cell? ⟨b',off+i*4+1,none⟩=some (.int .i64 cs):=hcl i _ ha 1 (by omega)
   have kr2:wr.cell? ⟨b',off+i*4+2,none⟩=some (.string ky):=hcl i _ ha 2 (by omega)
   have kr3:wr.cell? ⟨b',off+i*4+3,none⟩=some (.bool pk):=hcl i _ ha 3 (by omega)
   obtain ⟨y1,y2,ey1,kr,kw,ey2,bl2,kc2⟩:=box4C wr (.int .i64 gp) (.int .i64 cs) (.string ky) (.bool pk)
   obtain ⟨bx,hbx⟩:=zeq (wr.heap.size)
   rw [← hbx] at kc2
   have G2:=zhz (HG.out.keep bl2)
   have HBX:=zhz hbx
   have KC:=zhz kc2
   obtain ⟨gk,hgk⟩:=zeq (gp / 4)
   have egk:gp / 4=gk:=hgk.symm
   have HGK:=zhz (show gk<4611686018427387904 from by have h1:(-9223372036854775808≤gp∧gp≤9223372036854775807):=HCS.out.1;omega)
   have t2:(i:Int)<(n2:Int):=by omega
   have HIN:=zhz hin
   have HEG:=zhz egk
   clear hl2 hcl hbl bl2 kc2 hbx hin ha hgk
   go_upto_region 13 with (fail)
   try rw [ey2]
   rw [← HBX.out]
   clear kr0 kr1 kr2 kr3 ey1 kr kw ey2
   have N0':=zhz (show Below y2.heap.size y2 y2.drew from zaa (Below.refl _ _) 1)
   have G3:=zhz (G2.out.keep N0'.out)
   have KC3:=zhz (KC.out.keep N0'.out)
   obtain ⟨⟨cc,σ,hsv,hcn,hal⟩,hbl3⟩:=G3.out
   have SV:=zhz hsv
   have HCA:=zhz (And.intro hcn hal)
   have BL3:=zhz hbl3
   have HQ:=zhz (show okQ (rs.length:Int) (mkR 1 0 1 ky 0) from by rw [HR0.out.2.1];exact zkM (by decide) (by decide) (Or.inl rfl) HKY.out rfl (by decide))
   have CE:=zhz (fun wx=>zlR (op:=1) (ru:=0) (co:=1) (k:=0) (ky:=ky) (zcM (by rw [HR0.out.2.1];decide) HQ.out) (by decide) wx)
   have HX:=zhz (zlV (c:=cc) (ck:=gk) (ky:=ky) (σ:=σ) HR0.out.1 HN0.out (SV.out.lm 0 N0 σ HN0.out rfl).B.1 (by rw [hcn];have:=HNW.out;omega))
   have HMB:=zhz (show 75*2097153*(i:Int)+75*2097153≤576460752303423488 by omega)
   have CK:=zhz (fun (wq:World) (g na ca:Nat) (hna:(encZ (mkR 1 0 1 ky 0)).length=na) (hb:Below y2.drew.heap.size y2.drew wq) (hz:RdI wq .u8 (some ⟨g,0,none⟩) na ca (encZ (mkR 1 0 1 ky 0))) (hg:y2.drew.heap.size≤g)=>show Calls Tryz.prog 30 #[.pointer (some ⟨s,0,none⟩),.agg #[.int .i64 2,.int .i64 gk,.int .i64 0,.slice (some ⟨g,0,none⟩) na ca,.int .i64 0,.slice none 0 0]] wq (fun e w'=>∃ v,e=.returned v∧SrB w' base s rs 660 Ns Ks (cc.next gk) [σ.count 2] [⟨[],0,frmZ (ansZ 1 2 0 9223372036854775807),true⟩,cZ,cZ] (75*2097153*(i:Int)+75*2097153)∧Fr (chF s Ns K0) wq w') from by
    refine (SV.out.ask2 HR0.out.2.2.1 gk (by have:=HGK.out;omega) 0 HK.out rfl HQ.out HMB.out g na ca hna hb hz hg 0 _).mono ?_
    rintro e w' ⟨A4,c4,he,h1,_,h2⟩
    rw [HX.out.1,HX.out.2] at h1
    exact ⟨_,he,h1,h2⟩)
   clear hsv hcn hal hbl3
   have st:=KC3.out.rd
   refine wp_region_held_drew (S:=fun wx=>∀ j,wx.cell? ⟨bx,j,none⟩=(#[.int .i64 gp,.int .i64 cs,.string ky,.bool pk]:Array Value)[j]?) (by kernel_rfl) st (fun hHeld=>?_)
   clear st
   refine wR 0 ?_
   refine wR 1 ?_
   refine wR 2 ?_
   refine wR 3 ?_
   refine wR 4 ?_
   refine wR 5 ?_
   refine wR 6 ?_
   refine wC 7 fun K hK=>?_
   go_simp
   ((with_reducible refine (CE.out _).mono ?_);rintro v w14 ⟨g14,n14,c14,rfl,l14,r14,hg14,b14⟩;have R14:=zhz (And.intro l14 (And.intro r14 hg14));have B14:=zhz b14;have K14:=zhz (KC3.out.keep b14);clear l14 r14 hg14 b14)
   refine hK.out _ _ K14.out.rd fun hHeld=>?_
   clear hK K
   try simp only [Act.put,List.setIfInBounds_toArray,List.set_cons_zero,List.set_cons_succ]
   refine wR 8 ?_
   refine wC 9 fun K hK=>?_
   go_simp
   ((with_reducible refine (CK.out _ _ _ _ R14.out.1 B14.out R14.out.2.1 R14.out.2.2).mono ?_);rintro v w15 ⟨v15,rfl,h15,f15⟩;have H15:=zhz h15;have B15:=zhz ((SV.out.keep B14.out).below HK.out f15 HBS.out (zae BL3.out B14.out) (Nat.le_refl _));have K15:=zhz (K14.out.fr f15 (fun e=>by have:=SV.out.ch_lt HK.out bx e;have h2:=HBX.out;have h3:=HG.out.sv;obtain ⟨c9,σ9,h9,_⟩:=h3;have:=h9.ch_lt HK.out bx e;omega));clear h15 f15)
   refine hK.out _ _ K15.out.rd fun hHeld=>?_
   clear hK K
   try simp only [Act.put,List.setIfInBounds_toArray,List.set_cons_zero,List.set_cons_succ]
   refine wpAnyH_done (by kernel_rfl) ?_ _
   clear hHeld CE CK egk
   have CD:=zhz (show Calls Tryz.prog 30 #[.pointer (some ⟨s,0,none⟩),.agg #[.int .i64 3,.int .i64 0,.int .i64 0,.slice none 0 0,.int .i64 99,.slice none 0 0]] w15 (fun e w'=>∃ g,e=.returned (stepQ 0 0 (some ⟨g,0,none⟩) 22 22 none 0 0)∧Blk w' g 5 (obbyC (frmZ (ansZ 1 2 0 9223372036854775807)))∧SrB w' base s rs 660 Ns Ks ((cc.next gk).next 0) [σ.count 2] [⟨[],0,[],true⟩,cZ,cZ] (75*2097153*(i:Int)+75*2097153)∧Fr (chF s Ns K0) w15 w') from by
    refine (H15.out.drain2 0 99 (by decide) 0 HK.out rfl 22 (by rw [za3,zaU]) (by decide) _ _).mono ?_
    rintro e w' ⟨g,h1,h2,h3,h4,_⟩
    exact ⟨g,h1,h2,h3,h4⟩)
   go_upto_region 15 with (go_at_call 30;((with_reducible refine CD.out.mono ?_);rintro e w16 ⟨g16,rfl,o16,h16,f16⟩;have B16:=zhz (H15.out.below HK.out f16 HBS.out B15.out (Nat.le_refl _));have K16:=zhz (K15.out.fr f16 (fun e=>by have h2:=HBX.out;obtain ⟨c9,σ9,h9,_⟩:=HG.out.sv;have:=h9.ch_lt HK.out bx e;omega));obtain ⟨y3,y4,ey3,kr,kw,ey4,b17,k17⟩:=box4S w16 (.int .i64 0) (.int .i64 0) (.slice (some ⟨g16,0,none⟩) 22 22) (.slice none 0 0);have O17:=zhz (o16.keep b17);have KC17:=zhz (K16.out.keep b17);have H17:=zhz (h16.keep b17);have K17:=zhz k17;have B17:=zhz (zae B16.out b17);clear o16 h16 f16 b17 k17))
   try rw [ey4]
   clear ey3 kr kw ey4 CD
   have CR:=zhz (zeG (op:=1) (v:=2) (rem:=0) (ret:=9223372036854775807) O17.out (Or.inl rfl) (by unfold ansP i64P;dsimp only;omega))
   have k17r:=K17.out.rd
   obtain ⟨yb,hyb⟩:=zeq (w16.heap.size)
   go_upto_region 16 with (go_at_call 38;((with_reducible refine CR.out.mono ?_);rintro e w18 ⟨LA,LN,LC,rfl,b18⟩;obtain ⟨z1,z2,ez1,kr,kw,ez2,b19,k19⟩:=box12S w18 (.int .i64 1) (.int .i64 0) (.int .i64 2) (.int .i64 0) (.int .i64 9223372036854775807) (.int .i64 0) (.int .i64 0) (.int .i64 0) (.int .i64 0) (.int .i64 0) (.slice LA LN LC) (.int .i64 0);have KC19:=zhz ((KC17.out.keep b18).keep b19);have K19:=zhz k19;have H19:=zhz ((H17.out.keep b18).keep b19);have B19:=zhz (zae (zae B17.out b18) b19);clear b18 b19 k19))
   try rw [ez2]
   clear ez1 kr kw ez2 k17r CR hyb
   obtain ⟨sb,hsb⟩:=zeq (w18.heap.size)
   rw [← hsb] at K19 ⊢
   clear hsb
   have N1:=zhz (show Below z2.heap.size z2 z2.drew from zaa (Below.refl _ _) 1)
   have H20:=zhz (H19.out.keep N1.out)
   have K20:=zhz (K19.out.keep N1.out)
   have KC20:=zhz (KC19.out.keep N1.out)
   have CNow:=zhz (show Calls Tryz.prog 41 #[.pointer (some ⟨s,0,none⟩)] z2.drew (fun e w'=>e=.returned (.int .i64 nw)∧z2.drew=w') from by
    have h:=zeS z2.drew H20.out.at_.sv
    have e9:((cc.next gk).next 0).now=nw:=by show max (max cc.now gk) 0=nw;rw [HCA.out.1];have:=HNW.out;have:=HGK.out;omega
    rw [e9] at h
    exact h)
   have egk2:gp / 4=gk:=HEG.out
   have t5:¬ nw<gk:=by have:=HNW.out;have:=HGK.out;omega
   have em1:max nw gk=nw:=by have:=HNW.out;have:=HGK.out;omega
   have heq:∀ w,(Op.equalIn 10000 84 (.agg #[.int .i64 2,.int .i64 0,.int .i64 9223372036854775807]) (.agg #[.int .i64 2,.int .i64 0,.int .i64 9223372036854775807])).run Tryz.prog w=.ok true w:=fun w=>by rw [zd8];simp
   have ST:=zhz (show (∀ j,z2.drew.cell? ⟨sb,j,none⟩=(#[.int .i64 1,.int .i64 0,.int .i64 2,.int .i64 0,.int .i64 9223372036854775807,.int .i64 0,.int .i64 0,.int .i64 0,.int .i64 0,.int .i64 0,.slice LA LN LC,.int .i64 0]:Array Value)[j]?)∧(∀ j,z2.drew.cell? ⟨bx,j,none⟩=(#[.int .i64 gp,.int .i64 cs,.string ky,.bool pk]:Array Value)[j]?) from ⟨K20.out.rd,KC20.out.rd⟩)
   refine wp_region_held_drew (S:=fun wx=>(∀ j,wx.cell? ⟨sb,j,none⟩=(#[.int .i64 1,.int .i64 0,.int .i64 2,.int .i64 0,.int .i64 9223372036854775807,.int .i64 0,.int .i64 0,.int .i64 0,.int .i64 0,.int .i64 0,.slice LA LN LC,.int .i64 0]:Array Value)[j]?)∧(∀ j,wx.cell? ⟨bx,j,none⟩=(#[.int .i64 gp,.int .i64 cs,.string ky,.bool pk]:Array Value)[j]?)) (by kernel_rfl) ST.out (fun hHeld=>?_)
   refine wR 0 ?_
   refine wR 1 ?_
   refine wR 2 ?_
   refine wR 3 ?_
   refine wR 4 ?_
   refine wR 5 ?_
   refine wR 6 ?_
   refine wR 7 ?_
   refine wR 8 ?_
   refine wR 9 ?_
   refine wR 10 ?_
   refine wR 11 ?_
   refine wR 13 ?_
   refine wR 14 ?_
   refine wR 15 ?_
   refine wR 16 ?_
   refine wR 17 ?_
   refine wC 12 fun K hK=>?_
   go_simp
   ((with_reducible refine CNow.out.mono ?_);rintro v w21 ⟨rfl,rfl⟩)
   refine hK.out _ _ ST.out fun hHeld=>?_
   clear hK K
   try simp only [Act.put,List.setIfInBounds_toArray,List.set_cons_zero,List.set_cons_succ]
   refine wR 18 ?_
   refine wR 19 ?_
   refine wO 20 ?_
   refine wO 21 ?_
   refine wO 22 ?_
   refine wO 23 ?_
   refine wO 24 ?_
   refine wO 25 ?_
   refine wR 26 ?_
   refine wR 27 ?_
   refine wpAnyH_done (by kernel_rfl) ?_ _
   clear hHeld CNow egk2 t5 em1 heq
   have SE:=zhz (show HorS w z2.drew base s rs Ns Ks nw (75*2097153*(i:Int)+75*2097153) from ⟨⟨_,_,H20.out,by show max (max cc.now gk) 0=nw;rw [HCA.out.1];have:=HNW.out;have:=HGK.out;omega,HCA.out.2⟩,zae B19.out N1.out⟩)
   go_wp2
   go_roundg (n2 - (i+1))
   case measure=>have:=HKK.out;have:=HIN.out;omega
   case rel=>exact ⟨i+1,HIN.out,zhz rfl,by go_num,zhz (by rw [show 75*2097153*((i+1:Nat):Int)=75*2097153*(i:Int)+75*2097153 by omega];exact SE.out)⟩
  ·have hie:i=n2:=by omega
   subst hie
   obtain ⟨⟨cc,σ,hsv,hcn,hal⟩,hbl3⟩:=HG.out
   have CRu:=zhz (show Calls Tryz.prog 39 #[.pointer (some ⟨s,0,none⟩),.int .i64 0] wr (fun e w'=>e=.returned (.pointer (some ⟨N0.l,0,none⟩))∧wr=w') from zeU (i:=0) (by omega) (zmt hsv HN0.out) wr hsv.at_.sv)
   have CT:=zhz (zck wr (hsv.at_.J.at_ 0 N0 σ HN0.out rfl))
   obtain ⟨q2,hq2⟩:=zeq (σ.de)
   obtain ⟨q3,hq3⟩:=zeq (σ.ba)
   obtain ⟨q4,hq4⟩:=zeq (σ.len N0)
   obtain ⟨q5,hq5⟩:=zeq (σ.tot)
   rw [hal,← hq2,← hq3,← hq4,← hq5] at CT
   have hfd:=fun w=>zmk 0 q2 q3 q4 q5 w
   have BL:=zhz hbl3
   clear hsv hcn hal hbl3 hq2 hq3 hq4 hq5
   go_wp2_with (first
    | (go_at_call 39;((with_reducible refine CRu.out.mono ?_);rintro e w21 ⟨rfl,rfl⟩))
    | (go_at_call 40;((with_reducible refine CT.out.mono ?_);rintro e w22 ⟨rfl,b22⟩;have B22:=zhz (zae BL.out b22);clear b22)))
   go_ret
   exact ⟨rfl,B22.out⟩
end Go.Proofs.YtambcbbekoehiaaGreat
