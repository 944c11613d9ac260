import Derived.Test.YtambcbbekoehiaaGreatZSvW
set_option linter.unusedSimpArgs false
set_option linter.unusedVariables false
set_option maxRecDepth 100000
set_option maxHeartbeats 9000000
namespace Go.Proofs.YtambcbbekoehiaaGreat
open Go.ChangeShapes Go.WideShapes Go.ChangeAt Go.RowKit
theorem wholefresh_law (w:World) (a b c d e f g h:Int) (sm:Bool) (As:Option Addr) (ns cs:Nat) (zs:List Int) (A1:Option Addr) (n1 c1:Nat) (L1:List DeZ) (A2:Option Addr) (n2 c2:Nat) (L2:List DeZ) (hpl:RuleOK a b c d e f g h) (hrs:RdI w .u64 As ns cs zs) (hr1:RdDe w A1 n1 c1 L1) (hr2:RdDe w A2 n2 c2 L2) :
  Calls Tryz.prog 9 #[planV a b c d e f g h sm,.slice As ns cs,.agg #[.slice A1 n1 c1,.slice A2 n2 c2]] w fun e w'=>e=.returned (.bool true)∧Below w.heap.size w w':=by
 have hmx1:=hr1.max
 have hmx2:=hr2.max
 have hmxs:=hrs.max
 unfold maxLen at hmx1 hmx2 hmxs
 have hcp1:=hr1.cap
 have hcp2:=hr2.cap
 have hcps:=hrs.cap
 have HR1:=zhz hr1
 have HR2:=zhz hr2
 have HSD:=zhz hrs
 have HPL:=zhz hpl
 clear hr1 hr2 hrs hpl
 obtain ⟨w1,hw1,k1,l1',s1⟩:=zad w (planC a b c d e f g h sm) 72
 obtain ⟨w2,hw2,k2,l2',s2⟩:=zad w1 #[.slice A1 n1 c1,.slice A2 n2 c2] 116
 obtain ⟨pl,hpl⟩:=zeq (w.heap.size)
 obtain ⟨lb,hlb⟩:=zeq (w1.heap.size)
 rw [← hpl] at k1
 rw [← hlb] at k2
 have K2:=zhz (show Blk w2 pl _ _ from k1.keep l2')
 have KL2:=zhz k2
 have B2:=zhz (show Below w.heap.size w w2 from zae l1' l2')
 have HB:=zhz (And.intro hpl hlb)
 clear k1 l1' s1 k2 l2' s2
 go_enter Tryz.func9,Tryz.ntmps9
 go_upto_region 1 with (fail)
 rw [← HB.out.2,← HB.out.1]
 clear hw1 hw2 hpl hlb
 go_upto_region 3 with (go_at_call 14;((refine (zjp _).mono ?_);rintro e w3 ⟨rfl,b3⟩;have K3:=zhz (K2.out.keep b3);have KL3:=zhz (KL2.out.keep b3);have B3:=zhz (zae B2.out b3);clear b3))
 have N3:=zhz (show Below w3.heap.size w3 w3.drew from zaa (Below.refl _ _) 1)
 have K4:=zhz (K3.out.keep N3.out)
 have KL4:=zhz (KL3.out.keep N3.out)
 have B4:=zhz (zae B3.out N3.out)
 have st:=KL4.out.rd
 refine wp_region_held_drew (S:=fun wx=>∀ j,wx.cell? ⟨lb,j,none⟩=(#[.slice A1 n1 c1,.slice A2 n2 c2]:Array Value)[j]?) (by kernel_rfl) st (fun hHeld=>?_)
 clear st
 refine wR 0 ?_
 refine wR 1 ?_
 refine wR 2 ?_
 refine wR 3 ?_
 refine wR 4 ?_
 refine wR 5 ?_
 refine wpAnyH_done (by kernel_rfl) ?_ _
 clear hHeld
 obtain ⟨w4,hw4⟩:=zeq (w3.drew)
 rw [← hw4] at K4 KL4 B4 ⊢
 clear hw4
 have CL1:=zhz (zbQ A1 n1 c1 L1 w4 (HR1.out.below B4.out))
 by_cases h50:(50:Int)<(ns:Int)
 ·go_wp2
  go_ret
  exact ⟨rfl,B4.out⟩
 have HN50:=zhz (show ns≤50 by omega)
 cases hlb1:lightD L1 with
 | false =>
  rw [hlb1] at CL1
  go_wp2_with (go_at_call 15;((with_reducible refine CL1.out.mono ?_);rintro e w5 ⟨rfl,b5⟩;have B5:=zhz (zae B4.out b5);clear b5))
  go_ret
  exact ⟨rfl,B5.out⟩
 | true =>
 rw [hlb1] at CL1
 have HLGa:=zhz (zeA hlb1)
 clear hlb1
 cases hlb2:lightD L2 with
 | false =>
  have CL2:=zhz (fun (wx:World) (hb:Below w.heap.size w wx)=>by have:=zbQ A2 n2 c2 L2 wx (HR2.out.below hb);rw [hlb2] at this;exact this)
  go_wp2_with (first
   | (go_at_call 15;((with_reducible refine CL1.out.mono ?_);rintro e w5 ⟨rfl,b5⟩;have B5:=zhz (zae B4.out b5);clear b5))
   | (go_at_call 15;((with_reducible refine (CL2.out _ B5.out).mono ?_);rintro e w6 ⟨rfl,b6⟩;have B6:=zhz (zae B5.out b6);clear b6)))
  go_ret
  exact ⟨rfl,B6.out⟩
 | true =>
 have CL2:=zhz (fun (wx:World) (hb:Below w.heap.size w wx)=>by have:=zbQ A2 n2 c2 L2 wx (HR2.out.below hb);rw [hlb2] at this;exact this)
 have HLGb:=zhz (zeA hlb2)
 clear hlb2
 go_upto_region 6 with (first
   | (go_at_call 15;((with_reducible refine CL1.out.mono ?_);rintro e w5 ⟨rfl,b5⟩;have B5:=zhz (zae B4.out b5);have K5:=zhz (K4.out.keep b5);clear b5))
   | (go_at_call 15;((with_reducible refine (CL2.out _ B5.out).mono ?_);rintro e w6 ⟨rfl,b6⟩;have B6:=zhz (zae B5.out b6);have K6:=zhz (K5.out.keep b6);clear b6)))
 clear CL1 CL2 h50
 have kp:=K6.out.rd
 obtain ⟨w7,hw7,k7,b7,s7⟩:=zad w6 (planC a b c d e f g h sm) 72
 obtain ⟨pb,hpb⟩:=zeq (w6.heap.size)
 rw [← hpb] at k7
 have CF:=zhz (zgO [⟨a,b,c,d,e,f,g,h,sm⟩] 660 (some ⟨pb,0,none⟩) 1 1 0 rfl w7 (zkx k7 HPL.out))
 have B7:=zhz (zae B6.out b7)
 have HPB:=zhz hpb
 obtain ⟨ps,hps⟩:∃ z:List RuZ,z=[⟨a,b,c,d,e,f,g,h,sm⟩]:=⟨_,rfl⟩
 rw [← hps] at CF
 have HPS:=zhz hps
 clear k7 b7 s7 hpb hps
 go_upto_region 7 with (first
  | (rw [← HPB.out];go_at_call 16;((with_reducible refine CF.out.mono ?_);rintro e w8 ⟨A',m',c',rfl,r8,z8,b8⟩;obtain ⟨x1,x2,ex1,kr,kw,ex2,b9,k9⟩:=box4K w8 (.int .i64 4294967296) (.int .i64 3) (.int .i64 660) (.slice A' m' c');have B9:=zhz (zae (zae B7.out b8) b9);have R9:=zhz (r8.below b9);have Z9:=zhz z8;have KC9:=zhz k9;clear r8 z8 b8 b9 k9)))
 try rw [ex2]
 clear ex1 kr kw ex2 hw7 kp CF
 obtain ⟨cb,hcb⟩:=zeq (w8.heap.size)
 rw [← hcb] at KC9 ⊢
 clear hcb
 have kc:=KC9.out.rd
 have HNW:=zhz (svnewN ps 660 A' m' c' none 0 0 [] x2 R9.out Z9.out (by omega) (by omega) (zb2 _ _))
 go_upto_region 8 with (go_at_call 17;((with_reducible refine HNW.out.mono ?_);rintro e wa ⟨s,rfl,ha,ba⟩;have HA:=zhz ha;have BA:=zhz (zae B9.out ba);have RA:=zhz (R9.out.below ba);have KCA:=zhz (KC9.out.keep ba);have BX:=zhz ba;clear ha ba))
 clear HNW kc
 have kc:=KCA.out.rd
 have HNW:=zhz (svnewN ps 660 A' m' c' As ns cs zs wa RA.out Z9.out (by omega) (by have:=HN50.out;omega) (HSD.out.below BA.out))
 go_upto_region 9 with (go_at_call 17;((with_reducible refine HNW.out.mono ?_);rintro e wb ⟨t,rfl,hb,bb⟩;have HAb:=zhz (HA.out.keep bb);have HBb:=zhz hb;have BB:=zhz (zae BA.out bb);have RB:=zhz (RA.out.below bb);have KCB:=zhz (KCA.out.keep bb);have BY:=zhz bb;clear hb bb))
 clear HNW kc
 obtain ⟨base,hbase⟩:=zeq (x2.heap.size)
 obtain ⟨b2,hb2⟩:=zeq (wa.heap.size)
 have HBS:=zhz (show w.heap.size≤base from by rw [hbase];exact B9.out.size)
 have HCB:=zhz (show cb<base from by rw [hbase];exact lt_of_block KC9.out)
 have HRB:=zhz (show ∀ b off,0<m'→A'=some ⟨b,off,none⟩→¬ base≤b from fun b off h0 e=>by obtain ⟨b',off',e',hlt,_⟩:=R9.out.at_ h0;rw [e] at e';injection e' with e';injection e' with e';rw [hbase];omega)
 have HB2:=zhz (show base≤b2∧b2≤wb.heap.size from ⟨by rw [hbase,hb2];exact BX.out.size,by rw [hb2];exact BY.out.size⟩)
 rw [← hbase] at HA HAb
 rw [← hb2] at HBb
 obtain ⟨ct,Nt,Kt,ht1,ht2,ht3,ht4⟩:=HBb.out
 obtain ⟨ca,Na,Ka,ha1,ha2,ha3,ha4⟩:=HA.out
 have ha5:=ha1.keep BY.out
 have HE:=zhz (show SrE wb base s ps 660 0 0 (fun b=>svF t Nt Kt b) from ⟨Na,Ka,ca,_,_,ha5,ha4,ha2.now,fun b hb=>⟨fun hs=>by have h1:=ha1.sv_lt b hs;have h2:=ht1.sv_lo b hb;omega,ht1.sv_lt b hb⟩⟩)
 have HT:=zhz ht1
 have HTN:=zhz (And.intro ht2 (And.intro ht3 ht4))
 clear ht1 ht2 ht3 ht4 ha1 ha2 ha3 ha4 ha5 hbase hb2 ca Na Ka
 go_upto_region 10 with (fail)
 have CDea:=zhz (zek A1 n1 c1 L1 wb (HR1.out.below BB.out) (by have h1:=HLGa.out.1;have h2:=HR1.out.len;omega))
 have HAca:=zhz (fun (wx:World) (g8 c8:Nat) (r8:RdDe wx (some ⟨g8,0,none⟩) (2+n1) c8 ([dzE 0,dzE 1]++L1))=>show Calls Tryz.prog 20 #[.slice (some ⟨g8,0,none⟩) (2+n1) c8,.int .i64 1] wx (fun e w'=>∃ v ls,e=.returned v∧AcR wx w' v ls∧ls.length=2+n1∧Below wx.heap.size wx w') from zdF _ _ c8 _ 1 (by omega) wx r8 (by rw [List.length_append];have:=HLGa.out.1;show 2+L1.length≤160;omega) (fun d hd=>by
  rcases List.mem_append.1 hd with q | q
  ·rcases List.mem_cons.1 q with rfl | q
   ·exact ⟨Nat.zero_le _,Nat.zero_le _⟩
   ·rw [List.mem_singleton.1 q];exact ⟨Nat.zero_le _,Nat.zero_le _⟩
  ·exact HLGa.out.2 d q))
 go_upto_region 11 with (first
  | (go_at_call 21;((with_reducible refine CDea.out.mono ?_);rintro e wd ⟨gd,cd,rfl,rd,bd⟩;have RD:=zhz rd;have BD:=zhz bd;clear rd bd))
  | (go_at_call 20;((with_reducible refine (HAca.out _ _ _ RD.out).mono ?_);rintro e w9 ⟨v9,ls,rfl,a9,l9,b9⟩;obtain ⟨A9,c9,hv9⟩:=a9.slice;have G9:=zhz (DoD.start (HE.out.keep BD.out) HBS.out (zae BB.out BD.out) a9 b9);have L9:=zhz (And.intro l9 HLGa.out.1);have HT9:=zhz ((HT.out.keep BD.out).keep b9);have F9:=zhz (show Fr (fun b=>base≤b) wb w9 from (Fr.of_below BD.out).trans (Fr.of_below b9));have S9:=zhz (show wb.heap.size≤wd.heap.size from BD.out.size);subst hv9;clear a9 l9 b9)))
 clear CDea HAca
 obtain ⟨hi,hhi⟩:=zeq (w9.heap.size)
 rw [← hhi] at G9
 have HHI:=zhz hhi
 clear hhi
 obtain ⟨nn,hnn⟩:=zeq (ls.length)
 have HNN:=zhz (show nn=ls.length∧nn≤152 from ⟨hnn,by have:=L9.out;have:=HR1.out.len;omega⟩)
 try rw [← hnn]
 rw [← hnn] at G9
 clear hnn
 obtain ⟨DD,hDD⟩:∃ z:Nat→Prop,z=(fun b=>(wd.heap.size≤b∧b<hi)∨svF t Nt Kt b):=⟨_,rfl⟩
 rw [← hDD] at G9
 have HDD:=zhz hDD
 have HDT:=zhz (show ∀ b,svF t Nt Kt b→DD b from fun b hb=>by rw [hDD];exact Or.inr hb)
 clear hDD
 go_wp2
 go_loopg [14,56] nn (fun kk sn si wr=>∃ (i:Nat) (now:Int),i≤nn∧Hid (kk=nn - i)∧sn=.int .i64 now∧si=.int .i64 (i:Int)∧Hid (DoD w wd wr base s ps 660 now (500*2097153*(i:Int)) hi (.slice A9 nn c9) ls DD)∧Hid (0≤now∧now≤163680)∧Hid (∀ (j:Nat) a,i≤j→ls[j]?=some a→now≤a.ck)∧Hid (Fr (fun b=>base≤b) wb wr)∧Hid (SrB wr b2 t (confR ps) 660 Nt Kt ct (rsZ (confR ps)) [cZ,cZ,cZ] 0))
 case atStart=>exact ⟨0,0,by omega,zhz rfl,rfl,rfl,G9,zhz (by omega),zhz (fun j a _ ha=>(G9.out.ac.hold a (List.mem_of_getElem? ha)).ck.1),F9,HT9⟩
 case round =>
  obtain ⟨i,now,hi',HKK,rfl,rfl,HG,HNW,HNL,HF,HTR⟩:=hrel
  by_cases hin:i<nn
  ·obtain ⟨g,cg,hvg,hg1,hg2,hcg⟩:=HG.out.ac.at_ (by have:=HNN.out;omega)
   injection hvg with hvA hvn hvc
   subst hvA
   clear hvn hvc
   obtain ⟨a,ha⟩:∃ a,ls[i]?=some a:=⟨_,List.getElem?_eq_getElem (by have:=HNN.out;omega)⟩
   have HAM:=zhz (List.mem_of_getElem? ha)
   have HAH:=zhz (HG.out.ac.hold a HAM.out)
   have HAS:=zhz (show ∀ (j:Nat) a',i+1≤j→ls[j]?=some a'→a.ck≤a'.ck from fun j a' hj ha'=>by
    obtain ⟨h1,e1⟩:=List.getElem?_eq_some_iff.1 ha
    obtain ⟨h2,e2⟩:=List.getElem?_eq_some_iff.1 ha'
    have:=List.pairwise_iff_getElem.1 HG.out.ac.so i j h1 h2 (by omega)
    rw [e1,e2] at this
    exact this)
   have HNA:=zhz (HNL.out i a (Nat.le_refl _) ha)
   have hca:=hcg i a ha
   obtain ⟨kd,ck,k,dA,na,ca,dn,sB,nb,cb'⟩:=a
   have kr0:wr.cell? ⟨g,i*6,none⟩=some (.int .i64 kd):=hca 0 (by omega)
   have kr1:wr.cell? ⟨g,i*6+1,none⟩=some (.int .i64 ck):=hca 1 (by omega)
   have kr2:wr.cell? ⟨g,i*6+2,none⟩=some (.int .i64 (k:Int)):=hca 2 (by omega)
   have kr3:wr.cell? ⟨g,i*6+3,none⟩=some (.slice dA na ca):=hca 3 (by omega)
   have kr4:wr.cell? ⟨g,i*6+4,none⟩=some (.int .i64 dn):=hca 4 (by omega)
   have kr5:wr.cell? ⟨g,i*6+5,none⟩=some (.slice sB nb cb'):=hca 5 (by omega)
   obtain ⟨x1,x2,ex1,kr,kw,ex2,bl2,kc2⟩:=box6E wr (.int .i64 kd) (.int .i64 ck) (.int .i64 (k:Int)) (.slice dA na ca) (.int .i64 dn) (.slice sB nb cb')
   obtain ⟨bx,hbx⟩:=zeq (wr.heap.size)
   rw [← hbx] at kc2
   have HBH:=zhz (show hi≤bx from by rw [hbx];exact HG.out.lo.2.2)
   have G2:=zhz (HG.out.box bl2 (bx:=bx) ⟨by omega,lt_of_block kc2⟩)
   have HT2:=zhz (HTR.out.keep bl2)
   have HBX:=zhz hbx
   have KC:=zhz kc2
   have BL2:=zhz bl2
   have HCK:=zhz (show 0≤ck∧ck≤163680 from HAH.out.ck)
   have t2:(i:Int)<(nn:Int):=by omega
   have t3:(nn:Int)≤152:=by have:=HNN.out.2;omega
   have HIN:=zhz hin
   clear hcg hca ha bl2 kc2 hbx hg1 hg2 hin
   go_upto_region 13 with (fail)
   try rw [ex2]
   rw [← HBX.out]
   clear ex1 kr kw ex2 kr0 kr1 kr2 kr3 kr4 kr5
   have kx:=KC.out.rd
   have CD:=zhz (G2.out.act HAM.out (ck:=ck) (by have:=HCK.out;omega) (by have h1:=HNN.out.2;have h2:=HIN.out;omega))
   go_upto_region 14 with (go_at_call 30;((with_reducible refine CD.out.mono ?_);rintro e wd2 ⟨r6,rfl,g6,f6⟩;have G6:=zhz g6;have F6:=zhz (show Fr (fun b=>base≤b) wb wd2 from (HF.out.trans (Fr.of_below BL2.out)).trans (f6.mono (fun b hb=>hb.1)));have K6b:=zhz (KC.out.fr f6 (fun h=>h.2 (Or.inr rfl)));have HT6:=zhz (HT2.out.frS f6 (fun b hb hs=>hb.2 (Or.inl (HDT.out b hs))));clear g6 f6))
   clear kx CD
   have kx:=K6b.out.rd
   have hnow:(if kd=4 then max 0 ck else max now ck)=ck:=by have h1:now≤ck:=HNA.out;have h2:=HCK.out;split <;> omega
   have HN6:=zhz hnow
   clear hnow
   go_wp2
   go_roundg (nn - (i+1))
   case measure=>have:=HKK.out;have:=HIN.out;omega
   case rel=>exact ⟨i+1,ck,HIN.out,zhz rfl,rfl,by go_num,zhz (by rw [show 500*2097153*((i+1:Nat):Int)=500*2097153*(i:Int)+500*2097153 by omega];have h9:=G6.out;rw [HN6.out] at h9;exact h9.drop HBH.out),HCK,zhz (fun j a hj ha=>HAS.out j a hj ha),F6,HT6⟩
  ·have hie:i=nn:=by omega
   subst hie
   have CR:=zhz (HG.out.sv.anew2 (ck:=now) (by have:=HNW.out;omega) (nb:=ns) (by have:=HN50.out;omega) (HSD.out.below HG.out.bl) (fun b off h0 e e2=>by obtain ⟨b',off',e',hlt,_⟩:=HSD.out.at_ h0;rw [e] at e';injection e' with e';injection e' with e';have h1:=HBS.out;have h2:=HG.out.sv.lo;omega))
   go_upto_region 17 with (go_at_call 30;((with_reducible refine CR.out.mono ?_);rintro e we ⟨⟨v17,rfl⟩,Ne,Ke,ce,q1,q2,q3,q4,q5,q6,q7,q8⟩;have Q1:=zhz q1;have Q2:=zhz q2;have Q3:=zhz q3;have Q4:=zhz q4;have Q5:=zhz q5;have Q6:=zhz q6;have Q7:=zhz q7;have Q8:=zhz q8;clear q1 q2 q3 q4 q5 q6 q7 q8))
   clear CR
   have BE:=zhz (show Below w.heap.size w we from HG.out.bl.trans (Q8.out.below HG.out.bl.size (fun b e=>by have:=HBS.out;have:=Q7.out;omega)))
   have FE:=zhz (show Fr (fun b=>base≤b) wb we from HF.out.trans (Q8.out.mono (fun b e=>by rw [e];exact Q7.out)))
   have KCE:=zhz (KCB.out.fr FE.out (by have:=HCB.out;omega))
   have RE:=zhz (zmg RB.out FE.out HRB.out)
   have HTE:=zhz (HTR.out.frS Q8.out (fun b e hs=>by rw [e] at hs;exact Q6.out (HDT.out s hs)))
   have HCF:=zhz (show confR ps=[planR ⟨a,b,c,d,e,f,g,h,sm⟩] from by rw [HPS.out];rfl)
   obtain ⟨Wd,hWd⟩:=zeq ((planR ⟨a,b,c,d,e,f,g,h,sm⟩).W)
   have HWB:=zhz (show 1≤Wd∧Wd≤256 from by rw [hWd];exact zl4 _)
   have hrl:0<(confR ps).length:=by rw [HCF.out,List.length_singleton];decide
   have hm1:(m':Int)=1:=by have:=RE.out.len;rw [HCF.out] at this;simp at this;omega
   obtain ⟨b',off,hA',hbl,hcl⟩:=RE.out.at_ (by omega)
   have kb:we.cell? ⟨b',off+1,none⟩=some (.int .i64 Wd):=by
    have h2:=hcl 0 hrl 1 (by omega)
    rw [show off+0*9+1=off+1 by omega] at h2
    rw [h2]
    simp only [HCF.out]
    rw [hWd];rfl
   have HWD:=zhz hWd
   subst hA'
   have kc:=KCE.out.rd
   have tm1:(0:Int)<(m':Int):=by omega
   have en:IntKind.i64.wrap (now+Wd)=now+Wd:=by rw [IntKind.wrap_i64];have h1:=HNW.out;have h2:=HWB.out;omega
   clear hWd hrl hbl hcl hm1
   go_upto_region 18 with (fail)
   obtain ⟨nw,hnw⟩:=zeq (now+Wd)
   try rw [en]
   try rw [← hnw]
   clear en kb kc tm1
   have HNE:=zhz (show nw=now+Wd∧0≤now∧now≤163680 from ⟨hnw,HNW.out⟩)
   have TW:=zhz (show TwS we base s b2 t ps nw 0 (fun _=>False) from ⟨Ne,Ke,ce,Nt,Kt,ct,_,[cZ,cZ,cZ],⟨Q1.out,HTE.out,zm7 Q1.out.hn.nl HTE.out.hn.nl Q3.out HTN.out.2.1,fun b hb hs=>by
     rcases Q4.out b hb with e | e
     ·rw [e] at hs;exact Q6.out (HDT.out s hs)
     ·have:=HTR.out.sv_lt b hs;omega,⟨by rw [Q5.out.1];have:=HNE.out;have:=HWB.out;omega,Or.inr ⟨Q5.out.2.2,fun r hr=>by
     rw [HCF.out] at hr
     rw [List.mem_singleton.1 hr,Q5.out.2.1,← HWD.out]
     have:=HNE.out;omega⟩⟩,⟨by rw [HTN.out.1.now];have:=HNE.out;have:=HWB.out;omega,Or.inl HTN.out.1.rs⟩,Q2.out,HTN.out.2.2,HB2.out.1,fun b hd=>hd.elim⟩,fun y hy=>by
     have e:y=cZ:=by simpa using hy
     rw [e];exact zmx⟩)
   clear hnw
   have CDeb:=zhz (zek A2 n2 c2 L2 we (HR2.out.below BE.out) (by have h1:=HLGb.out.1;have h2:=HR2.out.len;omega))
   have HAcb:=zhz (fun (wx:World) (g8 c8:Nat) (r8:RdDe wx (some ⟨g8,0,none⟩) (2+n2) c8 ([dzE 0,dzE 1]++L2))=>show Calls Tryz.prog 20 #[.slice (some ⟨g8,0,none⟩) (2+n2) c8,.int .i64 1] wx (fun e w'=>∃ v ls,e=.returned v∧AcR wx w' v ls∧ls.length=2+n2∧Below wx.heap.size wx w') from zdF _ _ c8 _ 1 (by omega) wx r8 (by rw [List.length_append];have:=HLGb.out.1;show 2+L2.length≤160;omega) (fun d hd=>by
    rcases List.mem_append.1 hd with q | q
    ·rcases List.mem_cons.1 q with rfl | q
     ·exact ⟨Nat.zero_le _,Nat.zero_le _⟩
     ·rw [List.mem_singleton.1 q];exact ⟨Nat.zero_le _,Nat.zero_le _⟩
    ·exact HLGb.out.2 d q))
   go_upto_region 19 with (first
    | (go_at_call 21;((with_reducible refine CDeb.out.mono ?_);rintro e wf ⟨gd2,cd2,rfl,rd,bd⟩;have RD2:=zhz rd;have BD2:=zhz bd;clear rd bd))
    | (go_at_call 20;((with_reducible refine (HAcb.out _ _ _ RD2.out).mono ?_);rintro e wg ⟨v9,ls2,rfl,a9,l9,b9⟩;obtain ⟨A10,c10,hv9⟩:=a9.slice;have T9:=zhz (TwL.start (TW.out.keep BD2.out) HBS.out (zae BE.out BD2.out) a9 b9);have L10:=zhz (And.intro l9 HLGb.out.1);subst hv9;clear a9 l9 b9)))
   clear CDeb HAcb
   obtain ⟨hi2,hhi2⟩:=zeq (wg.heap.size)
   rw [← hhi2] at T9
   clear hhi2
   obtain ⟨n3,hn3⟩:=zeq (ls2.length)
   have HN3:=zhz (show n3=ls2.length∧n3≤152 from ⟨hn3,by have:=L10.out;have:=HR2.out.len;omega⟩)
   try rw [← hn3]
   rw [← hn3] at T9
   clear hn3
   go_wp2
   go_loopg [82] n3 (fun kk si wr=>∃ (j:Nat) (nz:Int),j≤n3∧Hid (kk=n3 - j)∧si=.int .i64 (j:Int)∧Hid (TwL w wf wr base s b2 t ps nz (500*2097153*(j:Int)) hi2 (.slice A10 n3 c10) ls2 (fun _=>False))∧Hid (∀ (q:Nat) a,j≤q→ls2[q]?=some a→nz≤a.ck+nw))
   case atStart=>exact ⟨0,nw,by omega,zhz rfl,rfl,T9,zhz (fun q a _ ha=>by have:0≤a.ck∧a.ck≤163680:=(T9.out.ac.hold a (List.mem_of_getElem? ha)).ck;omega)⟩
   case round =>
    obtain ⟨j,nz,hj',HKJ,rfl,HL,HZL⟩:=hrel
    by_cases hjn:j<n3
    ·obtain ⟨g,cg,hvg,hg1,hg2,hcg⟩:=HL.out.ac.at_ (by have:=HN3.out;omega)
     injection hvg with hvA hvn hvc
     subst hvA
     clear hvn hvc
     obtain ⟨a,ha⟩:∃ a,ls2[j]?=some a:=⟨_,List.getElem?_eq_getElem (by have:=HN3.out;omega)⟩
     have HAM:=zhz (List.mem_of_getElem? ha)
     have HAH:=zhz (HL.out.ac.hold a HAM.out)
     have HAS:=zhz (show ∀ (q:Nat) a',j+1≤q→ls2[q]?=some a'→a.ck+nw≤a'.ck+nw from fun q a' hq ha'=>by
      obtain ⟨h1,e1⟩:=List.getElem?_eq_some_iff.1 ha
      obtain ⟨h2,e2⟩:=List.getElem?_eq_some_iff.1 ha'
      have:=List.pairwise_iff_getElem.1 HL.out.ac.so j q h1 h2 (by omega)
      rw [e1,e2] at this
      omega)
     have HNA:=zhz (HZL.out j a (Nat.le_refl _) ha)
     have hca:=hcg j a ha
     obtain ⟨kd,ck,k,dA,na,ca,dn,sB,nb,cb'⟩:=a
     have kr0:wr.cell? ⟨g,j*6,none⟩=some (.int .i64 kd):=hca 0 (by omega)
     have kr1:wr.cell? ⟨g,j*6+1,none⟩=some (.int .i64 ck):=hca 1 (by omega)
     have kr2:wr.cell? ⟨g,j*6+2,none⟩=some (.int .i64 (k:Int)):=hca 2 (by omega)
     have kr3:wr.cell? ⟨g,j*6+3,none⟩=some (.slice dA na ca):=hca 3 (by omega)
     have kr4:wr.cell? ⟨g,j*6+4,none⟩=some (.int .i64 dn):=hca 4 (by omega)
     have kr5:wr.cell? ⟨g,j*6+5,none⟩=some (.slice sB nb cb'):=hca 5 (by omega)
     obtain ⟨x1,x2,ex1,kr,kw,ex2,bl2,kc2⟩:=box6E wr (.int .i64 kd) (.int .i64 ck) (.int .i64 (k:Int)) (.slice dA na ca) (.int .i64 dn) (.slice sB nb cb')
     obtain ⟨bx,hbx⟩:=zeq (wr.heap.size)
     rw [← hbx] at kc2
     have HBH:=zhz (show hi2≤bx∧w.heap.size≤bx from by rw [hbx];exact ⟨HL.out.lo.2,HL.out.bl.size⟩)
     have G2:=zhz (HL.out.box bl2 (bx:=bx) ⟨by omega,lt_of_block kc2⟩)
     have HBX:=zhz hbx
     have KC:=zhz kc2
     have HCK:=zhz (show 0≤ck∧ck≤163680 from HAH.out.ck)
     have t2:(j:Int)<(n3:Int):=by omega
     have t3:(n3:Int)≤152:=by have:=HN3.out.2;omega
     have HJN:=zhz hjn
     clear hcg hca ha bl2 kc2 hbx hg1 hg2 hjn
     go_upto_region 21 with (fail)
     try rw [ex2]
     rw [← HBX.out]
     clear ex1 kr kw ex2 kr0 kr1 kr2 kr3 kr4 kr5
     have kx:=KC.out.rd
     by_cases h4:kd=4
     ·subst h4
      go_wp2
      go_ret
      exact ⟨rfl,G2.out.bl⟩
     ·have t4:(kd==4)=false:=by simp [h4]
      have H4:=zhz h4
      clear h4
      obtain ⟨y3,e3,k3,f3⟩:=zaV KC.out 1 (.int .i64 (ck+nw))
      have K3:=zhz (show Blk y3 bx 64 #[.int .i64 kd,.int .i64 (ck+nw),.int .i64 (k:Int),.slice dA na ca,.int .i64 dn,.slice sB nb cb'] from k3)
      have G3:=zhz (G2.out.set (Or.inr rfl) HBH.out.1 HBH.out.2 f3)
      have kxw:=KC.out.wr
      have ew:IntKind.i64.wrap (ck+nw)=ck+nw:=by rw [IntKind.wrap_i64];have h1:=HCK.out;have h2:=HNE.out;have h3:=HWB.out;omega
      clear k3 f3
      go_upto_region 23 with (fail)
      try rw [ew]
      try rw [e3]
      clear kx kxw t4 ew e3
      have N0:=zhz (show Below y3.heap.size y3 y3.drew from zaa (Below.refl _ _) 1)
      have G4:=zhz (G3.out.keep N0.out)
      have K4b:=zhz (K3.out.keep N0.out)
      have c1:=G4.out.both HAM.out (ck:=ck+nw) H4.out ⟨HNA.out,by have h1:=HCK.out;have h2:=HNE.out;have h3:=HWB.out;omega⟩ (by have h1:=HN3.out.2;have h2:=HJN.out;omega)
      dsimp only [actV,actC] at c1
      have C1:=zhz c1
      clear c1
      have st:=K4b.out.rd
      refine wp_region_held_drew (S:=fun wx=>∀ q,wx.cell? ⟨bx,q,none⟩=(#[.int .i64 kd,.int .i64 (ck+nw),.int .i64 (k:Int),.slice dA na ca,.int .i64 dn,.slice sB nb cb']:Array Value)[q]?) (by kernel_rfl) st (fun hHeld=>?_)
      clear st
      refine wR 0 ?_
      refine wR 1 ?_
      refine wR 3 ?_
      refine wR 4 ?_
      refine wC 2 fun K hK=>?_
      go_simp
      ((with_reducible refine C1.out.mono ?_);rintro v w20 ⟨ev,nx,A3,n5,c3,A4,n4,c4,rfl,f20,q20⟩;have Q20:=zhz q20;have K20:=zhz (K4b.out.fr f20 (fun h=>h.2 (Or.inr (Or.inr rfl))));have F20:=zhz f20;clear f20 q20)
      refine hK.out _ _ K20.out.rd fun hHeld=>?_
      clear hK K
      try simp only [Act.put,zs1,zs2,zs3]
      refine wC 5 fun K hK=>?_
      go_simp
      ((with_reducible refine Q20.out.mono ?_);rintro v w21 ⟨B3,d3,B4,d4,rfl,g21,f21,zo,Lv,r3,s3,r4,s4,h41⟩;have G21:=zhz (G4.out.next g21 (F20.out.trans f21));have K21:=zhz (K20.out.fr f21 (fun h=>h.2 (Or.inr (Or.inr rfl))));have SM:=zhz (zkG ev (nx:Int) A3 B3 A4 B4 n5 n4 c3 d3 c4 d4 zo Lv w21 r3 s3 r4 s4 h41);clear g21 f21 r3 s3 r4 s4 h41)
      refine hK.out _ _ K21.out.rd fun hHeld=>?_
      clear hK K
      try simp only [Act.put,zs1,zs2,zs3]
      refine wC 6 fun K hK=>?_
      go_simp
      ((with_reducible refine SM.out.mono ?_);rintro v w22 ⟨rfl,b22⟩;have G22:=zhz (G21.out.keep b22);have K22:=zhz (K21.out.keep b22);clear b22)
      refine hK.out _ _ K22.out.rd fun hHeld=>?_
      clear hK K
      try simp only [Act.put,zs1,zs2,zs3]
      refine wR 7 ?_
      refine wpAnyH_done (by kernel_rfl) ?_ _
      clear hHeld C1
      go_wp2
      go_roundg (n3 - (j+1))
      case measure=>have:=HKJ.out;have:=HJN.out;omega
      case rel=>exact ⟨j+1,ck+nw,HJN.out,zhz rfl,by go_num,zhz (by rw [show 500*2097153*((j+1:Nat):Int)=500*2097153*(j:Int)+500*2097153 by omega];exact G22.out.drop (fun _ h=>h.elim)),zhz (fun q a hq ha=>HAS.out q a hq ha)⟩
    ·have hje:j=n3:=by omega
     subst hje
     go_wp2
     go_ret
     exact ⟨rfl,HL.out.bl⟩
end Go.Proofs.YtambcbbekoehiaaGreat
