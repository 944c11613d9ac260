import Derived.Test.YtambcbbekoehiabGreatZSvW
set_option linter.unusedSimpArgs false
set_option linter.unusedVariables false
set_option maxRecDepth 100000
set_option maxHeartbeats 9000000
namespace Go.Proofs.YtambcbbekoehiabGreat
open Go.ChangeShapes Go.WideShapes Go.ChangeAt Go.RowKit
theorem zgf {w:World} {g:Nat} {t:TypeId} (h:Blk w g t #[.int .u64 6]):RdI w .u64 (some ⟨g,0,none⟩) 1 1 [6] :=
 ⟨rfl,Nat.le_refl _,by unfold maxLen;omega,fun _=>⟨g,0,rfl,lt_of_block h,fun i hi=>by
  have h0:i=0:=by omega
  subst h0
  rw [Nat.zero_add,h.rd 0];rfl⟩,fun z hz=>by rw [List.mem_singleton.1 hz];decide⟩
theorem wholedrains_law (w:World) (A:Option Addr) (n c:Nat) (lps:List RuZ) (A2:Option Addr) (n2 c2:Nat) (L:List Cl) (Ab:Option Addr) (nb cbb:Nat) (B:Nat→Bool) (hrp:RdRu w A n c lps) (hr2:RdL w A2 n2 c2 4 encCl L) (hok:∀ a ∈ L,okCl a) (hrb:RdB w Ab nb cbb B) :
  Calls Tryz.prog 5 #[.slice A n c,.slice A2 n2 c2,.slice Ab nb cbb] w fun e w'=>e=.returned (.bool true)∧Below w.heap.size w w':=by
 have hmx2:=hr2.max
 have hmxb:=hrb.max
 unfold maxLen at hmx2 hmxb
 have hcp2:=hr2.cap
 have hcpb:=hrb.cap
 have HRP:=zhz hrp
 have HR2:=zhz hr2
 have HRB:=zhz hrb
 have HO:=zhz hok
 clear hrp hr2 hrb hok
 go_enter Tryz.func5,Tryz.ntmps5
 go_upto_region 3 with (go_at_call 7;((refine (ziR _).mono ?_);rintro e w3 ⟨rfl,b3⟩;have B3:=zhz (show Below w.heap.size w w3 from b3);clear b3))
 have CLi:=zhz (ze6 A2 n2 c2 L w3 (HR2.out.below B3.out) HO.out)
 cases hlb:lightC L with
 | false =>
  rw [hlb] at CLi
  go_wp2_with (go_at_call 8;((with_reducible refine CLi.out.mono ?_);rintro e w4 ⟨rfl,b4⟩;have T4:=zhz (zad B3.out b4);clear b4))
  go_ret
  exact ⟨rfl,T4.out⟩
 | true =>
 rw [hlb] at CLi
 have hlc:=zh0 hlb
 have HLK:=zhz hlc.2
 have hb2:(n2:Int)≤150:=by have h1:=hlc.1;have h2:=HR2.out.len;omega
 clear hlb hlc
 go_upto_region 5 with (go_at_call 8;((with_reducible refine CLi.out.mono ?_);rintro e w4 ⟨rfl,b4⟩;have B4:=zhz (zad B3.out b4);clear b4))
 clear CLi
 have CF:=zhz (zgm lps 660 A n c 0 rfl w4 (HRP.out.below B4.out))
 go_upto_region 6 with (first
  | (go_at_call 9;((with_reducible refine CF.out.mono ?_);rintro e w5 ⟨A',m',c',rfl,r8,z8,b8⟩;obtain ⟨x1,x2,ex1,kr,kw,ex2,b9,k9⟩:=box4K w5 (.int .i64 4294967296) (.int .i64 3) (.int .i64 660) (.slice A' m' c');have B9:=zhz (zad (zad B4.out b8) b9);have R9:=zhz (r8.below b9);have Z9:=zhz z8;have KC9:=zhz k9;clear r8 z8 b8 b9 k9)))
 try rw [ex2]
 clear ex1 kr kw ex2 CF
 obtain ⟨cb,hcb⟩:=zeq (w5.heap.size)
 rw [← hcb] at KC9 ⊢
 clear hcb
 have HM1:=zhz (show 1≤m'∧m'≤8 from by have h1:=R9.out.len;have h2:=Z9.out.2.1;omega)
 have kc:=KC9.out.rd
 obtain ⟨v5,hv5,k5,b5,s5⟩:=zae x2 #[.int .u64 6] 79
 obtain ⟨sdb,hsdb⟩:=zeq (x2.heap.size)
 rw [← hsdb] at k5
 have HSB:=zhz hsdb
 have BV:=zhz (zad B9.out b5)
 have RV:=zhz (R9.out.below b5)
 have KCV:=zhz (KC9.out.keep b5)
 have HNW:=zhz (svnewN lps 660 A' m' c' (some ⟨sdb,0,none⟩) 1 1 [6] v5 RV.out Z9.out (by omega) (by omega) (zgf k5))
 clear k5 b5 s5 hsdb
 go_upto_region 7 with (rw [← HSB.out];go_at_call 10;((with_reducible refine HNW.out.mono ?_);rintro e wa ⟨s,rfl,ha,ba⟩;have HA:=zhz ha;have BA:=zhz (zad BV.out ba);have RA:=zhz (RV.out.below ba);have KCA:=zhz (KCV.out.keep ba);have BX:=zhz ba;clear ha ba))
 clear HNW kc hv5 HSB
 have kc:=KCA.out.rd
 obtain ⟨v6,hv6,k6,b6,s6⟩:=zae wa #[.int .u64 6] 79
 obtain ⟨sdc,hsdc⟩:=zeq (wa.heap.size)
 rw [← hsdc] at k6
 have HSB:=zhz hsdc
 have BW:=zhz (zad BA.out b6)
 have RW:=zhz (RA.out.below b6)
 have KCW:=zhz (KCA.out.keep b6)
 have HAW:=zhz (HA.out.keep b6)
 have BXW:=zhz (Nat.le_trans BX.out.size b6.size)
 have HNW:=zhz (svnewN lps 660 A' m' c' (some ⟨sdc,0,none⟩) 1 1 [6] v6 RW.out Z9.out (by omega) (by omega) (zgf k6))
 clear k6 b6 s6 hsdc
 go_upto_region 8 with (rw [← HSB.out];go_at_call 10;((with_reducible refine HNW.out.mono ?_);rintro e wb ⟨t,rfl,hb,bb⟩;have HS:=zhz (TwC.start HAW.out hb bb BXW.out BV.out.size BW.out);have KCB:=zhz (KCW.out.keep bb);clear hb bb))
 clear HNW kc hv6 HSB
 obtain ⟨base,hbase⟩:=zeq (v5.heap.size)
 obtain ⟨b2,hb2'⟩:=zeq (v6.heap.size)
 obtain ⟨h0,hh0⟩:=zeq (wb.heap.size)
 have HCL:=zhz (show (confR lps).length=m' from R9.out.len)
 rw [← hbase,← hb2',← hh0] at HS
 obtain ⟨Na,Ka,ca,Nb,Kb,cc,hT,hLA,hsa,hsb,hka,hkb⟩:=HS.out
 obtain ⟨Ka0,hKa0⟩:∃ K,Ka[0]?=some K:=⟨_,List.getElem?_eq_getElem (by omega)⟩
 obtain ⟨Kb0,hKb0⟩:∃ K,Kb[0]?=some K:=⟨_,List.getElem?_eq_getElem (by omega)⟩
 have HK:=zhz (And.intro hKa0 hKb0)
 have HLA:=zhz hLA
 have HCC:=zhz (show (ca.rs=false∧ca.now=0)∧(cc.rs=false∧cc.now=0) from ⟨⟨hsa.rs,hsa.now⟩,hsb.rs,hsb.now⟩)
 have C1:=zhz (hT.openA (ck:=0) (by decide) 0 (kz:=0) rfl (.slice none 0 0) (.slice none 0 0) 0 hKa0 rfl ⟨rfl,rfl⟩ (by decide))
 clear hbase hb2' hT hLA hsa hsb hka hkb hKa0 hKb0 HS hh0
 go_upto_region 9 with (go_at_call 11;((with_reducible refine C1.out.mono ?_);rintro e z1 ⟨rfl,g1,f1⟩;have G1:=zhz g1;clear g1 f1))
 clear C1
 have C2:=zhz (G1.out.openB (ck:=0) (by decide) 0 (kz:=0) rfl (.slice none 0 0) (.slice none 0 0) 0 HK.out.2 rfl ⟨rfl,rfl⟩ (by decide))
 go_upto_region 10 with (go_at_call 11;((with_reducible refine C2.out.mono ?_);rintro e z2 ⟨rfl,g2,f2⟩;have G2:=zhz g2;clear g2 f2))
 clear C2
 have D0:=zhz (DrI.of (now:=0) G2.out ⟨HCC.out.1.1,(show max ca.now 0≤0 by rw [HCC.out.1.2];decide)⟩ ⟨HCC.out.2.1,(show max cc.now 0≤0 by rw [HCC.out.2.2];decide)⟩)
 clear G1 G2 HCC
 go_upto_region 13 with (fail)
 go_loopg [12,13,14,45] n2 (fun kk sx sy sn si wr=>∃ (i:Nat) (now:Int) (sX sY:ByteArray) (Y p:List Int),i≤n2∧Hid (kk=n2 - i)∧sx=.string sX∧sy=.string sY∧sn=.int .i64 now∧si=.int .i64 (i:Int)∧Hid (0≤now∧now≤1023*(i:Int)∧i≤25)∧Hid (sX=strOfNums (Y++p))∧Hid (sY=strOfNums Y)∧Hid (sX.size≤22*i∧sY.size≤22*i)∧Hid (byt p∧p.length≤22*i)∧Hid (DrI w wr base s b2 t h0 (confR lps) Na Ka Nb Kb now (150*2097153*(i:Int)) [] p))
 case atStart=>exact ⟨0,0,_,_,[],[],by omega,zhz rfl,rfl,rfl,rfl,rfl,zhz (by omega),zhz (show (⟨#[]⟩:ByteArray)=strOfNums [] from by apply ByteArray.ext;rfl),zhz (show (⟨#[]⟩:ByteArray)=strOfNums [] from by apply ByteArray.ext;rfl),zhz ⟨Nat.zero_le _,Nat.zero_le _⟩,zhz ⟨(fun z hz=>by cases hz),Nat.zero_le _⟩,zhz (by rw [show 150*2097153*((0:Nat):Int)=0 by omega];exact D0.out)⟩
 case round =>
  obtain ⟨i,now,sX,sY,Y,p,hi,HKK,rfl,rfl,rfl,rfl,HNOW,HSX,HSY,HSZ,HBP,HX⟩:=hrel
  by_cases hin:i<n2
  ·have HBL:=zhz HX.out.bl
   have HHL:=zhz HX.out.hi
   have hl2:=HR2.out.len
   obtain ⟨b',off,rfl,hbl,hcl⟩:=(HR2.out.below HBL.out).at_ (by omega)
   obtain ⟨⟨gp,cs,ky,pk⟩,ha⟩:∃ a,L[i]?=some a:=⟨_,List.getElem?_eq_getElem (by omega)⟩
   have HKY:=zhz (HLK.out _ (List.mem_of_getElem? ha))
   have kr0:wr.cell? ⟨b',off+i*4,none⟩=some (.int .i64 gp):=hcl i _ ha 0 (by omega)
   have kr1:wr.cell? ⟨b',off+i*4+1,none⟩=some (.int .i64 cs):=hcl i _ ha 1 (by omega)
   have kr2:wr.cell? ⟨b',off+i*4+2,none⟩=some (.string ky):=hcl i _ ha 2 (by omega)
   have kr3:wr.cell? ⟨b',off+i*4+3,none⟩=some (.bool pk):=hcl i _ ha 3 (by omega)
   obtain ⟨y1,y2,ey1,kr,kw,ey2,bl2,kc2⟩:=box4C wr (.int .i64 gp) (.int .i64 cs) (.string ky) (.bool pk)
   obtain ⟨bx,hbx⟩:=zeq (wr.heap.size)
   rw [← hbx] at kc2
   have D2:=zhz (HX.out.keep bl2)
   have HBX:=zhz hbx
   have KC:=zhz kc2
   have t2:(i:Int)<(n2:Int):=by omega
   have HIN:=zhz hin
   clear hl2 hcl hbl bl2 kc2 hbx hin ha
   go_upto_region 15 with (fail)
   try rw [ey2]
   rw [← HBX.out]
   clear kr0 kr1 kr2 kr3 ey1 kr kw ey2
   have kx:=KC.out.rd
   by_cases h25:i=25
   ·have t25:(i:Int)=25:=by omega
    have DT:=zhz D2.out
    clear kx
    go_upto_region 24 with (fail)
    have hY:=HX.out.st
    clear hY
    have HBYt:=zhz HBP.out.1
    have hdn:=HBP.out.2
    obtain ⟨pl,hpl⟩:=zeq (p.length)
    have HPL:=zhz hpl
    have CDb:=zhz (DT.out.drainB HK.out.2 (ck:=now) ⟨Int.le_refl _,by have:=HNOW.out;omega⟩ 65536 pl (by have:=HPL.out;omega) HBYt.out (by have:=HNOW.out;omega) (.slice none 0 0) (.slice none 0 0))
    clear hpl hdn
    have hfd:=fun g n w=>zdU g n w
    go_upto_region 25 with (go_at_call 11;((with_reducible refine CDb.out.mono ?_);rintro v u1 ⟨g1,rfl,r1,d1,f1⟩;have D1:=zhz d1;rw [List.take_of_length_le (by have:=HPL.out;omega)] at r1;have hcv:=zbc (P:=Tryz.prog) (src:=38) (dst:=9) Tryz.underlying38 Tryz.underlying5 Tryz.underlying9 r1;obtain ⟨s6,hs6⟩:=zeq (strOfNums p);rw [← hs6] at hcv;have hq6:(9223372036854775807<sY.size+s6.size)=False:=eq_false (by have h1:=HSZ.out.2;have h2:=HBP.out.2;rw [hs6,za5];omega);have hgg:sY++s6=sX:=(by rw [hs6,HSY.out,HSX.out,zbu]);clear r1 d1 f1 hs6))
    clear CDb hcv hq6 hgg
    obtain ⟨la,lb,q1,q2,q3,q4,q5,hTT⟩:=D1.out.tot HLA.out (by rw [HCL.out];exact HM1.out.1)
    have CR1:=zhz (hTT _ (Below.refl _ _)).1
    have CR2:=zhz (fun wx (hb:Below u1.heap.size u1 wx)=>(hTT wx hb).2.1)
    have CT1:=zhz (fun wx (hb:Below u1.heap.size u1 wx)=>(hTT wx hb).2.2.1)
    have CT2:=zhz (fun wx (hb:Below u1.heap.size u1 wx)=>(hTT wx hb).2.2.2)
    have heq:∀ w,(Op.equalIn 10000 54 (.agg #[.int .i64 q1,.int .i64 q2,.int .i64 q3,.int .i64 q4,.int .i64 q5]) (.agg #[.int .i64 q1,.int .i64 q2,.int .i64 q3,.int .i64 q4,.int .i64 q5])).run Tryz.prog w=.ok true w:=fun w=>by rw [zci];simp
    clear hTT
    go_wp2_with (first
     | (go_at_call 15;((with_reducible refine CR1.out.mono ?_);rintro e u2 ⟨rfl,rfl⟩;clear CR1))
     | (go_at_call 16;((with_reducible refine (CT1.out _ (Below.refl _ _)).mono ?_);rintro e u3 ⟨rfl,b3'⟩;have BT:=zhz b3';clear b3' CT1))
     | (go_at_call 15;((with_reducible refine (CR2.out _ BT.out).mono ?_);rintro e u4 ⟨rfl,rfl⟩;clear CR2))
     | (go_at_call 16;((with_reducible refine (CT2.out _ BT.out).mono ?_);rintro e u5 ⟨rfl,b5'⟩;have BU:=zhz (zad (zad D1.out.bl BT.out) b5');clear b5')))
    go_ret
    exact ⟨rfl,BU.out⟩
   ·have t25:¬ (i:Int)=25:=by omega
    have HI24:=zhz (show i≤24 from by have:=HNOW.out.2.2;omega)
    have CG:=zhz (fun wx=>zjm gp wx)
    have hgb:=zkX gp
    obtain ⟨gq,hgq⟩:=zeq (gapL gp)
    rw [← hgq] at CG hgb
    obtain ⟨t',ht'⟩:=zeq (now+gq)
    have et:IntKind.i64.wrap (now+gq)=t':=by have h1:=HNOW.out;rw [IntKind.wrap_i64];omega
    have HTT:=zhz (show now≤t'∧0≤t'∧t'≤1023*((i:Int)+1)∧t'≤9223372036854775807 from by have h1:=HNOW.out;omega)
    clear hgq ht' hgb h25
    go_upto_region 17 with (go_at_call 12;((with_reducible refine (CG.out _).mono ?_);rintro v y3 ⟨rfl,rfl⟩))
    clear CG et t25
    obtain ⟨cz,hcz⟩:=zeq (cs % 32)
    have em:bits .and .i64 cs 31=cz:=by rw [hcz];exact zbN _
    have HCZ:=zhz (show 0≤cz∧cz<32 from by omega)
    have ecv:IntKind.u32.wrap cz=cz:=by have:=HCZ.out;rw [IntKind.wrap_u32];omega
    have HQ1:=zhz (show okQ (((confR lps).length:Nat):Int) (mkR 1 0 cz ky 0) from zkt (by rw [HCL.out];have:=HM1.out;omega) (by rw [HCL.out];have:=HM1.out;omega) (Or.inl rfl) HKY.out rfl (by have:=HCZ.out;omega))
    have CE:=zhz (fun wx=>zlB (op:=1) (ru:=0) (co:=cz) (k:=0) (ky:=ky) (zcE (by rw [HCL.out];have:=HM1.out;omega) HQ1.out) (by have:=HCZ.out;omega) wx)
    clear hcz
    go_upto_region 18 with (go_at_call 13;((with_reducible refine (CE.out _).mono ?_);rintro v w14 ⟨g14,n14,c14,rfl,l14,r14,hg14,b14⟩;have R14:=zhz (And.intro r14 (show h0≤g14 from Nat.le_trans D2.out.hi hg14));have D3:=zhz (D2.out.keep b14);clear l14 r14 hg14 b14))
    clear CE em ecv kx
    obtain ⟨mm,hmm⟩:∃ z,z=150*2097153*(i:Int):=⟨_,rfl⟩
    have HMM:=zhz (show 0≤mm∧mm≤150*2097153*25 from by have:=HI24.out;omega)
    have HME:=zhz hmm
    rw [← hmm] at D3
    clear hmm
    have CA:=zhz (D3.out.askA HK.out.1 (ck:=t') ⟨HTT.out.1,HTT.out.2.2.2⟩ HQ1.out (Or.inl rfl) (by simp) (by have:=HMM.out;omega) (some ⟨g14,0,none⟩) n14 c14 R14.out.1 (fun b off _ e=>by injection e with e;injection e with e;exact Or.inr (by have:=R14.out.2;omega)) 0 (.slice none 0 0))
    go_upto_region 19 with (go_at_call 11;((with_reducible refine CA.out.mono ?_);rintro v w5 ⟨A4,n4,c4,rfl,g1,f1⟩;have H5:=zhz g1;have R5:=zhz (zfi R14.out.1 f1 (fun b off _ e hf=>by injection e with e;injection e with e;have:=R14.out.2;have:=hf.2;omega));clear g1 f1))
    clear CA
    have CB:=zhz (H5.out.askB HLA.out HK.out.2 ⟨HTT.out.1,HTT.out.2.2.2⟩ HQ1.out (Or.inl rfl) (by have:=HBP.out.2;have:=HI24.out;omega) (by have:=HMM.out;omega) (some ⟨g14,0,none⟩) n14 c14 R5.out (fun b off _ e=>by injection e with e;injection e with e;exact Or.inr (by have:=R14.out.2;omega)) 0 (.slice none 0 0))
    go_upto_region 20 with (go_at_call 11;((with_reducible refine CB.out.mono ?_);rintro v w6 ⟨A5,n5,c5,x,rfl,g1,hx1,hx2,f1⟩;have D6:=zhz (show DrI w w6 base s b2 t h0 (confR lps) Na Ka Nb Kb t' (mm+75*2097153+75*2097153) x (p++x) from g1);have HXB:=zhz (And.intro hx1 hx2);clear g1 f1 hx1 hx2))
    clear CB
    have CD:=zhz (D6.out.drainA HK.out.1 (ck:=t') ⟨Int.le_refl _,HTT.out.2.2.2⟩ 99 22 (by have:=HXB.out.2;omega) HXB.out.1 (by have:=HMM.out;omega) (.slice none 0 0) (.slice none 0 0))
    have hdr:x.drop 22=[]:=List.drop_eq_nil_of_le (by have:=HXB.out.2;omega)
    have htk:x.take 22=x:=List.take_of_length_le (by have:=HXB.out.2;omega)
    rw [hdr,htk] at CD
    clear hdr htk
    have hfd:=fun g n w=>zdU g n w
    go_upto_region 21 with (go_at_call 11;((with_reducible refine CD.out.mono ?_);rintro v w7 ⟨g7,rfl,r7,d7,f7⟩;have D7:=zhz d7;have hcv:=zbc (P:=Tryz.prog) (src:=38) (dst:=9) Tryz.underlying38 Tryz.underlying5 Tryz.underlying9 r7;obtain ⟨s6,hs6⟩:=zeq (strOfNums x);rw [← hs6] at hcv;have hq6:(9223372036854775807<sX.size+s6.size)=False:=eq_false (by have h1:=HSZ.out.1;have h2:=HXB.out.2;have:=HI24.out;rw [hs6,za5];omega);obtain ⟨sN,hsN⟩:=zeq (sX++s6);have HSN:=zhz (show sN=strOfNums (Y++(p++x))∧sN.size≤22*(i+1) from ⟨by rw [hsN,hs6,HSX.out,zbu,List.append_assoc],by have h1:=HSZ.out.1;have h2:=HXB.out.2;rw [hsN,ByteArray.size_append,hs6,za5];omega⟩);have hgg:=hsN.symm;clear hsN r7 d7 f7 hs6))
    clear CD hcv hq6 hgg
    obtain ⟨p2,hp2⟩:=zeq (p++x)
    have HP2:=zhz (show byt p2∧p2.length≤22*(i+1) from ⟨by rw [hp2];intro z hz;rcases List.mem_append.1 hz with hz | hz;exact HBP.out.1 z hz;exact HXB.out.1 z hz,by rw [hp2,List.length_append];have:=HBP.out.2;have:=HXB.out.2;omega⟩)
    rw [← hp2] at D7 HSN
    clear hp2
    go_cut [92] from 83 to 102 (fun s92 wx=>s92=.bool (decide (i<nb) && B i)∧wx=w7)
    case first =>
     by_cases h2:i<nb
     ·obtain ⟨b2',off2,rfl,hlt2,hcell2⟩:=(HRB.out.below D7.out.bl).at_ (by omega)
      have hc2:w7.cell? ⟨b2',off2+i,none⟩=some (.bool (B i)):=hcell2 i h2
      have t3:(i:Int)<(nb:Int):=by omega
      clear hcell2
      go_wp2
      go_meet
      case rel=>exact ⟨by simp [h2],rfl⟩
     ·have t3:¬ (i:Int)<(nb:Int):=by omega
      go_wp2
      go_meet
      case rel=>exact ⟨by simp [h2],rfl⟩
    case rest =>
    obtain ⟨hs92,hwx⟩:=hcut
    subst hwx
    subst hs92
    obtain ⟨tn,htn⟩:=zeq ((decide (i<nb) && B i))
    rw [← htn]
    clear htn
    cases tn
    ·go_wp2
     go_roundg (n2 - (i+1))
     case measure=>have:=HKK.out;have:=HIN.out;omega
     case rel=>exact ⟨i+1,t',sN,sY,Y,p2,HIN.out,zhz rfl,rfl,rfl,rfl,by go_num,zhz ⟨HTT.out.2.1,by have:=HTT.out.2.2.1;omega,by have:=HI24.out;omega⟩,zhz HSN.out.1,HSY,zhz ⟨HSN.out.2,by have:=HSZ.out.2;omega⟩,HP2,zhz (D7.out.mono (by have h1:=HMM.out;have h2:=HME.out;have:=HI24.out;omega) (Int.le_refl _))⟩
    ·obtain ⟨d,hd⟩:∃ z:Nat,z=min i p2.length:=⟨_,rfl⟩
     have HD:=zhz hd
     have CE2:=zhz (D7.out.drainB HK.out.2 (ck:=t') ⟨Int.le_refl _,HTT.out.2.2.2⟩ (i:Int) d (by have:=HD.out;omega) HP2.out.1 (by have:=HMM.out;omega) (.slice none 0 0) (.slice none 0 0))
     clear hd
     go_wp2_with (go_at_call 11;((with_reducible refine CE2.out.mono ?_);rintro v w8 ⟨g8,rfl,r8',d8,f8⟩;have D8:=zhz d8;have hcv:=zbc (P:=Tryz.prog) (src:=38) (dst:=9) Tryz.underlying38 Tryz.underlying5 Tryz.underlying9 r8';obtain ⟨s6,hs6⟩:=zeq (strOfNums (p2.take d));rw [← hs6] at hcv;have hq6:(9223372036854775807<sY.size+s6.size)=False:=eq_false (by have h1:=HSZ.out.2;have h2:=HP2.out.2;have h3:=HI24.out;rw [hs6,za5,List.length_take];omega);obtain ⟨sM,hsM⟩:=zeq (sY++s6);have HSM:=zhz (show sM=strOfNums (Y++p2.take d) from by rw [hsM,hs6,HSY.out,zbu]);have hgg:=hsM.symm;clear hsM r8' d8 f8 hs6))
     have HMS:=zhz (show sM.size≤22*(i+1) from by rw [HSM.out,za5,List.length_append,List.length_take];have h1:=HSN.out.2;rw [HSN.out.1,za5,List.length_append] at h1;omega)
     go_roundg (n2 - (i+1))
     case measure=>have:=HKK.out;have:=HIN.out;omega
     case rel=>exact ⟨i+1,t',sN,sM,Y++p2.take d,p2.drop d,HIN.out,zhz rfl,rfl,rfl,rfl,by go_num,zhz ⟨HTT.out.2.1,by have:=HTT.out.2.2.1;omega,by have:=HI24.out;omega⟩,zhz (by rw [HSN.out.1,List.append_assoc,List.take_append_drop]),HSM,zhz ⟨HSN.out.2,HMS.out⟩,zhz ⟨fun z hz=>HP2.out.1 z (List.mem_of_mem_drop hz),by rw [List.length_drop];have:=HP2.out.2;omega⟩,zhz (D8.out.mono (by have h1:=HMM.out;have h2:=HME.out;have:=HI24.out;omega) (Int.le_refl _))⟩
  ·have hie:i=n2:=by omega
   subst hie
   have DT:=zhz HX.out
   go_upto_region 24 with (fail)
   have hY:=HX.out.st
   clear hY
   have HBYt:=zhz HBP.out.1
   have hdn:=HBP.out.2
   obtain ⟨pl,hpl⟩:=zeq (p.length)
   have HPL:=zhz hpl
   have CDb:=zhz (DT.out.drainB HK.out.2 (ck:=now) ⟨Int.le_refl _,by have:=HNOW.out;omega⟩ 65536 pl (by have:=HPL.out;omega) HBYt.out (by have:=HNOW.out;omega) (.slice none 0 0) (.slice none 0 0))
   clear hpl hdn
   have hfd:=fun g n w=>zdU g n w
   go_upto_region 25 with (go_at_call 11;((with_reducible refine CDb.out.mono ?_);rintro v u1 ⟨g1,rfl,r1,d1,f1⟩;have D1:=zhz d1;rw [List.take_of_length_le (by have:=HPL.out;omega)] at r1;have hcv:=zbc (P:=Tryz.prog) (src:=38) (dst:=9) Tryz.underlying38 Tryz.underlying5 Tryz.underlying9 r1;obtain ⟨s6,hs6⟩:=zeq (strOfNums p);rw [← hs6] at hcv;have hq6:(9223372036854775807<sY.size+s6.size)=False:=eq_false (by have h1:=HSZ.out.2;have h2:=HBP.out.2;rw [hs6,za5];omega);have hgg:sY++s6=sX:=(by rw [hs6,HSY.out,HSX.out,zbu]);clear r1 d1 f1 hs6))
   clear CDb hcv hq6 hgg
   obtain ⟨la,lb,q1,q2,q3,q4,q5,hTT⟩:=D1.out.tot HLA.out (by rw [HCL.out];exact HM1.out.1)
   have CR1:=zhz (hTT _ (Below.refl _ _)).1
   have CR2:=zhz (fun wx (hb:Below u1.heap.size u1 wx)=>(hTT wx hb).2.1)
   have CT1:=zhz (fun wx (hb:Below u1.heap.size u1 wx)=>(hTT wx hb).2.2.1)
   have CT2:=zhz (fun wx (hb:Below u1.heap.size u1 wx)=>(hTT wx hb).2.2.2)
   have heq:∀ w,(Op.equalIn 10000 54 (.agg #[.int .i64 q1,.int .i64 q2,.int .i64 q3,.int .i64 q4,.int .i64 q5]) (.agg #[.int .i64 q1,.int .i64 q2,.int .i64 q3,.int .i64 q4,.int .i64 q5])).run Tryz.prog w=.ok true w:=fun w=>by rw [zci];simp
   clear hTT
   go_wp2_with (first
    | (go_at_call 15;((with_reducible refine CR1.out.mono ?_);rintro e u2 ⟨rfl,rfl⟩;clear CR1))
    | (go_at_call 16;((with_reducible refine (CT1.out _ (Below.refl _ _)).mono ?_);rintro e u3 ⟨rfl,b3'⟩;have BT:=zhz b3';clear b3' CT1))
    | (go_at_call 15;((with_reducible refine (CR2.out _ BT.out).mono ?_);rintro e u4 ⟨rfl,rfl⟩;clear CR2))
    | (go_at_call 16;((with_reducible refine (CT2.out _ BT.out).mono ?_);rintro e u5 ⟨rfl,b5'⟩;have BU:=zhz (zad (zad D1.out.bl BT.out) b5');clear b5')))
   go_ret
   exact ⟨rfl,BU.out⟩
end Go.Proofs.YtambcbbekoehiabGreat
