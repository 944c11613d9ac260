import Derived.Test.YtambcbbekoehiaaGreatZSvW
set_option linter.unusedSimpArgs false
set_option linter.unusedVariables false
set_option maxRecDepth 100000
set_option maxHeartbeats 9000000
namespace Go.Proofs.YtambcbbekoehiaaGreat
open Go.ChangeShapes Go.WideShapes Go.ChangeAt Go.RowKit
abbrev oE:CnS:=⟨[],0,[],true⟩
theorem wholepeeks_law (w:World) (A:Option Addr) (n c:Nat) (lps:List RuZ) (As:Option Addr) (ns cs:Nat) (zs:List Int) (A2:Option Addr) (n2 c2:Nat) (L:List Cl) (hrp:RdRu w A n c lps) (hrs:RdI w .u64 As ns cs zs) (hr2:RdL w A2 n2 c2 4 encCl L) (hok:∀ a ∈ L,okCl a) :
  Calls Tryz.prog 13 #[.slice A n c,.slice As ns cs,.slice A2 n2 c2] w fun e w'=>e=.returned (.bool true)∧Below w.heap.size w w':=by
 have hmx2:=hr2.max
 have hmxs:=hrs.max
 unfold maxLen at hmx2 hmxs
 have hcp2:=hr2.cap
 have hcps:=hrs.cap
 have HRP:=zhz hrp
 have HSD:=zhz hrs
 have HR2:=zhz hr2
 have HO:=zhz hok
 clear hrp hrs hr2 hok
 go_enter Tryz.func13,Tryz.ntmps13
 go_upto_region 3 with (go_at_call 14;((refine (zeK _).mono ?_);rintro e w3 ⟨rfl,b3⟩;have B3:=zhz (show Below w.heap.size w w3 from b3);clear b3))
 by_cases h50:(50:Int)<(ns:Int)
 ·go_wp2
  go_ret
  exact ⟨rfl,B3.out⟩
 have HN50:=zhz (show ns≤50 by omega)
 have CLi:=zhz (zfi A2 n2 c2 L w3 (HR2.out.below B3.out) HO.out)
 cases hlb:lightC L with
 | false =>
  rw [hlb] at CLi
  go_wp2_with (go_at_call 32;((with_reducible refine CLi.out.mono ?_);rintro e w4 ⟨rfl,b4⟩;have T4:=zhz (zae B3.out b4);clear b4))
  go_ret
  exact ⟨rfl,T4.out⟩
 | true =>
 rw [hlb] at CLi
 have hlc:=zii hlb
 have HLK:=zhz hlc.2
 have hb2:(n2:Int)≤150:=by have h1:=hlc.1;have h2:=HR2.out.len;omega
 clear hlb hlc
 go_upto_region 5 with (go_at_call 32;((with_reducible refine CLi.out.mono ?_);rintro e w4 ⟨rfl,b4⟩;have B4:=zhz (zae B3.out b4);clear b4))
 clear CLi h50
 have CF:=zhz (zdY lps 660 A n c 0 rfl w4 (HRP.out.below B4.out))
 go_upto_region 6 with (first
  | (go_at_call 16;((with_reducible refine CF.out.mono ?_);rintro e w5 ⟨A',m',c',rfl,r8,z8,b8⟩;obtain ⟨x1,x2,ex1,kr,kw,ex2,b9,k9⟩:=box4K w5 (.int .i64 4294967296) (.int .i64 3) (.int .i64 660) (.slice A' m' c');have B9:=zhz (zae (zae B4.out b8) b9);have R9:=zhz (r8.below b9);have Z9:=zhz z8;have KC9:=zhz k9;clear r8 z8 b8 b9 k9)))
 try rw [ex2]
 clear ex1 kr kw ex2 CF
 obtain ⟨cb,hcb⟩:=zeq (w5.heap.size)
 rw [← hcb] at KC9 ⊢
 clear hcb
 have HM1:=zhz (show 1≤m'∧m'≤8 from by have h1:=R9.out.len;have h2:=Z9.out.2.1;omega)
 have kc:=KC9.out.rd
 have HNW:=zhz (svnewN lps 660 A' m' c' As ns cs zs x2 R9.out Z9.out (by omega) (by have:=HN50.out;omega) (HSD.out.below B9.out))
 go_upto_region 7 with (go_at_call 17;((with_reducible refine HNW.out.mono ?_);rintro e wa ⟨s,rfl,ha,ba⟩;have HA:=zhz ha;have BA:=zhz (zae B9.out ba);have RA:=zhz (R9.out.below ba);have KCA:=zhz (KC9.out.keep ba);have BX:=zhz ba;clear ha ba))
 clear HNW kc
 have kc:=KCA.out.rd
 have HNW:=zhz (svnewN lps 660 A' m' c' As ns cs zs wa RA.out Z9.out (by omega) (by have:=HN50.out;omega) (HSD.out.below BA.out))
 go_upto_region 8 with (go_at_call 17;((with_reducible refine HNW.out.mono ?_);rintro e wb ⟨t,rfl,hb,bb⟩;have HS:=zhz (TwC.start HA.out hb bb BX.out.size B9.out.size BA.out);have KCB:=zhz (KCA.out.keep bb);clear hb bb))
 clear HNW kc
 obtain ⟨base,hbase⟩:=zeq (x2.heap.size)
 obtain ⟨b2,hb2'⟩:=zeq (wa.heap.size)
 obtain ⟨h0,hh0⟩:=zeq (wb.heap.size)
 have HCB:=zhz (show cb<base from by rw [hbase];exact lt_of_block KC9.out)
 have HCL:=zhz (show (confR lps).length=m' from R9.out.len)
 rw [← hbase,← hb2',← hh0] at HS
 obtain ⟨Na,Ka,ca,Nb,Kb,cc,hT,hLA,hsa,hsb,hka,hkb⟩:=HS.out
 obtain ⟨Ka0,hKa0⟩:∃ K,Ka[0]?=some K:=⟨_,List.getElem?_eq_getElem (by omega)⟩
 obtain ⟨Ka1,hKa1⟩:∃ K,Ka[1]?=some K:=⟨_,List.getElem?_eq_getElem (by omega)⟩
 obtain ⟨Kb0,hKb0⟩:∃ K,Kb[0]?=some K:=⟨_,List.getElem?_eq_getElem (by omega)⟩
 obtain ⟨Kb1,hKb1⟩:∃ K,Kb[1]?=some K:=⟨_,List.getElem?_eq_getElem (by omega)⟩
 have HK:=zhz (show (Ka[0]?=some Ka0∧Ka[1]?=some Ka1)∧(Kb[0]?=some Kb0∧Kb[1]?=some Kb1) from ⟨⟨hKa0,hKa1⟩,hKb0,hKb1⟩)
 have HLA:=zhz hLA
 have HT:=zhz hT
 have HCC:=zhz (show (ca.rs=false∧ca.now=0)∧(cc.rs=false∧cc.now=0) from ⟨⟨hsa.rs,hsa.now⟩,hsb.rs,hsb.now⟩)
 clear hbase hb2' hT hLA hsa hsb hka hkb hKa0 hKa1 hKb0 hKb1 HS
 obtain ⟨wp,hwp,kp,bp,sp⟩:=zad wb #[.pointer (some ⟨s,0,none⟩),.pointer (some ⟨t,0,none⟩)] 31
 rw [← hh0] at kp
 have KP:=zhz kp
 have HTP:=zhz (HT.out.keep bp)
 have KCP:=zhz (KCB.out.keep bp)
 have HH0:=zhz hh0
 clear kp bp sp hh0
 go_upto_region 9 with (fail)
 try rw [hwp]
 try rw [← HH0.out]
 clear hwp HH0
 obtain ⟨Ss,hSs⟩:=zeq (rsZ (confR lps))
 rw [← hSs] at HTP
 clear hSs HT
 go_loopg [53] 2 (fun kk si wr=>∃ (i:Nat),i≤2∧Hid (kk=2 - i)∧si=.int .i64 (i:Int)∧Hid (Blk wr h0 31 #[.pointer (some ⟨s,0,none⟩),.pointer (some ⟨t,0,none⟩)])∧Hid (Blk wr cb 29 #[.int .i64 4294967296,.int .i64 3,.int .i64 660,.slice A' m' c'])∧Hid (∃ xa xb σa σb,TwC w wr base s b2 t h0 (confR lps) Na Ka xa Ss σa Nb Kb xb Ss σb 0∧((xa.rs=false∧xa.now=0)∧(xb.rs=false∧xb.now=0))∧(if 0<i then σa=[oE,oE,cZ] else σa=[cZ,cZ,cZ])∧(if 1<i then σb=[oE,oE,cZ] else σb=[cZ,cZ,cZ])))
 case atStart=>exact ⟨0,by omega,zhz rfl,rfl,KP,KCP,zhz ⟨_,_,_,_,HTP.out,HCC.out,rfl,rfl⟩⟩
 case round =>
  obtain ⟨i,hi,HKK,rfl,HKP,HKC,HX⟩:=hrel
  by_cases hin:i<2
  ·obtain ⟨xa,xb,σa,σb,hT,hxx,hσa,hσb⟩:=HX.out
   have HHL:=zhz (show h0≤wr.heap.size from hT.hi.2)
   have HXX:=zhz hxx
   have kp:=HKP.out.rd
   clear hxx HX
   have h01:i=0∨i=1:=by omega
   rcases h01 with rfl | rfl
   ·rw [if_neg (by omega)] at hσa hσb
    subst hσa
    subst hσb
    have C1:=zhz (hT.openA (ck:=0) (by decide) 0 (kz:=0) rfl (.slice none 0 0) (.slice none 0 0) 0 HK.out.1.1 rfl ⟨rfl,rfl⟩ (by decide))
    clear hT
    go_upto_region 12 with (go_at_call 30;((with_reducible refine C1.out.mono ?_);rintro e y1 ⟨rfl,g1,f1⟩;have G1:=zhz g1;have P1:=zhz (HKP.out.fr f1 (g1.ncA HK.out.1.1 (Or.inr (Nat.le_refl _))));have Q1:=zhz (HKC.out.fr f1 (g1.ncA HK.out.1.1 (Or.inl HCB.out)));clear g1 f1))
    clear C1 kp
    have C2:=zhz (G1.out.openA (ck:=0) (by decide) 1 (kz:=1) rfl (.slice none 0 0) (.slice none 0 0) 0 HK.out.1.2 rfl ⟨rfl,rfl⟩ (by decide))
    go_upto_region 13 with (go_at_call 30;((with_reducible refine C2.out.mono ?_);rintro e y2 ⟨rfl,g2,f2⟩;have G2:=zhz g2;have P2:=zhz (P1.out.fr f2 (g2.ncA HK.out.1.2 (Or.inr (Nat.le_refl _))));have Q2:=zhz (Q1.out.fr f2 (g2.ncA HK.out.1.2 (Or.inl HCB.out)));clear g2 f2))
    clear C2
    go_wp2
    go_roundg (2 - (0+1))
    case measure=>have:=HKK.out;omega
    case rel=>exact ⟨1,by omega,zhz rfl,by go_num,P2,Q2,zhz ⟨_,_,_,_,G2.out,⟨⟨HXX.out.1.1,(show max (max xa.now 0) 0=0 from by rw [HXX.out.1.2];decide)⟩,HXX.out.2⟩,rfl,rfl⟩⟩
   ·rw [if_pos (by omega)] at hσa
    rw [if_neg (by omega)] at hσb
    subst hσa
    subst hσb
    have C1:=zhz (hT.openB (ck:=0) (by decide) 0 (kz:=0) rfl (.slice none 0 0) (.slice none 0 0) 0 HK.out.2.1 rfl ⟨rfl,rfl⟩ (by decide))
    clear hT
    go_upto_region 12 with (go_at_call 30;((with_reducible refine C1.out.mono ?_);rintro e y1 ⟨rfl,g1,f1⟩;have G1:=zhz g1;have P1:=zhz (HKP.out.fr f1 (g1.ncB HK.out.2.1 (Or.inr (Nat.le_refl _))));have Q1:=zhz (HKC.out.fr f1 (g1.ncB HK.out.2.1 (Or.inl HCB.out)));clear g1 f1))
    clear C1 kp
    have C2:=zhz (G1.out.openB (ck:=0) (by decide) 1 (kz:=1) rfl (.slice none 0 0) (.slice none 0 0) 0 HK.out.2.2 rfl ⟨rfl,rfl⟩ (by decide))
    go_upto_region 13 with (go_at_call 30;((with_reducible refine C2.out.mono ?_);rintro e y2 ⟨rfl,g2,f2⟩;have G2:=zhz g2;have P2:=zhz (P1.out.fr f2 (g2.ncB HK.out.2.2 (Or.inr (Nat.le_refl _))));have Q2:=zhz (Q1.out.fr f2 (g2.ncB HK.out.2.2 (Or.inl HCB.out)));clear g2 f2))
    clear C2
    go_wp2
    go_roundg (2 - (1+1))
    case measure=>have:=HKK.out;omega
    case rel=>exact ⟨2,by omega,zhz rfl,by go_num,P2,Q2,zhz ⟨_,_,_,_,G2.out,⟨HXX.out.1,HXX.out.2.1,(show max (max xb.now 0) 0=0 from by rw [HXX.out.2.2];decide)⟩,rfl,rfl⟩⟩
  ·have hie:i=2:=by omega
   subst hie
   obtain ⟨xa,xb,σa,σb,hT,hxx,hσa,hσb⟩:=HX.out
   rw [if_pos (by omega)] at hσa hσb
   subst hσa
   subst hσb
   have HT:=zhz hT
   have HXX:=zhz hxx
   have HAL:=zhz (AtL.same hT.a (now:=0) (by rw [hxx.1.2];decide))
   clear hT hxx HX
   go_wp2
   go_loopg [14,66] n2 (fun kk sn si wr=>∃ (i:Nat) (now:Int),i≤n2∧Hid (kk=n2 - i)∧sn=.int .i64 now∧si=.int .i64 (i:Int)∧Hid (0≤now∧now≤1023*(i:Int))∧Hid (Blk wr cb 29 #[.int .i64 4294967296,.int .i64 3,.int .i64 660,.slice A' m' c'])∧Hid (∃ xa xb Sa Sb,TwC w wr base s b2 t h0 (confR lps) Na Ka xa Sa [oE,oE,cZ] Nb Kb xb Sb [oE,oE,cZ] (400*2097153*(i:Int))∧((xa.rs=false∧xa.now≤now)∧(xb.rs=false∧xb.now≤now))∧AtL Sa Sb now))
   case atStart=>exact ⟨0,0,by omega,zhz rfl,rfl,rfl,zhz (by omega),HKC,zhz ⟨_,_,_,_,by rw [show 400*2097153*((0:Nat):Int)=0 by omega];exact HT.out,⟨⟨HXX.out.1.1,by rw [HXX.out.1.2];decide⟩,HXX.out.2.1,by rw [HXX.out.2.2];decide⟩,HAL.out⟩⟩
   case round =>
    obtain ⟨i,now,hi,HKK,rfl,rfl,HNW,HC,HX⟩:=hrel
    by_cases hin:i<n2
    ·obtain ⟨xa,xb,Sa,Sb,hT,hxx,hal⟩:=HX.out
     have HBL:=zhz hT.bl
     have HT:=zhz hT
     have HXX:=zhz hxx
     have HAL:=zhz hal
     have HHL:=zhz (show h0≤wr.heap.size from hT.hi.2)
     clear hT hxx hal HX
     have hl2:=HR2.out.len
     obtain ⟨b',off,rfl,hbl,hcl⟩:=(HR2.out.below HBL.out).at_ (by omega)
     obtain ⟨⟨gp,cs,ky,pk⟩,ha⟩:∃ a,L[i]?=some a:=⟨_,List.getElem?_eq_getElem (by omega)⟩
     have HKY:=zhz (HLK.out _ (List.mem_of_getElem? ha))
     have kr0:wr.cell? ⟨b',off+i*4,none⟩=some (.int .i64 gp):=hcl i _ ha 0 (by omega)
     have kr1:wr.cell? ⟨b',off+i*4+1,none⟩=some (.int .i64 cs):=hcl i _ ha 1 (by omega)
     have kr2:wr.cell? ⟨b',off+i*4+2,none⟩=some (.string ky):=hcl i _ ha 2 (by omega)
     have kr3:wr.cell? ⟨b',off+i*4+3,none⟩=some (.bool pk):=hcl i _ ha 3 (by omega)
     obtain ⟨y1,y2,ey1,kr,kw,ey2,bl2,kc2⟩:=box4C wr (.int .i64 gp) (.int .i64 cs) (.string ky) (.bool pk)
     obtain ⟨bx,hbx⟩:=zeq (wr.heap.size)
     rw [← hbx] at kc2
     have T2:=zhz (HT.out.keep bl2)
     have HBX:=zhz hbx
     have HB0:=zhz (show h0≤bx from by rw [hbx];exact HHL.out)
     have KC:=zhz kc2
     have KCC:=zhz (HC.out.keep bl2)
     have CG:=zhz (fun wx=>zjJ gp wx)
     have hgb:=zln gp
     obtain ⟨gq,hgq⟩:=zeq (gapL gp)
     rw [← hgq] at CG hgb
     obtain ⟨t',ht'⟩:=zeq (now+gq)
     have et:IntKind.i64.wrap (now+gq)=t':=by have h1:=HNW.out;rw [IntKind.wrap_i64];omega
     have HTT:=zhz (show now≤t'∧0≤t'∧t'≤1023*((i:Int)+1)∧t'≤9223372036854775807 from by have h1:=HNW.out;omega)
     obtain ⟨ru,hru⟩:∃ z:Nat,z=i % m':=⟨_,rfl⟩
     have hm0:=HM1.out
     have HRU:=zhz (show ru<m' from by rw [hru];exact Nat.mod_lt _ (by omega))
     have erem:Int.tmod (i:Int) (m':Int)=(ru:Int):=by rw [hru];rw [Int.tmod_eq_emod_of_nonneg (by omega)];exact (Int.natCast_emod i m').symm
     have HREM:=zhz erem
     have tm0:¬ (m':Int)=0:=by omega
     have t2:(i:Int)<(n2:Int):=by omega
     have HIN:=zhz hin
     clear hl2 hcl hbl bl2 kc2 hbx hin ha hgq ht' hgb hru hm0
     go_upto_region 18 with (fail)
     try rw [ey2]
     rw [← HBX.out]
     clear kr0 kr1 kr2 kr3 ey1 kr kw ey2
     have kx:=KC.out.rd
     have kc:=KCC.out.rd
     go_upto_region 20 with (go_at_call 33;((with_reducible refine (CG.out _).mono ?_);rintro v y3 ⟨rfl,rfl⟩))
     clear CG et erem tm0 kc
     obtain ⟨cz,hcz⟩:=zeq (cs % 64)
     have em:bits .and .i64 cs 63=cz:=by rw [hcz];exact zcD _
     have HCZ:=zhz (show 0≤cz∧cz<64 from by omega)
     have ecv:IntKind.u32.wrap cz=cz:=by have:=HCZ.out;rw [IntKind.wrap_u32];omega
     have HQ1:=zhz (show okQ (((confR lps).length:Nat):Int) (mkR 1 (ru:Int) cz ky 0) from zgh (by rw [HCL.out];have:=HRU.out;omega) (by rw [HCL.out];have:=HM1.out;omega) (Or.inl rfl) HKY.out rfl (by have:=HCZ.out;omega))
     have CE:=zhz (fun wx=>zhS (op:=1) (ru:=(ru:Int)) (co:=cz) (k:=0) (ky:=ky) (za9 (by rw [HCL.out];have:=HM1.out;omega) HQ1.out) (by have:=HCZ.out;omega) wx)
     clear hcz
     go_upto_region 21 with (go_at_call 37;((with_reducible refine (CE.out _).mono ?_);rintro v w14 ⟨g14,n14,c14,rfl,l14,r14,hg14,b14⟩;have R14:=zhz (And.intro r14 (show h0≤g14 from Nat.le_trans T2.out.hi.2 hg14));have T3:=zhz (T2.out.keep b14);have K3:=zhz (KC.out.keep b14);have KC3:=zhz (KCC.out.keep b14);clear l14 r14 hg14 b14))
     clear CE em ecv kx
     have HAL3:=zhz (HAL.out.later HTT.out.1)
     obtain ⟨mm,hmm⟩:∃ z,z=400*2097153*(i:Int):=⟨_,rfl⟩
     have HMM:=zhz (show 0≤mm∧mm+400*2097153≤576460752303423488 from by have:=HIN.out;omega)
     have HME:=zhz hmm
     rw [← hmm] at T3
     clear hmm
     go_wp2
     go_loopg [19] 3 (fun kk so wr=>∃ (p:Nat),p≤3∧Hid (kk=3 - p)∧so=.int .i64 ((p:Int)+2)∧Hid (RdI wr .u8 (some ⟨g14,0,none⟩) n14 c14 (encZ (mkR 1 (ru:Int) cz ky 0)))∧Hid (Blk wr bx 77 #[.int .i64 gp,.int .i64 cs,.string ky,.bool pk])∧Hid (Blk wr cb 29 #[.int .i64 4294967296,.int .i64 3,.int .i64 660,.slice A' m' c'])∧Hid (∃ xb Sb,TwC w wr base s b2 t h0 (confR lps) Na Ka xa Sa [oE,oE,cZ] Nb Kb xb Sb [oE,oE,cZ] (mm+75*2097153*(p:Int))∧(xb.rs=false∧xb.now≤t')∧AtL Sa Sb t'))
     case atStart=>exact ⟨0,by omega,zhz rfl,rfl,zhz R14.out.1,K3,KC3,zhz ⟨_,_,by rw [show mm+75*2097153*((0:Nat):Int)=mm by omega];exact T3.out,⟨HXX.out.2.1,by have h1:=HXX.out.2.2;have h2:=HTT.out.1;omega⟩,HAL3.out⟩⟩
     case round =>
      obtain ⟨p,hp,HKP,rfl,HR,HBXC,HCC2,HY⟩:=hrel
      by_cases hp3:p<3
      ·obtain ⟨xb,Sb,hT,hxb,hal⟩:=HY.out
       have hT3:=zhz hT
       have HXB:=zhz hxb
       have HALp:=zhz hal
       have HHp:=zhz (show h0≤wr.heap.size from hT.hi.2)
       clear hT hxb hal HY
       obtain ⟨op,hop⟩:∃ z:Int,z=(p:Int)+2:=⟨_,rfl⟩
       have HOP:=zhz (show op=(p:Int)+2∧2≤op∧op≤4 from by omega)
       have top:op≤4:=by omega
       rw [← hop]
       obtain ⟨x1,x2,ex1,kr,kw,ex2,bl2,kc2⟩:=box5Q wr (.int .i64 op) (.int .i64 (ru:Int)) (.int .u32 0) (.string ⟨#[]⟩) (.int .i64 0)
       obtain ⟨qb,hqb⟩:=zeq (wr.heap.size)
       rw [← hqb] at kc2
       have T4:=zhz (hT3.out.keep bl2)
       have KQ:=zhz kc2
       have HQB:=zhz (show qb=wr.heap.size∧h0≤qb∧bx≠qb from ⟨hqb,by rw [hqb];exact HHp.out,fun e=>by have:=lt_of_block HBXC.out;omega⟩)
       have R4:=zhz (HR.out.below bl2)
       have KX4:=zhz (HBXC.out.keep bl2)
       have KC4:=zhz (HCC2.out.keep bl2)
       have HP3:=zhz hp3
       clear hop bl2 kc2 hqb hp3
       go_upto_region 25 with (fail)
       try rw [ex2]
       rw [← HQB.out.1]
       clear ex1 kr kw ex2 top
       have HMX:=zhz (show okQ (((confR lps).length:Nat):Int) (mkR 2 (ru:Int) 1 ky 0) from zgh (by rw [HCL.out];have:=HRU.out;omega) (by rw [HCL.out];have:=HM1.out;omega) (Or.inr rfl) HKY.out rfl (by omega))
       go_upto_if 98 with (fail)
       go_cut [] from 90 to 112 (fun wx=>∃ (co:Int) (kx:ByteArray),Hid (Blk wx qb 44 #[.int .i64 op,.int .i64 (ru:Int),.int .u32 co,.string kx,.int .i64 0])∧Hid (okQ (((confR lps).length:Nat):Int) (mkR op (ru:Int) co kx 0)∧0≤co∧co<4294967296)∧Hid (Fr (fun b=>b=qb) x2 wx))
       case first =>
        by_cases h2:op=2
        ·subst h2
         obtain ⟨z1,e1,k1,f1⟩:=zi4 (KQ.out.drew) 2 (.int .u32 1)
         obtain ⟨z2,e2,k2,f2⟩:=zi4 k1 3 (.string ky)
         have K2:=zhz (show Blk z2 qb 44 #[.int .i64 2,.int .i64 (ru:Int),.int .u32 1,.string ky,.int .i64 0] from k2)
         have F2:=zhz (show Fr (fun b=>b=qb) x2 z2 from (Fr.of_below (zaa (Below.refl x2.heap.size x2) 1)).trans (f1.trans f2))
         have hbq:=HQB.out.2.2
         have kxd:=(KX4.out.drew).rd
         have kx1:=((KX4.out.drew).fr f1 hbq).rd
         have kqd:=(KQ.out.drew).rd
         have kqw:=(KQ.out.drew).wr
         have kq1:=k1.rd
         have kw1:=k1.wr
         clear k1 k2 f1 f2
         go_upto_region 26 with (fail)
         go_region
         clear kxd kx1 kqd kqw kq1 kw1 hbq
         go_wp2
         go_meet
         case rel=>exact ⟨1,ky,K2,zhz ⟨HMX.out,by decide,by decide⟩,F2⟩
        ·have HN2:=zhz h2
         go_wp2
         go_meet
         case rel=>exact ⟨0,⟨#[]⟩,KQ,zhz ⟨zlv (by rw [HCL.out];have:=HRU.out;omega) (by rw [HCL.out];have:=HM1.out;omega) (by have h1:=HOP.out;have h2:=HN2.out;omega),by decide,by decide⟩,zhz (Fr.refl _ _)⟩
       case rest =>
       obtain ⟨co,kx,HKQ,HQQ,HFQ⟩:=hcut
       have T5:=zhz (T4.out.keepQ HFQ.out (fun b e=>by rw [e];exact Or.inr HQB.out.2.1) (fun b e=>by have:=hT3.out.bl.size;have:=HQB.out.1;omega))
       have R5:=zhz (zbG R4.out HFQ.out (fun b off _ e e2=>by injection e with e;injection e with e;have h1:=HR.out.at_ (by have:=R4.out.len;have:=zb1 HQ1.out.1;omega);obtain ⟨b',off',e',hlt,_⟩:=h1;injection e' with e';injection e' with e';have:=HQB.out.1;omega))
       have KX5:=zhz (KX4.out.fr HFQ.out HQB.out.2.2)
       have KC5:=zhz (KC4.out.fr HFQ.out (fun e=>by have h1:=lt_of_block HCC2.out;have h2:=HQB.out.1;omega))
       have kq:=HKQ.out.rd
       have CE:=zhz (fun wx=>zhS (op:=op) (ru:=(ru:Int)) (co:=co) (k:=0) (ky:=kx) (za9 (by rw [HCL.out];have:=HM1.out;omega) HQQ.out.1) HQQ.out.2 wx)
       have CK:=zhz (fun (wq:World) (g n1 c1:Nat) (hT:TwC w wq base s b2 t h0 (confR lps) Na Ka xa Sa [oE,oE,cZ] Nb Kb xb Sb [oE,oE,cZ] (mm+75*2097153*(p:Int))) (hz:RdI wq .u8 (some ⟨g,0,none⟩) n1 c1 (encZ (mkR op (ru:Int) co kx 0))) (hg:h0≤g)=>hT.askB t' 0 (by have:=HTT.out;omega) 1 (kz:=1) rfl (some ⟨g,0,none⟩) n1 c1 (.slice none 0 0) (o:=[]) HK.out.2.2 rfl HQQ.out.1 (by have:=zbu lps (mkR op (ru:Int) co kx 0);simp only [List.length_nil];omega) (by have:=HMM.out;have:=HP3.out;omega) hz (fun b off _ e=>by injection e with e;injection e with e;exact Or.inr (by omega)))
       go_upto_region 28 with (first
        | (go_at_call 37;((with_reducible refine (CE.out _).mono ?_);rintro v w1 ⟨g1,n1,c1,rfl,l1,r1,hg1,b1⟩;have T6:=zhz (T5.out.keep b1);have E6:=zhz (And.intro r1 (Nat.le_trans T5.out.hi.2 hg1));have R6:=zhz (R5.out.below b1);have KX6:=zhz (KX5.out.keep b1);have KC6:=zhz (KC5.out.keep b1);clear l1 r1 hg1 b1))
        | (go_at_call 30;((with_reducible refine (CK.out _ _ _ _ T6.out E6.out.1 E6.out.2).mono ?_);rintro v w2 ⟨A4,n4,c4,rfl,g2,_,_,_,f2⟩;have T7:=zhz g2;have R7:=zhz (zbG R6.out f2 (fun b off _ e=>by injection e with e;injection e with e;exact g2.ncB HK.out.2.2 (Or.inr (by have:=R14.out.2;omega))));have KX7:=zhz (KX6.out.fr f2 (g2.ncB HK.out.2.2 (Or.inr HB0.out)));have KC7:=zhz (KC6.out.fr f2 (g2.ncB HK.out.2.2 (Or.inl HCB.out)));clear g2 f2)))
       clear CE CK kq
       have hba:=HoZ.ans_byt (h:=ho0 xb t' Sb) hT3.out.b.hn (hT3.out.b.bud (ck:=t') (by have:=HTT.out;omega) (n:=1) (by omega) (by have:=HMM.out;have:=HP3.out;omega)) HQQ.out.1
       have hle:=zkE hT3.out.b.hn (ho0 xb t' Sb) HQQ.out.1
       have hmo:=zbu lps (mkR op (ru:Int) co kx 0)
       have hlk:=HALp.out.look (rs:=confR lps) (Ns2:=Nb) (hb:=ho0 xb t' Sb) (show max xb.now t'=t' by have:=HXB.out.2;omega) (q:=mkR op (ru:Int) co kx 0) (show op≠1 by have:=HOP.out;omega)
       obtain ⟨ob,hob⟩:∃ z,z=[]++(ho0 xb t' Sb).ans (confR lps) Nb (mkR op (ru:Int) co kx 0):=⟨_,rfl⟩
       have T8:=zhz T7.out
       rw [← hob] at T8
       rw [List.nil_append] at hob
       rw [← hob] at hba hle
       obtain ⟨ol,hol⟩:=zeq (ob.length)
       obtain ⟨Sn,hSn⟩:∃ z,z=((ho0 xb t' Sb).nx (confR lps) Nb (mkR op (ru:Int) co kx 0)).Ss:=⟨_,rfl⟩
       rw [← hSn] at T8 hlk
       have HLK2:=zhz hlk
       have CD:=zhz (T8.out.drainB t' 65536 (by have:=HTT.out;omega) 1 ol (kz:=1) rfl (.slice none 0 0) (.slice none 0 0) (o:=ob) HK.out.2.2 rfl (by omega) hba (by have:=HMM.out;have:=HP3.out;omega))
       have hdr:ob.drop ol=[]:=List.drop_eq_nil_of_le (by omega)
       rw [hdr] at CD
       clear T7 hba hle hmo hlk hob hol hSn hdr
       go_upto_region 23 with (go_at_call 30;((with_reducible refine CD.out.mono ?_);rintro v w3 ⟨g3,rfl,_,t3,_,f3⟩;have T9:=zhz t3;have R9b:=zhz (zbG R7.out f3 (fun b off _ e=>by injection e with e;injection e with e;exact t3.ncB HK.out.2.2 (Or.inr (by have:=R14.out.2;omega))));have KX9:=zhz (KX7.out.fr f3 (t3.ncB HK.out.2.2 (Or.inr HB0.out)));have KC9b:=zhz (KC7.out.fr f3 (t3.ncB HK.out.2.2 (Or.inl HCB.out)));clear t3 f3))
       clear CD
       have hop1:2≤op:=HOP.out.2.1
       have hop2:op≤4:=HOP.out.2.2
       have eop:IntKind.i64.wrap (op+1)=op+1:=by rw [IntKind.wrap_i64];omega
       go_wp2
       clear eop
       go_roundg (3 - (p+1))
       case measure=>have:=HKP.out;have:=HP3.out;omega
       case rel=>exact ⟨p+1,HP3.out,zhz rfl,congrArg (Value.int .i64) (by have:=HOP.out.1;omega),R9b,KX9,KC9b,zhz ⟨(xb.next t').next t',Sn,by rw [show mm+75*2097153*((p+1:Nat):Int)=mm+75*2097153*(p:Int)+75*2097153 by omega];exact T9.out,⟨HXB.out.1,(show max (max xb.now t') t'≤t' by have:=HXB.out.2;omega)⟩,HLK2.out⟩⟩
      ·have hpe:p=3:=by omega
       subst hpe
       obtain ⟨xb,Sb,hT,hxb,hal⟩:=HY.out
       have hT3:=zhz hT
       have HXB:=zhz hxb
       have HALp:=zhz hal
       clear hT hxb hal HY
       have CA:=zhz (hT3.out.askA t' 0 (by have:=HTT.out;omega) 0 (kz:=0) rfl (some ⟨g14,0,none⟩) n14 c14 (.slice none 0 0) (o:=[]) HK.out.1.1 rfl HQ1.out (by have:=zbu lps (mkR 1 (ru:Int) cz ky 0);simp only [List.length_nil];omega) (by have:=HMM.out;omega) HR.out (fun b off _ e=>by injection e with e;injection e with e;exact Or.inr (by have:=R14.out.2;omega)))
       have CB:=zhz (fun (wq:World) (xa':SvC) (Sa':List LmS) (σa':List CnS) (hT:TwC w wq base s b2 t h0 (confR lps) Na Ka xa' Sa' σa' Nb Kb xb Sb [oE,oE,cZ] (mm+75*2097153*((3:Nat):Int)+75*2097153)) (hz:RdI wq .u8 (some ⟨g14,0,none⟩) n14 c14 (encZ (mkR 1 (ru:Int) cz ky 0)))=>hT.askB t' 0 (by have:=HTT.out;omega) 0 (kz:=0) rfl (some ⟨g14,0,none⟩) n14 c14 (.slice none 0 0) (o:=[]) HK.out.2.1 rfl HQ1.out (by have:=zbu lps (mkR 1 (ru:Int) cz ky 0);simp only [List.length_nil];omega) (by have:=HMM.out;omega) hz (fun b off _ e=>by injection e with e;injection e with e;exact Or.inr (by have:=R14.out.2;omega)))
       have hask:=HALp.out.ask (ha:=ho0 xa t' Sa) (hb:=ho0 xb t' Sb) (rs:=confR lps) HLA.out (show max xa.now t'=t' by have h1:=HXX.out.1.2;have h2:=HTT.out.1;omega) (show max xb.now t'=t' by have:=HXB.out.2;omega) (fun r _=>by rw [zh4 (c:=(ho0 xa t' Sa).c) HXX.out.1.1,zh4 (c:=(ho0 xb t' Sb).c) HXB.out.1]) rfl (q:=mkR 1 (ru:Int) cz ky 0) rfl
       have hby:=HoZ.ans_byt (h:=ho0 xa t' Sa) hT3.out.a.hn (hT3.out.a.bud (ck:=t') (by have:=HTT.out;omega) (n:=1) (by omega) (by have:=HMM.out;omega)) HQ1.out
       have hle:=zkE hT3.out.a.hn (ho0 xa t' Sa) HQ1.out
       have hmo:=zbu lps (mkR 1 (ru:Int) cz ky 0)
       obtain ⟨q1,q2,q3⟩:=hask
       obtain ⟨oa,hoa⟩:∃ z,z=(ho0 xa t' Sa).ans (confR lps) Na (mkR 1 (ru:Int) cz ky 0):=⟨_,rfl⟩
       have HOA:=zhz hoa
       have HOB:=zhz (show oa=(ho0 xb t' Sb).ans (confR lps) Nb (mkR 1 (ru:Int) cz ky 0) from hoa.trans q1)
       rw [← hoa] at hby hle
       obtain ⟨ol,hol⟩:=zeq (oa.length)
       have HOL:=zhz (show ol=oa.length∧(ol:Int)≤99 from ⟨hol,by have h9:oa.length=22:=(by rw [hoa];exact ans22 hT3.out.a.hn hT3.out.a.at_.J.ln HQ1.out (Or.inl rfl));omega⟩)
       have HBY:=zhz hby
       have HQ2:=zhz q2
       have HQ3:=zhz q3
       clear q1 q2 q3 hoa hby hle hmo hol
       go_upto_region 30 with (first
        | (go_at_call 30;((with_reducible refine CA.out.mono ?_);rintro v w1 ⟨A4,n4,c4,rfl,g1,e1,l1,m1,f1⟩;have T6:=zhz g1;have E6:=zhz e1;have L6:=zhz (And.intro l1 m1);have R6:=zhz (zbG HR.out f1 (fun b off _ e=>by injection e with e;injection e with e;exact g1.ncA HK.out.1.1 (Or.inr (by have:=R14.out.2;omega))));have KC6:=zhz (HCC2.out.fr f1 (g1.ncA HK.out.1.1 (Or.inl HCB.out)));clear g1 e1 l1 m1 f1))
        | (go_at_call 30;((with_reducible refine (CB.out _ _ _ _ T6.out R6.out).mono ?_);rintro v w2 ⟨B4,k4,d4,rfl,g2,e2,l2,m2,f2⟩;have T7:=zhz g2;have E7:=zhz (And.intro e2 (show ∀ b off,0<k4→B4=some ⟨b,off,none⟩→h0≤b from fun b off h1 e=>Nat.le_trans T6.out.hi.2 (l2 b off h1 e)));obtain ⟨u1,u2,u3,u4,ex1,ex2,zz1,ex3,zz2,ex4,bD,kD1,kD2,hn1,hn2⟩:=box4D w2 (.int .i64 0) (.int .i64 (n14:Int)) (.slice none 0 0) (.slice A4 n4 c4) (.int .i64 0) (.int .i64 (n14:Int)) (.slice none 0 0) (.slice B4 k4 d4);have hn12:w2.heap.size≠u1.heap.size:=(by omega);have hn21:u1.heap.size≠w2.heap.size:=(by omega);have BD:=zhz bD;have KD:=zhz (And.intro kD1 (And.intro kD2 (And.intro hn1 hn2)));have F6:=zhz (RdE.fr E6.out f2 (fun b off h1 e=>g2.ncB HK.out.2.1 (Or.inr (Nat.le_trans hT3.out.hi.2 (L6.out.1 b off h1 e)))));have KC7:=zhz (KC6.out.fr f2 (g2.ncB HK.out.2.1 (Or.inl HCB.out)));clear g2 e2 l2 m2 f2)))
       try rw [ex4]
       clear ex1 ex2 zz1 ex3 zz2 ex4 bD kD1 kD2 hn1 hn2 hn12 hn21 CA CB
       obtain ⟨p1,hp1⟩:=zeq (w2.heap.size)
       obtain ⟨p2,hp2⟩:=zeq (u1.heap.size)
       have HH2:=zhz (show h0≤w2.heap.size from T7.out.hi.2)
       rw [← hp1,← hp2] at KD ⊢
       have HP12:=zhz (show h0≤p1∧h0≤p2 from ⟨by rw [hp1];exact HH2.out,by have:=KD.out.2.2.1;have:=HH2.out;omega⟩)
       clear hp1 hp2
       have t8:=T7.out.keep BD.out
       rw [List.nil_append,List.nil_append,← HOA.out,← HOB.out] at t8
       have T8:=zhz t8
       clear t8
       have hke:k4=n4:=by rw [← E7.out.1.len,← F6.out.len,HQ2.out]
       subst hke
       have E8:=zhz (show RdE u4 B4 k4 ((ho0 xa t' Sa).nx (confR lps) Na (mkR 1 (ru:Int) cz ky 0)).evs from by have:=E7.out.1.below BD.out;rw [← HQ2.out] at this;exact this)
       have F8:=zhz (F6.out.below BD.out)
       have KC8:=zhz (KC7.out.keep BD.out)
       have hdr:oa.drop ol=[]:=List.drop_eq_nil_of_le (by have:=HOL.out.1;omega)
       have htk:oa.take ol=oa:=List.take_of_length_le (by have:=HOL.out.1;omega)
       have HDT:=zhz (And.intro hdr htk)
       clear hdr htk
       have CDa:=zhz (T8.out.drainA t' 99 (by have:=HTT.out;omega) 0 ol (kz:=0) rfl (.slice none 0 0) (.slice none 0 0) (o:=oa) HK.out.1.1 rfl (by have:=HOL.out;omega) HBY.out (by have:=HMM.out;omega))
       have CDb:=zhz (fun (wq:World) (xa':SvC) (Sa':List LmS) (σa':List CnS) (hT:TwC w wq base s b2 t h0 (confR lps) Na Ka xa' Sa' σa' Nb Kb (xb.next t') ((ho0 xb t' Sb).nx (confR lps) Nb (mkR 1 (ru:Int) cz ky 0)).Ss ([oE,oE,cZ].set 0 ⟨[],0,oa,true⟩) (mm+75*2097153*((3:Nat):Int)+75*2097153+75*2097153))=>hT.drainB t' 99 (by have:=HTT.out;omega) 0 ol (kz:=0) rfl (.slice none 0 0) (.slice none 0 0) (o:=oa) HK.out.2.1 rfl (by have:=HOL.out;omega) HBY.out (by have:=HMM.out;omega))
       go_upto_region 31 with (first
        | (go_at_call 30;((with_reducible refine CDa.out.mono ?_);rintro v w1 ⟨g1,rfl,o1,t1,l1,f1⟩;have T9:=zhz t1;have O1:=zhz (And.intro o1 (Nat.le_trans T8.out.hi.2 l1));have KX1:=zhz (And.intro (KD.out.1.fr f1 (t1.ncA HK.out.1.1 (Or.inr HP12.out.1))) (KD.out.2.1.fr f1 (t1.ncA HK.out.1.1 (Or.inr HP12.out.2))));have E9:=zhz (And.intro (E8.out.fr f1 (fun b off h1 e=>t1.ncA HK.out.1.1 (Or.inr (E7.out.2 b off h1 e)))) (F8.out.fr f1 (fun b off h1 e=>t1.ncA HK.out.1.1 (Or.inr (Nat.le_trans hT3.out.hi.2 (L6.out.1 b off h1 e))))));have KC9b:=zhz (KC8.out.fr f1 (t1.ncA HK.out.1.1 (Or.inl HCB.out)));clear o1 t1 l1 f1))
        | (go_at_call 30;((with_reducible refine (CDb.out _ _ _ _ T9.out).mono ?_);rintro v w4 ⟨g2,rfl,o2,t2',l2,f2⟩;have T10:=zhz t2';obtain ⟨u5,u6,u7,u8,ex1,ex2,zz1,ex3,zz2,ex4,bD,kD1,kD2,hn1,hn2⟩:=box4D w4 (.int .i64 0) (.int .i64 0) (.slice (some ⟨g1,0,none⟩) ol ol) (.slice none 0 0) (.int .i64 0) (.int .i64 0) (.slice (some ⟨g2,0,none⟩) ol ol) (.slice none 0 0);have hn12:w4.heap.size≠u5.heap.size:=(by omega);have hn21:u5.heap.size≠w4.heap.size:=(by omega);have T11:=zhz (t2'.keep bD);have KX2:=zhz (And.intro ((KX1.out.1.fr f2 (t2'.ncB HK.out.2.1 (Or.inr HP12.out.1))).keep bD) ((KX1.out.2.fr f2 (t2'.ncB HK.out.2.1 (Or.inr HP12.out.2))).keep bD));have O2:=zhz (And.intro ((zbG O1.out.1 f2 (fun b off _ e=>by injection e with e;injection e with e;exact t2'.ncB HK.out.2.1 (Or.inr (by have:=O1.out.2;omega)))).below bD) (o2.below bD));have E10:=zhz (And.intro ((E9.out.1.fr f2 (fun b off h1 e=>t2'.ncB HK.out.2.1 (Or.inr (E7.out.2 b off h1 e)))).below bD) ((E9.out.2.fr f2 (fun b off h1 e=>t2'.ncB HK.out.2.1 (Or.inr (Nat.le_trans hT3.out.hi.2 (L6.out.1 b off h1 e))))).below bD));have KC10:=zhz ((KC9b.out.fr f2 (t2'.ncB HK.out.2.1 (Or.inl HCB.out))).keep bD);have KD2:=zhz (And.intro kD1 kD2);clear o2 t2' l2 f2)))
       try rw [ex4]
       clear ex1 ex2 zz1 ex3 zz2 ex4 bD kD1 kD2 hn1 hn2 hn12 hn21 CDa CDb
       obtain ⟨p3,hp3⟩:=zeq (w4.heap.size)
       obtain ⟨p4,hp4⟩:=zeq (u5.heap.size)
       rw [← hp3,← hp4] at KD2 ⊢
       clear hp3 hp4
       have k1:=KX2.out.1.rd
       have k2:=KX2.out.2.rd
       have k3:=KD2.out.1.rd
       have k5:=KD2.out.2.rd
       have o2:=O2.out
       rw [HDT.out.2] at o2
       have O3:=zhz o2
       clear o2
       have CS1:=zhz (zgD 0 (n14:Int) none none A4 B4 0 k4 0 0 c4 d4 [] _ u8 (zgw _ _) (zgw _ _) E10.out.2 E10.out.1 L6.out.2)
       have CS2:=zhz (fun (wq:World) (hb:Below u8.heap.size u8 wq)=>zgD 0 0 (some ⟨g1,0,none⟩) (some ⟨g2,0,none⟩) none none ol 0 ol ol 0 0 oa [] wq (O3.out.1.below hb) (O3.out.2.below hb) (RdE.nil _) (RdE.nil _) (by omega))
       go_wp2_with (first
        | (go_at_call 29;((with_reducible refine CS1.out.mono ?_);rintro v w5 ⟨rfl,b5⟩;have B5:=zhz b5;have k3b:=(KD2.out.1.keep b5).rd;have k5b:=(KD2.out.2.keep b5).rd;clear b5))
        | (go_at_call 29;((with_reducible refine (CS2.out _ B5.out).mono ?_);rintro v w6 ⟨rfl,b6⟩;have B6:=zhz (show Below u8.heap.size u8 w6 from B5.out.trans (b6.mono B5.out.size));clear b6)))
       go_roundg (n2 - (i+1))
       case measure=>have:=HKK.out;have:=HIN.out;omega
       case rel=>exact ⟨i+1,t',HIN.out,zhz rfl,rfl,by go_num,zhz ⟨HTT.out.2.1,by have:=HTT.out.2.2.1;omega⟩,zhz (KC10.out.keep B6.out),zhz ⟨(xa.next t').next t',(xb.next t').next t',((ho0 xa t' Sa).nx (confR lps) Na (mkR 1 (ru:Int) cz ky 0)).Ss,((ho0 xb t' Sb).nx (confR lps) Nb (mkR 1 (ru:Int) cz ky 0)).Ss,by
        have h9:=(T11.out.keep B6.out).mono (m':=400*2097153*((i+1:Nat):Int)) (by have h1:=HMM.out;have h2:=HME.out;have:=HIN.out;omega)
        rw [HDT.out.1] at h9
        exact h9,⟨⟨HXX.out.1.1,(show max (max xa.now t') t'≤t' by have h1:=HXX.out.1.2;have h2:=HTT.out.1;omega)⟩,HXB.out.1,(show max (max xb.now t') t'≤t' by have:=HXB.out.2;omega)⟩,HQ3.out⟩⟩
    ·have hie:i=n2:=by omega
     subst hie
     obtain ⟨xa,xb,Sa,Sb,hT,_⟩:=HX.out
     have HBL:=zhz hT.bl
     clear hT HX
     go_wp2
     go_ret
     exact ⟨rfl,HBL.out⟩
end Go.Proofs.YtambcbbekoehiaaGreat
