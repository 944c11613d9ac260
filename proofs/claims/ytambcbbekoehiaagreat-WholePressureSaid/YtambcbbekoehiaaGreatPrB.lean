import Derived.Test.YtambcbbekoehiaaGreatZSvW
set_option linter.unusedSimpArgs false
set_option linter.unusedVariables false
set_option maxRecDepth 100000
set_option maxHeartbeats 9000000
namespace Go.Proofs.YtambcbbekoehiaaGreat
open Go.ChangeShapes Go.WideShapes Go.ChangeAt Go.RowKit
theorem wholepressure_law (w:World) (a b c d e f g h:Int) (sm:Bool) (n0 d0:Int) (hpl:RuleOK a b c d e f g h) (_hn0 : -9223372036854775808≤n0∧n0≤9223372036854775807) (_hd0 : -9223372036854775808≤d0∧d0≤9223372036854775807) :
  Calls Tryz.prog 12 #[planV a b c d e f g h sm,.int .i64 n0,.int .i64 d0] w fun e w'=>e=.returned (.bool true)∧Below w.heap.size w w':=by
 have HPL:=zhz hpl
 clear hpl
 obtain ⟨w1,hw1,k1,l1',s1⟩:=zad w (planC a b c d e f g h sm) 72
 obtain ⟨pl,hpl⟩:=zeq (w.heap.size)
 rw [← hpl] at k1
 have K2:=zhz (And.intro k1 l1')
 have HB:=zhz hpl
 clear k1 l1' s1
 go_enter Tryz.func12,Tryz.ntmps12
 go_upto_region 1 with (fail)
 rw [← HB.out]
 clear hw1 hpl
 go_upto_region 3 with (go_at_call 14;((refine (zeK _).mono ?_);rintro e w3 ⟨rfl,b3⟩;have K3:=zhz (And.intro (K2.out.1.keep b3) (zae K2.out.2 b3));clear b3))
 obtain ⟨n1,hn1⟩:∃ z:Nat,(z:Int)=n0 % 64:=⟨(n0 % 64).toNat,by omega⟩
 obtain ⟨d1,hd1⟩:∃ z:Nat,(z:Int)=d0 % 64:=⟨(d0 % 64).toNat,by omega⟩
 have en:bits .and .i64 n0 63=(n1:Int):=by rw [zcD,hn1]
 have ed:bits .and .i64 d0 63=(d1:Int):=by rw [zcD,hd1]
 obtain ⟨N,hN⟩:∃ z:Nat,z=n1+1:=⟨_,rfl⟩
 obtain ⟨D,hD⟩:∃ z:Nat,z=d1+1:=⟨_,rfl⟩
 have en2:(n1:Int)+1=(N:Int):=by omega
 have ed2:(d1:Int)+1=(D:Int):=by omega
 have en3:IntKind.i64.wrap ((n1:Int)+1)=(N:Int):=by rw [IntKind.wrap_i64];omega
 have ed3:IntKind.i64.wrap ((d1:Int)+1)=(D:Int):=by rw [IntKind.wrap_i64];omega
 have hN64:N≤64:=by omega
 have hD64:D≤64:=by omega
 have HND:=zhz (show 1≤N∧N≤64∧1≤D∧D≤64 by omega)
 clear hn1 hd1 hN hD
 go_upto_region 4 with (fail)
 clear en ed en2 ed2 en3 ed3 hN64 hD64
 have K4:=K3
 obtain ⟨w4,hw4⟩:=zeq (w3)
 rw [← hw4] at K4 ⊢
 clear hw4
 have kp:=K4.out.1.rd
 obtain ⟨w5,hw5,k5,b5,s5⟩:=zad w4 (planC a b c d e f g h sm) 72
 obtain ⟨pb,hpb⟩:=zeq (w4.heap.size)
 rw [← hpb] at k5
 have CF:=zhz (zdY [⟨a,b,c,d,e,f,g,h,sm⟩] 660 (some ⟨pb,0,none⟩) 1 1 0 rfl w5 (zke k5 HPL.out))
 have B5:=zhz (zae K4.out.2 b5)
 have HPB:=zhz hpb
 obtain ⟨ps,hps⟩:∃ z:List RuZ,z=[⟨a,b,c,d,e,f,g,h,sm⟩]:=⟨_,rfl⟩
 rw [← hps] at CF
 have HPS:=zhz hps
 clear k5 b5 s5 hpb hps
 go_upto_region 5 with (first
  | (rw [← HPB.out];go_at_call 16;((with_reducible refine CF.out.mono ?_);rintro e w6 ⟨A',m',c',rfl,r6,z6,b6⟩;obtain ⟨x1,x2,ex1,kr,kw,ex2,b7,k7⟩:=box4K w6 (.int .i64 4294967296) (.int .i64 3) (.int .i64 660) (.slice A' m' c');have B7:=zhz (zae (zae B5.out b6) b7);have R7:=zhz (r6.below b7);have K7:=zhz k7;have CN:=zhz (svnew0 ps A' m' c' x2 (r6.below b7) z6);clear r6 z6 b6 b7 k7)))
 try rw [ex2]
 clear ex1 kr kw ex2 hw5 kp CF
 have kc7:=K7.out.rd
 go_upto_region 6 with (go_at_call 17;((with_reducible refine CN.out.mono ?_);rintro e w8 ⟨s,c0,Ns,Ks,rfl,h8,n8,l8,p8,b8⟩;have B8:=zhz (zae B7.out b8);have H8:=zhz h8;have N8:=zhz n8;have P8:=zhz p8;clear h8 n8 l8 p8 b8))
 clear kc7 CN
 obtain ⟨K0,hK0⟩:∃ K,Ks[0]?=some K:=⟨_,List.getElem?_eq_getElem (by rw [P8.out];decide)⟩
 have HK:=zhz hK0
 obtain ⟨base,hbase⟩:=zeq (x2.heap.size)
 rw [← hbase] at H8
 have HBS:=zhz (show w.heap.size≤base from by rw [hbase];exact B7.out.size)
 have HCF:=zhz (show confR ps=[planR ⟨a,b,c,d,e,f,g,h,sm⟩] from by rw [HPS.out];rfl)
 obtain ⟨rs,hrs⟩:=zeq (confR ps)
 obtain ⟨Ss0,hSs0⟩:=zeq (rsZ (confR ps))
 have HR0:=zhz (show rs[0]?=some (planR ⟨a,b,c,d,e,f,g,h,sm⟩)∧rs.length=1∧(∃ ps,rs=confR ps)∧Ss0=[lmZ (planR ⟨a,b,c,d,e,f,g,h,sm⟩).Ce.toNat] from ⟨by rw [hrs,HCF.out];rfl,by rw [hrs,HCF.out];rfl,⟨ps,hrs⟩,by rw [hSs0,HCF.out];rfl⟩)
 rw [← hSs0,← hrs] at H8
 clear hK0 hbase hrs hSs0
 obtain ⟨N0,hN0⟩:∃ N,Ns[0]?=some N:=⟨_,List.getElem?_eq_getElem (by rw [H8.out.hn.nl,HR0.out.2.1];decide)⟩
 have HN0:=zhz hN0
 clear hN0
 have C1:=zhz (fun (wx:World) (hx:SrB wx base s rs 660 Ns Ks c0 Ss0 [cZ,cZ,cZ] 0)=>show Calls Tryz.prog 30 #[.pointer (some ⟨s,0,none⟩),.agg #[.int .i64 0,.int .i64 0,.int .i64 0,.slice none 0 0,.int .i64 0,.slice none 0 0]] wx (fun e w'=>e=.returned (stepV 0)∧SrB w' base s rs 660 Ns Ks (c0.next 0) Ss0 [⟨[],0,[],true⟩,cZ,cZ] 0∧Fr (chF s Ns K0) wx w') from hx.open_ (ck:=0) (by decide) 0 HK.out rfl rfl 0 _ _)
 go_upto_region 7 with (go_at_call 30;((with_reducible refine (C1.out _ H8.out).mono ?_);rintro e w9 ⟨rfl,h9,f9⟩;have H9:=zhz h9;have B9:=zhz (H8.out.below HK.out f9 HBS.out B8.out (Nat.le_refl _));clear h9 f9))
 clear C1
 obtain ⟨q,hq⟩:=zeq (mkR 2 0 1 ⟨#[107]⟩ 0)
 have HQ:=zhz (show okQ (rs.length:Int) (mkR 2 0 1 ⟨#[107]⟩ 0) from by rw [HR0.out.2.1];exact zgh (by decide) (by decide) (Or.inr rfl) (by decide) rfl (by decide))
 have H12:=zhz (show (encZ (mkR 2 0 1 ⟨#[107]⟩ 0)).length=12 from by rw [zaR HQ.out.1];rfl)
 have HBY:=zhz (show byt (encZ (mkR 2 0 1 ⟨#[107]⟩ 0)) from ze2 (za9 (by rw [HR0.out.2.1];decide) HQ.out) (zbU _))
 have CE:=zhz (fun wx=>zhS (op:=2) (ru:=0) (co:=1) (k:=0) (ky:=⟨#[107]⟩) (za9 (by rw [HR0.out.2.1];decide) HQ.out) (by decide) wx)
 rw [← hq] at HQ H12 HBY CE
 have HQO:=zhz (show q.op=1∨q.op=2 from by rw [hq];exact Or.inr rfl)
 clear hq
 go_upto_region 8 with (go_at_call 37;((with_reducible refine (CE.out _).mono ?_);rintro e w10 ⟨g10,n10,c10,rfl,l10,r10,hg10,b10⟩;rw [H12.out] at l10;subst l10;have R10:=zhz r10;have H10:=zhz (H9.out.keep b10);have B10:=zhz (zae B9.out b10);clear r10 hg10 b10))
 clear CE H9 B9 H8 K7 R7 B7 B5 K4 K3 K2
 obtain ⟨bq,hbq⟩:=zeq (w10.heap.size)
 have HBQ:=zhz hbq
 clear hbq
 go_wp2
 go_loopg [11,40] N (fun kk sb si wr=>∃ (i:Nat),i≤N∧Hid (kk=N - i)∧si=.int .i64 (i:Int)∧Hid (Own wr bq sb (joinS (List.replicate i q)))∧Hid (Below w10.heap.size w10 wr))
 case atStart=>exact ⟨0,by omega,zhz rfl,rfl,zhz (zlC _ _),zhz (Below.refl _ _)⟩
 case round =>
  obtain ⟨i,hi,HKK,rfl,HOW,HBL⟩:=hrel
  by_cases hin:i<N
  ·have HIN:=zhz hin
   have t1:(i:Int)<(N:Int):=by omega
   have hN64:N≤64:=HND.out.2.1
   clear hin
   go_wp2_with (at_builtin;refine zaF (by rfl) _ _ c10 (by rfl) (by rfl) (by rfl) HOW.out (R10.out.below HBL.out) (by rw [joinN H12.out];have:=HIN.out;have:=HND.out;omega) (by rw [HBQ.out];exact HBL.out.size) ?_;intro v11 w11 o11 g11;have O11:=zhz o11;have B11:=zhz (show Below w10.heap.size w10 w11 from HBL.out.trans ((fr_row g11).below HBL.out.size (fun g hg=>by have:=(HOW.out.lt g hg).1;have:=HBQ.out;omega)));clear o11 g11)
   go_roundg (N - (i+1))
   case measure=>have:=HKK.out;have:=HIN.out;omega
   case rel=>exact ⟨i+1,HIN.out,zhz rfl,by go_num,zhz (by rw [← zgd];exact O11.out),B11⟩
  ·have hie:i=N:=by omega
   have HN:=zhz (show Own wr bq u11 (joinS (List.replicate N q)) from by rw [← hie];exact HOW.out)
   have t1:¬ (i:Int)<(N:Int):=by omega
   obtain ⟨L,hL⟩:=zeq (12*N)
   have HL:=zhz hL
   obtain ⟨gb,cb,rfl,rb,hgb,hgb2⟩:=zbD HN.out (zge HBY.out N) L (by rw [joinN H12.out,hL]) (by have:=HND.out;omega)
   have HGB:=zhz (show ∀ k,chF s Ns K0 k→k≠gb from fun k hk e=>by have h1:=H10.out.ch_lt HK.out k hk;have h2:=HBQ.out;omega)
   have HCB:=zhz rb.cap
   have HP0:=zhz (show PrS w wr base s rs Ns Ks q N 0 0 [] gb L cb (1610613504*(768000 - ((L*1000:Nat):Int))) from ⟨⟨_,Ss0,by
    have h1:=(H10.out.keep HBL.out).mono (m':=1610613504*(768000 - ((L*1000:Nat):Int))) ⟨by have:=HND.out;omega,by have:=HND.out;omega⟩
    have h2:∃ z,N=z+1:=⟨N - 1,by have:=HND.out;omega⟩
    obtain ⟨z,rfl⟩:=h2
    exact h1⟩,rb,zae B10.out HBL.out⟩)
   clear hie hL rb hgb hgb2 HN HOW HBL H10 R10 hi
   go_upto_region 14 with (fail)
   clear t1
   go_loopg [12,13] (L*1000) (fun kk sa sg wr=>∃ (i r at_ got:Nat) (o:List Int),Hid (kk=(L - at_)*1000+o.length)∧sa=.int .i64 (at_:Int)∧sg=.int .i64 (got:Int)∧Hid (at_=12*i+r∧i≤N∧(r=0∨(i<N∧r<12))∧got+o.length=22*i∧o.length≤660)∧Hid (PrS w wr base s rs Ns Ks q N i r o gb L cb (1610613504*(768000 - (kk:Int)))))
   case atStart=>exact ⟨0,0,0,0,[],zhz rfl,rfl,rfl,zhz ⟨rfl,Nat.zero_le _,Or.inl rfl,rfl,Nat.zero_le _⟩,HP0⟩
   case round =>
    obtain ⟨i,r,at_,got,o,HKK,rfl,rfl,HA,HP⟩:=hrel
    by_cases hat:at_<L
    ·have HAT:=zhz hat
     have t1:(at_:Int)<(L:Int):=by omega
     have hL768:L≤768:=by have:=HL.out;have:=HND.out;omega
     obtain ⟨R,hR⟩:∃ z,660 - o.length=z:=⟨_,rfl⟩
     have HR:=zhz hR
     have CR:=zhz (show (Calls Tryz.prog 43 #[.pointer (some ⟨s,0,none⟩),.int .i64 0] wr fun e w'=>e=.returned (pcC K0)∧wr=w')∧(Calls Tryz.prog 44 #[pcC K0] wr fun e w'=>e=.returned (.int .i64 (R:Int))∧Below wr.heap.size wr w') from by
      obtain ⟨c9,S9,h9⟩:=HP.out.sv
      exact h9.room0 HK.out rfl R hR)
     have hR660:R≤660:=by omega
     clear hR
     go_upto_region 16 with (first
      | (go_at_call 43;((with_reducible refine CR.out.1.mono ?_);rintro e wx ⟨rfl,rfl⟩))
      | (go_at_call 44;((with_reducible refine CR.out.2.mono ?_);rintro e w15 ⟨rfl,b15⟩;have P15:=zhz (HP.out.keep b15);clear b15)))
     clear CR
     obtain ⟨na,hna⟩:∃ z,L - at_=z:=⟨_,rfl⟩
     obtain ⟨cc,hcc⟩:∃ z,cb - at_=z:=⟨_,rfl⟩
     have hcb:¬ cb=at_:=by have:=HCB.out;omega
     have g4:(at_:Int)≤(L:Int):=by omega
     have g5:(L:Int)≤(cb:Int):=by have:=HCB.out;omega
     have g6:(0:Int)≤(at_:Int):=by omega
     have CP:=zhz (show Calls Tryz.prog 30 #[.pointer (some ⟨s,0,none⟩),.agg #[.int .i64 2,.int .i64 0,.int .i64 0,.slice (some ⟨gb,at_,none⟩) na cc,.int .i64 0,.slice none 0 0]] w15 (fun e w'=>∃ (k i2 r2:Nat) (x:List Int) (A4:Option Addr) (n4 c4:Nat),e=.returned (stepQ 0 (k:Int) none 0 0 A4 n4 c4)∧PrS w w' base s rs Ns Ks q N (i+i2) r2 (o++x) gb L cb (1610613504*(768000 - (gk:Int))+1610613504) ∧
       x.length=22*i2∧i+i2≤N∧r+k=12*i2+r2∧(r2=0∨(i+i2<N∧r2<12))∧((i+i2=N∧r2=0)∨(i+i2<N∧r2=11∧660<o.length+22*i2+22))∧o.length+22*i2≤660) from by
      obtain ⟨⟨c9,S9,h9⟩,hrd,hbl⟩:=P15.out
      have hA:=HA.out
      have hLL:=HL.out
      have hrd2:=zgv hrd (m:=at_) (l:=na) (by omega) (by omega)
      rw [Nat.zero_add,List.take_of_length_le (by rw [List.length_drop,joinN H12.out];omega),hcc] at hrd2
      rw [show (joinS (List.replicate N q)).drop at_=(joinS (List.replicate (N - i) q)).drop r from by rw [hA.1];exact zeg H12.out i N r hA.2.1] at hrd2
      refine (h9.press HK.out HQ.out (by rw [HR0.out.2.1];decide) HQO.out H12.out (by omega) _ _ _ hrd2 (by omega) (by omega) (fun b off _ e=>by injection e with e;injection e with e;rw [← e];exact HGB.out) 0 _).mono ?_
      rintro e w' ⟨k,i2,r2,x,A4,n4,c4,c',Ss',rfl,h1,f1,e1,e2,e3,e4,e5,e6⟩
      refine ⟨k,i2,r2,x,A4,n4,c4,rfl,⟨⟨c',Ss',by rw [show N - (i+i2)=N - i - i2 by omega];exact h1⟩,ziO hrd f1 (fun hk=>HGB.out gb hk rfl),h9.below HK.out f1 HBS.out hbl (Nat.le_refl _)⟩,e1,by omega,e3,by omega,by omega,e6⟩)
     have hfd:=fun k A n c w=>zkx k A n c w
     go_upto_region 17 with (go_at_call 30;((with_reducible refine CP.out.mono ?_);rintro e w16 ⟨k,i2,r2,x,A4,n4,c4,rfl,p16,e1,e2,e3,e4,e5,e6⟩;have P16:=zhz p16;have HX:=zhz (And.intro e1 (And.intro e2 (And.intro e3 (And.intro e4 (And.intro e5 e6)))));clear p16 e1 e2 e3 e4 e5 e6))
     clear CP hfd hna hcc hcb g4 g5 g6
     obtain ⟨a2,ha2⟩:=zeq (at_+k)
     obtain ⟨j2,hj2⟩:=zeq (i+i2)
     rw [← hj2] at P16 HX
     have HA2:=zhz (And.intro ha2 hj2)
     have hA:=HA.out
     have hX:=HX.out
     have hLL:=HL.out
     have hND:=HND.out
     have f1:(at_:Int)+(k:Int)=(a2:Int):=by omega
     have f2:(a2:Int).tdiv 12=(j2:Int):=by rw [Int.tdiv_eq_ediv_of_nonneg (by omega)];omega
     have f3:(at_:Int).tdiv 12=(i:Int):=by rw [Int.tdiv_eq_ediv_of_nonneg (by omega)];omega
     have f4:(j2:Int) - (i:Int)=(i2:Int):=by omega
     have b1:a2≤768:=by omega
     have b2:j2≤64:=by omega
     have b3:i≤64:=by omega
     have b4:i2≤64:=by omega
     have b5:k≤768:=by omega
     have b6:N≤64:=by omega
     clear ha2 hj2
     clear hA hX hLL hND
     go_quiet (fail)
     have P17:=zhz (P16.out.keep (zaa (Below.refl _ _) nq))
     obtain ⟨w17,hw17⟩:=zeq (w16.drewN nq)
     rw [← hw17] at P17 ⊢
     clear hw17
     go_upto_region 18 with (fail)
     go_cut [107] from 71 to 121 (fun s107 wx=>∃ wy,wx=wy∧s107=.bool false∧Hid (PrS w wy base s rs Ns Ks q N j2 r2 (o++x) gb L cb (1610613504*(768000 - (gk:Int))+1610613504)))
     case first =>
      obtain ⟨q22,hq22⟩:=zeq (R / 22)
      have f5:(R:Int).tdiv 22=(q22:Int):=by rw [Int.tdiv_eq_ediv_of_nonneg (by omega)];omega
      obtain ⟨ni,hni⟩:=zeq (N - i)
      have f6:(N:Int) - (i:Int)=(ni:Int):=by have:=HA.out;omega
      have f7:min (q22:Int) (ni:Int)=(i2:Int):=by have h1:=HX.out;have h2:=HA.out;have h3:=HR.out;have h4:=HA2.out;omega
      have b7:q22≤30:=by omega
      have b8:ni≤64:=by omega
      clear hq22 hni
      by_cases hcl:(a2:Int)<(L:Int)
      ·have HCL:=zhz hcl
       have hlx:∃ z,660 - (o++x).length=z:=⟨_,rfl⟩
       obtain ⟨R2,hR2⟩:=hlx
       have hR3:R2<22:=by have h1:=HX.out;have h2:=HA.out;have h4:=HA2.out;have h5:=HCL.out;have h6:=HL.out;rw [List.length_append,h1.1] at hR2;omega
       have f8:(a2:Int).tmod 12=11:=by have h1:=HX.out;have h2:=HA.out;have h4:=HA2.out;have h5:=HCL.out;have h6:=HL.out;rw [Int.tmod_eq_emod_of_nonneg (by omega)];omega
       have f9:¬ (22:Int)≤(R2:Int):=by omega
       have CR:=zhz (show (Calls Tryz.prog 43 #[.pointer (some ⟨s,0,none⟩),.int .i64 0] w17 fun e w'=>e=.returned (pcC K0)∧w17=w')∧(Calls Tryz.prog 44 #[pcC K0] w17 fun e w'=>e=.returned (.int .i64 (R2:Int))∧Below w17.heap.size w17 w') from by
        obtain ⟨c9,S9,h9⟩:=P17.out.sv
        exact h9.room0 HK.out rfl R2 hR2)
       clear hR2
       go_wp2_with (first
        | (go_at_call 43;((with_reducible refine CR.out.1.mono ?_);rintro e wx ⟨rfl,rfl⟩))
        | (go_at_call 44;((with_reducible refine CR.out.2.mono ?_);rintro e w18 ⟨rfl,b18⟩;have P18:=zhz (P17.out.keep b18);clear b18)))
       go_meet
       case rel=>exact ⟨_,rfl,congrArg Value.bool (decide_eq_false (by omega)),P18⟩
      ·go_wp2
       go_meet
       case rel=>exact ⟨_,rfl,rfl,P17⟩
     case rest =>
     obtain ⟨wy,hwy,rfl,HPC⟩:=hcut
     rw [hwy]
     clear hwy
     obtain ⟨d,hd⟩:∃ d:Nat,(d:Int)=max 0 (min (D:Int) ((o++x).length:Int)):=⟨min D (o++x).length,by omega⟩
     have HD:=zhz hd
     have CD:=zhz (show Calls Tryz.prog 30 #[.pointer (some ⟨s,0,none⟩),.agg #[.int .i64 3,.int .i64 0,.int .i64 0,.slice none 0 0,.int .i64 (D:Int),.slice none 0 0]] wy (fun e w'=>∃ g',e=.returned (stepQ 0 0 (some ⟨g',0,none⟩) d d none 0 0)∧PrS w w' base s rs Ns Ks q N j2 r2 ((o++x).drop d) gb L cb (1610613504*(768000 - (gk:Int))+1610613504)) from HPC.out.out HK.out HGB.out HBS.out _ d hd _ _)
     obtain ⟨g3,hg3⟩:=zeq (got+d)
     have HLX:=zhz (show (o++x).length=o.length+22*i2 from by rw [List.length_append,HX.out.1])
     have HM3:=zhz (show 0<d∧(L - a2)*1000+((o++x).drop d).length<gk from by
      have h1:=HX.out;have h2:=HA.out;have h3:=HAT.out;have h4:=HA2.out;have h5:=HKK.out;have h6:=HL.out;have h7:=HLX.out;have h8:=HND.out
      rw [h7] at hd
      rw [List.length_drop,h7]
      omega)
     have f10:(got:Int)+(d:Int)=(g3:Int):=by omega
     have b9:got≤2000:=by have:=HA.out;omega
     have b10:d≤2000:=by have:=HLX.out;have:=HX.out;omega
     have td:¬ (d:Int)=0:=by have:=HM3.out.1;omega
     have HG3:=zhz hg3
     clear hd hg3
     have hfd:=fun g w=>zgE g d w
     go_upto_region 22 with (go_at_call 30;((with_reducible refine CD.out.mono ?_);rintro e w19 ⟨g19,rfl,p19⟩;have P19:=zhz p19;clear p19))
     clear CD hfd
     go_wp2
     go_roundg ((L - a2)*1000+((o++x).drop d).length)
     case measure=>exact HM3.out.2
     case rel=>exact ⟨j2,r2,a2,g3,(o++x).drop d,zhz rfl,rfl,rfl,zhz (by
      have h1:=HX.out;have h2:=HA.out;have h3:=HAT.out;have h4:=HA2.out;have h6:=HL.out;have h7:=HLX.out;have h8:=HND.out;have h9:=HD.out;have h10:=HG3.out
      rw [h7] at h9
      rw [List.length_drop,h7]
      omega),zhz (P19.out.mono ⟨by have:=HM3.out.2;omega,by omega⟩)⟩
    ·have t1:¬ (at_:Int)<(L:Int):=by omega
     obtain ⟨d,hd⟩:∃ d:Nat,d=o.length:=⟨_,rfl⟩
     have hA:=HA.out
     have hLL:=HL.out
     have hND:=HND.out
     have CD:=zhz (show Calls Tryz.prog 30 #[.pointer (some ⟨s,0,none⟩),.agg #[.int .i64 3,.int .i64 0,.int .i64 0,.slice none 0 0,.int .i64 65536,.slice none 0 0]] wr (fun e w'=>∃ g',e=.returned (stepQ 0 0 (some ⟨g',0,none⟩) d d none 0 0)∧PrS w w' base s rs Ns Ks q N i r (o.drop d) gb L cb (1610613504*(768000 - (gk:Int)))) from HP.out.out HK.out HGB.out HBS.out _ d (by omega) _ _)
     obtain ⟨g3,hg3⟩:=zeq (got+d)
     have f10:(got:Int)+(d:Int)=(g3:Int):=by omega
     have f11:22*(N:Int)=(g3:Int):=by omega
     have b9:got≤2000:=by omega
     have b10:d≤660:=by omega
     have b6:N≤64:=by omega
     clear hd hg3 hA hLL hND
     have hfd:=fun g w=>zgE g d w
     go_wp2_with (go_at_call 30;((with_reducible refine CD.out.mono ?_);rintro e w19 ⟨g19,rfl,p19⟩;have B19:=zhz p19.bl;clear p19))
     go_ret
     exact ⟨rfl,B19.out⟩
end Go.Proofs.YtambcbbekoehiaaGreat
