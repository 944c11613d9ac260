import Derived.Test.YtannniobeanhlaaGreatRows
import Derived.Test.YtannniobeanhlaaGreatShelf
import Derived.Test.YtannniobeanhlaaGreatKnuth
import Derived.ProofKit
import Derived.OpenShut
import Derived.Lib.Hide
import Derived.Deep.DeepCutAuto
import Derived.Deep.CutBlock
import Derived.Deep.Draws
import Derived.Test.YtannniobeanhlaaGreatZKyMath
import Derived.Test.YtannniobeanhlaaGreatArMath
set_option linter.unusedSimpArgs false
set_option linter.unusedVariables false
set_option maxRecDepth 100000
set_option maxHeartbeats 9000000
namespace Go.Proofs.YtannniobeanhlaaGreat
open Go.ChangeShapes Go.WideShapes Go.ChangeAt Go.RowKit
theorem zmJ {k k':IntKind} {a b c d:Int} (h:a=b) (g:c=d):Ending.returned (.tuple #[.int k a,.int k' c])=.returned (.tuple #[.int k b,.int k' d]):=by rw [h,g]
theorem zmx (x s:Nat) (hx:x<18446744073709551616) (hs:(s:Int)=64 - (Lib.bitLen x:Int)) (w:World) :
  Calls Tryz.prog 190 #[.int .u64 x] w fun e w'=>e=.returned (.int .i64 s)∧w=w' :=
 (Tryz.bits_LeadingZeros64 x w (by omega) (by omega)).mono fun e w' ⟨h,g⟩=>⟨by rw [h,hs,Int.toNat_natCast],g.symm⟩
theorem zd6 (hi lo y:Nat) (hy:y<18446744073709551616) (hlo:lo<18446744073709551616) (h:hi<y) (w:World) :
  Calls Tryz.prog 189 #[.int .u64 hi,.int .u64 lo,.int .u64 y] w fun e w'=>e=.returned (.tuple #[.int .u64 ((hi*18446744073709551616+lo) / y:Nat),.int .u64 ((hi*18446744073709551616+lo) % y:Nat)])∧∃ n,w'=w.drewN n:=by
 by_cases h0:hi=0
 ·subst h0
  simp only [Nat.zero_mul,Nat.zero_add]
  have hq:((lo / y:Nat):Int)=(lo:Int) / (y:Int):=Int.natCast_ediv _ _
  have hr:((lo % y:Nat):Int)=(lo:Int) % (y:Int):=Int.natCast_emod _ _
  have hq1:lo / y≤lo:=Nat.div_le_self _ _
  have hr1:lo % y<y:=Nat.mod_lt _ (by omega)
  have hq2:IntKind.u64.wrap ((lo:Int) / (y:Int))=(lo:Int) / (y:Int):=by rw [← hq];exact Kn.wrapN _ (by omega)
  have hr2:IntKind.u64.wrap ((lo:Int) % (y:Int))=(lo:Int) % (y:Int):=by rw [← hr];exact Kn.wrapN _ (by omega)
  rw [hq,hr]
  clear hq hr
  go_enter Tryz.func189,Tryz.ntmps189
  go_wp2
  go_region
  all_goals go_wp2
  all_goals go_ret2
  all_goals exact ⟨rfl,1,rfl⟩
 ·obtain ⟨s,Y,V1,V0,U,L,D1,D0,Q,P,R,hs,F⟩:=Kn.prep hi lo y hy hlo h
  have hs1:=F.fs
  have H:=zhz hs
  clear hs
  have b1:=F.fYb
  have b2:=F.fV1
  have b3:=F.fV0
  have b4:=F.fU
  have b5:=F.fD1
  have b6:=F.fD0
  have b7:L<18446744073709551616:=by have:=F.fL;omega
  have b8:P≤U:=by have:=F.fR;omega
  have b11:=F.fRb
  have I1:Kn.Inv U V1 V0 D1 Q R:=by
   have:=Kn.start (U:=U) (V1:=V1) (V0:=V0) (D:=D1) b2.1 b3 (by have:=F.fV;omega) b5
   rw [F.fQ] at this
   have e:U % V1=R:=by
    have e1:=Nat.div_add_mod' U V1
    have e2:=F.fR
    rw [F.fQ,F.fP] at e1;omega
   rw [e] at this;exact this
  have b9:Q≤4294967297:=I1.le
  have hUY:U<V1*4294967296+V0:=by have:=F.fV;omega
  have I2:Kn.Inv ((U*4294967296+D1) % Y) V1 V0 D0 ((U*4294967296+D1) % Y / V1) ((U*4294967296+D1) % Y % V1) :=
   Kn.start b2.1 b3 (by have h9:=F.fV;rw [← h9];exact Nat.mod_lt (U*4294967296+D1) (by omega)) b6
  have E1:IntKind.u64.wrap ((y:Int)*2 ^ s)=(Y:Int):=by rw [Kn.pow_cast,F.fY];exact Kn.wrapN _ b1
  have E2:(Y:Int) / 4294967296=(V1:Int):=by have:=F.fV;omega
  have E3:bits .and .u64 (Y:Int) 4294967295=(V0:Int):=by rw [Kn.maskN _ b1];have:=F.fV;omega
  have E4:bits .or .u64 (IntKind.u64.wrap ((hi:Int)*2 ^ s)) ((lo:Int) / 2 ^ (64 - s))=(U:Int):=by
   have hU:=F.fU;have hUU:=F.fhU
   have c1:hi*2 ^ s<18446744073709551616:=by
    refine Nat.lt_of_le_of_lt (Nat.le_add_right _ (lo / 2 ^ (64 - s))) ?_
    rw [hUU];omega
   have c3:lo / 2 ^ (64 - s)<2 ^ s:=by
    rw [Nat.div_lt_iff_lt_mul (Nat.two_pow_pos _),← Nat.pow_add]
    have:s+(64 - s)=64:=by omega
    rw [this];exact hlo
   have c2:lo / 2 ^ (64 - s)<18446744073709551616:=Nat.lt_of_lt_of_le c3 (by
    have:2 ^ s≤2 ^ 64:=Nat.pow_le_pow_right (by decide) (by omega)
    exact this)
   rw [Kn.pow_cast,Kn.div_cast,Kn.wrapN _ c1,bits_or_u64_nat _ _ c1 c2,Kn.or_add _ _ s (64 - s) c3,hUU]
  have E5:IntKind.u64.wrap ((lo:Int)*2 ^ s)=(L:Int):=by rw [Kn.pow_cast,Kn.wrapM,F.fhL]
  have E6:(L:Int) / 4294967296=(D1:Int):=by have:=F.fL;omega
  have E7:bits .and .u64 (L:Int) 4294967295=(D0:Int):=by rw [Kn.maskN _ b7];have:=F.fL;omega
  have E8:(U:Int) / (V1:Int)=(Q:Int):=by rw [← Int.natCast_ediv,F.fQ]
  have E9:IntKind.u64.wrap ((Q:Int)*(V1:Int))=(P:Int):=by rw [← Int.natCast_mul,F.fP];exact Kn.wrapN _ (by omega)
  have E10:(U:Int) - (P:Int)=(R:Int):=by have:=F.fR;omega
  have HI1:=zhz I1
  have HI2:=zhz I2
  have HF:=zhz F
  clear I1 I2 F
  go_enter Tryz.func189,Tryz.ntmps189
  go_upto_block 0 with (go_at_call 190;refine (zmx _ s (by omega) H.out _).mono ?_;rintro e w' ⟨rfl,rfl⟩)
  clear E1 E2 E3 E4 E5 E6 E7 E8 E9 E10
  have HVo:=zhz HF.out.fV
  obtain ⟨Q1,hQ1⟩:=zeq ((U*4294967296+D1) / Y)
  have HQ1:=zhz hQ1
  clear hQ1
  go_cut [15] from 67 (fun s15 wx=>s15=.int .u64 ((U*4294967296+D1) / Y:Nat)∧wx=w)
  case first =>
   have bD:=b5
   go_wp2_with fail
   go_loopg [15,16] Q (fun k q r wr=>∃ r1:Nat,q=.int .u64 k∧r=.int .u64 r1∧r1<4294967296∧Hid (Kn.Inv U V1 V0 D1 k r1)∧wr=w)
   case atStart=>exact ⟨R,rfl,rfl,by omega,HI1,rfl⟩
   case round =>
    obtain ⟨r1,rfl,rfl,hr1,HI,rfl⟩:=hrel
    have hq2:=HI.out.le
    obtain ⟨T,hTe⟩:=zeq (gk*V0)
    by_cases hA:4294967296≤gk∨4294967296*r1+D1<gk*V0
    ·have hst:=Kn.step HI.out hUY bD hr1 hA
     have HS:=zhz hst.2
     have hq1:=hst.1
     clear hst
     have hT:Hid (4294967296≤gk∨gk<4294967296∧IntKind.u64.wrap ((gk:Int)*(V0:Int))=(T:Int)∧decide (4294967296*(r1:Int)+(D1:Int)<(T:Int))=true∧T<18446744073709551616):=by
      rcases Nat.lt_or_ge gk 4294967296 with g | g
      ·exact zhz (Or.inr ⟨g,by rw [← Int.natCast_mul,hTe];exact Kn.wrapN _ (Kn.half_lt g b3),by rw [decide_eq_true_eq];omega,by rw [hTe];exact Kn.half_lt g b3⟩)
      ·exact zhz (Or.inl g)
     have hN:Value.int IntKind.u64 ((gk:Int) - 1)=Value.int .u64 ((gk - 1:Nat):Int):=congrArg _ (by omega)
     have HN:=zhz hN
     clear hN hA hTe
     by_cases hC:4294967296≤r1+V1
     ·have hC1:decide ((4294967296:Int)≤(r1:Int)+(V1:Int))=true:=by rw [decide_eq_true_eq];omega
      have HZ:=zhz (Kn.stop HS.out hUY b3 (Or.inr hC))
      clear hC
      rcases hT.out with g | ⟨g,g1,g2,g3⟩
      ·have hA1:decide ((4294967296:Int)≤(gk:Int))=true:=by rw [decide_eq_true_eq];omega
       clear g hT
       go_wp2
       go_meet
       case rel=>exact ⟨HN.out.trans (by rw [HZ.out,← HVo.out]),rfl⟩
      ·have hA1:decide ((4294967296:Int)≤(gk:Int))=false:=by rw [zdn];omega
       clear g hT
       go_wp2
       go_meet
       case rel=>exact ⟨HN.out.trans (by rw [HZ.out,← HVo.out]),rfl⟩
     ·have hC1:decide ((4294967296:Int)≤(r1:Int)+(V1:Int))=false:=by rw [zdn];omega
      have hC2:=zhz (Nat.lt_of_not_le hC)
      clear hC
      rcases hT.out with g | ⟨g,g1,g2,g3⟩
      ·have hA1:decide ((4294967296:Int)≤(gk:Int))=true:=by rw [decide_eq_true_eq];omega
       clear g hT
       go_wp2
       go_roundg (gk - 1)
       case measure=>omega
       case rel=>exact ⟨r1+V1,HN.out,rfl,hC2.out,HS,rfl⟩
      ·have hA1:decide ((4294967296:Int)≤(gk:Int))=false:=by rw [zdn];omega
       clear g hT
       go_wp2
       go_roundg (gk - 1)
       case measure=>omega
       case rel=>exact ⟨r1+V1,HN.out,rfl,hC2.out,HS,rfl⟩
    ·have hq:gk<4294967296∧gk*V0≤4294967296*r1+D1:=by omega
     have HZ:=zhz (Kn.stop HI.out hUY b3 (Or.inl hq))
     have hA1:decide ((4294967296:Int)≤(gk:Int))=false:=by rw [zdn];omega
     have g1:IntKind.u64.wrap ((gk:Int)*(V0:Int))=(T:Int):=by rw [← Int.natCast_mul,hTe];exact Kn.wrapN _ (Kn.half_lt hq.1 b3)
     have g2:decide (4294967296*(r1:Int)+(D1:Int)<(T:Int))=false:=by rw [zdn];omega
     clear hq hA hTe
     go_wp2
     go_meet
     case rel=>exact ⟨by rw [HZ.out,← HVo.out],rfl⟩
  case rest =>
   obtain ⟨hs15,rfl⟩:=hcut
   subst hs15
   rw [← HQ1.out]
   clear HI1
   obtain ⟨U2,hU2⟩:=zeq ((U*4294967296+D1) % Y)
   have HI2':=HI2.out
   rw [← hU2] at HI2'
   obtain ⟨Q2,hQ2⟩:=zeq (U2 / V1)
   obtain ⟨R2,hR2⟩:=zeq (U2 % V1)
   obtain ⟨P2,hP2⟩:=zeq (Q2*V1)
   obtain ⟨Q0,hQ0⟩:=zeq ((U2*4294967296+D0) / Y)
   obtain ⟨R0,hR0⟩:=zeq ((U2*4294967296+D0) % Y)
   rw [← hQ2,← hR2] at HI2'
   have hPR:P2+R2=U2:=by rw [hP2,hQ2,hR2];exact Nat.div_add_mod' U2 V1
   have hY0:0<Y:=by omega
   have c1:U2<Y:=by rw [hU2];exact Nat.mod_lt _ hY0
   have c2:R2<V1:=by rw [hR2];exact Nat.mod_lt _ (by omega)
   have c3:Q2≤4294967297:=HI2'.le
   have c4:P2≤U2:=by omega
   have hV:=HVo.out
   have c5:Q1<4294967296:=by rw [HQ1.out,hV];exact Kn.dig_lt hUY b5
   have hUY2:U2<V1*4294967296+V0:=by omega
   have c6:Q0<4294967296:=by rw [hQ0,hV];exact Kn.dig_lt hUY2 b6
   have c7:R0<Y:=by rw [hR0];exact Nat.mod_lt _ hY0
   have E11:IntKind.u64.wrap (IntKind.u64.wrap (IntKind.u64.wrap ((U:Int)*4294967296)+(D1:Int)) - IntKind.u64.wrap ((Q1:Int)*(Y:Int)))=(U2:Int):=by
    have:=Nat.div_add_mod' (U*4294967296+D1) Y
    rw [← HQ1.out,← hU2] at this
    rw [← Int.natCast_mul]
    exact Kn.back this (by omega)
   have E12:(U2:Int) / (V1:Int)=(Q2:Int):=by rw [← Int.natCast_ediv,hQ2]
   have E13:IntKind.u64.wrap ((Q2:Int)*(V1:Int))=(P2:Int):=by rw [← Int.natCast_mul,← hP2];exact Kn.wrapN _ (by omega)
   have E14:(U2:Int) - (P2:Int)=(R2:Int):=by omega
   have E15:IntKind.u64.wrap (IntKind.u64.wrap (IntKind.u64.wrap ((U2:Int)*4294967296)+(D0:Int)) - IntKind.u64.wrap ((Q0:Int)*(Y:Int)))=(R0:Int):=by
    have:=Nat.div_add_mod' (U2*4294967296+D0) Y
    rw [← hQ0,← hR0] at this
    rw [← Int.natCast_mul]
    exact Kn.back this (by omega)
   have HQ2:=zhz hQ2
   have HR2:=zhz hR2
   have HU2:=zhz hU2
   have HQ0:=zhz hQ0
   have HR0:=zhz hR0
   have HI1:=zhz HI2'
   clear hU2 hQ2 hR2 hP2 hQ0 hR0 hPR HI2' HI2 hV
   go_upto_block 2 with fail
   clear E11 E12 E13 E14
   have HE15:=zhz E15
   clear E15
   have hUY1:=hUY
   clear hUY
   go_cut [18] from 102 (fun s18 wx=>s18=.int .u64 ((U2*4294967296+D0) / Y:Nat)∧wx=wc)
   case first =>
    have bD:=b6
    have hUY:=hUY2
    go_wp2_with fail
    go_loopg [18,16] Q2 (fun k q r wr=>∃ r1:Nat,q=.int .u64 k∧r=.int .u64 r1∧r1<4294967296∧Hid (Kn.Inv U2 V1 V0 D0 k r1)∧wr=wc)
    case atStart=>exact ⟨R2,rfl,rfl,by omega,HI1,rfl⟩
    case round =>
     obtain ⟨r1,rfl,rfl,hr1,HI,rfl⟩:=hrel
     have hq2:=HI.out.le
     obtain ⟨T,hTe⟩:=zeq (gk*V0)
     by_cases hA:4294967296≤gk∨4294967296*r1+D0<gk*V0
     ·have hst:=Kn.step HI.out hUY bD hr1 hA
      have HS:=zhz hst.2
      have hq1:=hst.1
      clear hst
      have hT:Hid (4294967296≤gk∨gk<4294967296∧IntKind.u64.wrap ((gk:Int)*(V0:Int))=(T:Int)∧decide (4294967296*(r1:Int)+(D0:Int)<(T:Int))=true∧T<18446744073709551616):=by
       rcases Nat.lt_or_ge gk 4294967296 with g | g
       ·exact zhz (Or.inr ⟨g,by rw [← Int.natCast_mul,hTe];exact Kn.wrapN _ (Kn.half_lt g b3),by rw [decide_eq_true_eq];omega,by rw [hTe];exact Kn.half_lt g b3⟩)
       ·exact zhz (Or.inl g)
      have hN:Value.int IntKind.u64 ((gk:Int) - 1)=Value.int .u64 ((gk - 1:Nat):Int):=congrArg _ (by omega)
      have HN:=zhz hN
      clear hN hA hTe
      by_cases hC:4294967296≤r1+V1
      ·have hC1:decide ((4294967296:Int)≤(r1:Int)+(V1:Int))=true:=by rw [decide_eq_true_eq];omega
       have HZ:=zhz (Kn.stop HS.out hUY b3 (Or.inr hC))
       clear hC
       rcases hT.out with g | ⟨g,g1,g2,g3⟩
       ·have hA1:decide ((4294967296:Int)≤(gk:Int))=true:=by rw [decide_eq_true_eq];omega
        clear g hT
        go_wp2
        go_meet
        case rel=>exact ⟨HN.out.trans (by rw [HZ.out,← HVo.out]),rfl⟩
       ·have hA1:decide ((4294967296:Int)≤(gk:Int))=false:=by rw [zdn];omega
        clear g hT
        go_wp2
        go_meet
        case rel=>exact ⟨HN.out.trans (by rw [HZ.out,← HVo.out]),rfl⟩
      ·have hC1:decide ((4294967296:Int)≤(r1:Int)+(V1:Int))=false:=by rw [zdn];omega
       have hC2:=zhz (Nat.lt_of_not_le hC)
       clear hC
       rcases hT.out with g | ⟨g,g1,g2,g3⟩
       ·have hA1:decide ((4294967296:Int)≤(gk:Int))=true:=by rw [decide_eq_true_eq];omega
        clear g hT
        go_wp2
        go_roundg (gk - 1)
        case measure=>omega
        case rel=>exact ⟨r1+V1,HN.out,rfl,hC2.out,HS,rfl⟩
       ·have hA1:decide ((4294967296:Int)≤(gk:Int))=false:=by rw [zdn];omega
        clear g hT
        go_wp2
        go_roundg (gk - 1)
        case measure=>omega
        case rel=>exact ⟨r1+V1,HN.out,rfl,hC2.out,HS,rfl⟩
     ·have hq:gk<4294967296∧gk*V0≤4294967296*r1+D0:=by omega
      have HZ:=zhz (Kn.stop HI.out hUY b3 (Or.inl hq))
      have hA1:decide ((4294967296:Int)≤(gk:Int))=false:=by rw [zdn];omega
      have g1:IntKind.u64.wrap ((gk:Int)*(V0:Int))=(T:Int):=by rw [← Int.natCast_mul,hTe];exact Kn.wrapN _ (Kn.half_lt hq.1 b3)
      have g2:decide (4294967296*(r1:Int)+(D0:Int)<(T:Int))=false:=by rw [zdn];omega
      clear hq hA hTe
      go_wp2
      go_meet
      case rel=>exact ⟨by rw [HZ.out,← HVo.out],rfl⟩
   case rest =>
    obtain ⟨hs18,rfl⟩:=hcut
    subst hs18
    rw [← HQ0.out]
    have E15:=HE15.out
    go_wp2
    go_ret2
    obtain ⟨f1,f2⟩:=Kn.final HF.out hY0 HQ1.out HU2.out HQ0.out HR0.out
    rw [f1,f2]
    exact ⟨zmJ (by omega) (Kn.div_cast _ _),0,rfl⟩
theorem zau {k:IntKind} {a b:Int} (h:a=b):Ending.returned (.int k a)=.returned (.int k b):=by rw [h]
theorem zeo (x y:Nat) (hx:x<18446744073709551616) (hy:y<18446744073709551616) (w:World) :
  Calls Tryz.prog 186 #[.int .u64 x,.int .u64 y] w fun e w'=>e=.returned (.tuple #[.int .u64 ((x*y / 18446744073709551616:Nat):Int),.int .u64 ((x*y % 18446744073709551616:Nat):Int)])∧w=w' :=
 (Tryz.bits_Mul64 x y hx hy w).mono fun _ _ ⟨h,g⟩=>⟨h,g.symm⟩
theorem zi1 (hi lo y:Nat) (hhi:hi<18446744073709551616) (hlo:lo<18446744073709551616) (hy:y<18446744073709551616) (h0:0<y) (w:World) :
  Calls Tryz.prog 187 #[.int .u64 hi,.int .u64 lo,.int .u64 y] w fun e w'=>e=.returned (.int .u64 ((hi*18446744073709551616+lo) % y:Nat))∧∃ n,w'=w.drewN n:=by
 obtain ⟨h,hh⟩:=zeq (hi % y)
 have hl:h<y:=by rw [hh];exact Nat.mod_lt _ h0
 have cd:=fun w=>zd6 h lo y hy hlo hl w
 have e:(h*18446744073709551616+lo) % y=(hi*18446744073709551616+lo) % y:=by rw [hh];exact Fp.rem_two hi lo y
 rw [e] at cd
 have CD:=zhz cd
 have e1:(hi:Int) % (y:Int)=(h:Int):=by rw [hh,Int.natCast_emod]
 have t0:((y:Int)==0)=false:=by rw [beq_eq_false_iff_ne];omega
 have t1:¬ (y=0):=by omega
 clear cd e hh
 go_enter Tryz.func187,Tryz.ntmps187
 go_wp2_with (first | (go_at_call 189;refine (CD.out _).mono ?_;rintro e w' ⟨rfl,n,rfl⟩))
 go_ret
 exact ⟨rfl,n,rfl⟩
theorem zdI (x:Nat) (hx:x<18446744073709551616) (w:World) :
  Calls Tryz.prog 116 #[.int .u64 x] w fun e w'=>e=.returned (.int .u64 (x % 2305843009213693951:Nat))∧w=w':=by
 obtain ⟨r,hr⟩:=zeq (x % 2305843009213693951)
 have e1:(x:Int) % 2305843009213693951=(r:Int):=by omega
 rw [← hr]
 have hb:r<2305843009213693951:=by omega
 clear hr
 go_enter Tryz.func116,Tryz.ntmps116
 go_wp2
 go_ret
 exact ⟨zau (by first | exact e1 | rfl),rfl⟩
theorem zf7 (a b:Nat) (h:a+b<18446744073709551616) (w:World) :
  Calls Tryz.prog 176 #[.int .u64 a,.int .u64 b] w fun e w'=>e=.returned (.int .u64 ((a+b) % 2305843009213693951:Nat))∧w=w':=by
 obtain ⟨s,hs⟩:=zeq (a+b)
 have c:=fun w=>zdI s (by omega) w
 rw [← hs]
 have e1:(a:Int)+(b:Int)=(s:Int):=by omega
 have C:=zhz c
 clear c hs
 go_enter Tryz.func176,Tryz.ntmps176
 go_wp2_with (first | (go_at_call 116;refine (C.out _).mono ?_;rintro e w' ⟨rfl,rfl⟩))
 go_ret
 exact ⟨rfl,rfl⟩
theorem zga (a b:Nat) (ha:a<18446744073709551616) (hb:b<18446744073709551616) (w:World) :
  Calls Tryz.prog 177 #[.int .u64 a,.int .u64 b] w fun e w'=>e=.returned (.int .u64 (a*b % 2305843009213693951:Nat))∧∃ n,w'=w.drewN n:=by
 obtain ⟨hi,hhi⟩:=zeq (a*b / 18446744073709551616)
 obtain ⟨lo,hlo⟩:=zeq (a*b % 18446744073709551616)
 have cm:=fun w=>zeo a b ha hb w
 rw [← hhi,← hlo] at cm
 have hl:lo<18446744073709551616:=by omega
 have hh:hi<18446744073709551616:=by
  have:a*b≤18446744073709551616*18446744073709551616:=Nat.mul_le_mul (by omega) (by omega)
  have:a*b<18446744073709551616*18446744073709551616:=by
   rcases Nat.eq_zero_or_pos b with g | g
   ·rw [g];omega
   ·exact Nat.lt_of_lt_of_le (Nat.mul_lt_mul_of_pos_right ha g) (Nat.mul_le_mul_left _ (by omega))
  rw [hhi,Nat.div_lt_iff_lt_mul (by omega)];exact this
 have cr:=fun w=>zi1 hi lo 2305843009213693951 hh hl (by omega) (by omega) w
 have e:hi*18446744073709551616+lo=a*b:=by omega
 rw [e] at cr
 obtain ⟨r,hr⟩:=zeq (a*b % 2305843009213693951)
 rw [← hr] at cr ⊢
 have CM:=zhz cm
 have CR:=zhz cr
 clear cm cr e hhi hlo hr
 go_enter Tryz.func177,Tryz.ntmps177
 go_wp2_with (first | (go_at_call 186;refine (CM.out _).mono ?_;rintro e w' ⟨rfl,rfl⟩) | (go_at_call 187;refine (CR.out _).mono ?_;rintro e w' ⟨rfl,n,rfl⟩))
 go_ret
 exact ⟨rfl,n,rfl⟩
structure Quo (a b c q r:Nat):Prop where
 lt:a*b / 18446744073709551616<c
 dq:q=a*b / c
 dr:r=a*b % c
 qb:q<18446744073709551616
 rb:r<c
theorem Quo.of {a b c:Nat} (h:a*b / 18446744073709551616<c):Quo a b c (a*b / c) (a*b % c) :=
 ⟨h,rfl,rfl,by
  rw [Nat.div_lt_iff_lt_mul (by omega)]
  have:a*b<c*18446744073709551616:=by omega
  rw [Nat.mul_comm 18446744073709551616];exact this,Nat.mod_lt _ (by omega)⟩
theorem zbC (a b c q r:Nat) (ha:a<18446744073709551616) (hb:b<18446744073709551616) (hc:c<18446744073709551616) (h:Quo a b c q r) (w:World) :
  Calls Tryz.prog 185 #[.int .u64 a,.int .u64 b,.int .u64 c] w fun e w'=>e=.returned (.tuple #[.int .u64 q,.int .u64 r,.bool true])∧∃ n,w'=w.drewN n:=by
 have h1:=h.lt
 obtain ⟨hi,hhi⟩:=zeq (a*b / 18446744073709551616)
 obtain ⟨lo,hlo⟩:=zeq (a*b % 18446744073709551616)
 have cm:=fun w=>zeo a b ha hb w
 rw [← hhi,← hlo] at cm
 have hl:lo<18446744073709551616:=by omega
 rw [← hhi] at h1
 have cd:=fun w=>zd6 hi lo c hc hl h1 w
 have e:hi*18446744073709551616+lo=a*b:=by omega
 rw [e,← h.dq,← h.dr] at cd
 have hq:=h.qb
 have hr:=h.rb
 have CM:=zhz cm
 have CD:=zhz cd
 clear cm cd e hhi hlo h
 have t1:decide (c≤hi)=false:=by rw [zdn];omega
 go_enter Tryz.func185,Tryz.ntmps185
 go_wp2_with (first | (go_at_call 186;refine (CM.out _).mono ?_;rintro e w' ⟨rfl,rfl⟩) | (go_at_call 189;refine (CD.out _).mono ?_;rintro e w' ⟨rfl,n,rfl⟩))
 go_ret3
 exact ⟨rfl,n,rfl⟩
theorem zjL (a b c q r:Nat) (ha:a<18446744073709551616) (hb:b<18446744073709551616) (hc:c<18446744073709551616) (h:Quo a b c q r) (w:World) :
  Calls Tryz.prog 175 #[.int .u64 a,.int .u64 b,.int .u64 c] w fun e w'=>e=.returned (.tuple #[.int .u64 q,.bool true])∧∃ n,w'=w.drewN n:=by
 have H:=zhz h
 clear h
 go_enter Tryz.func175,Tryz.ntmps175
 go_wp2_with (first | (go_at_call 185;refine (zbC a b c q r ha hb hc H.out _).mono ?_;rintro e w' ⟨rfl,n,rfl⟩))
 go_ret2
 exact ⟨rfl,n,rfl⟩
def upQ (q r:Nat):Nat:=if r=0 then q else q+1
theorem zmP (a b c q r:Nat) (ha:a<18446744073709551616) (hb:b<18446744073709551616) (hc:c<18446744073709551616) (h:Quo a b c q r) (hq:q<18446744073709551615) (w:World) :
  Calls Tryz.prog 262 #[.int .u64 a,.int .u64 b,.int .u64 c] w fun e w'=>e=.returned (.tuple #[.int .u64 (upQ q r:Nat),.bool true])∧∃ n,w'=w.drewN n:=by
 have H:=zhz h
 clear h
 by_cases h0:r=0
 ·subst h0
  have e1:upQ q 0=q:=rfl
  rw [e1]
  clear e1
  go_enter Tryz.func262,Tryz.ntmps262
  go_wp2_with (first | (go_at_call 185;refine (zbC a b c q 0 ha hb hc H.out _).mono ?_;rintro e w' ⟨rfl,n,rfl⟩))
  go_ret2
  exact ⟨rfl,n,rfl⟩
 ·have t0:((r:Int)==0)=false:=by rw [beq_eq_false_iff_ne];omega
  have e1:upQ q r=q+1:=by unfold upQ;rw [if_neg h0]
  rw [e1]
  clear e1
  have t1:((q:Int)==18446744073709551615)=false:=by rw [beq_eq_false_iff_ne];omega
  clear h0
  go_enter Tryz.func262,Tryz.ntmps262
  go_wp2_with (first | (go_at_call 185;refine (zbC a b c q r ha hb hc H.out _).mono ?_;rintro e w' ⟨rfl,n,rfl⟩))
  go_ret2
  refine ⟨?_,n,rfl⟩
  have:((q+1:Nat):Int)=(q:Int)+1:=by omega
  rw [this];rfl
end Go.Proofs.YtannniobeanhlaaGreat
