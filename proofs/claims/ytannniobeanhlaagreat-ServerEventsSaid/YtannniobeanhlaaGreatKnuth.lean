import Derived.Test.YtannniobeanhlaaGreatHz
import Derived.WalkKit
import Derived.Lib.BitFns
set_option linter.unusedSimpArgs false
set_option linter.unusedVariables false
set_option maxRecDepth 100000
set_option maxHeartbeats 9000000
namespace Go.Proofs.YtannniobeanhlaaGreat.Kn
open Go Go.RowKit
structure Inv (U V1 V0 D q r:Nat):Prop where
 eq:q*V1+r=U
 ge:(U*4294967296+D) / (V1*4294967296+V0)≤q
 le:q≤4294967297
theorem dig_lt {U V1 V0 D:Nat} (hU:U<V1*4294967296+V0) (hD:D<4294967296):(U*4294967296+D) / (V1*4294967296+V0)<4294967296:=by
 rw [Nat.div_lt_iff_lt_mul (by omega)]
 have:U*4294967296+4294967296≤(V1*4294967296+V0)*4294967296:=by
  have:(U+1)*4294967296≤(V1*4294967296+V0)*4294967296:=Nat.mul_le_mul_right _ hU
  omega
 rw [Nat.mul_comm 4294967296];omega
theorem start {U V1 V0 D:Nat} (h1:2147483648≤V1) (h0:V0<4294967296) (hU:U<V1*4294967296+V0) (hD:D<4294967296) :
  Inv U V1 V0 D (U / V1) (U % V1):=by
 have e:=Nat.div_add_mod' U V1
 refine ⟨e,?_,?_⟩
 ·have:(U*4294967296+D) / (V1*4294967296+V0)≤(U*4294967296+D) / (V1*4294967296):=Nat.div_le_div_left (by omega) (by omega)
  refine Nat.le_trans this ?_
  rw [Nat.mul_comm V1,← Nat.div_div_eq_div_mul]
  have:(U*4294967296+D) / 4294967296=U:=by omega
  rw [this];exact Nat.le_refl _
 ·have:U / V1<4294967298:=by
   rw [Nat.div_lt_iff_lt_mul (by omega)]
   omega
  omega
theorem step {U V1 V0 D q r:Nat} (I:Inv U V1 V0 D q r) (hU:U<V1*4294967296+V0) (hD:D<4294967296) (_hr:r<4294967296)
  (h:4294967296≤q∨4294967296*r+D<q*V0):1≤q∧Inv U V1 V0 D (q - 1) (r+V1):=by
 have hd:=dig_lt (D:=D) hU hD
 have I1:=I.eq;have I2:=I.ge;have I3:=I.le
 have hq:(U*4294967296+D) / (V1*4294967296+V0)<q:=by
  rcases h with h | h
  ·omega
  ·rw [Nat.div_lt_iff_lt_mul (by omega),Nat.mul_add,← Nat.mul_assoc]
   rw [← I1,Nat.add_mul]
   omega
 have h1:1≤q:=Nat.lt_of_le_of_lt (Nat.zero_le _) hq
 refine ⟨h1,?_,by omega,by omega⟩
 obtain ⟨p,rfl⟩:∃ p,q=p+1:=⟨q - 1,by omega⟩
 simp only [Nat.add_sub_cancel]
 rw [Nat.add_mul,Nat.one_mul] at I1
 omega
theorem stop {U V1 V0 D q r:Nat} (I:Inv U V1 V0 D q r) (hU:U<V1*4294967296+V0) (h0:V0<4294967296)
  (h:(q<4294967296∧q*V0≤4294967296*r+D)∨4294967296≤r):q=(U*4294967296+D) / (V1*4294967296+V0):=by
 have I1:=I.eq;have I2:=I.ge;have I3:=I.le
 have hle:q*V0≤4294967296*r+D:=by
  rcases h with h | h
  ·exact h.2
  ·have hq:q<4294967296:=by
    apply Nat.lt_of_not_le
    intro hq
    have:4294967296*V1≤q*V1:=Nat.mul_le_mul_right _ hq
    omega
   have:q*V0≤4294967296*4294967296:=Nat.mul_le_mul (by omega) (by omega)
   omega
 apply Nat.le_antisymm _ I2
 rw [Nat.le_div_iff_mul_le (by omega),Nat.mul_add,← Nat.mul_assoc,← I1,Nat.add_mul]
 omega
theorem two {N Y:Nat} (hY:0<Y) (A D0:Nat) (hN:N=A*4294967296+D0) :
  N / Y=A / Y*4294967296+(A % Y*4294967296+D0) / Y∧N % Y=(A % Y*4294967296+D0) % Y:=by
 have e:=Nat.div_add_mod' A Y
 have:N=(A % Y*4294967296+D0)+A / Y*4294967296*Y:=by
  rw [hN]
  have h2:A / Y*4294967296*Y=A / Y*Y*4294967296:=by rw [Nat.mul_right_comm]
  rw [h2]
  generalize A / Y*Y=z at *
  generalize A % Y=z2 at *
  omega
 rw [this,Nat.add_mul_div_right _ _ hY,Nat.add_mul_mod_self_right]
 exact ⟨Nat.add_comm _ _,rfl⟩
theorem zlH:∀ (f x:Nat),x<2 ^ f→0<x→2 ^ (Go.Lib.bitLenAux f x)≤2*x∧x<2 ^ (Go.Lib.bitLenAux f x):=by
 intro f
 induction f with
 | zero=>intro x h h0;simp at h;omega
 | succ f ih =>
  intro x h h0
  rw [Go.Lib.bitLenAux,if_neg (by omega)]
  by_cases h1:x / 2=0
  ·have e:Go.Lib.bitLenAux f (x / 2)=0:=by rw [h1];cases f <;> simp [Go.Lib.bitLenAux]
   rw [e];have:x=1:=by omega
   subst this;decide
  ·have:=ih (x / 2) (by rw [Nat.pow_succ] at h;omega) (by omega)
   rw [Nat.pow_add]
   generalize 2 ^ Go.Lib.bitLenAux f (x / 2)=z at *
   omega
structure Prep (hi lo y s Y V1 V0 U L D1 D0 Q P R:Nat):Prop where
 fs:s<64
 fY:y*2 ^ s=Y
 fYb:Y<18446744073709551616
 fV:Y=V1*4294967296+V0
 fV1:2147483648≤V1∧V1<4294967296
 fV0:V0<4294967296
 fU:U<Y
 fN:(hi*18446744073709551616+lo)*2 ^ s=U*18446744073709551616+L
 fL:L=D1*4294967296+D0
 fD1:D1<4294967296
 fD0:D0<4294967296
 fQ:U / V1=Q
 fP:Q*V1=P
 fR:P+R=U
 fRb:R<V1
 fhU:hi*2 ^ s+lo / 2 ^ (64 - s)=U
 fhL:lo*2 ^ s % 18446744073709551616=L
theorem zfj {a b c:Nat} (h:a=b) (g:b<c):a<c:=h ▸ g
theorem zha {u l yy:Nat} (h:u*18446744073709551616+l<yy*18446744073709551616):u<yy:=by omega
theorem zjl (a b:Nat):a*18446744073709551616+b=(a+b / 18446744073709551616)*18446744073709551616+b % 18446744073709551616:=by omega
theorem prep (hi lo y:Nat) (hy:y<18446744073709551616) (hlo:lo<18446744073709551616) (h:hi<y) :
  ∃ s Y V1 V0 U L D1 D0 Q P R:Nat,(s:Int)=64 - (Go.Lib.bitLen y:Int)∧Prep hi lo y s Y V1 V0 U L D1 D0 Q P R:=by
 have hl:=zlH 64 y (by omega) (by omega)
 have hl2:Go.Lib.bitLen y≤64:=Go.Lib.bitLen_le y 64 (Nat.le_refl _) (by omega)
 have hl3:1≤Go.Lib.bitLen y:=by
  apply Nat.lt_of_not_le;intro h0
  have h3:Go.Lib.bitLen y=0:=by omega
  have:Go.Lib.bitLenAux 64 y=0:=h3
  rw [this] at hl;omega
 change 2 ^ (Go.Lib.bitLen y)≤2*y∧y<2 ^ (Go.Lib.bitLen y) at hl
 obtain ⟨s,hs⟩:=zeq (64 - Go.Lib.bitLen y)
 have e64:2 ^ (Go.Lib.bitLen y)*2 ^ s=18446744073709551616:=by
  rw [← Nat.pow_add];have:Go.Lib.bitLen y+s=64:=by omega
  rw [this]
 have hp:0<2 ^ s:=Nat.two_pow_pos s
 have e64':2 ^ (64 - s)*2 ^ s=18446744073709551616:=by
  have:64 - s=Go.Lib.bitLen y:=by omega
  rw [this];exact e64
 have y1:18446744073709551616≤2*(y*2 ^ s):=by
  have:=Nat.mul_le_mul_right (2 ^ s) hl.1
  rw [e64,Nat.mul_assoc] at this;exact this
 have y2:y*2 ^ s<18446744073709551616:=by
  have:=Nat.mul_lt_mul_of_pos_right hl.2 hp
  rw [e64] at this;exact this
 have hN:(hi*18446744073709551616+lo)*2 ^ s=(hi*2 ^ s+lo / 2 ^ (64 - s))*18446744073709551616+lo*2 ^ s % 18446744073709551616:=by
  have a1:lo / 2 ^ (64 - s)=lo*2 ^ s / 18446744073709551616:=by
   rw [← e64',Nat.mul_div_mul_right _ _ hp]
  have a4:(hi*18446744073709551616+lo)*2 ^ s=hi*2 ^ s*18446744073709551616+lo*2 ^ s:=(Nat.add_mul _ _ _).trans (congrArg (·+lo*2 ^ s) (Nat.mul_right_comm _ _ _))
  exact a4.trans ((zjl _ _).trans (congrArg (fun z=>(hi*2 ^ s+z)*18446744073709551616+lo*2 ^ s % 18446744073709551616) a1.symm))
 have hU:hi*2 ^ s+lo / 2 ^ (64 - s)<y*2 ^ s:=by
  have a2:(hi*18446744073709551616+lo)<y*18446744073709551616:=by omega
  have a3:=Nat.mul_lt_mul_of_pos_right a2 hp
  have e9:y*18446744073709551616*2 ^ s=y*2 ^ s*18446744073709551616:=Nat.mul_right_comm _ _ _
  exact zha (zfj hN.symm (Nat.lt_of_lt_of_eq a3 e9))
 refine ⟨s,y*2 ^ s,y*2 ^ s / 4294967296,y*2 ^ s % 4294967296,hi*2 ^ s+lo / 2 ^ (64 - s),lo*2 ^ s % 18446744073709551616,lo*2 ^ s % 18446744073709551616 / 4294967296,lo*2 ^ s % 18446744073709551616 % 4294967296,_,_,(hi*2 ^ s+lo / 2 ^ (64 - s)) % (y*2 ^ s / 4294967296),by omega,by omega,rfl,y2,by omega,by omega,by omega,hU,hN,by omega,by omega,by omega,rfl,rfl,Nat.div_add_mod' _ _,Nat.mod_lt _ (by omega),rfl,rfl⟩
theorem maskN (a:Nat) (ha:a<18446744073709551616):bits .and .u64 (a:Int) 4294967295=((a % 4294967296:Nat):Int):=by
 have h:=bits_and_u64_nat a 4294967295 ha (by omega)
 have e:a &&& 4294967295=a % 4294967296:=Nat.and_two_pow_sub_one_eq_mod a 32
 rw [e] at h
 exact h
theorem wrapM (a:Nat):IntKind.u64.wrap (a:Int)=((a % 18446744073709551616:Nat):Int):=by rw [IntKind.wrap_u64];omega
theorem wrapN (a:Nat) (ha:a<18446744073709551616):IntKind.u64.wrap (a:Int)=(a:Int):=by rw [IntKind.wrap_u64];omega
theorem pow_cast (a s:Nat):(a:Int)*2 ^ s=((a*2 ^ s:Nat):Int):=by rw [Int.natCast_mul,Int.natCast_pow];rfl
theorem div_cast (a s:Nat):(a:Int) / 2 ^ s=((a / 2 ^ s:Nat):Int):=by rw [Int.natCast_ediv,Int.natCast_pow];rfl
theorem or_add (a b s t:Nat) (hb:b / 2 ^ t<2 ^ s):a*2 ^ s ||| b / 2 ^ t=a*2 ^ s+b / 2 ^ t:=by
 rw [Nat.mul_comm,← Nat.two_pow_add_eq_or_of_lt hb]
theorem back {U D q U2:Nat} (h:q+U2=U*4294967296+D) (h2:U2<18446744073709551616) :
  IntKind.u64.wrap (IntKind.u64.wrap (IntKind.u64.wrap ((U:Int)*4294967296)+(D:Int)) - IntKind.u64.wrap ((q:Nat):Int))=(U2:Int):=by
 simp only [IntKind.wrap_u64];omega
theorem final {hi lo y s Y V1 V0 U L D1 D0 Q P R Q1 Q0 U2 R0:Nat} (F:Prep hi lo y s Y V1 V0 U L D1 D0 Q P R) (hY:0<Y)
  (h1:Q1=(U*4294967296+D1) / Y) (h2:U2=(U*4294967296+D1) % Y) (h3:Q0=(U2*4294967296+D0) / Y) (h4:R0=(U2*4294967296+D0) % Y) :
  (hi*18446744073709551616+lo) / y=Q1*4294967296+Q0∧(hi*18446744073709551616+lo) % y=R0 / 2 ^ s:=by
 have hN:(hi*18446744073709551616+lo)*2 ^ s=(U*4294967296+D1)*4294967296+D0:=by rw [F.fN,F.fL];omega
 obtain ⟨a,b⟩:=two hY (U*4294967296+D1) D0 hN
 rw [← h1,← h2,← h3] at a
 rw [← h2,← h4] at b
 have hp:0<2 ^ s:=Nat.two_pow_pos s
 rw [← F.fY,Nat.mul_div_mul_right _ _ hp] at a
 rw [← F.fY,Nat.mul_mod_mul_right] at b
 exact ⟨a,by rw [← b,Nat.mul_div_cancel _ hp]⟩
theorem half_lt {a b:Nat} (ha:a<4294967296) (hb:b<4294967296):a*b<18446744073709551616:=by
 have:=Nat.mul_le_mul (Nat.le_of_lt_succ ha) (Nat.le_of_lt_succ hb);omega
end Go.Proofs.YtannniobeanhlaaGreat.Kn
