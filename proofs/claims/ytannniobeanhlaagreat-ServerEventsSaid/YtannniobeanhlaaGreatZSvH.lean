import Derived.Test.YtannniobeanhlaaGreatZLm
import Derived.Test.YtannniobeanhlaaGreatZDcB
set_option linter.unusedSimpArgs false
set_option linter.unusedVariables false
set_option maxRecDepth 100000
set_option maxHeartbeats 9000000
namespace Go.Proofs.YtannniobeanhlaaGreat
open Go.ChangeShapes Go.WideShapes Go.ChangeAt Go.RowKit
abbrev pcC (K:CnN):Value:=.pointer (some ⟨K.c,0,none⟩)
structure KdAt (w:World) (base:Nat) (Ns:List CnN) (Ss:List CnS):Prop where
 ln:Ns.length=Ss.length
 at_:∀ (i:Nat) N s,Ns[i]?=some N→Ss[i]?=some s→CnAt w N s
 lo:∀ (i:Nat) N,Ns[i]?=some N→∀ b,N.F b→base≤b
 ap:∀ (i j:Nat) N M,i≠j→Ns[i]?=some N→Ns[j]?=some M→∀ b,N.F b→¬ M.F b
section
variable {w w' W:World} {base:Nat} {Ns:List CnN} {Ss:List CnS}
theorem KdAt.fr {F:Nat→Prop} (h:KdAt w base Ns Ss) (hf:Fr F w w') (hF:∀ (i:Nat) N,Ns[i]?=some N→∀ b,N.F b→¬ F b):KdAt w' base Ns Ss :=
 ⟨h.ln,fun i N s hN hs=>(h.at_ i N s hN hs).fr hf (hF i N hN),h.lo,h.ap⟩
theorem KdAt.keep (h:KdAt w base Ns Ss) (hb:Below w.heap.size w w'):KdAt w' base Ns Ss:=h.fr (F:=fun _=>False) (Fr.of_below hb) (fun _ _ _ _ _=>id)
theorem KdAt.nil (w:World) (base:Nat):KdAt w base [] []:=⟨rfl,fun i N s h=>by simp at h,fun i N h=>by simp at h,fun i j N M _ h=>by simp at h⟩
theorem KdAt.lt (h:KdAt w base Ns Ss) {i:Nat} {N:CnN} (hN:Ns[i]?=some N):∀ b,N.F b→b<w.heap.size:=by
 have hi:i<Ns.length:=by
  rcases Nat.lt_or_ge i Ns.length with q | q
  ·exact q
  ·rw [List.getElem?_eq_none q] at hN;cases hN
 exact (h.at_ i N (Ss[i]'(by rw [← h.ln];exact hi)) hN (zge _)).lt
theorem KdAt.snoc (h:KdAt w base Ns Ss) {N:CnN} {s:CnS} (hN:CnAt w N s) (hlo:∀ b,N.F b→base≤b) (hap:∀ (i:Nat) M,Ns[i]?=some M→∀ b,M.F b→¬ N.F b):KdAt w base (Ns++[N]) (Ss++[s]):=by
 refine ⟨by rw [List.length_append,List.length_append,h.ln];rfl,fun i M t hM ht=>?_,fun i M hM=>?_,fun i j M M' hij hM hM'=>?_⟩
 ·rcases zay hM with ⟨q1,q2⟩ | ⟨q1,q2⟩
  ·rcases zay ht with ⟨q3,q4⟩ | ⟨q3,q4⟩
   ·exact h.at_ i M t q2 q4
   ·have:=h.ln;omega
  ·rcases zay ht with ⟨q3,q4⟩ | ⟨q3,q4⟩
   ·have:=h.ln;omega
   ·rw [q2,q4];exact hN
 ·rcases zay hM with ⟨q1,q2⟩ | ⟨q1,q2⟩
  ·exact h.lo i M q2
  ·rw [q2];exact hlo
 ·rcases zay hM with ⟨q1,q2⟩ | ⟨q1,q2⟩
  ·rcases zay hM' with ⟨q3,q4⟩ | ⟨q3,q4⟩
   ·exact h.ap i j M M' hij q2 q4
   ·rw [q4];exact hap i M q2
  ·rcases zay hM' with ⟨q3,q4⟩ | ⟨q3,q4⟩
   ·rw [q2];exact fun b h1 h2=>hap j M' q4 b h2 h1
   ·omega
end
theorem JdAt.mono {w:World} {base base':Nat} {Ns:List LmN} {Ss:List LmS} (h:JdAt w base Ns Ss) (hb:base'≤base):JdAt w base' Ns Ss:=⟨h.ln,h.at_,fun i N hN b hb'=>Nat.le_trans hb (h.lo i N hN b hb'),h.ap⟩
theorem KdAt.mono {w:World} {base base':Nat} {Ns:List CnN} {Ss:List CnS} (h:KdAt w base Ns Ss) (hb:base'≤base):KdAt w base' Ns Ss:=⟨h.ln,h.at_,fun i N hN b hb'=>Nat.le_trans hb (h.lo i N hN b hb'),h.ap⟩
theorem zlL (a b:Int):a≤mx a b:=by unfold mx;split <;> omega
theorem ziA:∀ (l:List RuZ) (m:Int),6≤m→6≤l.foldl (fun m r=>stepM m r.Tr 3) m
 | [],m,h=>h
 | r :: l,m,h=>by
  rw [List.foldl_cons]
  refine ziA l _ ?_
  have h1:=zlL m 22
  have h2:=zlL (mx m 22) 46
  have h3:=zlL (mx (mx m 22) 46) (7+81*r.Tr)
  show 6≤mx (mx (mx m 22) 46) (7+81*r.Tr)
  omega
def cZ:CnS:=⟨[],0,[],false⟩
def svZ:SvC:=⟨0,0,false,false,0,0,(List.replicate 8 [Value.int .i64 0,.int .i64 0,.int .i64 0,.int .i64 0,.int .i64 0,.int .i64 0,.int .i64 0,.int .i64 0,.bool false]).flatten,List.replicate 8 (.pointer none),List.replicate 16 (.pointer none),false,.slice none 0 0⟩
theorem zfD (w:World):(zeroValue 59).run Tryz.prog w=.ok (.agg svZ.l.toArray) w:=by kernel_rfl
theorem zk2 {Ks:List CnN} {J:List Value} {i:Nat} (h:Ks.length=i):(Ks.map pcC++J.drop i)[i]?=J[i]?:=by
 rw [List.getElem?_append_right (by rw [List.length_map,h];omega),List.length_map,h,List.getElem?_drop]
 simp
theorem zk3 {Ks:List CnN} {J:List Value} {i:Nat} (h:Ks.length=i) (hi:i<J.length) (N:CnN):(Ks.map pcC++J.drop i).set i (pcC N)=(Ks++[N]).map pcC++J.drop (i+1):=by
 have e:J.drop i=J[i] :: J.drop (i+1):=(List.drop_eq_getElem_cons hi)
 rw [e,List.set_append_right _ _ (by rw [List.length_map,h];omega),List.length_map,h,Nat.sub_self,zs2,List.map_append]
 simp
structure SvAt (w:World) (base s:Nat) (c:SvC) (Ns:List LmN) (Ss:List LmS) (Ks:List CnN) (σs:List CnS):Prop where
 sv:Sv w s c
 J:JdAt w base Ns Ss
 K:KdAt w base Ks σs
 cJ:c.J=Ns.map pcL++svZ.J.drop Ns.length
 cK:c.K=Ks.map pcC++svZ.K.drop Ks.length
 lo:base≤s
 nJ:∀ (i:Nat) N,Ns[i]?=some N→¬ N.all s
 nK:∀ (i:Nat) K,Ks[i]?=some K→¬ K.F s
 ap:∀ (i j:Nat) N K,Ns[i]?=some N→Ks[j]?=some K→∀ b,N.all b→¬ K.F b
def svN (Ou:Int) (rs:List RuZ):SvC:={ svZ with out:=Ou,many:=(rs.length:Int),R:=ruL rs++svZ.R.drop (rs.length*9) }
section
variable {w w' W:World} {rs:List RuZ} {zf:Nat→List Int}
theorem zeR (Bu Co Ou:Int) (A:Option Addr) (n cc:Nat) (seeds:Value) (w:World) (hr:RdRu w A n cc rs) (hz:rightZ Bu Co Ou rs)
  (hd:∀ (i:Nat) r wx,rs[i]?=some r→Below w.heap.size w wx→Calls Tryz.prog 66 #[seeds,.int .i64 (i:Int),.int .i64 (3*(r.Ro+1))] wx fun e w'=>∃ A n c,e=.returned (.slice A n c)∧RdI w' .u64 A n c (zf i)∧Below wx.heap.size wx w') :
  Calls Tryz.prog 15 #[.agg #[.int .i64 Bu,.int .i64 Co,.int .i64 Ou,.slice A n cc],seeds] w fun e w'=>∃ (s:Nat) (Ns:List LmN) (Ks:List CnN),e=.returned (.tuple #[.pointer (some ⟨s,0,none⟩),.int .i64 0]) ∧
   SvAt w' w.heap.size s { svN Ou rs with J:=Ns.map pcL++svZ.J.drop rs.length,K:=Ks.map pcC++svZ.K.drop Co.toNat } Ns (rsZ rs) Ks (List.replicate Co.toNat cZ)∧(∀ (k:Nat) r N,rs[k]?=some r→Ns[k]?=some N→LmR r (zf k) N)∧(∀ (k:Nat) K,Ks[k]?=some K→K.size=Ou.toNat∧K.rules=(rs.length:Int))∧Below w.heap.size w w':=by
 obtain ⟨h1,h2,h3,h4,h5,h6,h7⟩:=hz
 have hmo:6≤mostZ rs:=ziA rs 6 (Int.le_refl _)
 obtain ⟨Cn,rfl⟩:=Int.eq_ofNat_of_zero_le (show 0≤Co by omega)
 obtain ⟨On,rfl⟩:=Int.eq_ofNat_of_zero_le (show 0≤Ou by omega)
 have HZ:=zhz (show rightZ Bu Cn On rs from ⟨h1,h2,h3,h4,h5,h6,h7⟩)
 simp only [Int.toNat_natCast]
 obtain ⟨w1,hw1,k1,b1,s1⟩:=zad w #[.int .i64 Bu,.int .i64 (Cn:Int),.int .i64 (On:Int),.slice A n cc] 29
 have CR:=zhz (zi3 Bu (Cn:Int) (On:Int) A n cc rs HZ.out w1 (hr.below b1))
 have R1:=zhz (hr.below b1)
 have HR:=zhz hr
 have K1:=zhz (And.intro k1 b1)
 obtain ⟨cb,hcb⟩:=zeq (w.heap.size)
 rw [← hcb] at k1
 have HCB:=zhz hcb
 have kc:=k1.rd
 have hln:=hr.len
 have h0:=zfD
 have e1:svZ.l.toArray.setIfInBounds 4 (.int .i64 (On:Int))=({ svZ with out:=(On:Int) }:SvC).l.toArray:=rfl
 have e2:({ svZ with out:=(On:Int) }:SvC).l.toArray.setIfInBounds 5 (.int .i64 (n:Int))=({ svZ with out:=(On:Int),many:=(n:Int) }:SvC).l.toArray:=rfl
 have z0:svZ.l.toArray.size=104:=by kernel_rfl
 have z1:(({ svZ with out:=(On:Int) }:SvC).l.toArray).size=104:=rfl
 have z2:(({ svZ with out:=(On:Int),many:=(n:Int) }:SvC).l.toArray).size=104:=rfl
 obtain ⟨Z,hZ⟩:=zeq (svZ.l.toArray)
 obtain ⟨Y,hY⟩:∃ z,z=({ svZ with out:=(On:Int) }:SvC).l.toArray:=⟨_,rfl⟩
 obtain ⟨X,hX⟩:∃ z,z=({ svZ with out:=(On:Int),many:=(n:Int) }:SvC).l.toArray:=⟨_,rfl⟩
 simp only [← hZ] at h0
 rw [← hZ] at e1 z0
 rw [← hY] at e1 e2 z1
 rw [← hX] at e2 z2
 have HX:=zhz hX
 have HD:=zhz hd
 have HNN:=zhz (And.intro hln (And.intro hmo (And.intro h5 (And.intro h6 (And.intro h1 (And.intro h2 h4))))))
 clear k1 b1 s1 hr hcb hZ hY hX hd hln h1 h2 h3 h4 h5 h6 h7 hmo
 go_enter Tryz.func15,Tryz.ntmps15
 go_upto_region 1 with (fail)
 rw [← HCB.out]
 clear hw1
 go_upto_region 3 with (go_at_call 16;((with_reducible refine CR.out.mono ?_);rintro v w2 ⟨rfl,b2⟩;have B2:=zhz b2;have K2:=zhz (K1.out.1.keep b2);clear b2))
 clear kc CR
 rw [← HCB.out] at K2
 have kc:=K2.out.rd
 go_upto_region 4 with (fail)
 obtain ⟨sb,hsb⟩:=zeq (w2.heap.size)
 have W3:Blk (w2.alloc (.cells X 59)) w2.heap.size 59 X:=heap_alloc_new w2 _
 have B3:Below w2.heap.size w2 (w2.alloc (.cells X 59)):=(Below.refl _ _).alloc (Nat.le_refl _) _
 have HSB:=zhz (show w.heap.size<sb∧cb<sb from by rw [hsb];have h1:=B2.out.size;have h2:=K1.out.2.size;have h3:=lt_of_block K2.out;have h4:=lt_of_block K1.out.1;omega)
 rw [← hsb] at W3 ⊢
 have HSE:=zhz hsb
 clear hsb h0 e1 e2 z0 z1 z2 kc
 generalize w2.alloc (.cells X 59)=w3 at W3 B3 ⊢
 have S3:=zhz (show Sv w3 sb { svZ with out:=(On:Int),many:=(n:Int) } from ⟨by rw [← HX.out];exact W3,rfl,rfl,rfl⟩)
 have N3:=zhz (show Below w2.heap.size w2 w3.drew from zaa B3 1)
 have C3:=zhz (K2.out.keep N3.out)
 have R3:=zhz ((R1.out.below B2.out).below N3.out)
 have BW:=zhz (show Below w.heap.size w w3.drew from K1.out.2.trans ((B2.out.mono K1.out.2.size).trans (N3.out.mono (by have:=B2.out.size;have:=K1.out.2.size;omega))))
 clear W3
 have S3':=zhz (S3.out.keep (show Below w3.heap.size w3 w3.drew from zaa (Below.refl _ _) 1))
 clear B3
 have st:=C3.out.rd
 refine wp_region_held_drew (S:=fun wx=>∀ j,wx.cell? ⟨cb,j,none⟩=(#[.int .i64 Bu,.int .i64 (Cn:Int),.int .i64 (On:Int),.slice A n cc]:Array Value)[j]?) (by kernel_rfl) st (fun hHeld=>?_)
 clear st
 obtain ⟨w4,hcp,s4,f4⟩:=S3'.out.copy R3.out (by have:=HNN.out;omega) (by have:=HNN.out;omega) 3
 have S4:=zhz (show Sv w4 sb (svN On rs) from by have:=s4;rw [show (n:Int)=(rs.length:Int) by rw [HNN.out.1]] at this;exact this)
 have C4:=zhz (C3.out.fr f4 (fun e=>by have:=HSB.out;omega))
 have F4:=zhz f4
 clear s4 f4
 refine wR 0 ?_
 refine wR 1 ?_
 refine wR 2 ?_
 refine wR 3 ?_
 refine wR 4 ?_
 refine wR 5 ?_
 refine wC 6 fun K hK=>?_
 go_simp
 skip
 refine hK.out _ _ C4.out.rd fun hHeld=>?_
 clear hK K
 try simp only [Act.put,zs1,zs2,zs3]
 refine wpAnyH_done (by kernel_rfl) ?_ _
 clear hHeld hcp
 have kc:=C4.out.rd
 have H4:=zhz (show Below w.heap.size w w4 from BW.out.trans (F4.out.below BW.out.size (fun k e=>by have:=HSB.out;omega)))
 have HS4:=zhz (show sb<w4.heap.size from S4.out.lt)
 go_wp2
 go_loopg [27] Cn (fun kk si wr=>∃ (i:Nat) (Ks:List CnN),i≤Cn∧Hid (kk=Cn - i)∧si=.int .i64 (i:Int)∧Hid (Ks.length=i)∧Hid (Sv wr sb { svN On rs with K:=Ks.map pcC++svZ.K.drop i })∧Hid (KdAt wr w4.heap.size Ks (List.replicate i cZ))∧Hid (∀ (k:Nat) K,Ks[k]?=some K→K.size=On∧K.rules=(rs.length:Int))∧Hid (Fr (fun k=>k=sb) w4 wr))
 case atStart=>exact ⟨0,[],by omega,zhz rfl,rfl,zhz rfl,S4,zhz (KdAt.nil _ _),zhz (fun k K h=>by simp at h),zhz (Fr.refl _ _)⟩
 case round =>
  obtain ⟨i,Ks,hi,HKK,rfl,HNL,HS,HK,HPs,HF⟩:=hrel
  by_cases hin:i<Cn
  ·have hi16:i<16:=by have:=HNN.out;omega
   have ST:=zhz (fun wx K' (hx:Sv wx sb { svN On rs with K:=K' })=>show wx.cell? ⟨sb,4,none⟩=some (.int .i64 (On:Int))∧wx.cell? ⟨sb,5,none⟩=some (.int .i64 (rs.length:Int)) from ⟨hx.c4,hx.c5⟩)
   have t1:(i:Int)<(Cn:Int):=by omega
   have t2:¬ (i:Int)<0:=by omega
   have t3:(i:Int)<16:=by omega
   have HI16:=zhz hi16
   have HIN:=zhz hin
   clear hi16 hin
   go_upto_region 8 with (fail)
   have N0:=zhz (show Below wr.heap.size wr wr.drew from zaa (Below.refl _ _) 1)
   have CC:=zhz (zf1 (rs.length:Int) On (by have:=HNN.out;omega) (by have:=HNN.out;omega) wr.drew)
   have st:=ST.out _ _ (HS.out.keep N0.out)
   refine wp_region_held_drew (S:=fun wx=>wx.cell? ⟨sb,4,none⟩=some (.int .i64 (On:Int))∧wx.cell? ⟨sb,5,none⟩=some (.int .i64 (rs.length:Int))) (by kernel_rfl) st (fun hHeld=>?_)
   clear st
   refine wR 0 ?_
   refine wR 1 ?_
   refine wR 2 ?_
   refine wR 3 ?_
   refine wR 4 ?_
   refine wR 5 ?_
   refine wR 6 ?_
   refine wR 7 ?_
   refine wR 8 ?_
   refine wR 9 ?_
   refine wR 11 ?_
   refine wR 12 ?_
   refine wC 10 fun K hK=>?_
   go_simp
   ((with_reducible refine CC.out.mono ?_);rintro v w2 ⟨Kn,rfl,p1,p2,a2,l2,b2⟩;have N2:=zhz (G.below_on N0.out b2);have A2:=zhz a2;have P2:=zhz (And.intro p1 p2);have L2:=zhz (show ∀ b,Kn.F b→wr.heap.size≤b from fun b hb=>Nat.le_trans N0.out.size (l2 b hb));have S2:=HS.out.keep N2.out;have kw:=S2.wr;have kJ:=S2.cK HI16.out;obtain ⟨v0,hv0⟩:∃ v0,svZ.K[i]?=some v0:=⟨_,zge (show i<svZ.K.length from HI16.out)⟩;replace kJ:=kJ.trans ((zk2 HNL.out).trans hv0);have S2:=zhz S2;clear a2 p1 p2 l2 b2 hv0)
   refine hK.out _ _ (ST.out _ _ (HS.out.keep N2.out)) fun hHeld=>?_
   clear hK K
   try simp only [Act.put,zs1,zs2,zs3]
   refine wR 13 ?_
   refine wC 14 fun K hK=>?_
   go_simp
   (obtain ⟨w5,e5,h5,f5⟩:=S2.out.setK HI16.out (pcC Kn);(try rw [e5]);have S4x:=zhz h5;have F5:=zhz f5;clear e5 h5 f5 kw kJ)
   refine hK.out _ _ (ST.out _ _ S4x.out) fun hHeld=>?_
   clear hK K
   try simp only [Act.put,zs1,zs2,zs3]
   refine wpAnyH_done (by kernel_rfl) ?_ _
   clear hHeld
   have FW:=zhz (show Fr (fun k=>k=sb) w4 w5 from HF.out.trans (((Fr.of_below N2.out).mono (fun k (hk:False)=>hk.elim)).trans F5.out))
   have J5:=zhz (show KdAt w5 w4.heap.size (Ks++[Kn]) (List.replicate (i+1) cZ) from by
    rw [show List.replicate (i+1) cZ=List.replicate i cZ++[cZ] from List.replicate_succ']
    refine ((HK.out.keep N2.out).fr F5.out (fun k M hM b hb e=>by have:=HK.out.lo k M hM b hb;have:=HS4.out;omega)).snoc (A2.out.fr F5.out (fun b hb e=>by have:=L2.out b hb;have:=HF.out.size;have:=HS4.out;omega)) (fun b hb=>by have:=L2.out b hb;have:=HF.out.size;omega) (fun k M hM b hb h2=>by have:=HK.out.lt hM b hb;have:=L2.out b h2;omega))
   have P5:=zhz (show ∀ (k:Nat) K',(Ks++[Kn])[k]?=some K'→K'.size=On∧K'.rules=(rs.length:Int) from fun k K' hN'=>by
    rcases zay hN' with ⟨q1,q2⟩ | ⟨q1,q2⟩
    ·exact HPs.out k K' q2
    ·rw [q2];exact P2.out)
   have S5:=zhz (show Sv w5 sb { svN On rs with K:=(Ks++[Kn]).map pcC++svZ.K.drop (i+1) } from by
    have:=S4x.out
    rw [show ({ svN On rs with K:=Ks.map pcC++svZ.K.drop i }:SvC).K=Ks.map pcC++svZ.K.drop i from rfl,zk3 (J:=svZ.K) HNL.out (show i<svZ.K.length from HI16.out) Kn] at this
    exact this)
   have hi8:(i:Int)<16:=by have:=HI16.out;omega
   go_wp2
   go_roundg (Cn - (i+1))
   case measure=>have:=HKK.out;have:=HIN.out;omega
   case rel=>exact ⟨i+1,Ks++[Kn],HIN.out,zhz rfl,by go_num,zhz (by rw [List.length_append,HNL.out];rfl),S5,J5,P5,FW⟩
  ·have hie:i=Cn:=by omega
   subst hie
   have CJ:=zhz (zcR (rs:=rs) (zf:=zf) seeds wr HS.out rfl (by have:=HNN.out;omega) HNN.out.2.2.2.2.2.2 (fun k r hk j hj=>by
    have hkl:k<rs.length:=by
     rcases Nat.lt_or_ge k rs.length with q | q
     ·exact q
     ·rw [List.getElem?_eq_none q] at hk;cases hk
    show (ruL rs++svZ.R.drop (rs.length*9))[k*9+j]?=r.c[j]?
    rw [List.getElem?_append_left (by rw [zfz];omega)]
    exact zfy rs hk hj) (fun k r wx hk hf=>HD.out k r wx hk (by
     have h1:Fr (fun k=>k=sb) w4 wx:=HF.out.trans hf
     exact H4.out.trans (h1.below H4.out.size (fun k e=>by have:=HSB.out;omega)))))
   clear hin
   go_wp2_with (go_at_call 37;((with_reducible refine CJ.out.mono ?_);rintro v w6 ⟨rfl,Ns,s6,j6,p6,f6⟩;have S6:=zhz s6;have J6:=zhz j6;have P6:=zhz p6;have F6:=zhz f6;clear s6 j6 p6 f6))
   go_ret2
   have hsz4:w4.heap.size≤wr.heap.size:=HF.out.size
   have hw4:w.heap.size≤w4.heap.size:=H4.out.size
   have hln:Ns.length=rs.length:=by rw [J6.out.ln];simp [rsZ]
   refine ⟨sb,Ns,Ks,rfl,⟨?_,J6.out.mono (by omega),(HK.out.fr F6.out (fun k M hM b hb e=>by have:=HK.out.lo k M hM b hb;have:=HS4.out;omega)).mono hw4,by rw [hln],by rw [HNL.out],by have:=HSB.out;omega,fun k N hN hs=>by have:=J6.out.lo k N hN sb hs;have:=HS4.out;omega,fun k K hK hs=>by have:=HK.out.lo k K hK sb hs;have:=HS4.out;omega,fun k l N K hN hK b hb hb2=>by have:=J6.out.lo k N hN b hb;have:=HK.out.lt hK b hb2;omega⟩,P6.out,HPs.out,?_⟩
   ·exact S6.out
   ·have h1:Fr (fun k=>k=sb) w4 w6:=HF.out.trans F6.out
    exact H4.out.trans (h1.below H4.out.size (fun k e=>by have:=HSB.out;omega))
end
def planR (p:RuZ):RuZ:=⟨lqL p.L,((lqS p.W*lqN p.Sl:Nat):Int),lqB p.L p.B,(lqN p.Sl:Nat),(lqC p.Ce:Nat),(lqR p.Ro:Nat),(lqW p.Wi:Nat),(lqT p.Tr:Nat),lqM p.sm p.Sl⟩
def planZ:RuZ:=⟨0,0,0,0,0,0,0,0,false⟩
def confR (ps:List RuZ):List RuZ:=if ps=[] then [planR planZ] else (ps.take 3).map planR
abbrev ruE (r:RuZ):List Value:=r.c.toList
abbrev OwP (w:World) (base:Nat) (v:Value) (l:List RuZ):Prop:=OwR w base 52 9 ruE v l
theorem infoRuS:(Tryz.prog.info? 52).map (fun i=>(i.zero,i.size,i.bytes))=some (some (.agg #[.int .i64 0,.int .i64 0,.int .i64 0,.int .i64 0,.int .i64 0,.int .i64 0,.int .i64 0,.int .i64 0,.bool false]),9,72):=by kernel_rfl
theorem box9P (X:World) (p:RuZ):∃ w1 w2,X.alloc (.cells #[.int .i64 0,.int .i64 0,.int .i64 0,.int .i64 0,.int .i64 0,.int .i64 0,.int .i64 0,.int .i64 0,.bool false] 113)=w1 ∧
  (∀ j,w1.cell? ⟨X.heap.size,j,none⟩=(#[.int .i64 0,.int .i64 0,.int .i64 0,.int .i64 0,.int .i64 0,.int .i64 0,.int .i64 0,.int .i64 0,.bool false]:Array Value)[j]?)∧(∀ j,w1.frozen? ⟨X.heap.size,j,none⟩=false) ∧
  ((((((((w1.setCell ⟨X.heap.size,0,none⟩ (.int .i64 p.L)).setCell ⟨X.heap.size,1,none⟩ (.int .i64 p.W)).setCell ⟨X.heap.size,2,none⟩ (.int .i64 p.B)).setCell ⟨X.heap.size,3,none⟩ (.int .i64 p.Sl)).setCell ⟨X.heap.size,4,none⟩ (.int .i64 p.Ce)).setCell ⟨X.heap.size,5,none⟩ (.int .i64 p.Ro)).setCell ⟨X.heap.size,6,none⟩ (.int .i64 p.Wi)).setCell ⟨X.heap.size,7,none⟩ (.int .i64 p.Tr)).setCell ⟨X.heap.size,8,none⟩ (.bool p.sm)=w2 ∧
  Below X.heap.size X w2∧Blk w2 X.heap.size 113 (planC p.L p.W p.B p.Sl p.Ce p.Ro p.Wi p.Tr p.sm):=by
 obtain ⟨w1,hw1,k1,b1,s1⟩:=zad X #[.int .i64 0,.int .i64 0,.int .i64 0,.int .i64 0,.int .i64 0,.int .i64 0,.int .i64 0,.int .i64 0,.bool false] 113
 exact ⟨w1,_,hw1,k1.rd,k1.wr,zbj k1 _ _ _ _ _ _ _ _ _,b1.trans ((Fr.setObj (F:=fun k=>k=X.heap.size) (Fr.refl _ _) rfl _).below b1.size (fun k hk=>by omega)),zab (lt_of_block k1) _⟩
theorem zmG {w:World} {base n c:Nat} {A:Option Addr} {l:List RuZ} (h:OwP w base (.slice A n c) l) (hok:∀ r ∈ l,r.ok):RdRu w A n c l:=by
 obtain ⟨A',c',hv,h1,h2,h3⟩:=h.slice
 injection hv with e1 e2 e3
 subst e1 e2 e3
 refine ⟨h1,h2,rfl,fun h0=>?_,hok⟩
 obtain ⟨g,rfl,_,hg⟩:=h3 h0
 refine ⟨g,0,rfl,hg,fun i hi j hj=>?_⟩
 have:=OwR.cell (enc:=ruE) (fun _=>rfl) h (zge hi) hj
 rw [show 0+i*9+j=i*9+j by omega,this]
 simp
theorem zgq (p:RuZ):(planR p).ok:=by
 have h1:1≤lqL p.L∧lqL p.L≤32:=by unfold lqL;omega
 have h2:1≤lqN p.Sl∧lqN p.Sl≤8:=by unfold lqN;omega
 have h3:1≤lqS p.W∧lqS p.W≤32:=by unfold lqS;omega
 have h4:lqS p.W*lqN p.Sl≤32*8:=Nat.mul_le_mul h3.2 h2.2
 have h5:=zc9 p.L p.B
 have h6:1≤lqC p.Ce∧lqC p.Ce≤8:=by unfold lqC;omega
 have h7:1≤lqR p.Ro∧lqR p.Ro≤4:=by unfold lqR;omega
 have h8:1≤lqW p.Wi∧lqW p.Wi≤16:=by unfold lqW;omega
 have h9:1≤lqT p.Tr∧lqT p.Tr≤8:=by unfold lqT;omega
 refine ⟨?_,?_,?_,?_,?_,?_,?_,?_⟩ <;> (unfold i64In planR;dsimp only;omega)
theorem set4v {w:World} {b:Nat} {t:TypeId} {c0 c1 c2 c3:Value} (h:Blk w b t #[c0,c1,c2,c3]) (v:Value) :
  ∃ w',w.setCell ⟨b,3,none⟩ v=w'∧Blk w' b t #[c0,c1,c2,v]∧Fr (fun k=>k=b) w w':=by
 have hb:=lt_of_block h
 refine ⟨_,rfl,?_,?_⟩
 ·rw [zac h]
  exact zab hb _
 ·rw [zac h]
  exact Fr.setObj (F:=fun k=>k=b) (Fr.refl _ _) rfl _
theorem ziM {w:World} {base g c:Nat} {l:List RuZ} {r:RuZ} (h:w.ownsRow base 52 9 (.slice (some ⟨g,0,none⟩) (l.length+1) c) (l.length+1) (rws ruE l++[.int .i64 r.L,.int .i64 r.W,.int .i64 r.B,.int .i64 r.Sl,.int .i64 r.Ce,.int .i64 r.Ro,.int .i64 r.Wi,.int .i64 r.Tr,.bool r.sm])):OwP w base (.slice (some ⟨g,0,none⟩) (l.length+1) c) (l++[r]):=by
 unfold OwP OwR
 rw [zfB,List.length_append,List.length_singleton]
 exact h
theorem box4K (X:World) (a b c d:Value):∃ w1 w2,X.alloc (.cells #[.int .i64 0,.int .i64 0,.int .i64 0,.slice none 0 0] 29)=w1 ∧
  (∀ j,w1.cell? ⟨X.heap.size,j,none⟩=(#[.int .i64 0,.int .i64 0,.int .i64 0,.slice none 0 0]:Array Value)[j]?)∧(∀ j,w1.frozen? ⟨X.heap.size,j,none⟩=false) ∧
  (((w1.setCell ⟨X.heap.size,0,none⟩ a).setCell ⟨X.heap.size,1,none⟩ b).setCell ⟨X.heap.size,2,none⟩ c).setCell ⟨X.heap.size,3,none⟩ d=w2 ∧
  Below X.heap.size X w2∧Blk w2 X.heap.size 29 #[a,b,c,d]:=by
 obtain ⟨w1,hw1,k1,b1,s1⟩:=zad X #[.int .i64 0,.int .i64 0,.int .i64 0,.slice none 0 0] 29
 refine ⟨w1,_,hw1,k1.rd,k1.wr,rfl,?_,?_⟩
 ·rw [zaj k1]
  exact b1.trans ((Fr.setObj (F:=fun k=>k=X.heap.size) (Fr.refl _ _) rfl _).below b1.size (fun k hk=>by omega))
 ·rw [zaj k1]
  exact zab (lt_of_block k1) _
section
variable {w:World} {ps:List RuZ}
theorem zhw (A:Option Addr) (n cc:Nat) (out:Int) (w:World) (hr:RdRu w A n cc ps) :
  Calls Tryz.prog 14 #[.slice A n cc,.int .i64 out] w fun e w'=>∃ A' m c',e=.returned (.agg #[.int .i64 4294967296,.int .i64 3,.int .i64 (660+out % 256),.slice A' m c'])∧RdRu w' A' m c' (confR ps)∧Below w.heap.size w w':=by
 have HR:=zhz hr
 have HLN:=zhz hr.len
 have hcap:=hr.cap
 have hmx:=hr.max
 unfold maxLen at hmx
 obtain ⟨w1,hw1,k1,b1,s1⟩:=zad w #[.int .i64 0,.int .i64 0,.int .i64 0,.slice none 0 0] 29
 obtain ⟨oo,hoo⟩:=zeq (660+out % 256)
 have e255:bits .and .i64 out 255=out % 256:=zee out
 have eoo:IntKind.i64.wrap (660+out % 256)=oo:=by rw [IntKind.wrap_i64,hoo];omega
 rw [← hoo]
 obtain ⟨y1,y2,ey1,kr,kw,ey2,b2,k2⟩:=box4K w1 (.int .i64 4294967296) (.int .i64 3) (.int .i64 oo) (.slice none 0 0)
 obtain ⟨rb,hrb⟩:=zeq (w.heap.size)
 obtain ⟨cb,hcb⟩:=zeq (w1.heap.size)
 obtain ⟨base,hbase⟩:=zeq (y2.heap.size)
 rw [← hrb] at k1
 rw [← hcb] at k2
 have HB:=zhz (And.intro hrb hcb)
 have KC0:=zhz k2
 have RB0:=zhz (k1.keep b2)
 have BW0:=zhz (show Below w.heap.size w y2 from b1.trans (b2.mono b1.size))
 have HBB:=zhz (show w.heap.size≤rb∧rb<cb∧cb<base∧base≤y2.heap.size from by have h:=lt_of_block k2;rw [hrb,hbase];rw [hcb] at h ⊢;omega)
 clear k1 b1 s1 b2 k2 hrb hcb hoo hbase hr
 go_enter Tryz.func14,Tryz.ntmps14
 go_upto_region 1 with (fail)
 rw [← HB.out.1]
 clear hw1
 go_upto_region 2 with (fail)
 rw [← HB.out.2]
 clear ey1 kr kw ey2 e255 eoo
 go_wp2
 go_loopg [14] n (fun kk si wr=>∃ (i:Nat) (l:List RuZ) (v:Value),i≤n∧Hid (kk=n - i)∧si=.int .i64 (i:Int)∧Hid (l=(ps.take (min i 3)).map planR)∧Hid (Blk wr cb 29 #[.int .i64 4294967296,.int .i64 3,.int .i64 oo,v])∧Hid (OwP wr base v l)∧Hid (Blk wr rb 29 #[.int .i64 0,.int .i64 0,.int .i64 0,.slice none 0 0])∧Hid (Below w.heap.size w wr)∧Hid (base≤wr.heap.size))
 case atStart=>exact ⟨0,[],.slice none 0 0,by omega,zhz rfl,rfl,zhz (by simp),KC0,zhz OwR.nil,RB0,BW0,zhz HBB.out.2.2.2⟩
 case round =>
  obtain ⟨i,l,v,hi,HKK,rfl,HLL,HKC,HOW,HRB,HBW,HBZ⟩:=hrel
  by_cases hin:i<n
  ·obtain ⟨b',off,rfl,hbl,hcl⟩:=(HR.out.below HBW.out).at_ (by omega)
   have hip:i<ps.length:=by have:=HLN.out;omega
   have hc9:=hcl i hip
   obtain ⟨p,hp⟩:=zeq (ps[i])
   rw [← hp] at hc9
   have HPP:=zhz (show ps[i]?=some p from by rw [hp];exact zge hip)
   have kr0:wr.cell? ⟨b',off+i*9,none⟩=some (.int .i64 p.L):=hc9 0 (by omega)
   have kr1:wr.cell? ⟨b',off+i*9+1,none⟩=some (.int .i64 p.W):=hc9 1 (by omega)
   have kr2:wr.cell? ⟨b',off+i*9+2,none⟩=some (.int .i64 p.B):=hc9 2 (by omega)
   have kr3:wr.cell? ⟨b',off+i*9+3,none⟩=some (.int .i64 p.Sl):=hc9 3 (by omega)
   have kr4:wr.cell? ⟨b',off+i*9+4,none⟩=some (.int .i64 p.Ce):=hc9 4 (by omega)
   have kr5:wr.cell? ⟨b',off+i*9+5,none⟩=some (.int .i64 p.Ro):=hc9 5 (by omega)
   have kr6:wr.cell? ⟨b',off+i*9+6,none⟩=some (.int .i64 p.Wi):=hc9 6 (by omega)
   have kr7:wr.cell? ⟨b',off+i*9+7,none⟩=some (.int .i64 p.Tr):=hc9 7 (by omega)
   have kr8:wr.cell? ⟨b',off+i*9+8,none⟩=some (.bool p.sm):=hc9 8 (by omega)
   obtain ⟨z1,z2,ez1,kz,kzw,ez2,bz,kz2⟩:=box9P wr p
   obtain ⟨pb,hpb⟩:=zeq (wr.heap.size)
   rw [← hpb] at kz2
   have HPB:=zhz hpb
   have KC:=zhz (HKC.out.keep bz)
   have OW':=zhz (OwR.keep HOW.out bz)
   have RB':=zhz (HRB.out.keep bz)
   have KP':=zhz kz2
   have BW':=zhz (show Below w.heap.size w z2 from HBW.out.trans (bz.mono HBW.out.size))
   have HV:=zhz (show ∀ g,v.ownBlock=some g→base≤g∧g<pb from fun g hg=>⟨OwR.base_le HOW.out g hg,by rw [hpb];exact OwR.lt HOW.out g hg⟩)
   have HBS:=zhz (show w.heap.size≤rb∧rb<cb∧cb<base∧base≤pb∧pb<z2.heap.size from ⟨HBB.out.1,HBB.out.2.1,HBB.out.2.2.1,by rw [hpb];exact HBZ.out,lt_of_block kz2⟩)
   have t1:(i:Int)<(n:Int):=by omega
   have HIN:=zhz hin
   have KCr:=zhz (HKC.out)
   clear bz kz2 hpb hbl hcl hc9 hp hip hin
   go_upto_region 5 with (fail)
   rw [← HPB.out]
   clear kr0 kr1 kr2 kr3 kr4 kr5 kr6 kr7 kr8 ez1 kz kzw ez2
   by_cases h3:i<3
   rotate_left
   ·have d3:decide ((i:Int)<3)=false:=by rw [zdn];omega
    have HN3:=zhz h3
    clear h3
    go_wp2
    go_roundg (n - (i+1))
    case measure=>have:=HKK.out;have:=HIN.out;omega
    case rel=>exact ⟨i+1,l,v,HIN.out,zhz rfl,by go_num,zhz (by have:=HN3.out;rw [HLL.out,show min (i+1) 3=min i 3 by omega]),KC,OW',RB',BW',zhz (by have:=HBS.out;omega)⟩
   have d3:decide ((i:Int)<3)=true:=by rw [decide_eq_true_iff];omega
   have HI3:=zhz h3
   have CRu0:=zhz (fun wx=>zc8 p.L p.W p.B p.Sl p.Ce p.Ro p.Wi p.Tr p.sm wx)
   obtain ⟨r,hr⟩:=zeq (planR p)
   have CRu:=zhz (fun wx=>show Calls Tryz.prog 35 #[planV p.L p.W p.B p.Sl p.Ce p.Ro p.Wi p.Tr p.sm] wx (fun v w'=>v=.returned (.agg #[.int .i64 r.L,.int .i64 r.W,.int .i64 r.B,.int .i64 r.Sl,.int .i64 r.Ce,.int .i64 r.Ro,.int .i64 r.Wi,.int .i64 r.Tr,.bool r.sm])∧Below wx.heap.size wx w') from by rw [hr];exact CRu0.out wx)
   have HRR:=zhz hr
   have HL3:=zhz (show l.length≤3 from by rw [HLL.out,List.length_map];have:=List.length_take_le (min i 3) ps;omega)
   clear h3 hr CRu0
   go_upto_region 6 with (fail)
   clear d3
   obtain ⟨i0,hi0,hz0,hz1,hz2⟩:=info_parts infoRuS
   have HI:=zhz (And.intro hi0 (And.intro hz0 (And.intro hz1 hz2)))
   clear hi0 hz0 hz1 hz2
   have N0:=zhz (show Below z2.heap.size z2 z2.drew from zaa (Below.refl _ _) 1)
   have BW:=zhz (show Below w.heap.size w z2 from BW'.out)
   have KP:=KP'
   have OW:=OW'
   have RB:=RB'
   have st:(∀ j,z2.drew.cell? ⟨cb,j,none⟩=(#[.int .i64 4294967296,.int .i64 3,.int .i64 oo,v]:Array Value)[j]?)∧(∀ j,z2.drew.cell? ⟨pb,j,none⟩=(planC p.L p.W p.B p.Sl p.Ce p.Ro p.Wi p.Tr p.sm)[j]?):=⟨(KC.out.keep N0.out).rd,(KP.out.keep N0.out).rd⟩
   refine Ph.start [7] (Ph.pick [fun wx=>(∀ j,wx.cell? ⟨cb,j,none⟩=(#[.int .i64 4294967296,.int .i64 3,.int .i64 oo,v]:Array Value)[j]?)∧(∀ j,wx.cell? ⟨pb,j,none⟩=(planC p.L p.W p.B p.Sl p.Ce p.Ro p.Wi p.Tr p.sm)[j]?),fun _=>True]) (by kernel_rfl) (Ph.pick0 st) (fun hHeld hOrd=>?_)
   clear st
   refine Ph.pR 0 0 hOrd ?_;clear hOrd;intro hOrd
   refine Ph.pR 1 0 hOrd ?_;clear hOrd;intro hOrd
   refine Ph.pR 2 0 hOrd ?_;clear hOrd;intro hOrd
   refine Ph.pC 3 0 hOrd ?_;clear hOrd;intro K hK
   go_simp
   ((with_reducible refine (CRu.out _).mono ?_);rintro v1 w1x ⟨rfl,b1⟩;have N1:=zhz (G.below_on N0.out b1);have KC1:=zhz (KC.out.keep N1.out);have KP1:=zhz (KP.out.keep N1.out);have O1:=zhz (OW.out.keep N1.out);have RB1:=zhz (RB.out.keep N1.out);clear b1)
   refine hK.out _ _ (Ph.pick0 ⟨KC1.out.rd,KP1.out.rd⟩) fun hHeld hOrd=>?_
   clear hK K
   try simp only [Act.put,zs1,zs2,zs3] at hOrd ⊢
   refine Ph.pC 4 0 hOrd ?_;clear hOrd;intro K hK
   go_simp
   (have A2:=zhz (show Below w1x.heap.size w1x (w1x.alloc (.cells #[.int .i64 r.L,.int .i64 r.W,.int .i64 r.B,.int .i64 r.Sl,.int .i64 r.Ce,.int .i64 r.Ro,.int .i64 r.Wi,.int .i64 r.Tr,.bool r.sm] 52)) from (Below.refl _ _).alloc (Nat.le_refl _) _);have KC2:=zhz (KC1.out.keep A2.out);have KP2:=zhz (KP1.out.keep A2.out);have RB2:=zhz (RB1.out.keep A2.out))
   refine hK.out _ _ (Ph.pick0 ⟨KC2.out.rd,KP2.out.rd⟩) fun hHeld hOrd=>?_
   clear hK K
   try simp only [Act.put,zs1,zs2,zs3] at hOrd ⊢
   refine Ph.pC 5 0 hOrd ?_;clear hOrd;intro K hK
   refine step_append_lies _ (by rfl) _ _ 27 (by rfl) base 52 i0 (.agg #[.int .i64 0,.int .i64 0,.int .i64 0,.int .i64 0,.int .i64 0,.int .i64 0,.int .i64 0,.int .i64 0,.bool false]) 9 72 (by rfl) HI.out.1 HI.out.2.1 HI.out.2.2.1 HI.out.2.2.2 (by rfl) (by omega) v l.length (rws ruE l) (by rfl) (World.ownsRow.alloc O1.out _) ⟨w1x.heap.size,0,none⟩ 1 1 [.int .i64 r.L,.int .i64 r.W,.int .i64 r.B,.int .i64 r.Sl,.int .i64 r.Ce,.int .i64 r.Ro,.int .i64 r.Wi,.int .i64 r.Tr,.bool r.sm] (by rfl) (by rfl) (World.news_of_block (heap_alloc_new w1x _)) (by simp [Value.oneCell']) (by omega) (by have:=HL3.out;unfold maxLen;omega) (by have:=HL3.out;omega) (by have h1:=HBS.out;have h2:z2.heap.size≤w1x.heap.size:=N1.out.size;simp;omega) _ rfl ?_;intro gl cl w11 hown11 hgr11 hat11 hlt11;have F11:=zhz (show Fr (fun j=>v.ownBlock=some j) w1x w11 from ((Fr.refl _ _).alloc _).trans (G.fr_row hgr11));have KC3:=zhz (KC1.out.fr F11.out (fun e=>by have h1:=HV.out _ e;have h2:=HBS.out;omega));have KP3:=zhz (KP1.out.fr F11.out (fun e=>by have h1:=HV.out _ e;have h2:=HBS.out;omega));have RB3:=zhz (RB1.out.fr F11.out (fun e=>by have h1:=HV.out _ e;have h2:=HBS.out;omega));have O3:=zhz (ziM hown11);have GL:=zhz (show base≤gl from G.own_base hown11 gl rfl);have kz:=KC3.out.rd;have kzw:=KC3.out.wr;clear hown11 hgr11 hat11 hlt11
   refine hK.out _ _ (Ph.pick0 ⟨KC3.out.rd,KP3.out.rd⟩) fun hHeld hOrd=>?_
   clear hK K
   try simp only [Act.put,zs1,zs2,zs3] at hOrd ⊢
   refine Ph.pR 6 0 hOrd ?_;clear hOrd;intro hOrd
   refine Ph.pC 7 1 hOrd ?_;clear hOrd;intro K hK
   go_simp
   (obtain ⟨w12,e12,k12,f12⟩:=set4v KC3.out (.slice (some ⟨gl,0,none⟩) (l.length+1) cl);(try rw [e12]);have KC4:=zhz k12;have KP4:=zhz (KP3.out.fr f12 (fun e=>by have h2:=HBS.out;omega));have RB4:=zhz (RB3.out.fr f12 (fun e=>by have h2:=HBS.out;omega));have O4:=zhz (OwR.fr O3.out f12 (fun g hg e=>by injection hg with hg;have hg:gl=g:=hg;have h1:=GL.out;have h2:=HBS.out;omega));have F12s:=zhz f12.size;have B4:=zhz (show Below w.heap.size w w12 from BW.out.trans (((N1.out.mono (by have:=HBS.out;omega)).trans (F11.out.below (by have h1:=N1.out.size;have h2:=HBS.out;omega) (fun k e=>by have h1:=HV.out _ e;have h2:=HBS.out;omega))).trans (f12.below (by have h1:=N1.out.size;have h2:=HBS.out;have h3:=F11.out.size;omega) (fun k e=>by have h2:=HBS.out;omega))));clear e12 k12 f12 kz kzw)
   refine hK.out _ _ (Ph.pick1 trivial) fun hHeld hOrd=>?_
   clear hK K
   try simp only [Act.put,zs1,zs2,zs3] at hOrd ⊢
   refine Ph.done (by kernel_rfl) ?_ _
   clear hHeld hOrd
   have HRW:=zhz (show l++[r]=(ps.take (min (i+1) 3)).map planR from by
    have h1:=HI3.out
    have h2:=HPP.out
    have hip:i<ps.length:=(zgs.1 h2).1
    have hp:ps[i]=p:=by rw [zge hip] at h2;injection h2
    rw [show min (i+1) 3=i+1 by omega,List.take_succ_eq_append_getElem hip,List.map_append,HLL.out,show min i 3=i by omega,hp,HRR.out];rfl)
   go_wp2
   go_roundg (n - (i+1))
   case measure=>have:=HKK.out;have:=HIN.out;omega
   case rel=>exact ⟨i+1,l++[r],_,HIN.out,zhz rfl,by go_num,HRW,KC4,zhz O4.out,RB4,B4,zhz (by have:=HBS.out;have h1:=N1.out.size;have h2:=F11.out.size;have h3:=F12s.out;omega)⟩
  ·have hie:i=n:=by omega
   subst hie
   obtain ⟨A1,c1,rfl,hsl1,hsl2,hsl3⟩:=OwR.slice HOW.out
   have HSL:=zhz hsl1
   have kc:=HKC.out.rd
   have HI0:=zhz (show l=(ps.take 3).map planR from by
    rw [HLL.out,← HLN.out]
    rcases Nat.le_total ps.length 3 with q | q
    ·rw [Nat.min_eq_left q,List.take_of_length_le (Nat.le_refl _),List.take_of_length_le q]
    ·rw [Nat.min_eq_right q])
   have RD4:=zhz (fun (wz:World) (v:Value) (l':List RuZ) (hz:OwP wz base v l') (hb:Blk wz rb 29 #[.int .i64 0,.int .i64 0,.int .i64 0,.slice none 0 0]) (hw:Below w.heap.size w wz) (c:Array Value)=>show OwP (setObj wz rb (.cells c 29 (0,0))) base v l'∧Below w.heap.size w (setObj wz rb (.cells c 29 (0,0))) from by
    have fe:=Fr.setObj (F:=fun k=>k=rb) (Fr.refl _ wz) rfl (.cells c 29 (0,0))
    exact ⟨OwR.fr hz fe (fun g hg e=>by have h1:=OwR.base_le hz g hg;have h2:=HBB.out;omega),hw.trans (fe.below hw.size (fun k e=>by have h2:=HBB.out;omega))⟩)
   clear hin hsl1 hsl2 hsl3
   by_cases hl0:l=[]
   rotate_left
   ·have e0:((l.length:Int)==0)=false:=by
     have:l.length≠0:=fun q=>hl0 (List.eq_nil_of_length_eq_zero q)
     simp;omega
    have HL0:=zhz hl0
    have kz:=HRB.out.rd
    have kzw:=HRB.out.wr
    clear hl0
    go_wp2
    rw [zaj HRB.out]
    refine bodyPost_ret (results_cell_row rfl _ _ rb _ _ (0,0) _ rfl (zab (lt_of_block HRB.out) _) Tryz.underlying29 rfl (by kernel_rfl)) rfl ?_
    obtain ⟨d1,d2⟩:=RD4.out wr _ l HOW.out HRB.out HBW.out #[.int .i64 4294967296,.int .i64 3,.int .i64 oo,.slice A1 l.length c1]
    have hcf:confR ps=l:=by
     unfold confR
     rw [if_neg,HI0.out]
     intro q
     refine HL0.out ?_
     rw [HI0.out,q];rfl
    exact ⟨A1,l.length,c1,rfl,by rw [hcf];exact zmG d1 (fun r hr=>by rw [HI0.out] at hr;obtain ⟨p,_,rfl⟩:=List.mem_map.1 hr;exact zgq p),d2⟩
   have hps:ps=[]:=by
    have h:=HI0.out
    rw [hl0] at h
    have h2:=List.map_eq_nil_iff.1 h.symm
    rcases List.take_eq_nil_iff.1 h2 with q | q
    ·omega
    ·exact q
   have e0:((l.length:Int)==0)=true:=by rw [hl0];rfl
   have HPS:=zhz (And.intro hps hl0)
   obtain ⟨v,hvv⟩:=zeq (Value.slice A1 l.length c1)
   have HVV:=zhz hvv
   have CRu0:=zhz (fun wx=>zc8 0 0 0 0 0 0 0 0 false wx)
   obtain ⟨r,hr⟩:=zeq (planR planZ)
   have CRu:=zhz (fun wx=>show Calls Tryz.prog 35 #[planV 0 0 0 0 0 0 0 0 false] wx (fun v w'=>v=.returned (.agg #[.int .i64 r.L,.int .i64 r.W,.int .i64 r.B,.int .i64 r.Sl,.int .i64 r.Ce,.int .i64 r.Ro,.int .i64 r.Wi,.int .i64 r.Tr,.bool r.sm])∧Below wx.heap.size wx w') from by rw [hr];exact CRu0.out wx)
   have HRR:=zhz hr
   have HL3:=zhz (show l.length≤3 from by rw [hl0];decide)
   clear hl0 hps hr CRu0
   go_upto_region 9 with (fail)
   clear e0 kc
   obtain ⟨i0,hi0,hz0,hz1,hz2⟩:=info_parts infoRuS
   have HI:=zhz (And.intro hi0 (And.intro hz0 (And.intro hz1 hz2)))
   clear hi0 hz0 hz1 hz2
   have N0:=zhz (show Below wr.heap.size wr wr.drew from zaa (Below.refl _ _) 1)
   have BW:=HBW
   have KC:=zhz (show Blk wr cb 29 #[.int .i64 4294967296,.int .i64 3,.int .i64 oo,v] from by rw [HVV.out];exact HKC.out)
   have OW:=zhz (show OwP wr base v l from by rw [HVV.out];exact HOW.out)
   have RB:=HRB
   have HBS:=zhz (show w.heap.size≤rb∧rb<cb∧cb<base∧base≤wr.heap.size from ⟨HBB.out.1,HBB.out.2.1,HBB.out.2.2.1,HBZ.out⟩)
   have HV:=zhz (show ∀ g,v.ownBlock=some g→base≤g∧g<wr.heap.size from fun g hg=>⟨OwR.base_le OW.out g hg,OwR.lt OW.out g hg⟩)
   have st:(∀ j,wr.drew.cell? ⟨cb,j,none⟩=(#[.int .i64 4294967296,.int .i64 3,.int .i64 oo,v]:Array Value)[j]?):=(KC.out.keep N0.out).rd
   clear hvv
   refine Ph.start [7] (Ph.pick [fun wx=>(∀ j,wx.cell? ⟨cb,j,none⟩=(#[.int .i64 4294967296,.int .i64 3,.int .i64 oo,v]:Array Value)[j]?),fun _=>True]) (by kernel_rfl) (Ph.pick0 st) (fun hHeld hOrd=>?_)
   clear st
   refine Ph.pR 0 0 hOrd ?_;clear hOrd;intro hOrd
   refine Ph.pR 1 0 hOrd ?_;clear hOrd;intro hOrd
   refine Ph.pR 2 0 hOrd ?_;clear hOrd;intro hOrd
   refine Ph.pC 3 0 hOrd ?_;clear hOrd;intro K hK
   go_simp
   ((with_reducible refine (CRu.out _).mono ?_);rintro v1 w1x ⟨rfl,b1⟩;have N1:=zhz (G.below_on N0.out b1);have KC1:=zhz (KC.out.keep N1.out);have O1:=zhz (OW.out.keep N1.out);have RB1:=zhz (RB.out.keep N1.out);clear b1)
   refine hK.out _ _ (Ph.pick0 KC1.out.rd) fun hHeld hOrd=>?_
   clear hK K
   try simp only [Act.put,zs1,zs2,zs3] at hOrd ⊢
   refine Ph.pC 4 0 hOrd ?_;clear hOrd;intro K hK
   go_simp
   (have A2:=zhz (show Below w1x.heap.size w1x (w1x.alloc (.cells #[.int .i64 r.L,.int .i64 r.W,.int .i64 r.B,.int .i64 r.Sl,.int .i64 r.Ce,.int .i64 r.Ro,.int .i64 r.Wi,.int .i64 r.Tr,.bool r.sm] 52)) from (Below.refl _ _).alloc (Nat.le_refl _) _);have KC2:=zhz (KC1.out.keep A2.out);have RB2:=zhz (RB1.out.keep A2.out))
   refine hK.out _ _ (Ph.pick0 KC2.out.rd) fun hHeld hOrd=>?_
   clear hK K
   try simp only [Act.put,zs1,zs2,zs3] at hOrd ⊢
   refine Ph.pC 5 0 hOrd ?_;clear hOrd;intro K hK
   refine step_append_lies _ (by rfl) _ _ 27 (by rfl) base 52 i0 (.agg #[.int .i64 0,.int .i64 0,.int .i64 0,.int .i64 0,.int .i64 0,.int .i64 0,.int .i64 0,.int .i64 0,.bool false]) 9 72 (by rfl) HI.out.1 HI.out.2.1 HI.out.2.2.1 HI.out.2.2.2 (by rfl) (by omega) v l.length (rws ruE l) (by rfl) (World.ownsRow.alloc O1.out _) ⟨w1x.heap.size,0,none⟩ 1 1 [.int .i64 r.L,.int .i64 r.W,.int .i64 r.B,.int .i64 r.Sl,.int .i64 r.Ce,.int .i64 r.Ro,.int .i64 r.Wi,.int .i64 r.Tr,.bool r.sm] (by rfl) (by rfl) (World.news_of_block (heap_alloc_new w1x _)) (by simp [Value.oneCell']) (by omega) (by have:=HL3.out;unfold maxLen;omega) (by have:=HL3.out;omega) (by have h1:=HBS.out;have h2:wr.heap.size≤w1x.heap.size:=N1.out.size;simp;omega) _ rfl ?_;intro gl cl w11 hown11 hgr11 hat11 hlt11;have F11:=zhz (show Fr (fun j=>v.ownBlock=some j) w1x w11 from ((Fr.refl _ _).alloc _).trans (G.fr_row hgr11));have KC3:=zhz (KC1.out.fr F11.out (fun e=>by have h1:=HV.out _ e;have h2:=HBS.out;omega));have RB3:=zhz (RB1.out.fr F11.out (fun e=>by have h1:=HV.out _ e;have h2:=HBS.out;omega));have O3:=zhz (ziM hown11);have GL:=zhz (show base≤gl from G.own_base hown11 gl rfl);have kz:=KC3.out.rd;have kzw:=KC3.out.wr;clear hown11 hgr11 hat11 hlt11
   refine hK.out _ _ (Ph.pick0 KC3.out.rd) fun hHeld hOrd=>?_
   clear hK K
   try simp only [Act.put,zs1,zs2,zs3] at hOrd ⊢
   refine Ph.pR 6 0 hOrd ?_;clear hOrd;intro hOrd
   refine Ph.pC 7 1 hOrd ?_;clear hOrd;intro K hK
   go_simp
   (obtain ⟨w12,e12,k12,f12⟩:=set4v KC3.out (.slice (some ⟨gl,0,none⟩) (l.length+1) cl);(try rw [e12]);have KC4:=zhz k12;have RB4:=zhz (RB3.out.fr f12 (fun e=>by have h2:=HBS.out;omega));have O4:=zhz (OwR.fr O3.out f12 (fun g hg e=>by injection hg with hg;have hg:gl=g:=hg;have h1:=GL.out;have h2:=HBS.out;omega));have F12s:=zhz f12.size;have B4:=zhz (show Below w.heap.size w w12 from BW.out.trans (((N1.out.mono (by have:=HBS.out;omega)).trans (F11.out.below (by have h1:=N1.out.size;have h2:=HBS.out;omega) (fun k e=>by have h1:=HV.out _ e;have h2:=HBS.out;omega))).trans (f12.below (by have h1:=N1.out.size;have h2:=HBS.out;have h3:=F11.out.size;omega) (fun k e=>by have h2:=HBS.out;omega))));clear e12 k12 f12 kz kzw)
   refine hK.out _ _ (Ph.pick1 trivial) fun hHeld hOrd=>?_
   clear hK K
   try simp only [Act.put,zs1,zs2,zs3] at hOrd ⊢
   refine Ph.done (by kernel_rfl) ?_ _
   clear hHeld hOrd
   have kz:=RB4.out.rd
   have kzw:=RB4.out.wr
   have kc:=KC4.out.rd
   go_wp2
   rw [zaj RB4.out]
   refine bodyPost_ret (results_cell_row rfl _ _ rb _ _ (0,0) _ rfl (zab (lt_of_block RB4.out) _) Tryz.underlying29 rfl (by kernel_rfl)) rfl ?_
   obtain ⟨d1,d2⟩:=RD4.out w12 _ (l++[r]) O4.out RB4.out B4.out #[.int .i64 4294967296,.int .i64 3,.int .i64 oo,.slice (some ⟨gl,0,none⟩) (l.length+1) cl]
   have hcf:confR ps=l++[r]:=by
    unfold confR
    rw [if_pos HPS.out.1,HPS.out.2,HRR.out];rfl
   exact ⟨_,l.length+1,cl,rfl,by rw [hcf,show l.length+1=(l++[r]).length by simp];exact zmG (by rw [show (l++[r]).length=l.length+1 by simp];exact d1) (fun q hq=>by rw [HPS.out.2,HRR.out] at hq;rw [List.mem_singleton.1 hq];exact zgq _),d2⟩
end
theorem zdT (p:RuZ):(planR p).p:=by
 have h1:1≤lqL p.L∧lqL p.L≤32:=by unfold lqL;omega
 have h2:1≤lqN p.Sl∧lqN p.Sl≤8:=by unfold lqN;omega
 have h3:1≤lqS p.W∧lqS p.W≤32:=by unfold lqS;omega
 have h4:lqS p.W*lqN p.Sl≤32*8:=Nat.mul_le_mul h3.2 h2.2
 have h4b:1*1≤lqS p.W*lqN p.Sl:=Nat.mul_le_mul h3.1 h2.1
 have h5:=zc9 p.L p.B
 have h6:1≤lqC p.Ce∧lqC p.Ce≤8:=by unfold lqC;omega
 have h7:1≤lqR p.Ro∧lqR p.Ro≤4:=by unfold lqR;omega
 have h8:1≤lqW p.Wi∧lqW p.Wi≤16:=by unfold lqW;omega
 have h9:1≤lqT p.Tr∧lqT p.Tr≤8:=by unfold lqT;omega
 have hmod:((lqS p.W*lqN p.Sl:Nat):Int) % ((lqN p.Sl:Nat):Int)=0:=by
  rw [Int.natCast_mul];exact Int.mul_emod_left _ _
 have hu:=zme ((lqS p.W*lqN p.Sl:Nat):Int) (lqL p.L+1 - lqB p.L p.B) (by omega) (by omega)
 have hd:(1152921504606846976:Int) / 32≤1152921504606846976 / lqB p.L p.B:=by
  rw [Int.le_ediv_iff_mul_le (by omega)]
  have:(1152921504606846976:Int) / 32*lqB p.L p.B≤(1152921504606846976:Int) / 32*32:=Int.mul_le_mul_of_nonneg_left (by omega) (by decide)
  omega
 have hsm:2≤((lqN p.Sl:Nat):Int)∨lqM p.sm p.Sl=false:=by
  by_cases q:2≤lqN p.Sl
  ·exact Or.inl (by omega)
  ·right
   unfold lqM
   rw [decide_eq_false (by omega)]
   simp
 show ruleP _ _ _ _ _ _ _ _ _
 unfold ruleP planR
 dsimp only
 refine ⟨by omega,by omega,by omega,by omega,hmod,by omega,by omega,by omega,by omega,hsm,?_⟩
 have e32:(1152921504606846976:Int) / 32=36028797018963968:=by decide
 omega
theorem zlK {a b X:Int} (ha:a≤X) (hb:b≤X):mx a b≤X:=by unfold mx;split <;> omega
theorem ziz:∀ (l:List RuZ) (m X:Int),m≤X→46≤X→(∀ r ∈ l,7+81*r.Tr≤X)→l.foldl (fun m r=>stepM m r.Tr 3) m≤X
 | [],m,X,h,_,_=>h
 | r :: l,m,X,h,h46,hr=>by
  rw [List.foldl_cons]
  refine ziz l _ X ?_ h46 (fun q hq=>hr q (List.mem_cons_of_mem _ hq))
  show mx (mx (mx m 22) 46) (7+81*r.Tr)≤X
  exact zlK (zlK (zlK h (by omega)) h46) (hr r List.mem_cons_self)
theorem zla:∀ (l:List RuZ),(∀ r ∈ l,r.p)→sumB l≤l.length*18000000
 | [],_=>by simp [sumB]
 | r :: l,h=>by
  have h1:=zla l (fun q hq=>h q (List.mem_cons_of_mem _ hq))
  have h2:=zdA (h r List.mem_cons_self)
  rw [sumB,List.length_cons]
  omega
theorem zbr (ps:List RuZ):∀ r ∈ confR ps,∃ p,r=planR p:=by
 intro r hr
 unfold confR at hr
 split at hr
 ·exact ⟨planZ,List.mem_singleton.1 hr⟩
 ·obtain ⟨p,_,rfl⟩:=List.mem_map.1 hr
  exact ⟨p,rfl⟩
theorem zbN (ps:List RuZ):1≤(confR ps).length∧(confR ps).length≤3:=by
 unfold confR
 split
 ·exact ⟨Nat.le_refl _,by decide⟩
 ·rename_i h
  rw [List.length_map,List.length_take]
  have:ps.length≠0:=fun q=>h (List.eq_nil_of_length_eq_zero q)
  omega
theorem zgR (ps:List RuZ) (out:Int):rightZ 4294967296 3 (660+out % 256) (confR ps):=by
 have hl:=zbN ps
 have hp:∀ r ∈ confR ps,r.p:=fun r hr=>by obtain ⟨p,rfl⟩:=zbr ps r hr;exact zdT p
 have hs:=zla _ hp
 refine ⟨by omega,by omega,by omega,hp,?_,by omega,by omega⟩
 refine ziz _ 6 _ (by omega) (by omega) (fun r hr=>?_)
 obtain ⟨p,rfl⟩:=zbr ps r hr
 have h9:1≤lqT p.Tr∧lqT p.Tr≤8:=by unfold lqT;omega
 show 7+81*((lqT p.Tr:Nat):Int)≤_
 omega
section
variable {w w' W:World} {base s:Nat} {c c':SvC} {Ns:List LmN} {Ss:List LmS} {Ks:List CnN} {σs:List CnS}
theorem KdAt.set (h:KdAt w base Ks σs) {k:Nat} {K:CnN} {σ':CnS} (hK:Ks[k]?=some K) (hc:CnAt w' K σ') {F:Nat→Prop} (hf:Fr F w w') (hF:∀ (j:Nat) M,j≠k→Ks[j]?=some M→∀ b,M.F b→¬ F b):KdAt w' base Ks (σs.set k σ'):=by
 refine ⟨by rw [List.length_set];exact h.ln,fun i M t hM ht=>?_,h.lo,h.ap⟩
 by_cases e:i=k
 ·subst e
  have hil:i<σs.length:=by rw [← h.ln];exact (zgs.1 hK).1
  rw [List.getElem?_set_self hil] at ht
  injection ht with ht
  rw [hK] at hM
  injection hM with hM
  rw [← ht,← hM];exact hc
 ·rw [List.getElem?_set_ne (Ne.symm e)] at ht
  exact (h.at_ i M t hM ht).fr hf (hF i M e hM)
theorem SvAt.keep (h:SvAt w base s c Ns Ss Ks σs) (hb:Below w.heap.size w w'):SvAt w' base s c Ns Ss Ks σs :=
 ⟨h.sv.keep hb,h.J.keep hb,h.K.keep hb,h.cJ,h.cK,h.lo,h.nJ,h.nK,h.ap⟩
theorem SvAt.fr {F:Nat→Prop} (h:SvAt w base s c Ns Ss Ks σs) (hf:Fr F w w') (hs:¬ F s) (hJ:∀ (i:Nat) N,Ns[i]?=some N→∀ b,N.all b→¬ F b) (hK:∀ (i:Nat) K,Ks[i]?=some K→∀ b,K.F b→¬ F b):SvAt w' base s c Ns Ss Ks σs :=
 ⟨h.sv.fr hf hs,h.J.fr hf hJ,h.K.fr hf hK,h.cJ,h.cK,h.lo,h.nJ,h.nK,h.ap⟩
theorem zcQ {k:Nat} {K:CnN} (h:SvAt w base s c Ns Ss Ks σs) (hk:k<16) (hK:Ks[k]?=some K):∀ wx c',Sv wx s c'→c'.K=c.K→Calls Tryz.prog 23 #[.pointer (some ⟨s,0,none⟩),.int .i64 (k:Int)] wx fun e w'=>e=.returned (pcC K)∧wx=w':=by
 intro wx c' hx he
 refine zeO hk ?_ wx hx
 have hl:k<Ks.length:=(zgs.1 hK).1
 rw [he,h.cK,List.getElem?_append_left (by rw [List.length_map];exact hl),List.getElem?_map,hK]
 rfl
theorem zjp (kd ck:Int) (k:Nat) (n:Int) (dat sed:Value) {K:CnN} {σ:CnS} (w:World) (h:SvAt w base s c Ns Ss Ks σs) (hk16:k<16) (hK:Ks[k]?=some K) (hσ:σs[k]?=some σ) (hk4:kd≠4) (hk:kd=2∨kd=3→σ.op=false) :
  Calls Tryz.prog 20 #[.pointer (some ⟨s,0,none⟩),actV kd ck (k:Int) dat n sed] w fun e w'=>e=.returned (stepV (onS kd σ).1)∧SvAt w' base s (c.read ck).end Ns Ss Ks (σs.set k (onS kd σ).2)∧Fr (fun b=>K.F b∨b=s) w w':=by
 refine (zmc kd ck (k:Int) n dat sed hk4 hk w h.sv (h.K.at_ k K σ hK hσ) (h.nK k K hK) (zcQ h hk16 hK)).mono ?_
 rintro e w' ⟨rfl,h1,h2,h3⟩
 refine ⟨rfl,⟨h2,h.J.fr h3 (fun i N hN b hb e=>?_),h.K.set hK h1 h3 (fun j M hj hM b hb e=>?_),h.cJ,h.cK,h.lo,h.nJ,h.nK,h.ap⟩,h3⟩
 ·rcases e with e | e
  ·exact h.ap i k N K hN hK b hb e
  ·rw [e] at hb;exact h.nJ i N hN hb
 ·rcases e with e | e
  ·exact h.K.ap j k M K hj hM hK b hb e
  ·rw [e] at hb;exact h.nK j M hM hb
end
theorem zgE (ps:List RuZ) (oo:Int) (A:Option Addr) (n cc:Nat) (out:Int) (hoo:660+out % 256=oo) (w:World) (hr:RdRu w A n cc ps) :
  Calls Tryz.prog 14 #[.slice A n cc,.int .i64 out] w fun e w'=>∃ A' m c',e=.returned (.agg #[.int .i64 4294967296,.int .i64 3,.int .i64 oo,.slice A' m c'])∧RdRu w' A' m c' (confR ps)∧rightZ 4294967296 3 oo (confR ps)∧Below w.heap.size w w':=by
 refine (zhw A n cc out w hr).mono ?_
 rintro e w' ⟨A',m,c',rfl,h1,h2⟩
 exact ⟨A',m,c',by rw [hoo],h1,by rw [← hoo];exact zgR ps out,h2⟩
theorem zjs (rs:List RuZ) (Bu oo:Int) (A:Option Addr) (n cc:Nat) (w:World) (hr:RdRu w A n cc rs) (hz:rightZ Bu 3 oo rs) :
  Calls Tryz.prog 15 #[.agg #[.int .i64 Bu,.int .i64 3,.int .i64 oo,.slice A n cc],.slice none 0 0] w fun e w'=>∃ (s:Nat) (c:SvC) (Ns:List LmN) (Ks:List CnN),e=.returned (.tuple #[.pointer (some ⟨s,0,none⟩),.int .i64 0]) ∧
   SvAt w' w.heap.size s c Ns (rsZ rs) Ks [cZ,cZ,cZ]∧c.now=0∧Ks.length=3∧(∀ (k:Nat) K,Ks[k]?=some K→K.size=oo.toNat∧K.rules=(rs.length:Int))∧Below w.heap.size w w':=by
 refine (zeR (zf:=fun i=>List.replicate (3*((rs.getD i planZ).Ro+1)).toNat 0) Bu 3 oo A n cc (.slice none 0 0) w hr hz ?_).mono ?_
 ·intro i r wx hi _
  have hp:=hz.2.2.2.1 r (List.mem_of_getElem? hi)
  have hRo:1≤r.Ro∧r.Ro≤8:=hp.2.2.2.2.2.2.1
  have hg:rs.getD i planZ=r:=by rw [List.getD_eq_getElem?_getD,hi];rfl
  have:=zfL (i:Int) (3*(r.Ro+1)).toNat (by omega) wx
  rw [Int.toNat_of_nonneg (by omega)] at this
  refine this.mono ?_
  rintro e w' ⟨g,rfl,h1,h2⟩
  exact ⟨_,_,_,rfl,by rw [hg];exact h1,h2⟩
 ·rintro e w' ⟨s,Ns,Ks,rfl,h1,h2,h3,h4⟩
  have hl:=h1.K.ln
  exact ⟨s,_,Ns,Ks,rfl,h1,rfl,by rw [hl];rfl,h3,h4⟩
theorem zjr (w:World):Calls Tryz.prog 12 #[] w fun e w'=>e=.returned (.bool true)∧Below w.heap.size w w':=by
 obtain ⟨w1,hw1,k1,b1,s1⟩:=zad w #[.int .i64 0,.int .i64 0,.int .i64 0,.int .i64 0,.int .i64 0,.int .i64 0,.int .i64 0,.int .i64 0,.bool false] 113
 obtain ⟨pb,hpb⟩:=zeq (w.heap.size)
 have hrd:RdRu w1 (some ⟨w.heap.size,0,none⟩) 1 1 [planZ]:=by
  refine ⟨Nat.le_refl _,by unfold maxLen;omega,rfl,fun _=>⟨w.heap.size,0,rfl,lt_of_block k1,fun i hi j hj=>?_⟩,fun r hr=>by rw [List.mem_singleton.1 hr];refine ⟨?_,?_,?_,?_,?_,?_,?_,?_⟩ <;> (unfold i64In planZ;dsimp only;omega)⟩
  have h0:i=0:=by simp at hi;exact hi
  subst h0
  rw [show 0+0*9+j=j by omega,k1.rd j]
  rfl
 have CF:=zhz (zgE [planZ] 660 (some ⟨w.heap.size,0,none⟩) 1 1 0 rfl w1 hrd)
 have B1:=zhz b1
 clear hrd k1 b1 s1
 rw [← hpb] at CF
 have HPB:=zhz hpb
 clear hpb
 go_enter Tryz.func12,Tryz.ntmps12
 go_upto_region 2 with (first
  | (rw [← HPB.out];go_at_call 14;((with_reducible refine CF.out.mono ?_);rintro e w2 ⟨A',m,c',rfl,r2,z2,b2⟩;have B2:=zhz (show Below w.heap.size w w2 from B1.out.trans (b2.mono B1.out.size));have CN:=zhz (zjs _ 4294967296 660 A' m c' w2 r2 z2);clear r2 z2 b2))
  | (go_at_call 15;((with_reducible refine CN.out.mono ?_);rintro e w3 ⟨s,c,Ns,Ks,rfl,h3,n3,l3,p3,b3⟩;have B3:=zhz (show Below w.heap.size w w3 from B2.out.trans (b3.mono B2.out.size));have H3:=zhz h3;have N3:=zhz n3;have L3:=zhz l3;clear h3 n3 l3 p3 b3)))
 obtain ⟨K0,hK0⟩:∃ K,Ks[0]?=some K:=⟨_,zge (by rw [L3.out];decide)⟩
 have CD:=zhz (fun (wx:World) (dat:Value) (hx:SvAt wx w2.heap.size s c Ns (rsZ (confR [planZ])) Ks [cZ,cZ,cZ])=>show Calls Tryz.prog 20 #[.pointer (some ⟨s,0,none⟩),.agg #[.int .i64 2,.int .i64 5,.int .i64 0,dat,.int .i64 0,.slice none 0 0]] wx (fun e w'=>e=.returned (stepV 11)∧Sv w' s (c.read 5).end∧Fr (fun b=>K0.F b∨b=s) wx w') from (zjp 2 5 0 0 dat (.slice none 0 0) wx hx (by omega) hK0 rfl (by decide) (fun _=>rfl)).mono (fun e w' hh=>⟨hh.1,hh.2.1.sv,hh.2.2⟩))
 have CN5:=zhz (fun (wx:World) (hx:Sv wx s (c.read 5).end)=>show Calls Tryz.prog 22 #[.pointer (some ⟨s,0,none⟩)] wx (fun e w'=>e=.returned (.int .i64 5)∧wx=w') from by
  have h:=zcS wx hx
  rw [show (c.read 5).end.now=max c.now 5 from rfl,N3.out] at h
  exact h)
 have HLO:=zhz (show w.heap.size≤s∧(∀ b,K0.F b→w.heap.size≤b) from ⟨Nat.le_trans B2.out.size H3.out.lo,fun b hb=>Nat.le_trans B2.out.size (H3.out.K.lo 0 K0 hK0 b hb)⟩)
 have HLT:=zhz (show s<w3.heap.size from H3.out.sv.lt)
 have BA:=zhz (show Below w3.heap.size w3 (w3.alloc (.cells #[.int .u8 1] 5)) from (Below.refl _ _).alloc (Nat.le_refl _) _)
 clear hK0
 go_upto_region 5 with (go_at_call 20;((with_reducible refine (CD.out _ _ (H3.out.keep BA.out)).mono ?_);rintro e w4 ⟨rfl,h4,f4⟩;obtain ⟨y1,y2,ey1,kr,kw,ey2,b5,k5⟩:=box4S w4 (.int .i64 11) (.int .i64 0) (.slice none 0 0) (.slice none 0 0);have S4:=zhz (h4.keep b5);have K5:=zhz k5;have B5:=zhz (show Below w.heap.size w y2 from (B3.out.trans (BA.out.mono B3.out.size)).trans ((f4.below (Nat.le_trans B3.out.size BA.out.size) (fun b hb=>by rcases hb with hb | hb;exact HLO.out.2 b hb;rw [hb];exact HLO.out.1)).trans (b5.mono (by have h1:=B3.out.size;have h2:=BA.out.size;have h3:=f4.size;omega))));clear h4 f4 b5 k5))
 have k5r:=K5.out.rd
 clear ey1 kr kw ey2 hw1
 go_wp2_with (go_at_call 22;((with_reducible refine (CN5.out _ S4.out).mono ?_);rintro e w6 ⟨rfl,rfl⟩))
 go_ret
 exact ⟨rfl,B5.out⟩
def dz (zs:List Int) (m ρ i:Nat):Int:=bits .xor .u64 (bits .xor .u64 (zs.getD ((ρ+i) % m) 0) ((ρ:Int)*72057594037927936)) (IntKind.u64.wrap (IntKind.u64.wrap (i:Int)*11400714819323198485))
theorem zmS (x y:Int):(Lit.int .u64 (bits .xor .u64 x y)).wf=true:=by
 have h:∃ z:Int,bits .xor .u64 x y=IntKind.u64.wrap z:=⟨_,rfl⟩
 obtain ⟨z,hz⟩:=h
 rw [hz,IntKind.wrap_u64]
 have h1:=Int.emod_nonneg z (show (18446744073709551616:Int)≠0 by decide)
 have h2:=Int.emod_lt_of_pos z (show (0:Int)<18446744073709551616 by decide)
 show (decide (IntKind.u64.min≤_) && decide (_≤IntKind.u64.max))=true
 have e1:IntKind.u64.min=0:=rfl
 have e2:IntKind.u64.max=18446744073709551615:=rfl
 rw [e1,e2]
 simp
 omega
def dl (zs:List Int) (m ρ n i:Nat):List Int:=(List.range n).map fun j=>if j<i then dz zs m ρ j else 0
theorem zkX (zs:List Int) (m ρ n i:Nat):(dl zs m ρ n i).length=n:=by unfold dl;simp
theorem zlu (zs:List Int) (m ρ n:Nat):dl zs m ρ n 0=List.replicate n 0:=by
 unfold dl
 apply List.ext_getElem
 ·simp
 ·intro j h1 h2;simp
theorem zmn (zs:List Int) (m ρ n i:Nat):(dl zs m ρ n i).set i (dz zs m ρ i)=dl zs m ρ n (i+1):=by
 unfold dl
 apply List.ext_getElem
 ·simp
 ·intro j h1 h2
  rw [List.getElem_set]
  simp only [List.getElem_map,List.getElem_range]
  by_cases e:i=j
  ·subst e;simp
  ·rw [if_neg e]
   by_cases q:j<i
   ·rw [if_pos q,if_pos (by omega)]
   ·rw [if_neg q,if_neg (by omega)]
theorem zmV (zs:List Int) (m ρ n i:Nat):∀ z ∈ dl zs m ρ n i,(Lit.int .u64 z).wf=true:=by
 intro z hz
 obtain ⟨j,_,rfl⟩:=List.mem_map.1 hz
 split
 ·exact zmS _ _
 ·rfl
theorem zfK (ρ:Nat) (hρ:ρ<8) (A:Option Addr) (m cc:Nat) (zs:List Int) (n:Nat) (hn:n≤1000) (hm:1≤m∧m≤9223372036854775807) (w:World) (hr:RdI w .u64 A m cc zs) :
  Calls Tryz.prog 66 #[.slice A m cc,.int .i64 (ρ:Int),.int .i64 (n:Int)] w fun e w'=>∃ g,e=.returned (.slice (some ⟨g,0,none⟩) n n)∧RdI w' .u64 (some ⟨g,0,none⟩) n n (dl zs m ρ n n)∧Below w.heap.size w w':=by
 have hmk:=fun w=>G.make_one (P:=Tryz.prog) (t:=23) (e:=69) (z:=.int .u64 0) (B:=8) Tryz.underlying23 (i:=(Tryz.prog.info? 69).get (by kernel_rfl)) (by rfl) (by kernel_rfl) rfl (by kernel_rfl) (by kernel_rfl) n (by omega) (by omega) w
 obtain ⟨w1,hw1,k1,b1,s1⟩:=zad w (List.replicate n (.int .u64 0)).toArray 69
 obtain ⟨g,hg⟩:=zeq (w.heap.size)
 rw [← hg] at k1
 have H1:=zhz (And.intro k1 b1)
 have HM:=zhz (And.intro hn hm)
 have HR:=zhz hr
 have HG:=zhz hg
 have e0:((m:Int)==0)=false:=by simp;omega
 obtain ⟨z0,hz0⟩:=zeq ((List.replicate n (Value.int .u64 0)).toArray)
 simp only [← hz0] at hmk
 rw [← hz0] at hw1
 have HZ:=zhz hz0
 clear k1 b1 s1 hn hm hz0 hr hg
 go_enter Tryz.func66,Tryz.ntmps66
 go_upto_region 4 with (fail)
 rw [← HG.out]
 clear hw1 hmk e0
 go_wp2
 go_loopg [16] n (fun kk si wr=>∃ i:Nat,i≤n∧Hid (kk=n - i)∧si=.int .i64 (i:Int)∧Hid (Blk wr g 69 ((dl zs m ρ n i).map (Value.int .u64)).toArray)∧Hid (Below w.heap.size w wr))
 case atStart=>exact ⟨0,by omega,zhz rfl,rfl,zhz (by rw [zlu,List.map_replicate];exact H1.out.1),zhz H1.out.2⟩
 case round =>
  obtain ⟨i,hi,HKK,rfl,HB,HW⟩:=hrel
  by_cases hin:i<n
  ·obtain ⟨b',off,rfl,hbl,hcl⟩:=(HR.out.below HW.out).at_ (by have:=HM.out;omega)
   have hj:(ρ+i) % m<m:=Nat.mod_lt _ (by have:=HM.out;omega)
   have hc:=hcl _ hj
   obtain ⟨sv,hsv⟩:=zeq (zs.getD ((ρ+i) % m) 0)
   rw [← hsv] at hc
   obtain ⟨j,hjj⟩:=zeq ((ρ+i) % m)
   rw [← hjj] at hj hc
   obtain ⟨a,ha⟩:∃ z:Int,z=((ρ+i:Nat):Int):=⟨_,rfl⟩
   have e1:IntKind.i64.wrap ((ρ:Int)+(i:Int))=a:=by rw [IntKind.wrap_i64,ha];have:=HM.out;omega
   have e2:a.tmod (m:Int)=(j:Int):=by rw [hjj,ha];exact (Int.ofNat_tmod _ _).symm
   have e3:¬ (m:Int)=0:=by have:=HM.out;omega
   have t1:(i:Int)<(n:Int):=by omega
   have t2:¬ (i:Int)<0:=by omega
   have t3:¬ (j:Int)<0:=by omega
   have t4:(j:Int)<(m:Int):=by omega
   have hll:=zkX zs m ρ n i
   obtain ⟨v0,hv0⟩:=zeq ((dl zs m ρ n i).getD i 0)
   have kg:wr.cell? ⟨g,i,none⟩=some (.int .u64 v0):=by
    rw [HB.out.rd i,hv0];simp [List.getD,show i<(dl zs m ρ n i).length by omega]
   have kgw:=HB.out.wr
   have HSV:=zhz hsv
   have HIN:=zhz hin
   clear hjj ha hsv hll hv0 hbl hcl hin
   go_upto_region 8 with (fail)
   have es:(wr.setCell ⟨g,i,none⟩ (.int .u64 (bits .xor .u64 (bits .xor .u64 sv ((ρ:Int)*72057594037927936)) (IntKind.u64.wrap (IntKind.u64.wrap (i:Int)*11400714819323198485)))))=setObj wr g (.cells ((dl zs m ρ n (i+1)).map (Value.int .u64)).toArray 69 (0,0)):=by
    rw [zac HB.out,zs1,← List.map_set]
    have e:bits .xor .u64 (bits .xor .u64 sv ((ρ:Int)*72057594037927936)) (IntKind.u64.wrap (IntKind.u64.wrap (i:Int)*11400714819323198485))=dz zs m ρ i:=by unfold dz;rw [HSV.out]
    rw [e,zmn]
   rw [es]
   have fe:=Fr.setObj (F:=fun k=>k=g) (Fr.refl _ wr) rfl (.cells ((dl zs m ρ n (i+1)).map (Value.int .u64)).toArray 69 (0,0))
   have K2:=zhz (show Blk (setObj wr g (.cells ((dl zs m ρ n (i+1)).map (Value.int .u64)).toArray 69 (0,0))) g 69 _ from zab (lt_of_block HB.out) _)
   have W2:=zhz (HW.out.trans (fe.below HW.out.size (fun k e=>by have:=HG.out;omega)))
   clear es fe kg kgw e1 e2 e3 hc t2 t3 t4
   generalize setObj wr g (.cells ((dl zs m ρ n (i+1)).map (Value.int .u64)).toArray 69 (0,0))=wz at K2 W2 ⊢
   have hb3:(i:Int)≤1000:=by have:=HM.out;omega
   go_wp2
   go_roundg (n - (i+1))
   case measure=>have:=HKK.out;have:=HIN.out;omega
   case rel=>exact ⟨i+1,HIN.out,zhz rfl,by go_num,K2,W2⟩
  ·have hie:i=n:=by omega
   subst hie
   go_wp2
   go_ret
   exact ⟨g,rfl,zbh HB.out (zkX _ _ _ _ _) (by have:=HM.out;unfold maxLen;omega) (zmV _ _ _ _ _),HW.out⟩
def zfS (zs:List Int) (m:Nat) (rs:List RuZ) (i:Nat):List Int:=dl zs m i (3*((rs.getD i planZ).Ro+1)).toNat (3*((rs.getD i planZ).Ro+1)).toNat
theorem zjS {rs:List RuZ} (hp:∀ r ∈ rs,r.p) (hl:rs.length≤8) {A:Option Addr} {m cc:Nat} {zs:List Int} (hm:1≤m∧m≤9223372036854775807) (i:Nat) (r:RuZ) (wx:World) (hi:rs[i]?=some r) (hr:RdI wx .u64 A m cc zs) :
  Calls Tryz.prog 66 #[.slice A m cc,.int .i64 (i:Int),.int .i64 (3*(r.Ro+1))] wx fun e w'=>∃ A n c,e=.returned (.slice A n c)∧RdI w' .u64 A n c (zfS zs m rs i)∧Below wx.heap.size wx w':=by
 have h1:=hp r (List.mem_of_getElem? hi)
 have hRo:1≤r.Ro∧r.Ro≤8:=h1.2.2.2.2.2.2.1
 have hg:rs.getD i planZ=r:=by rw [List.getD_eq_getElem?_getD,hi];rfl
 have hil:i<rs.length:=(zgs.1 hi).1
 have:=zfK i (by omega) A m cc zs (3*(r.Ro+1)).toNat (by omega) hm wx hr
 rw [Int.toNat_of_nonneg (by omega)] at this
 refine this.mono ?_
 rintro e w' ⟨g,rfl,h1,h2⟩
 exact ⟨_,_,_,rfl,by unfold zfS;rw [hg];exact h1,h2⟩
section
variable {w w' W:World} {s:Nat} {c:SvC}
def SvC.anew (c:SvC):SvC:={ c with now:=0,first:=0,rd:=false,rs:=true }
theorem zdZ (w:World) (h:Sv w s c) :
  Calls Tryz.prog 47 #[.pointer (some ⟨s,0,none⟩)] w fun e w'=>e=.returned (.tuple #[])∧Sv w' s c.anew∧Fr (fun k=>k=s) w w':=by
 obtain ⟨w1,e1,h1,f1⟩:=h.setNow 0
 obtain ⟨w2,e2,h2,f2⟩:=h1.setFirst 0
 obtain ⟨w3,e3,h3,f3⟩:=h2.setRd false
 obtain ⟨w4,e4,h4,f4⟩:=h3.setRs true
 have H4:=zhz (show Sv w4 s c.anew∧Fr (fun k=>k=s) w w4 from ⟨h4,f1.trans (f2.trans (f3.trans f4))⟩)
 have k0:=h.c0
 have k1:=h1.c1
 have k2:=h2.c2
 have k3:=h3.c3
 have q0:=h.wr
 have q1:=h1.wr
 have q2:=h2.wr
 have q3:=h3.wr
 clear h h1 h2 h3 h4 f1 f2 f3 f4
 go_enter Tryz.func47,Tryz.ntmps47
 go_wp2
 go_end0
 exact ⟨rfl,H4.out⟩
end
section
variable {w w' W:World} {s:Nat} {c:SvC} {rs:List RuZ} {zf:Nat→List Int} {Ks:List CnN}
def kv (c:SvC) (j:Nat):Value:=c.K.getD j (.pointer none)
theorem zk4 (hK:c.K.length=16) {j:Nat} (hj:j<16):c.K[j]?=some (kv c j):=by
 rw [zge (by omega)]
 show _=some (c.K.getD j _)
 rw [List.getD_eq_getElem?_getD,zge (by omega)];rfl
theorem index16 (f:Nat→Value) (w:World):∀ (i:Nat),i<16→(Instr.index 57 (.agg #[f 0,f 1,f 2,f 3,f 4,f 5,f 6,f 7,f 8,f 9,f 10,f 11,f 12,f 13,f 14,f 15]) (.int .i64 (i:Int))).run Tryz.prog w=.ok (f i) w
 | 0,_=>by kernel_rfl
 | 1,_=>by kernel_rfl
 | 2,_=>by kernel_rfl
 | 3,_=>by kernel_rfl
 | 4,_=>by kernel_rfl
 | 5,_=>by kernel_rfl
 | 6,_=>by kernel_rfl
 | 7,_=>by kernel_rfl
 | 8,_=>by kernel_rfl
 | 9,_=>by kernel_rfl
 | 10,_=>by kernel_rfl
 | 11,_=>by kernel_rfl
 | 12,_=>by kernel_rfl
 | 13,_=>by kernel_rfl
 | 14,_=>by kernel_rfl
 | 15,_=>by kernel_rfl
 | n+16,h=>absurd h (by omega)
theorem zmZ (hK:c.K=Ks.map pcC++svZ.K.drop Ks.length) {i:Nat} (hi:i<Ks.length):∃ K,Ks[i]?=some K∧kv c i=pcC K:=by
 refine ⟨Ks[i],zge hi,?_⟩
 unfold kv
 rw [hK,List.getD_eq_getElem?_getD,List.getElem?_append_left (by rw [List.length_map];exact hi),List.getElem?_map,zge hi]
 rfl
theorem zmY (hK:c.K=Ks.map pcC++svZ.K.drop Ks.length) {i:Nat} (hi:Ks.length≤i):kv c i=.pointer none:=by
 unfold kv
 rw [hK,List.getD_eq_getElem?_getD,List.getElem?_append_right (by rw [List.length_map];exact hi),List.length_map,List.getElem?_drop]
 show (Option.getD ((List.replicate 16 (Value.pointer none))[Ks.length+(i - Ks.length)]?) (Value.pointer none))=_
 rw [List.getElem?_replicate]
 split <;> rfl
theorem zhv (seeds:Value) (On:Nat) (hOn:1≤On∧On≤65536) (w:World) (h:Sv w s c) (hm:c.many=(rs.length:Int)) (ho:c.out=(On:Int)) (hl:rs.length≤8) (hp:∀ r ∈ rs,r.p)
  (hR:∀ (i:Nat) r,rs[i]?=some r→∀ j,j<9→c.R[i*9+j]?=r.c[j]?) (hK:c.K=Ks.map pcC++svZ.K.drop Ks.length) (hKl:Ks.length≤16)
  (hd:∀ (i:Nat) r wx,rs[i]?=some r→Fr (fun k=>k=s) w wx→Calls Tryz.prog 66 #[seeds,.int .i64 (i:Int),.int .i64 (3*(r.Ro+1))] wx fun e w'=>∃ A n c,e=.returned (.slice A n c)∧RdI w' .u64 A n c (zf i)∧Below wx.heap.size wx w') :
  Calls Tryz.prog 49 #[.pointer (some ⟨s,0,none⟩),seeds] w fun e w'=>e=.returned (.tuple #[])∧∃ (Ns':List LmN) (Ks':List CnN),Sv w' s { c with J:=Ns'.map pcL++c.J.drop rs.length,K:=Ks'.map pcC++svZ.K.drop Ks.length }∧KdAt w' w.heap.size Ks' (List.replicate Ks.length cZ)∧JdAt w' w.heap.size Ns' (rsZ rs)∧(∀ (k:Nat) r N,rs[k]?=some r→Ns'[k]?=some N→LmR r (zf k) N)∧(∀ (k:Nat) K,Ks'[k]?=some K→K.size=On∧K.rules=(rs.length:Int)) ∧
   (∀ (i j:Nat) N K,Ns'[i]?=some N→Ks'[j]?=some K→∀ b,N.all b→¬ K.F b)∧Fr (fun k=>k=s) w w':=by
 have q (j:Nat) (hj:j<16):w.cell? ⟨s,86+j,none⟩=some (kv c j):=(h.cK hj).trans (zk4 h.hK hj)
 have k0:w.cell? ⟨s,86,none⟩=some (kv c 0):=q 0 (by omega)
 have k1:w.cell? ⟨s,87,none⟩=some (kv c 1):=q 1 (by omega)
 have k2:w.cell? ⟨s,88,none⟩=some (kv c 2):=q 2 (by omega)
 have k3:w.cell? ⟨s,89,none⟩=some (kv c 3):=q 3 (by omega)
 have k4:w.cell? ⟨s,90,none⟩=some (kv c 4):=q 4 (by omega)
 have k5:w.cell? ⟨s,91,none⟩=some (kv c 5):=q 5 (by omega)
 have k6:w.cell? ⟨s,92,none⟩=some (kv c 6):=q 6 (by omega)
 have k7:w.cell? ⟨s,93,none⟩=some (kv c 7):=q 7 (by omega)
 have k8:w.cell? ⟨s,94,none⟩=some (kv c 8):=q 8 (by omega)
 have k9:w.cell? ⟨s,95,none⟩=some (kv c 9):=q 9 (by omega)
 have k10:w.cell? ⟨s,96,none⟩=some (kv c 10):=q 10 (by omega)
 have k11:w.cell? ⟨s,97,none⟩=some (kv c 11):=q 11 (by omega)
 have k12:w.cell? ⟨s,98,none⟩=some (kv c 12):=q 12 (by omega)
 have k13:w.cell? ⟨s,99,none⟩=some (kv c 13):=q 13 (by omega)
 have k14:w.cell? ⟨s,100,none⟩=some (kv c 14):=q 14 (by omega)
 have k15:w.cell? ⟨s,101,none⟩=some (kv c 15):=q 15 (by omega)
 have H0:=zhz h
 clear q h
 go_enter Tryz.func49,Tryz.ntmps49
 go_wp2
 clear k0 k1 k2 k3 k4 k5 k6 k7 k8 k9 k10 k11 k12 k13 k14 k15
 obtain ⟨Cn,hCn⟩:=zeq (Ks.length)
 have HC:=zhz hCn
 clear hCn
 go_loopg [10] 16 (fun kk si wr=>∃ (i:Nat) (Ks':List CnN),i≤16∧Hid (kk=16 - i)∧si=.int .i64 (i:Int)∧Hid (Ks'.length=min i Cn)∧Hid (Sv wr s { c with K:=Ks'.map pcC++c.K.drop (min i Cn) })∧Hid (KdAt wr w.heap.size Ks' (List.replicate (min i Cn) cZ))∧Hid (∀ (k:Nat) K,Ks'[k]?=some K→K.size=On∧K.rules=(rs.length:Int))∧Hid (Fr (fun k=>k=s) w wr))
 case atStart=>exact ⟨0,[],by omega,zhz rfl,rfl,zhz (by simp),zhz (by have:=H0.out;rw [show min 0 Cn=0 by omega,List.drop_zero,List.map_nil,List.nil_append];exact this),zhz (by rw [show min 0 Cn=0 by omega];exact KdAt.nil _ _),zhz (fun k K h=>by simp at h),zhz (Fr.refl _ _)⟩
 case round =>
  obtain ⟨i,Ks',hi,HKK,rfl,HNL,HS,HK',HPs,HF⟩:=hrel
  by_cases hin:i<16
  ·have t1:(i:Int)<16:=by omega
   have t2:¬ (i:Int)<0:=by omega
   have HIN:=zhz hin
   clear hin
   have hix:=index16 (kv c) wr i HIN.out
   by_cases hc:i<Cn
   rotate_left
   ·have hv:kv c i=.pointer none:=zmY hK (by have:=HC.out;omega)
    rw [hv] at hix
    have HNC:=zhz hc
    clear hv hc
    go_wp2
    go_roundg (16 - (i+1))
    case measure=>have:=HKK.out;have:=HIN.out;omega
    case rel=>exact ⟨i+1,Ks',HIN.out,zhz rfl,by go_num,zhz (by rw [HNL.out];have:=HNC.out;omega),zhz (by rw [show min (i+1) Cn=min i Cn by have:=HNC.out;omega];exact HS.out),zhz (by rw [show min (i+1) Cn=min i Cn by have:=HNC.out;omega];exact HK'.out),HPs,HF⟩
   obtain ⟨K0,_,hv⟩:=zmZ (i:=i) hK (by have:=HC.out;omega)
   rw [hv] at hix
   have HNC:=zhz hc
   have hmin:min i Cn=i:=by omega
   rw [hmin] at HNL HS HK'
   clear hv hc hmin
   have ST:=zhz (fun wx K' (hx:Sv wx s { c with K:=K' })=>show wx.cell? ⟨s,4,none⟩=some (.int .i64 (On:Int))∧wx.cell? ⟨s,5,none⟩=some (.int .i64 (rs.length:Int)) from ⟨by rw [← ho];exact hx.c4,by rw [← hm];exact hx.c5⟩)
   have HI16:=HIN
   go_upto_region 4 with (fail)
   clear hix
   have N0:=zhz (show Below wr.heap.size wr wr.drew from zaa (Below.refl _ _) 1)
   have CC:=zhz (zf1 (rs.length:Int) On hOn.1 hOn.2 wr.drew)
   have st:=ST.out _ _ (HS.out.keep N0.out)
   refine wp_region_held_drew (S:=fun wx=>wx.cell? ⟨s,4,none⟩=some (.int .i64 (On:Int))∧wx.cell? ⟨s,5,none⟩=some (.int .i64 (rs.length:Int))) (by kernel_rfl) st (fun hHeld=>?_)
   clear st
   refine wR 0 ?_
   refine wR 1 ?_
   refine wR 2 ?_
   refine wR 3 ?_
   refine wR 4 ?_
   refine wR 5 ?_
   refine wR 6 ?_
   refine wR 7 ?_
   refine wR 8 ?_
   refine wR 9 ?_
   refine wR 11 ?_
   refine wR 12 ?_
   refine wC 10 fun K hK=>?_
   go_simp
   ((with_reducible refine CC.out.mono ?_);rintro v w2 ⟨Kn,rfl,p1,p2,a2,l2,b2⟩;have N2:=zhz (G.below_on N0.out b2);have A2:=zhz a2;have P2:=zhz (And.intro p1 p2);have L2:=zhz (show ∀ b,Kn.F b→wr.heap.size≤b from fun b hb=>Nat.le_trans N0.out.size (l2 b hb));have S2:=HS.out.keep N2.out;have kw:=S2.wr;have kJ:=S2.cK HI16.out;obtain ⟨v0,hv0⟩:∃ v0,c.K[i]?=some v0:=⟨_,zk4 H0.out.hK HI16.out⟩;replace kJ:=kJ.trans ((zk2 HNL.out).trans hv0);have S2:=zhz S2;clear a2 p1 p2 l2 b2 hv0)
   refine hK.out _ _ (ST.out _ _ (HS.out.keep N2.out)) fun hHeld=>?_
   clear hK K
   try simp only [Act.put,zs1,zs2,zs3]
   refine wR 13 ?_
   refine wC 14 fun K hK=>?_
   go_simp
   (obtain ⟨w5,e5,h5,f5⟩:=S2.out.setK HI16.out (pcC Kn);(try rw [e5]);have S4x:=zhz h5;have F5:=zhz f5;clear e5 h5 f5 kw kJ)
   refine hK.out _ _ (ST.out _ _ S4x.out) fun hHeld=>?_
   clear hK K
   try simp only [Act.put,zs1,zs2,zs3]
   refine wpAnyH_done (by kernel_rfl) ?_ _
   clear hHeld
   have hsl:s<w.heap.size:=H0.out.lt
   have FW:=zhz (show Fr (fun k=>k=s) w w5 from HF.out.trans (((Fr.of_below N2.out).mono (fun k (hk:False)=>hk.elim)).trans F5.out))
   have J5:=zhz (show KdAt w5 w.heap.size (Ks'++[Kn]) (List.replicate (i+1) cZ) from by
    rw [show List.replicate (i+1) cZ=List.replicate i cZ++[cZ] from List.replicate_succ']
    refine ((HK'.out.keep N2.out).fr F5.out (fun k M hM b hb e=>by have:=HK'.out.lo k M hM b hb;omega)).snoc (A2.out.fr F5.out (fun b hb e=>by have:=L2.out b hb;have:=HF.out.size;omega)) (fun b hb=>by have:=L2.out b hb;have:=HF.out.size;omega) (fun k M hM b hb h2=>by have:=HK'.out.lt hM b hb;have:=L2.out b h2;omega))
   have P5:=zhz (show ∀ (k:Nat) K',(Ks'++[Kn])[k]?=some K'→K'.size=On∧K'.rules=(rs.length:Int) from fun k K' hN'=>by
    rcases zay hN' with ⟨q1,q2⟩ | ⟨q1,q2⟩
    ·exact HPs.out k K' q2
    ·rw [q2];exact P2.out)
   have S5:=zhz (show Sv w5 s { c with K:=(Ks'++[Kn]).map pcC++c.K.drop (i+1) } from by
    have:=S4x.out
    rw [show ({ c with K:=Ks'.map pcC++c.K.drop i }:SvC).K=Ks'.map pcC++c.K.drop i from rfl,zk3 (J:=c.K) HNL.out (show i<c.K.length from by rw [H0.out.hK];exact HI16.out) Kn] at this
    exact this)
   have hi8:(i:Int)<16:=by have:=HI16.out;omega
   clear hsl
   go_wp2
   go_roundg (16 - (i+1))
   case measure=>have:=HKK.out;have:=HIN.out;omega
   case rel=>exact ⟨i+1,Ks'++[Kn],HIN.out,zhz rfl,by go_num,zhz (by rw [List.length_append,HNL.out];have:=HNC.out;show i+1=_;omega),zhz (by rw [show min (i+1) Cn=i+1 by have:=HNC.out;omega];exact S5.out),zhz (by rw [show min (i+1) Cn=i+1 by have:=HNC.out;omega];exact J5.out),P5,FW⟩
  ·have hie:i=16:=by omega
   subst hie
   have hmin:min 16 Cn=Cn:=by have:=HC.out;omega
   rw [hmin] at HNL HS HK'
   have CJ:=zhz (zcR (rs:=rs) (zf:=zf) seeds wr HS.out hm hl hp hR (fun k r wx hk hf=>hd k r wx hk (HF.out.trans hf)))
   clear hin hmin
   go_wp2_with (go_at_call 37;((with_reducible refine CJ.out.mono ?_);rintro v w6 ⟨rfl,Ns,s6,j6,p6,f6⟩;have S6:=zhz s6;have J6:=zhz j6;have P6:=zhz p6;have F6:=zhz f6;clear s6 j6 p6 f6))
   go_end0
   have hsl:s<w.heap.size:=H0.out.lt
   have hsz:w.heap.size≤wr.heap.size:=HF.out.size
   have hdr:c.K.drop Cn=svZ.K.drop Ks.length:=by
    rw [HC.out,hK,List.drop_append,List.drop_of_length_le (by rw [List.length_map];omega),List.length_map,Nat.sub_self]
    simp
   refine ⟨rfl,Ns,Ks',?_,?_,J6.out.mono hsz,P6.out,HPs.out,fun k l N K hN hK b hb hb2=>by have:=J6.out.lo k N hN b hb;have:=HK'.out.lt hK b hb2;omega,HF.out.trans F6.out⟩
   ·have:=S6.out
    rw [hdr] at this
    exact this
   ·rw [← HC.out]
    exact HK'.out.fr F6.out (fun k M hM b hb e=>by have:=HK'.out.lo k M hM b hb;omega)
end
section
variable {w w' W:World} {s base:Nat} {c:SvC} {rs:List RuZ} {zf:Nat→List Int} {Ns:List LmN} {Ss:List LmS} {Ks:List CnN} {σs:List CnS}
structure SvOk (c:SvC) (rs:List RuZ) (On:Nat):Prop where
 o:c.out=(On:Int)
 m:c.many=(rs.length:Int)
 on:1≤On∧On≤65536
 l:1≤rs.length∧rs.length≤8
 p:∀ r ∈ rs,r.p
 R:∀ (i:Nat) r,rs[i]?=some r→∀ j,j<9→c.R[i*9+j]?=r.c[j]?
def SvC.fresh (c:SvC) (ck:Int) (Ns:List LmN) (Ks:List CnN):SvC:={ (c.anew.read ck).end with J:=Ns.map pcL++svZ.J.drop Ns.length,K:=Ks.map pcC++svZ.K.drop Ks.length }
theorem zeP (ck cn n:Int) (dat seeds:Value) {On:Nat} (hok:SvOk c rs On) (w:World) (h:SvAt w base s c Ns Ss Ks σs) (hNs:Ns.length=rs.length) (hKs:Ks.length≤16)
  (hd:∀ (i:Nat) r wx,rs[i]?=some r→Fr (fun k=>k=s) w wx→Calls Tryz.prog 66 #[seeds,.int .i64 (i:Int),.int .i64 (3*(r.Ro+1))] wx fun e w'=>∃ A n c,e=.returned (.slice A n c)∧RdI w' .u64 A n c (zf i)∧Below wx.heap.size wx w') :
  Calls Tryz.prog 20 #[.pointer (some ⟨s,0,none⟩),actV 4 ck cn dat n seeds] w fun e w'=>e=.returned (stepV 0)∧∃ (Ns':List LmN) (Ks':List CnN),SvAt w' base s (c.fresh ck Ns' Ks') Ns' (rsZ rs) Ks' (List.replicate Ks.length cZ)∧Ks'.length=Ks.length∧(∀ (k:Nat) r N,rs[k]?=some r→Ns'[k]?=some N→LmR r (zf k) N)∧(∀ (k:Nat) K,Ks'[k]?=some K→K.size=On∧K.rules=(rs.length:Int))∧(∀ b,((∃ (i:Nat) (N:LmN),Ns'[i]?=some N∧N.all b)∨∃ (k:Nat) (K:CnN),Ks'[k]?=some K∧K.F b)→w.heap.size≤b)∧Fr (fun k=>k=s) w w':=by
 obtain ⟨w1,hw1,k1,b1,s1⟩:=zad w (actC 4 ck cn dat n seeds) 42
 obtain ⟨w2,hw2,k2,b2,s2⟩:=zad w1 #[.int .i64 0,.int .i64 0,.slice none 0 0,.slice none 0 0] 46
 have HLT:=zhz (show s<w.heap.size from h.sv.lt)
 obtain ⟨ab,hab⟩:=zeq (w.heap.size)
 obtain ⟨rb,hrb⟩:=zeq (w1.heap.size)
 rw [← hab] at k1
 rw [← hrb] at k2
 have HA:=zhz hab
 have HR:=zhz hrb
 have HSZ:=zhz (show w.heap.size≤ab∧ab<rb∧rb<w2.heap.size from by rw [hrb,hab,s2,s1];omega)
 obtain ⟨w3,e3,h3,f3⟩:=((h.sv.keep b1).keep b2).setAc true
 have H3:=zhz h3
 have F3:=zhz (show Fr (fun k=>k=s) w w3 from ((Fr.of_below (show Below w.heap.size w w2 from b1.trans (b2.mono b1.size))).mono (fun k (hk:False)=>hk.elim)).trans f3)
 have K1:=zhz ((k1.keep b2).fr f3 (fun e=>by have h1:=HLT.out;have h2:=HSZ.out;omega))
 have K2:=zhz (k2.fr f3 (fun e=>by have h1:=HLT.out;have h2:=HSZ.out;omega))
 have kA:=((h.sv.keep b1).keep b2).cA
 have kw:=((h.sv.keep b1).keep b2).wr
 have kr:=K1.out.rd
 have H0:=zhz h
 have HD:=zhz hd
 have HOK:=zhz hok
 have HKL:=zhz (And.intro hNs hKs)
 clear h k1 k2 b1 b2 s1 s2 h3 f3 hd hok hNs hKs
 go_enter_defers Tryz.func20,Tryz.ntmps20
 go_upto_region 1 with (fail)
 rw [← HR.out,← HA.out]
 clear hw1 hab hrb
 go_upto_region 6 with (fail)
 try rw [e3]
 clear hw2 e3 kA kw kr
 have CRs:=zhz (fun wx (hx:Sv wx s { c with ac:=true })=>zdZ wx hx)
 go_upto_region 7 with (go_at_call 47;((with_reducible refine (CRs.out _ H3.out).mono ?_);rintro v w4 ⟨rfl,h4,f4⟩;have H4:=zhz h4;have K14:=zhz (K1.out.fr f4 (fun e=>by have h1:=HLT.out;have h2:=HSZ.out;omega));have K24:=zhz (K2.out.fr f4 (fun e=>by have h1:=HLT.out;have h2:=HSZ.out;omega));have F4:=zhz (F3.out.trans f4);clear h4 f4))
 clear K1 K2 CRs
 have N0:=zhz (show Below w4.heap.size w4 w4.drew from zaa (Below.refl _ _) 1)
 have CRd:=zhz (fun wx (hx:Sv wx s ({ c with ac:=true }:SvC).anew)=>zby ck wx hx)
 have st:=(K14.out.keep N0.out).rd
 refine wp_region_held_drew (S:=fun wx=>∀ j,wx.cell? ⟨ab,j,none⟩=(actC 4 ck cn dat n seeds)[j]?) (by kernel_rfl) st (fun hHeld=>?_)
 clear st
 refine wR 0 ?_ (hQ:=by exact putD (fn:=Tryz.f20) rfl (by decide))
 refine wR 1 ?_ (hQ:=by exact putD (fn:=Tryz.f20) rfl (by decide))
 refine wR 2 ?_ (hQ:=by exact putD (fn:=Tryz.f20) rfl (by decide))
 refine wR 3 ?_ (hQ:=by exact putD (fn:=Tryz.f20) rfl (by decide))
 refine wR 4 ?_ (hQ:=by exact putD (fn:=Tryz.f20) rfl (by decide))
 refine wC 5 fun K hK=>?_
 go_simp
 ((with_reducible refine (CRd.out _ (H4.out.keep N0.out)).mono ?_);rintro v w5 ⟨rfl,h5,f5⟩;have H5:=zhz h5;have K5:=zhz ((K14.out.keep N0.out).fr f5 (fun e=>by have h1:=HLT.out;have h2:=HSZ.out;omega));have R5:=zhz ((K24.out.keep N0.out).fr f5 (fun e=>by have h1:=HLT.out;have h2:=HSZ.out;omega));have F5:=zhz (show Fr (fun k=>k=s) w w5 from F4.out.trans (((Fr.of_below N0.out).mono (fun k (hk:False)=>hk.elim)).trans f5));clear h5 f5)
 refine hK.out _ _ K5.out.rd fun hHeld=>?_
 clear hK K
 try simp only [Act.put,zs1,zs2,zs3]
 refine wpAnyH_done (by kernel_rfl) ?_ _
 clear hHeld CRd K14 K24
 have CAn:=zhz (zhv (rs:=rs) (zf:=zf) (Ks:=Ks) seeds On HOK.out.on w5 H5.out HOK.out.m HOK.out.o HOK.out.l.2 HOK.out.p HOK.out.R H0.out.cK HKL.out.2 (fun i r wx hi hf=>HD.out i r wx hi (F5.out.trans hf)))
 have kr:=K5.out.rd
 go_upto_region 9 with (go_at_call 49;((with_reducible refine CAn.out.mono ?_);rintro v w6 ⟨rfl,Ns',Ks',s6,k6,j6,p6,q6,x6,f6⟩;have S6:=zhz s6;have KK6:=zhz k6;have JJ6:=zhz j6;have P6:=zhz (And.intro p6 q6);have X6:=zhz x6;have R6:=zhz (R5.out.fr f6 (fun e=>by have h1:=HLT.out;have h2:=HSZ.out;omega));have F6:=zhz (F5.out.trans f6);have F56:=zhz f6;clear s6 k6 j6 p6 q6 x6 f6))
 clear CAn kr
 have kz:=R6.out.rd
 have kzw:=R6.out.wr
 go_wp2
 rw [zaj R6.out]
 have fe:=Fr.setObj (F:=fun k=>k=rb) (Fr.refl _ w6) rfl (.cells #[.int .i64 0,.int .i64 0,.slice none 0 0,.slice none 0 0] 46 (0,0))
 have k7:Blk (setObj w6 rb (.cells #[.int .i64 0,.int .i64 0,.slice none 0 0,.slice none 0 0] 46 (0,0))) rb 46 #[.int .i64 0,.int .i64 0,.slice none 0 0,.slice none 0 0]:=zab (lt_of_block R6.out) _
 generalize setObj w6 rb (.cells #[.int .i64 0,.int .i64 0,.slice none 0 0,.slice none 0 0] 46 (0,0))=w7 at fe k7 ⊢
 have hsz:w.heap.size≤w5.heap.size:=F5.out.size
 have hrb5:rb<w5.heap.size:=lt_of_block R5.out
 have H7:=S6.out.fr fe (fun e=>by have h1:=HLT.out;have h2:=HSZ.out;omega)
 refine leaves_cons (f:=46) (args:=#[.pointer (some ⟨s,0,none⟩)]) (by simp) (by simp [go_sem]) ?_
 refine (zbx .returning _ H7).mono ?_
 rintro e u' w8 ⟨rfl,rfl,h8,f8⟩
 refine ⟨_,results_cell_row rfl _ _ rb _ _ (0,0) _ rfl (Blk.fr k7 f8 (fun e=>by have h1:=HLT.out;have h2:=HSZ.out;omega)) Tryz.underlying46 rfl (by kernel_rfl),rfl,Ns',Ks',?_,?_,P6.out.1,P6.out.2,?_,?_⟩
 ·have hlnN:Ns'.length=rs.length:=by rw [JJ6.out.ln];simp [rsZ]
  have hlnK:Ks'.length=Ks.length:=by rw [KK6.out.ln];simp
  have hbs:base≤s:=H0.out.lo
  have hNJ:∀ (i:Nat) N,Ns'[i]?=some N→∀ b,N.all b→w5.heap.size≤b:=JJ6.out.lo
  have hNK:∀ (i:Nat) K,Ks'[i]?=some K→∀ b,K.F b→w5.heap.size≤b:=KK6.out.lo
  have hs5:s<w5.heap.size:=by have:=HLT.out;omega
  refine ⟨?_,((JJ6.out.fr fe (fun i N hN b hb e=>by have:=hNJ i N hN b hb;omega)).fr f8 (fun i N hN b hb e=>by have:=hNJ i N hN b hb;omega)).mono (by omega),((KK6.out.fr fe (fun i N hN b hb e=>by have:=hNK i N hN b hb;omega)).fr f8 (fun i N hN b hb e=>by have:=hNK i N hN b hb;omega)).mono (by omega),rfl,rfl,hbs,fun i N hN hb=>by have:=hNJ i N hN s hb;omega,fun i K hK hb=>by have:=hNK i K hK s hb;omega,X6.out⟩
  have hcJ:c.J.drop rs.length=svZ.J.drop Ns'.length:=by
   rw [H0.out.cJ,hlnN,HKL.out.1,List.drop_append,List.drop_of_length_le (by rw [List.length_map,HKL.out.1];omega),List.length_map,HKL.out.1,Nat.sub_self]
   simp
  have h9:=h8
  rw [show ((({ c with ac:=true }:SvC).anew.read ck).J.drop rs.length)=svZ.J.drop Ns'.length from hcJ,← hlnK] at h9
  exact h9
 ·rw [KK6.out.ln];simp
 ·rintro b (⟨i,N,hN,hb⟩ | ⟨k,K,hK,hb⟩)
  ·exact Nat.le_trans F5.out.size (JJ6.out.lo i N hN b hb)
  ·exact Nat.le_trans F5.out.size (KK6.out.lo k K hK b hb)
 ·exact Fr.drop_new (F:=fun k=>k=s) (s:=rb) ((F6.out.mono (fun k hk=>Or.inl hk)).trans ((fe.mono (fun k hk=>Or.inr hk)).trans (f8.mono (fun k hk=>Or.inl hk)))) (by have h2:=HSZ.out;omega)
end
section
variable {w w' W:World}
variable {base s ob:Nat} {c:SvC} {Ns:List LmN} {Ss:List LmS} {Ks:List CnN} {σs:List CnS}
end
section
variable {w w' W:World} {s base:Nat} {c:SvC} {rs:List RuZ} {Ns:List LmN} {Ks:List CnN}
theorem zmX (h:c.K=Ks.map pcC++svZ.K.drop Ks.length) (hl:Ks.length=3):∀ j,3≤j→j<16→c.K[j]?=some (.pointer none):=by
 intro j h3 h16
 rw [h,List.getElem?_append_right (by rw [List.length_map];omega),List.length_map,List.getElem?_drop]
 show (List.replicate 16 (Value.pointer none))[Ks.length+(j - Ks.length)]?=_
 rw [List.getElem?_replicate,if_pos (by omega)]
end
end Go.Proofs.YtannniobeanhlaaGreat
