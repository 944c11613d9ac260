import Derived.Test.YtambcbbekoehiaaGreatZSvW
set_option linter.unusedSimpArgs false
set_option linter.unusedVariables false
set_option maxRecDepth 100000
set_option maxHeartbeats 9000000
namespace Go.Proofs.YtambcbbekoehiaaGreat
open Go.ChangeShapes Go.WideShapes Go.ChangeAt Go.RowKit
theorem zhu {F U W B L t cost x1 x2 x3 x4 x5:Int} {sm:Bool} (h:R9o F 0 U W B L t) (h0:F≤5000000000000000000) (hc:1≤cost∧cost≤B) (b:Nat) (w:World) (ha:R9.CAt w b F (t - W) 0 0):Calls Tryz.prog 35 #[.pointer (some ⟨b,0,none⟩),R9.rvV L W B x1 x2 x3 x4 x5 sm,.int .i64 t,.int .i64 cost] w fun e w'=>∃ (D':Int),e=.returned (.bool (decide (cost≤baseP F U B t)))∧R9.CAt w' b (exF F U B t cost) (t - W) 0 D'∧R9o (exF F U B t cost) D' U W B L t∧Fr (fun k=>k=b) w w':=by
 have er:R9.room F (t - W) 0 0 U W B L t=baseP F U B t:=zgu (by omega)
 have hF:=h.F
 have ht:=h.t
 have hb:=h.r.bu (k:=cost) (by omega) hc.2
 have hL:=h.r.L
 have hBL:=h.r.B
 by_cases hle:cost≤baseP F U B t
 ·refine (R9.take_yes x1 x2 x3 x4 x5 sm h.r h.ce hc.1 (by rw [er];exact hle) b w ha).mono ?_
  rintro e w' ⟨rfl,h1,h2⟩
  have ef:exF F U B t cost=max F t+cost*U:=if_pos hle
  rw [ef,decide_eq_true hle]
  exact ⟨0+cost,rfl,h1,⟨h.r,by omega,by omega,ht⟩,h2⟩
 ·refine (R9.take_no x1 x2 x3 x4 x5 sm h.r h.ce hc.1 (by rw [er];omega) b w ha).mono ?_
  rintro e w' ⟨rfl,h1⟩
  have ef:exF F U B t cost=F:=if_neg hle
  rw [ef,decide_eq_false hle]
  exact ⟨0,rfl,Blk.keep ha h1,h,Fr.of_below h1⟩
theorem wholeexact_law (w:World) (a b c d e f g h:Int) (sm:Bool) (As:Option Addr) (ns cs:Nat) (zs:List Int) (A2:Option Addr) (n2 c2:Nat) (L:List Cl) (hpl:RuleOK a b c d e f g h) (hrs:RdI w .u64 As ns cs zs) (hr2:RdL w A2 n2 c2 4 encCl L) (hok:∀ a ∈ L,okCl a) :
  Calls Tryz.prog 5 #[planV a b c d e f g h sm,.slice As ns cs,.slice A2 n2 c2] w fun e w'=>e=.returned (.bool true)∧Below w.heap.size w w':=by
 have hmx2:=hr2.max
 unfold maxLen at hmx2
 have hcp2:=hr2.cap
 have HR2:=zhz hr2
 have HO:=zhz hok
 have HPL:=zhz hpl
 have HSD:=zhz hrs
 have hmxs:=hrs.max
 unfold maxLen at hmxs
 have hcps:=hrs.cap
 have hmm:=@run_makeMap Tryz.prog
 clear hr2 hok hpl hrs
 obtain ⟨w1,hw1,k1,l1',s1⟩:=zad w (planC a b c d e f g h sm) 72
 obtain ⟨pl,hpl⟩:=zeq (w.heap.size)
 rw [← hpl] at k1
 have K2:=zhz (And.intro k1 l1')
 have HB:=zhz hpl
 clear k1 l1' s1
 go_enter Tryz.func5,Tryz.ntmps5
 go_upto_region 1 with (fail)
 rw [← HB.out]
 clear hw1 hpl
 go_upto_region 3 with (go_at_call 14;((refine (zi8 _).mono ?_);rintro e w3 ⟨rfl,b3⟩;have K3:=zhz (And.intro (K2.out.1.keep b3) (zae K2.out.2 b3));clear b3))
 by_cases h50:(50:Int)<(ns:Int)
 ·go_wp2
  go_ret
  exact ⟨rfl,K3.out.2⟩
 have HN50:=zhz (show ns≤50 by omega)
 have CLi:=zhz (zfd A2 n2 c2 L w3 (HR2.out.below K3.out.2) HO.out)
 cases hlb:lightC L with
 | false =>
  rw [hlb] at CLi
  go_wp2_with (go_at_call 32;((with_reducible refine CLi.out.mono ?_);rintro e w4 ⟨rfl,b4⟩;have T4:=zhz (zae K3.out.2 b4);clear b4))
  go_ret
  exact ⟨rfl,T4.out⟩
 | true =>
 rw [hlb] at CLi
 have hlc:=zig hlb
 have HLK:=zhz hlc.2
 have hb2:(n2:Int)≤150:=by have h1:=hlc.1;have h2:=HR2.out.len;omega
 clear hlb hlc
 go_upto_region 5 with (go_at_call 32;((with_reducible refine CLi.out.mono ?_);rintro e w4 ⟨rfl,b4⟩;have K4:=zhz (And.intro (K3.out.1.keep b4) (zae K3.out.2 b4));clear b4))
 clear CLi h50
 have kp:=K4.out.1.rd
 obtain ⟨w5,hw5,k5,b5,s5⟩:=zad w4 (planC a b c d e f g h sm) 72
 obtain ⟨pb,hpb⟩:=zeq (w4.heap.size)
 rw [← hpb] at k5
 obtain ⟨lps,hlps⟩:∃ z:List RuZ,z=[⟨a,b,c,d,e,f,g,h,sm⟩]:=⟨_,rfl⟩
 have CF:=zhz (zgy [⟨a,b,c,d,e,f,g,h,sm⟩] 660 (some ⟨pb,0,none⟩) 1 1 0 rfl w5 (zkf k5 HPL.out))
 have HC0:=zhz (show confR lps=[planR ⟨a,b,c,d,e,f,g,h,sm⟩] from by rw [hlps];rfl)
 rw [← hlps] at CF
 have B5:=zhz (zae K4.out.2 b5)
 have HPB:=zhz hpb
 clear k5 b5 s5 hpb hlps
 go_upto_region 6 with (rw [← HPB.out];go_at_call 16;((with_reducible refine CF.out.mono ?_);rintro e w6 ⟨A',m',c',rfl,r6,z6,b6⟩;obtain ⟨x1,x2,ex1,kr,kw,ex2,b7,k7⟩:=box4K w6 (.int .i64 4294967296) (.int .i64 3) (.int .i64 660) (.slice A' m' c');have B7:=zhz (zae (zae B5.out b6) b7);have R7:=zhz (r6.below b7);have Z7:=zhz z6;have K7:=zhz k7;clear r6 z6 b6 b7 k7))
 try rw [ex2]
 clear ex1 kr kw ex2 hw5 kp CF
 obtain ⟨cb,hcb⟩:=zeq (w6.heap.size)
 rw [← hcb] at K7 ⊢
 clear hcb
 have kc:=K7.out.rd
 obtain ⟨r0,hr0⟩:=zeq (planR ⟨a,b,c,d,e,f,g,h,sm⟩)
 rw [← hr0] at HC0
 have HR0E:=zhz hr0
 clear hr0
 have hm1:1=m':=by have h9:=R7.out.len;rw [HC0.out] at h9;exact h9
 subst hm1
 obtain ⟨ra,off,hra,hrl,hrc⟩:=R7.out.at_ (by decide)
 subst hra
 have hrc0:∀ j,j<9→x2.cell? ⟨ra,off+j,none⟩=r0.c[j]?:=fun j hj=>by
  have h9:=hrc 0 (by rw [HC0.out];exact Nat.one_pos) j hj
  have e9:((confR lps)[0]'(by rw [HC0.out];exact Nat.one_pos))=r0:=by
   have h8:(confR lps)[0]?=some r0:=by rw [HC0.out];rfl
   exact (List.getElem?_eq_some_iff.1 h8).2
  rw [e9,Nat.zero_mul,Nat.add_zero] at h9
  exact h9
 have q0:x2.cell? ⟨ra,off,none⟩=some (.int .i64 r0.L):=hrc0 0 (by omega)
 have q1:x2.cell? ⟨ra,off+1,none⟩=some (.int .i64 r0.W):=hrc0 1 (by omega)
 have q2:x2.cell? ⟨ra,off+2,none⟩=some (.int .i64 r0.B):=hrc0 2 (by omega)
 have q3:x2.cell? ⟨ra,off+3,none⟩=some (.int .i64 r0.Sl):=hrc0 3 (by omega)
 have q4:x2.cell? ⟨ra,off+4,none⟩=some (.int .i64 r0.Ce):=hrc0 4 (by omega)
 have q5:x2.cell? ⟨ra,off+5,none⟩=some (.int .i64 r0.Ro):=hrc0 5 (by omega)
 have q6:x2.cell? ⟨ra,off+6,none⟩=some (.int .i64 r0.Wi):=hrc0 6 (by omega)
 have q7:x2.cell? ⟨ra,off+7,none⟩=some (.int .i64 r0.Tr):=hrc0 7 (by omega)
 have q8:x2.cell? ⟨ra,off+8,none⟩=some (.bool r0.sm):=hrc0 8 (by omega)
 obtain ⟨x3,hx3,k3,b3,s3⟩:=zad x2 #[.int .i64 r0.L,.int .i64 r0.W,.int .i64 r0.B,.int .i64 r0.Sl,.int .i64 r0.Ce,.int .i64 r0.Ro,.int .i64 r0.Wi,.int .i64 r0.Tr,.bool r0.sm] 53
 obtain ⟨rb,hrb⟩:=zeq (x2.heap.size)
 rw [← hrb] at k3
 have KR:=zhz k3
 have HRBE:=zhz hrb
 have B8:=zhz (zae B7.out b3)
 have R8:=zhz (R7.out.below b3)
 have K8:=zhz (K7.out.keep b3)
 clear k3 b3 s3 hrb hrc hrc0 hrl
 go_upto_region 7 with (fail)
 try rw [hx3]
 rw [← HRBE.out]
 clear hx3 q0 q1 q2 q3 q4 q5 q6 q7 q8 kc
 have kc:=K8.out.rd
 have HNW:=zhz (svnewN lps 660 (some ⟨ra,off,none⟩) 1 c' As ns cs zs x3 R8.out Z7.out (by omega) (by have:=HN50.out;omega) (HSD.out.below B8.out))
 go_upto_region 8 with (go_at_call 17;((with_reducible refine HNW.out.mono ?_);rintro e wa ⟨s,rfl,ha,ba⟩;have HA:=zhz ha;have BA:=zhz (zae B8.out ba);have KRA:=zhz (KR.out.keep ba);clear ha ba))
 clear HNW kc
 obtain ⟨base,hbase⟩:=zeq (x3.heap.size)
 obtain ⟨h0,hh0⟩:=zeq (wa.heap.size)
 have HRB:=zhz (show rb<base from by rw [hbase];exact lt_of_block KR.out)
 have HWB:=zhz (show w.heap.size≤base from by rw [hbase];exact B8.out.size)
 rw [← hbase] at HA
 obtain ⟨cc,Ns,Ks,hS,hsn,hlr,hk3⟩:=HA.out
 obtain ⟨N0,hN0⟩:∃ N,Ns[0]?=some N:=⟨_,List.getElem?_eq_getElem (by rw [hS.hn.nl,HC0.out];exact Nat.one_pos)⟩
 have hR0:(confR lps)[0]?=some r0:=by rw [HC0.out];rfl
 have hNn:N0.Q.N.n=r0.Ce.toNat:=(hlr 0 r0 N0 hR0 hN0).pC
 have HNN:=zhz hNn
 have HNB:=zhz (show N0.B=r0.B∧(N0.S.N.n:Int)=r0.Tr∧1≤r0.B∧(1≤r0.Tr∧r0.Tr≤8) from by
  have h9:=hlr 0 r0 N0 hR0 hN0
  have h10:=hS.hn.T 0 r0 N0 hR0 hN0
  have h11:=hS.hn.p r0 (List.mem_of_getElem? hR0)
  have h12:1≤lqT h∧lqT h≤8:=by unfold lqT;omega
  have h13:r0.Tr=((lqT h:Nat):Int):=by rw [HR0E.out];rfl
  unfold RuZ.p ruleP at h11
  exact ⟨h9.pB,h10,by omega,by omega⟩)
 have HNU:=zhz (show N0.W=r0.W∧N0.L=r0.L∧R9.Ru N0.U r0.W r0.B r0.L from by
  have h9:=hlr 0 r0 N0 hR0 hN0
  have e1:r0.L=lqL a:=by rw [HR0E.out];rfl
  have e2:r0.W=((lqS b*lqN d:Nat):Int):=by rw [HR0E.out];rfl
  have e3:r0.B=lqB a c:=by rw [HR0E.out];rfl
  have h4:1≤lqN d∧lqN d≤8:=by unfold lqN;omega
  have h5:1≤lqS b∧lqS b≤32:=by unfold lqS;omega
  have h6:1*1≤lqS b*lqN d:=Nat.mul_le_mul h5.1 h4.1
  have h7:lqS b*lqN d≤32*8:=Nat.mul_le_mul h5.2 h4.2
  have h8:=zcd a c
  have h10:1≤lqL a∧lqL a≤32:=by unfold lqL;omega
  refine ⟨h9.pW,h9.pL,⟨?_,by omega,by omega,by omega⟩⟩
  rw [h9.pU]
  exact zkB (by omega) (by omega))
 obtain ⟨K0,hK0⟩:∃ K,Ks[0]?=some K:=⟨_,List.getElem?_eq_getElem (by omega)⟩
 have HLT:=zhz (show ∀ x,svF s Ns Ks x→x<h0 from fun x hx=>by rw [hh0];exact hS.sv_lt x hx)
 have eo:onS 0 cZ=(0,⟨[],0,[],true⟩):=by unfold onS;rw [if_pos rfl];rfl
 have C1:=zhz (show Calls Tryz.prog 30 #[.pointer (some ⟨s,0,none⟩),actV 0 0 0 (.slice none 0 0) 0 (.slice none 0 0)] wa (fun e w'=>e=.returned (stepV 0)∧TxI w w' base s h0 lps Ns Ks N0 0 0 [] 0 (fun _=>none)∧Fr (inS base h0) wa w') from by
  have h9:=hS.plain 0 0 0 (by decide) 0 (.slice none 0 0) (.slice none 0 0) hK0 rfl (by decide) (fun h=>by rcases h with h | h <;> cases h)
  rw [eo] at h9
  refine h9.mono ?_
  rintro e w' ⟨rfl,g1,g2⟩
  have f:Fr (inS base h0) wa w':=g2.mono (fun b hb=>by
   have h9:svF s Ns Ks b:=by rcases hb with hb | hb;exact zgH hK0 (Or.inl hb);exact zgH hK0 (Or.inr (Or.inl hb))
   exact ⟨hS.sv_lo b h9,HLT.out b h9⟩)
  have hz:(rsZ (confR lps))[0]?=some (lmZ r0.Ce.toNat):=by rw [HC0.out];rfl
  exact ⟨rfl,⟨⟨_,_,_,g1,⟨hsn.rs,(show max cc.now 0≤0 by rw [hsn.now];decide)⟩,hz,LmX.new _ hNn⟩,hN0,HWB.out,HLT.out,by have:=f.size;omega,BA.out.trans (f.below BA.out.size (fun b hb=>Nat.le_trans HWB.out hb.1)),hk3⟩,f⟩)
 clear hbase hS hsn hlr hk3 hK0 hN0 hR0 eo hh0
 go_upto_region 9 with (go_at_call 30;((with_reducible refine C1.out.mono ?_);rintro e z1 ⟨rfl,g1,f1⟩;have T1:=zhz g1;have KR1:=zhz (KRA.out.fr f1 (fun hh=>by have h8:=hh.1;have h9:=HRB.out;omega));clear g1 f1))
 clear C1
 have hm0:Mp.MapS Tryz.prog 9 (z1.alloc (.map #[] 0)) z1.heap.size 0 (fun _=>none):=Mp.MapS.new (P:=Tryz.prog) (k:=9) z1
 obtain ⟨mb,hmb⟩:=zeq (z1.heap.size)
 rw [← hmb] at hm0
 have bl9:Below z1.heap.size z1 (z1.alloc (.map #[] 0)):=(Below.refl _ _).alloc (Nat.le_refl _) _
 have T2:=zhz (T1.out.keep bl9)
 have M2:=zhz (show GapM (z1.alloc (.map #[] 0)) mb (z1.alloc (.map #[] 0)).heap.size 0 (fun _=>none) (fun _=>none) from ⟨hm0,⟨hm0.lt,Nat.le_refl _⟩,(fun _ _=>rfl),(fun k v hv=>by cases hv),(fun k k' g _ hv=>by cases hv)⟩)
 have KR2:=zhz (KR1.out.keep bl9)
 have HMB:=zhz (show h0≤mb from by rw [hmb];exact T1.out.hs)
 have HME:=zhz hmb
 clear hm0 hmb bl9
 go_upto_region 10 with (fail)
 try rw [← HME.out]
 clear hmm
 go_upto_region 12 with (fail)
 generalize z1.alloc (.map #[] 0)=z2 at T2 M2 KR2 ⊢
 obtain ⟨gb,hgb'⟩:=zeq (z2.heap.size)
 rw [← hgb'] at M2
 have HGBM:=zhz (show mb<gb from M2.out.lo.1)
 clear hgb'
 go_loopg [12,51] n2 (fun kk sn si wr=>∃ (i cn:Nat) (now:Int) (V:ByteArray→Option Value) (Gm:ByteArray→Option Int),i≤n2∧Hid (kk=n2 - i)∧sn=.int .i64 now∧si=.int .i64 (i:Int)∧Hid (0≤now∧now≤1023*(i:Int))∧Hid (TxI w wr base s h0 lps Ns Ks N0 now (75*2097153*(i:Int)) [] cn Gm)∧Hid (GapM wr mb gb cn V Gm)∧Hid (cn≤i)∧Hid (Blk wr rb 53 #[.int .i64 r0.L,.int .i64 r0.W,.int .i64 r0.B,.int .i64 r0.Sl,.int .i64 r0.Ce,.int .i64 r0.Ro,.int .i64 r0.Wi,.int .i64 r0.Tr,.bool r0.sm]))
 case atStart=>exact ⟨0,0,0,_,_,by omega,zhz rfl,rfl,rfl,zhz (by omega),zhz (by rw [show 75*2097153*((0:Nat):Int)=0 by omega];exact T2.out),M2,zhz (Nat.le_refl _),KR2⟩
 case round =>
  obtain ⟨i,cn,now,V,Gm,hi,HKK,rfl,rfl,HNOW,HT,HM,HCN,HKR⟩:=hrel
  by_cases hin:i<n2
  ·have HBL:=zhz HT.out.bl
   have hl2:=HR2.out.len
   obtain ⟨b',off',rfl,hbl,hcl⟩:=(HR2.out.below HBL.out).at_ (by omega)
   obtain ⟨⟨gp,cs,ky,pk⟩,ha⟩:∃ a,L[i]?=some a:=⟨_,List.getElem?_eq_getElem (by omega)⟩
   have HKY:=zhz (HLK.out _ (List.mem_of_getElem? ha))
   have kr0:wr.cell? ⟨b',off'+i*4,none⟩=some (.int .i64 gp):=hcl i _ ha 0 (by omega)
   have kr1:wr.cell? ⟨b',off'+i*4+1,none⟩=some (.int .i64 cs):=hcl i _ ha 1 (by omega)
   have kr2:wr.cell? ⟨b',off'+i*4+2,none⟩=some (.string ky):=hcl i _ ha 2 (by omega)
   have kr3:wr.cell? ⟨b',off'+i*4+3,none⟩=some (.bool pk):=hcl i _ ha 3 (by omega)
   obtain ⟨y1,y2,ey1,kr,kw,ey2,bl2,kc2⟩:=box4C wr (.int .i64 gp) (.int .i64 cs) (.string ky) (.bool pk)
   obtain ⟨bx,hbx⟩:=zeq (wr.heap.size)
   rw [← hbx] at kc2
   have T3:=zhz (HT.out.keep bl2)
   have M3:=zhz (HM.out.keep bl2)
   have KR3:=zhz (HKR.out.keep bl2)
   have HBX:=zhz (show bx=wr.heap.size∧h0≤bx∧mb≠bx from ⟨hbx,by rw [hbx];exact HT.out.hs,fun e=>by have:=HM.out.mp.lt;omega⟩)
   have KC:=zhz kc2
   have CG:=zhz (fun wx=>zjH gp wx)
   have hgb:=zlm gp
   obtain ⟨gq,hgq⟩:=zeq (gapL gp)
   rw [← hgq] at CG hgb
   obtain ⟨t',ht'⟩:=zeq (now+gq)
   have et:IntKind.i64.wrap (now+gq)=t':=by have h1:=HNOW.out;rw [IntKind.wrap_i64];omega
   have HTT:=zhz (show now≤t'∧0≤t'∧t'≤1023*((i:Int)+1)∧t'<4611686018427387904 from by have h1:=HNOW.out;omega)
   have t2:(i:Int)<(n2:Int):=by omega
   have HIN:=zhz hin
   clear hl2 hcl hbl bl2 kc2 hbx hin ha hgq ht' hgb
   go_upto_region 14 with (fail)
   try rw [ey2]
   rw [← HBX.out.1]
   clear kr0 kr1 kr2 kr3 ey1 kr kw ey2
   have kx:=KC.out.rd
   have krb:=KR3.out.rd
   go_upto_region 15 with (go_at_call 33;((with_reducible refine (CG.out _).mono ?_);rintro v y3 ⟨rfl,rfl⟩))
   clear CG et
   obtain ⟨cz,hcz⟩:=zeq (cs % 32)
   have em:bits .and .i64 cs 31=cz:=by rw [hcz];exact zbO _
   obtain ⟨cr,hcr⟩:=zeq (cz % r0.B)
   have hBp:=HNB.out.2.2.1
   have erem:Int.tmod cz r0.B=cr:=by rw [hcr,Int.tmod_eq_emod_of_nonneg (by omega)]
   have tm0:¬ r0.B=0:=by omega
   obtain ⟨dz,hdz⟩:=zeq (cr+1)
   have hcr1:0≤cr∧cr<r0.B∧cr≤31:=⟨by rw [hcr];exact Int.emod_nonneg _ (by omega),by rw [hcr];exact Int.emod_lt_of_pos _ (by omega),by
    rcases Int.lt_or_le cz r0.B with h1 | h1
    ·rw [hcr,Int.emod_eq_of_lt (by omega) h1];omega
    ·have h2:cr<r0.B:=by rw [hcr];exact Int.emod_lt_of_pos _ (by omega)
     omega⟩
   have edz:IntKind.i64.wrap (cr+1)=dz:=by rw [IntKind.wrap_i64];omega
   have HDZ:=zhz (show (1≤dz∧dz≤32)∧dz≤N0.B from by have:=HNB.out.1;omega)
   have ecv:IntKind.u32.wrap dz=dz:=by have:=HDZ.out;rw [IntKind.wrap_u32];omega
   clear hcz hcr hBp hdz hcr1
   have hlk:=M3.out.mp.look Tryz.underlying9 Tryz.underlying75 (z:=.pointer none) (by kernel_rfl) (show ky.size≤maxLen from by have:=HKY.out;unfold maxLen;omega)
   obtain ⟨pp0,hp0,hpn⟩:∃ p:Option Addr,(V ky).getD (.pointer none)=.pointer p∧(p=none ↔ V ky=none):=by
    cases hv:V ky with
    | none=>exact ⟨none,rfl,by simp⟩
    | some v =>
     obtain ⟨g,F,S,D,e1,_⟩:=M3.out.row ky v hv
     exact ⟨some ⟨g,0,none⟩,e1,by simp⟩
   rw [hp0] at hlk
   have HP0:=zhz (And.intro hp0 hpn)
   clear hp0 hpn
   have kx2:=KC.out.rd
   go_upto_region 16 with (fail)
   clear em erem tm0 edz
   go_upto_if 72 with (fail)
   clear hlk
   obtain ⟨fr,hfr⟩:∃ z:Bool,z=pp0.isNone:=⟨_,rfl⟩
   rw [← hfr]
   have HFR:=zhz (show fr=true ↔ V ky=none from by rw [hfr,← HP0.out.2];simp)
   have HWR:=zhz (show wr.heap.size=bx∧gb≤wr.heap.size from ⟨HBX.out.1.symm,HM.out.lo.2⟩)
   clear hfr
   go_cut [16] from 72 to 158 (fun s16 wx=>∃ (g c2:Nat) (F S D:Int) (V2:ByteArray→Option Value),s16=pcV g∧Hid (F=(Gm ky).getD t')∧Hid (V2 ky=some (pcV g))∧Hid (R9.CAt wx g F S 0 D)∧Hid (GapM wx mb gb c2 V2 (updG Gm ky F))∧Hid (c2=(if (Gm ky).isSome then cn else cn+1))∧Hid (Gm ky≠none∨cn<N0.Q.N.n)∧Hid (Fr (fun k=>k=mb) y2 wx)∧Hid (g≠bx))
   case first =>
    cases hv:V ky with
    | none =>
     have hfr:fr=true:=HFR.out.2 hv
     subst hfr
     have hG:Gm ky=none:=M3.out.no ky hv
     have hlen:=M3.out.mp.len Tryz.underlying75
     by_cases hfull:(cn:Int)=r0.Ce
     ·clear hv hG
      go_wp2
      go_ret
      exact ⟨rfl,T3.out.bl⟩
     ·have HFL:=zhz (show cn<N0.Q.N.n from by
       have h1:=HNN.out
       have h2:=T3.out.st
       obtain ⟨_,_,σx,_,_,_,hX⟩:=h2
       have h3:=hX.ct
       have h5:0≤r0.Ce:=by rw [HR0E.out];exact Int.natCast_nonneg _
       have h4:¬ cn=r0.Ce.toNat:=fun q=>hfull (by omega)
       omega)
      obtain ⟨wn,hwn,kn,bn,sn⟩:=zad y2 #[.int .i64 t',.int .i64 0,.int .i64 0,.int .i64 0] 81
      have hgm:y2.heap.size≠mb:=by have:=M3.out.mp.lt;omega
      obtain ⟨z3,hst,m1,f1⟩:=(M3.out.keep bn).mp.store Tryz.underlying9 Tryz.underlying75 (show cn<maxLen from by have h1:=HCN.out;have h2:=HIN.out;unfold maxLen;omega) (s:=ky) (by have:=HKY.out;unfold maxLen;omega) (pcV y2.heap.size)
      have m2:Mp.MapS Tryz.prog 9 z3 mb (cn+1) (fun x=>if x=ky then some (pcV y2.heap.size) else V x):=by rw [hv] at m1;exact m1
      have c3:R9.CAt z3 y2.heap.size t' 0 0 0:=Blk.fr kn f1 hgm
      have f3:Fr (fun j=>j=mb) y2 z3:=((Fr.of_below bn).mono (fun k (hk:False)=>hk.elim)).trans f1
      have MM:=zhz (M3.out.put (k:=ky) (Or.inr ⟨hv,Nat.le_refl _⟩) m2 (f3.mono (fun k hk=>Or.inr hk)) c3)
      have HN:=zhz (show R9.CAt z3 y2.heap.size t' 0 0 0∧Fr (fun k=>k=mb) y2 z3∧y2.heap.size≠bx from ⟨c3,f3,by have:=lt_of_block KC.out;omega⟩)
      have kcn:=(KC.out.keep bn).rd
      clear kn bn sn m1 m2 f1 c3 f3 hgm
      have dfull:decide ((cn:Int)=r0.Ce)=false:=by rw [decide_eq_false_iff_not];exact hfull
      go_wp2
      go_meet
      case rel=>exact ⟨_,cn+1,t',0,0,_,rfl,zhz (by rw [hG];rfl),zhz (if_pos rfl),zhz HN.out.1,MM,zhz (by rw [hG];rfl),zhz (Or.inr HFL.out),zhz HN.out.2.1,zhz HN.out.2.2⟩
    | some v =>
     have hfr:fr=false:=by cases hf:fr;rfl;rw [HFR.out.1 hf] at hv;cases hv
     subst hfr
     obtain ⟨g,F,S,D,rfl,e2,e3,e4⟩:=M3.out.row ky v hv
     have ep:pp0=some ⟨g,0,none⟩:=by
      have:=HP0.out.1
      rw [hv] at this
      injection this with this
      exact this.symm
     subst ep
     obtain ⟨g1,_,_,_,q1,_,_,q4⟩:=HM.out.row ky _ hv
     have HN:=zhz (show g≠bx from by have:=zdU q1;have:=lt_of_block q4;have:=HWR.out.1;omega)
     have E4:=zhz e4
     have eu:updG Gm ky F=Gm:=by funext z;unfold updG;split;rename_i hz;rw [hz,e2];rfl
     clear q4 e4
     go_wp2
     go_meet
     case rel=>exact ⟨g,cn,F,S,D,V,rfl,zhz (by rw [e2];rfl),zhz hv,E4,zhz (by rw [eu];exact M3.out),zhz (by rw [e2];rfl),zhz (Or.inl (by rw [e2];simp)),zhz (Fr.refl _ _),HN⟩
   case rest =>
   obtain ⟨g,cn2,F,S0,D0,V2,rfl,HF,HV2,HCA,HGP,HC2,HROOM,HFY,HGX⟩:=hcut
   obtain ⟨yc,rfl⟩:=zeq (wc)
   clear HP0 krb
   have HRM0:=zhz (show rb<mb from by have h8:=HRB.out;have h9:=HMB.out;have h10:=T1.out.st;obtain ⟨_,_,_,h11,_⟩:=h10;have h12:=h11.at_.lo;have h13:=HLT.out s (Or.inl rfl);omega)
   have T9:=zhz (T3.out.own HFY.out (fun b hb=>by rw [show b=mb from hb];exact HMB.out))
   have HRM:=zhz (show rb≠mb from Nat.ne_of_lt HRM0.out)
   have KR9:=zhz (KR3.out.fr HFY.out HRM.out)
   have KC9:=zhz (KC.out.fr HFY.out (fun e=>HBX.out.2.2 e.symm))
   have HGB:=zhz (show gb≤g from HGP.out.ge (Or.inl HV2.out))
   have HFB:=zhz (show 0≤F∧F≤t'+1099511627776 from by
    rw [HF.out]
    have h1:=HTT.out
    cases hG:Gm ky with
    | none=>show 0≤t'∧t'≤_;omega
    | some F1 =>
     have:=HT.out.bd (by have:=HNOW.out;omega) hG
     show 0≤F1∧F1≤_
     omega)
   have kr9:=KR9.out.rd
   have HWB:=zhz (show 1≤r0.W∧r0.W≤1048576 from HNU.out.2.2.W)
   have ew:IntKind.i64.wrap (t' - r0.W)=t' - r0.W:=by rw [IntKind.wrap_i64];have h1:=HTT.out;have h2:=HWB.out;omega
   obtain ⟨ts,hts⟩:=zeq (t' - r0.W)
   rw [← hts] at ew
   have ew':t' - r0.W=ts:=hts.symm
   have HTS:=zhz hts
   clear hts
   obtain ⟨yd,ed,kd,fd⟩:=set13 HCA.out (.int .i64 ts) (.int .i64 0)
   have D11:=zhz (And.intro kd fd)
   have kg:=HCA.out.rd
   have kgw:=HCA.out.wr
   clear kd fd
   go_upto_region 23 with (fail)
   try rw [ed]
   clear ed kg kgw ew ew' kr9
   have HRG:=zhz (show rb≠g∧mb≠g∧h0≤g from by have h1:=HRM0.out;have h2:=HGBM.out;have h3:=HGB.out;have h4:=HMB.out;omega)
   have T11:=zhz (T9.out.own D11.out.2 (fun b hb=>by rw [show b=g from hb];exact HRG.out.2.2))
   have KR11:=zhz (KR9.out.fr D11.out.2 HRG.out.1)
   have KC11:=zhz (KC9.out.fr D11.out.2 (fun e=>HGX.out e.symm))
   have A11:=zhz (show R9.CAt yd g F ts 0 0 from D11.out.1)
   have HQB:=zhz (show 1≤dz∧dz≤r0.B from by have h1:=HDZ.out;have h2:=HNB.out.1;omega)
   have HRO:=zhz (show R9o F 0 N0.U r0.W r0.B r0.L t' from ⟨HNU.out.2.2,by have h1:=HFB.out;have h2:=HTT.out;omega,by omega,by have h2:=HTT.out;omega⟩)
   have CWt:=zhz (fun wx=>HRO.out.wait (x1:=r0.Sl) (x2:=r0.Ce) (x3:=r0.Ro) (x4:=r0.Wi) (x5:=r0.Tr) (sm:=r0.sm) (cost:=dz) HQB.out wx)
   rw [← HTS.out] at CWt
   obtain ⟨wt,hwt⟩:=zeq (exW F N0.U r0.B t' dz)
   rw [← hwt] at CWt
   have HWT:=zhz hwt
   clear hwt HCA
   go_cut [17] from 72 to 158 (fun s17 wx=>∃ wb:Nat,s17=.pointer (some ⟨wb,0,none⟩)∧Hid (Blk wx wb 84 #[.int .i64 1,.int .i64 0,.int .i64 wt])∧Hid (Below yd.heap.size yd wx)∧Hid (yd.heap.size≤wb))
   case first =>
    have NN0:=zhz (show Below yd.heap.size yd yd.drew from zaa (Below.refl _ _) 1)
    have ST:=zhz (fun wx (hb:Below yd.heap.size yd wx)=>show (∀ j,wx.cell? ⟨g,j,none⟩=(#[.int .i64 F,.int .i64 ts,.int .i64 0,.int .i64 0]:Array Value)[j]?)∧(∀ j,wx.cell? ⟨rb,j,none⟩=(#[.int .i64 r0.L,.int .i64 r0.W,.int .i64 r0.B,.int .i64 r0.Sl,.int .i64 r0.Ce,.int .i64 r0.Ro,.int .i64 r0.Wi,.int .i64 r0.Tr,.bool r0.sm]:Array Value)[j]?) from ⟨(Blk.keep A11.out hb).rd,(KR11.out.keep hb).rd⟩)
    have st:=ST.out _ NN0.out
    refine wp_region_held_drew (S:=fun wx=>(∀ j,wx.cell? ⟨g,j,none⟩=(#[.int .i64 F,.int .i64 ts,.int .i64 0,.int .i64 0]:Array Value)[j]?)∧(∀ j,wx.cell? ⟨rb,j,none⟩=(#[.int .i64 r0.L,.int .i64 r0.W,.int .i64 r0.B,.int .i64 r0.Sl,.int .i64 r0.Ce,.int .i64 r0.Ro,.int .i64 r0.Wi,.int .i64 r0.Tr,.bool r0.sm]:Array Value)[j]?)) (by kernel_rfl) st (fun hHeld=>?_)
    obtain ⟨W0,hW0⟩:=zeq (yd.drew)
    rw [← hW0] at NN0 hHeld ⊢
    clear st hW0
    refine wR 0 ?_
    refine wR 1 ?_
    refine wR 2 ?_
    refine wR 3 ?_
    refine wR 4 ?_
    refine wR 5 ?_
    refine wpAnyH_ready (rs:=[6,8]) (by kernel_rfl) (by simp) ?_
    refine AllReadyH.cons (o:=?_) ?_ ?_ ?_
    rotate_left 1
    ·simp only [List.getElem?_toArray,List.getElem?_cons_succ,List.getElem?_cons_zero];rfl
    focus
      intro K hK
      go_simp
      ((with_reducible refine (CWt.out _).mono ?_);rintro v W1 ⟨rfl,be⟩;have N1:=zhz (G.below_on NN0.out be);clear be)
      refine hK.out _ _ (ST.out _ N1.out) (fun hHeld=>?_)
      clear hK K
      try simp only [Act.put,zs1,zs2,zs3]
      refine wR 7 ?_
      refine wC 8 fun K hK=>?_
      go_simp
      (obtain ⟨W2,hw,kb,lb,sb⟩:=zad W1 #[.int .i64 0,.int .i64 0,.int .i64 0] 84;rw [hw];obtain ⟨wb,hwb⟩:=zeq (W1.heap.size);rw [← hwb] at kb ⊢;have N2:=zhz (G.below_on N1.out lb);have A2:=zhz kb;have HWB2:=zhz (show yd.heap.size≤wb from by rw [hwb];exact N1.out.size);clear hw kb lb sb hwb)
      refine hK.out _ _ (ST.out _ N2.out) fun hHeld=>?_
      clear hK K
      try simp only [Act.put,zs1,zs2,zs3]
      have ke:=A2.out.rd
      have kew:=A2.out.wr
      refine wC 9 fun K hK=>?_
      go_simp
      (rw [zal A2.out];have f4:=Fr.setObj (F:=fun b=>b=wb) (Fr.refl _ W2) rfl (.cells #[.int .i64 1,.int .i64 0,.int .i64 wt] 84 (0,0));have k4:Blk (setObj W2 wb (.cells #[.int .i64 1,.int .i64 0,.int .i64 wt] 84 (0,0))) wb 84 #[.int .i64 1,.int .i64 0,.int .i64 wt]:=zab (lt_of_block A2.out) _;generalize setObj W2 wb (.cells #[.int .i64 1,.int .i64 0,.int .i64 wt] 84 (0,0))=W4 at f4 k4 ⊢;have N4:=zhz (N2.out.trans (f4.below N2.out.size (fun k e=>by rw [e];exact HWB2.out)));have A4:=zhz k4;clear f4 k4 ke kew)
      refine hK.out _ _ (ST.out _ N4.out) fun hHeld=>?_
      clear hK K
      try simp only [Act.put,zs1,zs2,zs3]
      refine wpAnyH_done (by kernel_rfl) ?_ _
      clear hHeld
      go_wp2
      go_meet
      case rel=>exact ⟨wb,rfl,A4,N4,HWB2⟩
    rotate_left
    focus
      refine AllReadyH.cons (o:=?_) ?_ ?_ ?_
      rotate_left 1
      ·simp only [List.getElem?_toArray,List.getElem?_cons_succ,List.getElem?_cons_zero];rfl
      rotate_left 1
      ·exact AllReadyH.nil
      intro K hK
      go_simp
      (obtain ⟨W1,hw,kb,lb,sb⟩:=zad W0 #[.int .i64 0,.int .i64 0,.int .i64 0] 84;rw [hw];obtain ⟨wb,hwb⟩:=zeq (W0.heap.size);rw [← hwb] at kb ⊢;have N1:=zhz (G.below_on NN0.out lb);have A1:=zhz kb;have HWB2:=zhz (show yd.heap.size≤wb from by rw [hwb];exact NN0.out.size);clear hw kb lb sb hwb)
      refine hK.out _ _ (ST.out _ N1.out) (fun hHeld=>?_)
      clear hK K
      try simp only [Act.put,zs1,zs2,zs3]
      refine wC 6 fun K hK=>?_
      go_simp
      ((with_reducible refine (CWt.out _).mono ?_);rintro v W2 ⟨rfl,be⟩;have N2:=zhz (G.below_on N1.out be);have A2:=zhz (A1.out.keep be);clear be)
      refine hK.out _ _ (ST.out _ N2.out) fun hHeld=>?_
      clear hK K
      try simp only [Act.put,zs1,zs2,zs3]
      refine wR 7 ?_
      have ke:=A2.out.rd
      have kew:=A2.out.wr
      refine wC 9 fun K hK=>?_
      go_simp
      (rw [zal A2.out];have f4:=Fr.setObj (F:=fun b=>b=wb) (Fr.refl _ W2) rfl (.cells #[.int .i64 1,.int .i64 0,.int .i64 wt] 84 (0,0));have k4:Blk (setObj W2 wb (.cells #[.int .i64 1,.int .i64 0,.int .i64 wt] 84 (0,0))) wb 84 #[.int .i64 1,.int .i64 0,.int .i64 wt]:=zab (lt_of_block A2.out) _;generalize setObj W2 wb (.cells #[.int .i64 1,.int .i64 0,.int .i64 wt] 84 (0,0))=W4 at f4 k4 ⊢;have N4:=zhz (N2.out.trans (f4.below N2.out.size (fun k e=>by rw [e];exact HWB2.out)));have A4:=zhz k4;clear f4 k4 ke kew)
      refine hK.out _ _ (ST.out _ N4.out) fun hHeld=>?_
      clear hK K
      try simp only [Act.put,zs1,zs2,zs3]
      refine wpAnyH_done (by kernel_rfl) ?_ _
      clear hHeld
      go_wp2
      go_meet
      case rel=>exact ⟨wb,rfl,A4,N4,HWB2⟩
   case rest =>
   obtain ⟨wb,rfl,W12,HB12,HWBX⟩:=hcut
   obtain ⟨ye,rfl⟩:=zeq (wc)
   have T12:=zhz (T11.out.keep HB12.out)
   have KR12:=zhz (KR11.out.keep HB12.out)
   have KC12:=zhz (KC11.out.keep HB12.out)
   have A12:=zhz (show R9.CAt ye g F ts 0 0 from Blk.keep A11.out HB12.out)
   have F12:=zhz (show Fr (fun j=>j=g) yc ye from D11.out.2.trans ((Fr.of_below HB12.out).mono (fun k (hk:False)=>hk.elim)))
   have HNW:=zhz (show wb≠rb∧wb≠mb∧wb≠g∧wb≠bx∧yc.heap.size≤wb∧h0≤wb from by
    have h1:=HWBX.out
    have h2:=D11.out.2.size
    have h3:=HGP.out.mp.lt
    have h4:=lt_of_block KR11.out
    have h5:=lt_of_block A11.out
    have h6:=lt_of_block KC11.out
    have h7:=T11.out.hs
    exact ⟨by omega,by omega,by omega,by omega,by omega,by omega⟩)
   clear D11 A11 KR11 KC11 T11 T9 KR9 KC9 HB12 HWBX CWt
   have CTk:=zhz (zhu (x1:=r0.Sl) (x2:=r0.Ce) (x3:=r0.Ro) (x4:=r0.Wi) (x5:=r0.Tr) (sm:=r0.sm) (cost:=dz) HRO.out (by have h1:=HFB.out;have h2:=HTT.out;omega) HQB.out g ye (show R9.CAt ye g F (t' - r0.W) 0 0 from by rw [← HTS.out];exact A12.out))
   rw [← HTS.out] at CTk
   obtain ⟨bs,hbs⟩:=zeq (decide (dz≤baseP F N0.U r0.B t'))
   obtain ⟨F1,hF1⟩:=zeq (exF F N0.U r0.B t' dz)
   rw [← hF1,← hbs] at CTk
   have HBS1:=zhz (And.intro hbs hF1)
   clear hbs hF1
   have kr12:=KR12.out.rd
   go_upto_if 108 with (go_at_call 35;((with_reducible refine CTk.out.mono ?_);rintro v yf ⟨D1,rfl,a2,ro2,f2⟩;have T13:=zhz (T12.out.own f2 (fun b hb=>by rw [show b=g from hb];exact HRG.out.2.2));have KR13:=zhz (KR12.out.fr f2 HRG.out.1);have KC13:=zhz (KC12.out.fr f2 (fun e=>HGX.out e.symm));have A13:=zhz a2;have RO13:=zhz ro2;have W13:=zhz (W12.out.fr f2 HNW.out.2.2.1);have F13:=zhz (F12.out.trans f2);clear a2 ro2 f2))
   clear kr12 CTk A12 T12 KR12 KC12 W12
   obtain ⟨vv,hvv⟩:∃ z:Int,z=if bs=true then 1 else 2:=⟨_,rfl⟩
   have HVV:=zhz hvv
   clear hvv
   go_cut [] from 72 to 158 (fun wx=>Hid (Blk wx wb 84 #[.int .i64 vv,.int .i64 0,.int .i64 wt])∧Hid (Fr (fun j=>j=wb) yf wx))
   case first =>
    cases bs with
    | false =>
     obtain ⟨yg,ef,kf,ff⟩:=set1a W13.out (.int .i64 2)
     have hv2:vv=2:=HVV.out
     have KF:=zhz (And.intro kf ff)
     have kwb:=W13.out.rd
     have kww:=W13.out.wr
     clear kf ff
     go_wp2
     go_meet
     case rel=>(try rw [ef]);rw [hv2];exact ⟨zhz KF.out.1,zhz KF.out.2⟩
    | true =>
     have hv1:vv=1:=HVV.out
     go_wp2
     go_meet
     case rel=>rw [hv1];exact ⟨W13,zhz (Fr.refl _ _)⟩
   case rest =>
   obtain ⟨W14,FF14⟩:=hcut
   obtain ⟨yg,rfl⟩:=zeq (wc)
   have T14:=zhz (T13.out.own FF14.out (fun b hb=>by rw [show b=wb from hb];exact HNW.out.2.2.2.2.2))
   have KR14:=zhz (KR13.out.fr FF14.out (fun e=>HNW.out.1 e.symm))
   have KC14:=zhz (KC13.out.fr FF14.out (fun e=>HNW.out.2.2.2.1 e.symm))
   have A14:=zhz (show R9.CAt yg g F1 ts 0 D1 from Blk.fr A13.out FF14.out (fun e=>HNW.out.2.2.1 e.symm))
   have F14:=zhz (show Fr (fun j=>j=g) yc yg from Fr.drop_new ((F13.out.mono (fun k hk=>Or.inl hk)).trans (FF14.out.mono (fun k hk=>Or.inr hk))) HNW.out.2.2.2.2.1)
   clear T13 KR13 KC13 A13 W13 FF14
   have CRm:=zhz (fun wx=>RO13.out.room (x1:=r0.Sl) (x2:=r0.Ce) (x3:=r0.Ro) (x4:=r0.Wi) (x5:=r0.Tr) (sm:=r0.sm) wx)
   rw [← HTS.out] at CRm
   obtain ⟨rm,hrm⟩:=zeq (baseP F1 N0.U r0.B t')
   rw [← hrm] at CRm
   have HRMV:=zhz hrm
   clear hrm
   go_upto_region 26 with (fail)
   have NN0:=zhz (show Below yg.heap.size yg yg.drew from zaa (Below.refl _ _) 1)
   have ST:=zhz (fun wx (hg:R9.CAt wx g F1 ts 0 D1) (hr:Blk wx rb 53 #[.int .i64 r0.L,.int .i64 r0.W,.int .i64 r0.B,.int .i64 r0.Sl,.int .i64 r0.Ce,.int .i64 r0.Ro,.int .i64 r0.Wi,.int .i64 r0.Tr,.bool r0.sm])=>show (∀ j,wx.cell? ⟨g,j,none⟩=(#[.int .i64 F1,.int .i64 ts,.int .i64 0,.int .i64 D1]:Array Value)[j]?)∧(∀ j,wx.cell? ⟨rb,j,none⟩=(#[.int .i64 r0.L,.int .i64 r0.W,.int .i64 r0.B,.int .i64 r0.Sl,.int .i64 r0.Ce,.int .i64 r0.Ro,.int .i64 r0.Wi,.int .i64 r0.Tr,.bool r0.sm]:Array Value)[j]?) from ⟨(Blk.rd hg),hr.rd⟩)
   have st:=ST.out _ (Blk.keep A14.out NN0.out) (KR14.out.keep NN0.out)
   refine wp_region_held_drew (S:=fun wx=>(∀ j,wx.cell? ⟨g,j,none⟩=(#[.int .i64 F1,.int .i64 ts,.int .i64 0,.int .i64 D1]:Array Value)[j]?)∧(∀ j,wx.cell? ⟨rb,j,none⟩=(#[.int .i64 r0.L,.int .i64 r0.W,.int .i64 r0.B,.int .i64 r0.Sl,.int .i64 r0.Ce,.int .i64 r0.Ro,.int .i64 r0.Wi,.int .i64 r0.Tr,.bool r0.sm]:Array Value)[j]?)) (by kernel_rfl) st (fun hHeld=>?_)
   clear st
   refine wR 0 ?_
   refine wR 1 ?_
   refine wR 2 ?_
   refine wR 3 ?_
   refine wR 4 ?_
   refine wC 5 fun K hK=>?_
   go_simp
   ((with_reducible refine (CRm.out _).mono ?_);rintro v z3 ⟨rfl,be⟩;have N1:=zhz (G.below_on NN0.out be);have W16:=zhz (W14.out.keep N1.out);have kwr:=W16.out.rd;have kww:=W16.out.wr;clear be)
   refine hK.out _ _ (ST.out _ (Blk.keep A14.out N1.out) (KR14.out.keep N1.out)) fun hHeld=>?_
   clear hK K
   try simp only [Act.put,zs1,zs2,zs3]
   refine wR 6 ?_
   refine wC 7 fun K hK=>?_
   go_simp
   (obtain ⟨z4,e4,k4,f4⟩:=set1b W16.out (.int .i64 rm);(try rw [e4]);have W17:=zhz k4;have A17:=zhz (show R9.CAt z4 g F1 ts 0 D1 from Blk.fr (Blk.keep A14.out N1.out) f4 (fun e=>HNW.out.2.2.1 e.symm));have KR17:=zhz ((KR14.out.keep N1.out).fr f4 (fun e=>HNW.out.1 e.symm));have KC17:=zhz ((KC14.out.keep N1.out).fr f4 (fun e=>HNW.out.2.2.2.1 e.symm));have T17:=zhz ((T14.out.keep N1.out).own f4 (fun b hb=>by rw [show b=wb from hb];exact HNW.out.2.2.2.2.2));have F17:=zhz (show Fr (fun j=>j=g) yc z4 from Fr.drop_new ((F14.out.mono (fun k hk=>Or.inl hk)).trans (((Fr.of_below N1.out).mono (fun k (hk:False)=>hk.elim)).trans (f4.mono (fun k hk=>Or.inr hk)))) HNW.out.2.2.2.2.1);clear e4 k4 f4 kwr kww)
   refine hK.out _ _ (ST.out _ A17.out KR17.out) fun hHeld=>?_
   clear hK K
   try simp only [Act.put,zs1,zs2,zs3]
   refine wpAnyH_done (by kernel_rfl) ?_ _
   clear hHeld CRm
   have G17:=zhz (show GapM z4 mb gb cn2 V2 (updG Gm ky F1) from by
    have eV:(fun x=>if x=ky then some (pcV g) else V2 x)=V2:=by
     funext x
     split
     ·rename_i hx
      rw [hx];exact HV2.out.symm
     ·rfl
    have eG:updG (updG Gm ky F) ky F1=updG Gm ky F1:=by
     funext x
     unfold updG
     split <;> rfl
    have h:=HGP.out.put (k:=ky) (Or.inl HV2.out) (w':=z4) (F:=F1) (S:=ts) (D:=D1) (c':=cn2) (by rw [eV];exact HGP.out.mp.fr F17.out (fun e=>HRG.out.2.1 e)) (F17.out.mono (fun k hk=>Or.inl hk)) A17.out
    rw [eV,eG] at h
    exact h)
   clear A17 W14 T14 KR14 KC14 A14 F14 HGP F17
   obtain ⟨ox,hox⟩:=zeq (frmZ (ansZ 1 vv rm wt))
   have hlx:ox.length=22:=by rw [hox,zaY,zaP]
   have HOX:=zhz hox
   clear hox
   have eX:exC ((Gm ky).getD t') N0.U N0.B t' dz=(vv,rm,wt)∧exF ((Gm ky).getD t') N0.U N0.B t' dz=F1:=by
    have e0:N0.B=r0.B:=by have:=HNB.out.1;omega
    have e2:=HBS1.out.2
    have e3:vv=if dz≤baseP F N0.U r0.B t' then 1 else 2:=by rw [HVV.out,HBS1.out.1];simp only [decide_eq_true_eq]
    rw [← HF.out,e0]
    refine ⟨?_,e2.symm⟩
    unfold exC
    rw [← e2,← HRMV.out,← HWT.out,← e3]
   have EX:=zhz (And.intro eX hlx)
   clear eX hlx
   have HQ1:=zhz (show okQ (((confR lps).length:Nat):Int) (mkR 1 0 dz ky 0) from zkV (by rw [HC0.out];show (0:Int)≤0∧(0:Int)<1;decide) (by rw [HC0.out];show (1:Int)≤8;decide) (Or.inl rfl) HKY.out rfl (by have:=HDZ.out;omega))
   have CE:=zhz (fun wx=>zl1 (op:=1) (ru:=0) (co:=dz) (k:=0) (ky:=ky) (zcH (by rw [HC0.out];show (1:Int)≤256;decide) HQ1.out) (by have:=HDZ.out;omega) wx)
   have CK:=zhz (fun (wx:World) (g9 n1 c1:Nat) (hD:TxI w wx base s h0 lps Ns Ks N0 now (75*2097153*(i:Int)) [] cn Gm) (hz:RdI wx .u8 (some ⟨g9,0,none⟩) n1 c1 (encZ (mkR 1 0 dz ky 0))) (hg:h0≤g9)=>show Calls Tryz.prog 30 #[.pointer (some ⟨s,0,none⟩),actV 2 t' 0 (.slice (some ⟨g9,0,none⟩) n1 c1) 0 (.slice none 0 0)] wx (fun e w'=>∃ A4 n4 c4,e=.returned (stepQ 0 (n1:Int) none 0 0 A4 n4 c4)∧TxI w w' base s h0 lps Ns Ks N0 t' (75*2097153*(i:Int)+75*2097153) ox cn2 (updG Gm ky F1)∧byt ox∧ansP (vv,rm,wt)∧Fr (inS base h0) wx w') from by
    have h:=hD.check (ck:=t') ⟨HTT.out.1,HTT.out.2.2.2⟩ HTT.out.2.1 HKY.out ⟨HDZ.out.1.1,HDZ.out.2⟩ HROOM.out HQ1.out (by have:=HIN.out;omega) (some ⟨g9,0,none⟩) n1 c1 hz (fun b off _ e=>by injection e with e;injection e with e;exact Or.inr (by omega)) 0 (.slice none 0 0)
    rw [EX.out.1.1,EX.out.1.2,← HC2.out] at h
    dsimp only at h
    rw [← HOX.out] at h
    exact h)
   have kx:=KC17.out.rd
   go_upto_region 28 with (first
    | (go_at_call 37;((with_reducible refine (CE.out _).mono ?_);rintro v w14 ⟨g14,n14,c14,rfl,l14,r14,hg14,b14⟩;have R14:=zhz (And.intro r14 (show h0≤g14 from Nat.le_trans T17.out.hs hg14));have T4:=zhz (T17.out.keep b14);have G4:=zhz (G17.out.keep b14);have KR4:=zhz (KR17.out.keep b14);have W4:=zhz (W17.out.keep b14);clear l14 r14 hg14 b14))
    | (go_at_call 30;((with_reducible refine (CK.out _ _ _ _ T4.out R14.out.1 R14.out.2).mono ?_);rintro v w15 ⟨A5,n5,c5,rfl,g1,hx1,hx2,f1⟩;have T5:=zhz g1;have HX:=zhz (And.intro hx1 hx2);have G5:=zhz (G4.out.fr f1 (fun k hk=>⟨by have h8:=hk.2;have h9:=HMB.out;omega,Or.inl (by have h8:=hk.2;have h9:=HMB.out;have h10:=HGBM.out;omega)⟩));have KR5:=zhz (KR4.out.fr f1 (fun hh=>by have h8:=hh.1;have h9:=HRB.out;omega));have W5:=zhz (W4.out.fr f1 (fun hh=>by have h8:=hh.2;have h9:=HNW.out.2.2.2.2.2;omega));clear g1 f1 hx1 hx2)))
   clear CE CK ecv kx
   have CD:=zhz (T5.out.drain (ck:=t') ⟨Int.le_refl _,by have:=HTT.out;omega⟩ 99 (by have:=EX.out.2;omega) (by have:=EX.out.2;omega) HX.out.1 (by have:=HIN.out;omega) (.slice none 0 0) (.slice none 0 0))
   rw [EX.out.2] at CD
   go_upto_region 29 with (go_at_call 30;((with_reducible refine CD.out.mono ?_);rintro v w16 ⟨g6,d6,rfl,rfl,r6,t6,f6,hg6⟩;obtain ⟨q3,q4,eq3,kr,kw,eq4,b17,k17⟩:=box4S w16 (.int .i64 0) (.int .i64 0) (.slice (some ⟨g6,0,none⟩) 22 22) (.slice none 0 0);have T6:=zhz (t6.keep b17);have R6:=zhz (r6.below b17);have K17:=zhz k17;have G6:=zhz ((G5.out.fr f6 (fun k hk=>⟨by have h8:=hk.2;have h9:=HMB.out;omega,Or.inl (by have h8:=hk.2;have h9:=HMB.out;have h10:=HGBM.out;omega)⟩)).keep b17);have KR6:=zhz ((KR5.out.fr f6 (fun hh=>by have h8:=hh.1;have h9:=HRB.out;omega)).keep b17);have W6:=zhz ((W5.out.fr f6 (fun hh=>by have h8:=hh.2;have h9:=HNW.out.2.2.2.2.2;omega)).keep b17);clear r6 t6 f6 hg6 b17 k17))
   try rw [eq4]
   clear eq3 kr kw eq4 CD
   obtain ⟨ob,hob⟩:=zeq (w16.heap.size)
   rw [← hob] at K17 ⊢
   clear hob
   have ko:=K17.out.rd
   have CR:=zhz (zdg (by rw [← HOX.out];exact R6.out) (Or.inl rfl) HX.out.2.1 HX.out.2.2.1 HX.out.2.2.2)
   go_upto_region 30 with (go_at_call 38;((with_reducible refine CR.out.mono ?_);rintro e w18 ⟨rfl,b18⟩;obtain ⟨q5,q6,eq5,kr,kw,eq6,b19,k19⟩:=box12S w18 (.int .i64 1) (.int .i64 0) (.int .i64 vv) (.int .i64 rm) (.int .i64 wt) (.int .i64 0) (.int .i64 0) (.int .i64 0) (.int .i64 0) (.int .i64 0) (.slice none 0 0) (.int .i64 0);have K19:=zhz k19;have T7:=zhz ((T6.out.keep b18).keep b19);have G7:=zhz ((G6.out.keep b18).keep b19);have KR7:=zhz ((KR6.out.keep b18).keep b19);have W7:=zhz ((W6.out.keep b18).keep b19);have K18:=zhz ((K17.out.keep b18).keep b19);clear b18 b19 k19))
   try rw [eq6]
   clear eq5 kr kw eq6 CR ko
   obtain ⟨sb,hsb⟩:=zeq (w18.heap.size)
   rw [← hsb] at K19 ⊢
   clear hsb
   have ks:=K19.out.rd
   have kwb:=W7.out.rd
   have ko:=K18.out.rd
   have heq:∀ w,(Op.equalIn 10000 84 (.agg #[.int .i64 vv,.int .i64 rm,.int .i64 wt]) (.agg #[.int .i64 vv,.int .i64 rm,.int .i64 wt])).run Tryz.prog w=.ok true w:=fun w=>by rw [zd4];simp
   go_wp2
   go_roundg (n2 - (i+1))
   case measure=>have:=HKK.out;have:=HIN.out;omega
   case rel=>exact ⟨i+1,cn2,t',V2,_,HIN.out,zhz rfl,rfl,by go_num,zhz ⟨HTT.out.2.1,by have:=HTT.out.2.2.1;omega⟩,zhz (by rw [show 75*2097153*((i+1:Nat):Int)=75*2097153*(i:Int)+75*2097153 by omega];exact T7.out),G7,zhz (by have h1:=HC2.out;have h2:=HCN.out;split at h1 <;> omega),KR7⟩
  ·have hie:i=n2:=by omega
   subst hie
   have HBL:=zhz HT.out.bl
   go_wp2
   go_ret
   exact ⟨rfl,HBL.out⟩
end Go.Proofs.YtambcbbekoehiaaGreat
