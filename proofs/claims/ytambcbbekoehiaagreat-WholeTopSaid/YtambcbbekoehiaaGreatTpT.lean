import Derived.Test.YtambcbbekoehiaaGreatZSvW
set_option linter.unusedSimpArgs false
set_option linter.unusedVariables false
set_option maxRecDepth 100000
set_option maxHeartbeats 9000000
namespace Go.Proofs.YtambcbbekoehiaaGreat
open Go.ChangeShapes Go.WideShapes Go.ChangeAt Go.RowKit
theorem zkO {w:World} {g:Nat} {t:TypeId} (h:Blk w g t #[.int .u64 7]):RdI w .u64 (some ⟨g,0,none⟩) 1 1 [7] :=
 ⟨rfl,Nat.le_refl _,by unfold maxLen;omega,fun _=>⟨g,0,rfl,lt_of_block h,fun i hi=>by
  have h0:i=0:=by omega
  subst h0
  rw [Nat.zero_add,h.rd 0];rfl⟩,fun z hz=>by rw [List.mem_singleton.1 hz];decide⟩
theorem zhQ {α:Type} {l:List α} {i:Nat} {x:α} (h:l[i]?=some x):l.take (i+1)=l.take i++[x]:=by
 obtain ⟨h1,h2⟩:=List.getElem?_eq_some_iff.1 h
 rw [List.take_succ_eq_append_getElem h1,h2]
theorem zm7 {ru rules k:Int} (hr:0≤ru∧ru<rules) (h8:rules≤8) (hk:0≤k∧k≤255):okQ rules (mkR 4 ru 0 ⟨#[]⟩ k) :=
 ⟨⟨⟨hr.1,hr.2,by show ru≤255;omega⟩,Or.inr (Or.inr ⟨rfl,rfl,zfG,hk.1,hk.2⟩)⟩,(show (0:Int)≤0∧(0:Int)<4294967296 by decide),(zl8 (op:=3) hr h8 (Or.inl rfl)).2.2⟩
def enc3T (t:Tri):List Value:=[.string t.1,.int .i64 t.2.1,.int .i64 t.2.2]
theorem zbW (t:Tri):(enc3T t).length=3:=rfl
theorem zgh:∀ L:List Tri,cells3 (L.map triC)=rws enc3T L
 | []=>rfl
 | t :: L=>by
  show (triC t).cells++cells3 (L.map triC)=_
  rw [zgh L]
  simp [rws,enc3T,triC,CV.cells]
theorem zkS {A:Option Addr} {n c:Nat} {z:List Int} {L:List Tri} {w:World} (hn:n≤60000) (hr:RdI w .u8 A n c z) (hz:z=frmZ (topZ 0 (zs (L.map triC)))) (ho:oks (zs (L.map triC))):Calls Tryz.prog 38 #[.slice A n c] w fun e w'=>∃ (LA:Option Addr) (LC m:Nat),e=.returned (.tuple #[.agg #[.int .i64 4,.int .i64 0,.int .i64 0,.int .i64 0,.int .i64 0,.int .i64 0,.int .i64 0,.int .i64 0,.int .i64 0,.int .i64 0,.slice LA L.length LC,.int .i64 0],.int .i64 (m:Int),.bool true])∧OwR w' w.heap.size 121 3 enc3T (.slice LA L.length LC) L∧Below w.heap.size w w':=by
 have hl:z.length=n:=hr.len
 have h5:=zkR (zk3 (rule:=0) ho) (by have:=congrArg List.length hz;rw [zaU] at this;omega) []
 rw [List.append_nil,← hz] at h5
 refine ((zkQ A n c z w (by omega) hr).1 _ _ h5).mono ?_
 rintro e w' ⟨LA,LN,LC,rfl,⟨ls,hls,hrow⟩,hb⟩
 have e1:ls=L.map triC:=zjU hls
 subst e1
 rw [List.length_map,zgh] at hrow
 have hO:OwR w' w.heap.size 121 3 enc3T (.slice LA LN LC) L:=hrow
 obtain ⟨A',c',hv,_⟩:=hO.slice
 injection hv with _ h2 _
 subst h2
 exact ⟨LA,LC,_,rfl,hO,hb⟩
theorem wholetop_law (w:World) (a b c d e f g h:Int) (sm:Bool) (A2:Option Addr) (n2 c2:Nat) (L:List Cl) (kq:Int) (hpl:RuleOK a b c d e f g h) (hr2:RdL w A2 n2 c2 4 encCl L) (hok:∀ a ∈ L,okCl a) (hkq : -9223372036854775808≤kq∧kq≤9223372036854775807) :
  Calls Tryz.prog 10 #[planV a b c d e f g h sm,.slice A2 n2 c2,.int .i64 kq] w fun e w'=>e=.returned (.bool true)∧Below w.heap.size w w':=by
 have hmx2:=hr2.max
 unfold maxLen at hmx2
 have hcp2:=hr2.cap
 have HR2:=zhz hr2
 have HO:=zhz hok
 have HPL:=zhz hpl
 have HKQ:=zhz hkq
 have hmm:=@run_makeMap Tryz.prog
 clear hr2 hok hpl hkq
 obtain ⟨w1,hw1,k1,l1',s1⟩:=zad w (planC a b c d e f g h sm) 72
 obtain ⟨pl,hpl⟩:=zeq (w.heap.size)
 rw [← hpl] at k1
 have K2:=zhz (And.intro k1 l1')
 have HB:=zhz hpl
 clear k1 l1' s1
 go_enter Tryz.func10,Tryz.ntmps10
 go_upto_region 1 with (fail)
 rw [← HB.out]
 clear hw1 hpl
 go_upto_region 3 with (go_at_call 14;((refine (zjG _).mono ?_);rintro e w3 ⟨rfl,b3⟩;have K3:=zhz (And.intro (K2.out.1.keep b3) (zae K2.out.2 b3));clear b3))
 have CLi:=zhz (zfw A2 n2 c2 L w3 (HR2.out.below K3.out.2) HO.out)
 cases hlb:lightC L with
 | false =>
  rw [hlb] at CLi
  go_wp2_with (go_at_call 32;((with_reducible refine CLi.out.mono ?_);rintro e w4 ⟨rfl,b4⟩;have T4:=zhz (zae K3.out.2 b4);clear b4))
  go_ret
  exact ⟨rfl,T4.out⟩
 | true =>
 rw [hlb] at CLi
 have hlc:=ziK hlb
 have HLK:=zhz hlc.2
 have hb2:(n2:Int)≤150:=by have h1:=hlc.1;have h2:=HR2.out.len;omega
 clear hlb hlc
 go_upto_region 5 with (go_at_call 32;((with_reducible refine CLi.out.mono ?_);rintro e w4 ⟨rfl,b4⟩;have K4:=zhz (And.intro (K3.out.1.keep b4) (zae K3.out.2 b4));clear b4))
 clear CLi
 have kp:=K4.out.1.rd
 obtain ⟨w5,hw5,k5,b5,s5⟩:=zad w4 (planC a b c d e f g h sm) 72
 obtain ⟨pb,hpb⟩:=zeq (w4.heap.size)
 rw [← hpb] at k5
 obtain ⟨lps,hlps⟩:∃ z:List RuZ,z=[⟨a,b,c,d,e,f,g,h,sm⟩]:=⟨_,rfl⟩
 have CF:=zhz (zgR [⟨a,b,c,d,e,f,g,h,sm⟩] 660 (some ⟨pb,0,none⟩) 1 1 0 rfl w5 (zkP k5 HPL.out))
 have HC0:=zhz (show confR lps=[planR ⟨a,b,c,d,e,f,g,h,sm⟩] from by rw [hlps];rfl)
 rw [← hlps] at CF
 have B5:=zhz (zae K4.out.2 b5)
 have HPB:=zhz hpb
 clear k5 b5 s5 hpb hlps
 go_upto_region 6 with (rw [← HPB.out];go_at_call 16;((with_reducible refine CF.out.mono ?_);rintro e w6 ⟨A',m',c',rfl,r6,z6,b6⟩;obtain ⟨x1,x2,ex1,kr,kw,ex2,b7,k7⟩:=box4K w6 (.int .i64 4294967296) (.int .i64 3) (.int .i64 660) (.slice A' m' c');have B7:=zhz (zae (zae B5.out b6) b7);have R7:=zhz (r6.below b7);have Z7:=zhz z6;have K7:=zhz k7;clear r6 z6 b6 b7 k7))
 try rw [ex2]
 clear ex1 kr kw ex2 hw5 kp CF
 obtain ⟨cb,hcb⟩:=zeq (w6.heap.size)
 rw [← hcb] at K7 ⊢
 clear hcb
 have kc:=K7.out.rd
 obtain ⟨r0,hr0⟩:=zeq (planR ⟨a,b,c,d,e,f,g,h,sm⟩)
 rw [← hr0] at HC0
 have HR0E:=zhz hr0
 clear hr0
 have hm1:1=m':=by have h9:=R7.out.len;rw [HC0.out] at h9;exact h9
 subst hm1
 obtain ⟨ra,off,hra,hrl,hrc⟩:=R7.out.at_ (by decide)
 subst hra
 have hrc0:∀ j,j<9→x2.cell? ⟨ra,off+j,none⟩=r0.c[j]?:=fun j hj=>by
  have h9:=hrc 0 (by rw [HC0.out];exact Nat.one_pos) j hj
  have e9:((confR lps)[0]'(by rw [HC0.out];exact Nat.one_pos))=r0:=by
   have h8:(confR lps)[0]?=some r0:=by rw [HC0.out];rfl
   exact (List.getElem?_eq_some_iff.1 h8).2
  rw [e9,Nat.zero_mul,Nat.add_zero] at h9
  exact h9
 have q0:x2.cell? ⟨ra,off,none⟩=some (.int .i64 r0.L):=hrc0 0 (by omega)
 have q1:x2.cell? ⟨ra,off+1,none⟩=some (.int .i64 r0.W):=hrc0 1 (by omega)
 have q2:x2.cell? ⟨ra,off+2,none⟩=some (.int .i64 r0.B):=hrc0 2 (by omega)
 have q3:x2.cell? ⟨ra,off+3,none⟩=some (.int .i64 r0.Sl):=hrc0 3 (by omega)
 have q4:x2.cell? ⟨ra,off+4,none⟩=some (.int .i64 r0.Ce):=hrc0 4 (by omega)
 have q5:x2.cell? ⟨ra,off+5,none⟩=some (.int .i64 r0.Ro):=hrc0 5 (by omega)
 have q6:x2.cell? ⟨ra,off+6,none⟩=some (.int .i64 r0.Wi):=hrc0 6 (by omega)
 have q7:x2.cell? ⟨ra,off+7,none⟩=some (.int .i64 r0.Tr):=hrc0 7 (by omega)
 have q8:x2.cell? ⟨ra,off+8,none⟩=some (.bool r0.sm):=hrc0 8 (by omega)
 obtain ⟨x3,hx3,k3,b3,s3⟩:=zad x2 #[.int .i64 r0.L,.int .i64 r0.W,.int .i64 r0.B,.int .i64 r0.Sl,.int .i64 r0.Ce,.int .i64 r0.Ro,.int .i64 r0.Wi,.int .i64 r0.Tr,.bool r0.sm] 53
 obtain ⟨rb,hrb⟩:=zeq (x2.heap.size)
 rw [← hrb] at k3
 have KR:=zhz k3
 have HRBE:=zhz hrb
 have B8:=zhz (zae B7.out b3)
 have R8:=zhz (R7.out.below b3)
 have K8:=zhz (K7.out.keep b3)
 clear k3 b3 s3 hrb hrc hrc0 hrl
 go_upto_region 7 with (fail)
 try rw [hx3]
 rw [← HRBE.out]
 clear hx3 q0 q1 q2 q3 q4 q5 q6 q7 q8 kc
 have kc:=K8.out.rd
 obtain ⟨v5,hv5,k5,b5,s5⟩:=zad x3 #[.int .u64 7] 118
 obtain ⟨sdb,hsdb⟩:=zeq (x3.heap.size)
 rw [← hsdb] at k5
 have HSB:=zhz hsdb
 have BV:=zhz (zae B8.out b5)
 have RV:=zhz (R8.out.below b5)
 have KRV:=zhz (KR.out.keep b5)
 have HNW:=zhz (svnewN lps 660 (some ⟨ra,off,none⟩) 1 c' (some ⟨sdb,0,none⟩) 1 1 [7] v5 RV.out Z7.out (by omega) (by omega) (zkO k5))
 clear k5 b5 s5 hsdb
 go_upto_region 8 with (rw [← HSB.out];go_at_call 17;((with_reducible refine HNW.out.mono ?_);rintro e wa ⟨s,rfl,ha,ba⟩;have HA:=zhz ha;have BA:=zhz (zae BV.out ba);have KRA:=zhz (KRV.out.keep ba);have BX:=zhz ba;clear ha ba))
 clear HNW kc hv5 HSB
 obtain ⟨base,hbase⟩:=zeq (v5.heap.size)
 obtain ⟨h0,hh0⟩:=zeq (wa.heap.size)
 have HRB:=zhz (show rb<base from by rw [hbase];exact lt_of_block KRV.out)
 have HWB:=zhz (show w.heap.size≤base from by rw [hbase];exact BV.out.size)
 rw [← hbase] at HA
 obtain ⟨cc,Ns,Ks,hS,hsn,hlr,hk3⟩:=HA.out
 obtain ⟨N0,hN0⟩:∃ N,Ns[0]?=some N:=⟨_,List.getElem?_eq_getElem (by rw [hS.hn.nl,HC0.out];exact Nat.one_pos)⟩
 have hR0:(confR lps)[0]?=some r0:=by rw [HC0.out];rfl
 have HNB:=zhz (show N0.B=r0.B∧(N0.S.N.n:Int)=r0.Tr∧1≤r0.B∧(1≤r0.Tr∧r0.Tr≤8) from by
  have h9:=hlr 0 r0 N0 hR0 hN0
  have h10:=hS.hn.T 0 r0 N0 hR0 hN0
  have h11:=hS.hn.p r0 (List.mem_of_getElem? hR0)
  have h12:1≤lqT h∧lqT h≤8:=by unfold lqT;omega
  have h13:r0.Tr=((lqT h:Nat):Int):=by rw [HR0E.out];rfl
  unfold RuZ.p ruleP at h11
  exact ⟨h9.pB,h10,by omega,by omega⟩)
 obtain ⟨K0,hK0⟩:∃ K,Ks[0]?=some K:=⟨_,List.getElem?_eq_getElem (by omega)⟩
 have HLT:=zhz (show ∀ x,svF s Ns Ks x→x<h0 from fun x hx=>by rw [hh0];exact hS.sv_lt x hx)
 have eo:onS 0 cZ=(0,⟨[],0,[],true⟩):=by unfold onS;rw [if_pos rfl];rfl
 have C1:=zhz (show Calls Tryz.prog 30 #[.pointer (some ⟨s,0,none⟩),actV 0 0 0 (.slice none 0 0) 0 (.slice none 0 0)] wa (fun e w'=>e=.returned (stepV 0)∧TtI w w' base s h0 lps Ns Ks N0 0 0 [] (fun _=>none) 0 0 0∧Fr (inS base h0) wa w') from by
  have h9:=hS.plain 0 0 0 (by decide) 0 (.slice none 0 0) (.slice none 0 0) hK0 rfl (by decide) (fun h=>by rcases h with h | h <;> cases h)
  rw [eo] at h9
  refine h9.mono ?_
  rintro e w' ⟨rfl,g1,g2⟩
  have f:Fr (inS base h0) wa w':=g2.mono (fun b hb=>by
   have h9:svF s Ns Ks b:=by rcases hb with hb | hb;exact zek hK0 (Or.inl hb);exact zek hK0 (Or.inr (Or.inl hb))
   exact ⟨hS.sv_lo b h9,HLT.out b h9⟩)
  have hz:(rsZ (confR lps))[0]?=some (lmZ r0.Ce.toNat):=by rw [HC0.out];rfl
  exact ⟨rfl,⟨⟨_,_,_,g1,⟨hsn.rs,(show max cc.now 0≤0 by rw [hsn.now];decide)⟩,hz,rfl,⟨SSI.nil _,Nat.le_refl _,by omega,fun s=>Int.le_refl _⟩⟩,hN0,HWB.out,HLT.out,by have:=f.size;omega,BA.out.trans (f.below BA.out.size (fun b hb=>Nat.le_trans HWB.out hb.1)),hk3⟩,f⟩)
 clear hbase hS hsn hlr hk3 hK0 hN0 hR0 eo hh0
 go_upto_region 9 with (go_at_call 30;((with_reducible refine C1.out.mono ?_);rintro e z1 ⟨rfl,g1,f1⟩;have T1:=zhz g1;have KR1:=zhz (KRA.out.fr f1 (fun hh=>by have h8:=hh.1;have h9:=HRB.out;omega));clear g1 f1))
 clear C1
 have hm0:Mp.MapS Tryz.prog 9 (z1.alloc (.map #[] 0)) z1.heap.size 0 (liftH fun _=>none):=Mp.MapS.new (P:=Tryz.prog) (k:=9) z1
 obtain ⟨mb,hmb⟩:=zeq (z1.heap.size)
 rw [← hmb] at hm0
 have bl9:Below z1.heap.size z1 (z1.alloc (.map #[] 0)):=(Below.refl _ _).alloc (Nat.le_refl _) _
 have T2:=zhz (T1.out.keep bl9)
 have M2:=zhz hm0
 have KR2:=zhz (KR1.out.keep bl9)
 have HMB:=zhz (show h0≤mb from by rw [hmb];exact T1.out.hs)
 have HME:=zhz hmb
 clear hm0 hmb bl9
 go_upto_region 10 with (fail)
 try rw [← HME.out]
 clear hmm
 go_upto_region 12 with (fail)
 generalize z1.alloc (.map #[] 0)=z2 at T2 M2 KR2 ⊢
 go_loopg [12,13,50] n2 (fun kk sa sn si wr=>∃ (i cm:Nat) (now tot:Int) (H:ByteArray→Option Int),i≤n2∧Hid (kk=n2 - i)∧sa=.int .i64 tot∧sn=.int .i64 now∧si=.int .i64 (i:Int)∧Hid (0≤now∧now≤1023*(i:Int))∧Hid (TtI w wr base s h0 lps Ns Ks N0 now (75*2097153*(i:Int)) [] H tot cm i)∧Hid (Mp.MapS Tryz.prog 9 wr mb cm (liftH H))∧Hid (Blk wr rb 53 #[.int .i64 r0.L,.int .i64 r0.W,.int .i64 r0.B,.int .i64 r0.Sl,.int .i64 r0.Ce,.int .i64 r0.Ro,.int .i64 r0.Wi,.int .i64 r0.Tr,.bool r0.sm]))
 case atStart=>exact ⟨0,0,0,0,_,by omega,zhz rfl,rfl,rfl,rfl,zhz (by omega),zhz (by rw [show 75*2097153*((0:Nat):Int)=0 by omega];exact T2.out),M2,KR2⟩
 case round =>
  obtain ⟨i,cm,now,tot,H,hi,HKK,rfl,rfl,rfl,HNOW,HT,HM,HKR⟩:=hrel
  by_cases hin:i<n2
  ·have HBL:=zhz HT.out.bl
   have hl2:=HR2.out.len
   obtain ⟨b',off',rfl,hbl,hcl⟩:=(HR2.out.below HBL.out).at_ (by omega)
   obtain ⟨⟨gp,cs,ky,pk⟩,ha⟩:∃ a,L[i]?=some a:=⟨_,List.getElem?_eq_getElem (by omega)⟩
   have HKY:=zhz (HLK.out _ (List.mem_of_getElem? ha))
   have kr0:wr.cell? ⟨b',off'+i*4,none⟩=some (.int .i64 gp):=hcl i _ ha 0 (by omega)
   have kr1:wr.cell? ⟨b',off'+i*4+1,none⟩=some (.int .i64 cs):=hcl i _ ha 1 (by omega)
   have kr2:wr.cell? ⟨b',off'+i*4+2,none⟩=some (.string ky):=hcl i _ ha 2 (by omega)
   have kr3:wr.cell? ⟨b',off'+i*4+3,none⟩=some (.bool pk):=hcl i _ ha 3 (by omega)
   obtain ⟨y1,y2,ey1,kr,kw,ey2,bl2,kc2⟩:=box4C wr (.int .i64 gp) (.int .i64 cs) (.string ky) (.bool pk)
   obtain ⟨bx,hbx⟩:=zeq (wr.heap.size)
   rw [← hbx] at kc2
   have T3:=zhz (HT.out.keep bl2)
   have M3:=zhz (HM.out.keep bl2)
   have KR3:=zhz (HKR.out.keep bl2)
   have HBX:=zhz (show bx=wr.heap.size∧h0≤bx∧mb≠bx from ⟨hbx,by rw [hbx];exact HT.out.hs,fun e=>by have:=HM.out.lt;omega⟩)
   have KC:=zhz kc2
   have CG:=zhz (fun wx=>zke gp wx)
   have hgb:=zl0 gp
   obtain ⟨gq,hgq⟩:=zeq (gapL gp)
   rw [← hgq] at CG hgb
   obtain ⟨t',ht'⟩:=zeq (now+gq)
   have et:IntKind.i64.wrap (now+gq)=t':=by have h1:=HNOW.out;rw [IntKind.wrap_i64];omega
   have HTT:=zhz (show now≤t'∧0≤t'∧t'≤1023*((i:Int)+1)∧t'<4611686018427387904 from by have h1:=HNOW.out;omega)
   have t2:(i:Int)<(n2:Int):=by omega
   have HIN:=zhz hin
   clear hl2 hcl hbl bl2 kc2 hbx hin ha hgq ht' hgb
   go_upto_region 14 with (fail)
   try rw [ey2]
   rw [← HBX.out.1]
   clear kr0 kr1 kr2 kr3 ey1 kr kw ey2
   have kx:=KC.out.rd
   have krb:=KR3.out.rd
   go_upto_region 15 with (go_at_call 33;((with_reducible refine (CG.out _).mono ?_);rintro v y3 ⟨rfl,rfl⟩))
   clear CG et
   obtain ⟨cz,hcz⟩:=zeq (cs % 32)
   have em:bits .and .i64 cs 31=cz:=by rw [hcz];exact zbZ _
   obtain ⟨cr,hcr⟩:=zeq (cz % r0.B)
   have hBp:=HNB.out.2.2.1
   have erem:Int.tmod cz r0.B=cr:=by rw [hcr,Int.tmod_eq_emod_of_nonneg (by omega)]
   have tm0:¬ r0.B=0:=by omega
   obtain ⟨dz,hdz⟩:=zeq (cr+1)
   have hcr1:0≤cr∧cr<r0.B∧cr≤31:=⟨by rw [hcr];exact Int.emod_nonneg _ (by omega),by rw [hcr];exact Int.emod_lt_of_pos _ (by omega),by
    rcases Int.lt_or_le cz r0.B with h1 | h1
    ·rw [hcr,Int.emod_eq_of_lt (by omega) h1];omega
    ·have h2:cr<r0.B:=by rw [hcr];exact Int.emod_lt_of_pos _ (by omega)
     omega⟩
   have edz:IntKind.i64.wrap (cr+1)=dz:=by rw [IntKind.wrap_i64];omega
   have HDZ:=zhz (show (1≤dz∧dz≤32)∧dz≤N0.B from by have:=HNB.out.1;omega)
   have ecv:IntKind.u32.wrap dz=dz:=by have:=HDZ.out;rw [IntKind.wrap_u32];omega
   clear hcz hcr hBp hdz hcr1
   go_upto_region 16 with (fail)
   clear em erem tm0 edz krb
   have HQ1:=zhz (show okQ (((confR lps).length:Nat):Int) (mkR 1 0 dz ky 0) from zlx (by rw [HC0.out];show (0:Int)≤0∧(0:Int)<1;decide) (by rw [HC0.out];show (1:Int)≤8;decide) (Or.inl rfl) HKY.out rfl (by have:=HDZ.out;omega))
   have CE:=zhz (fun wx=>zlt (op:=1) (ru:=0) (co:=dz) (k:=0) (ky:=ky) (zb2 (by rw [HC0.out];show (1:Int)≤256;decide) HQ1.out) (by have:=HDZ.out;omega) wx)
   have CK:=zhz (fun (wx:World) (g n1 c1:Nat) (hD:TtI w wx base s h0 lps Ns Ks N0 now (75*2097153*(i:Int)) [] H tot cm i) (hz:RdI wx .u8 (some ⟨g,0,none⟩) n1 c1 (encZ (mkR 1 0 dz ky 0))) (hg:h0≤g)=>hD.check (ck:=t') ⟨HTT.out.1,HTT.out.2.2.2⟩ HKY.out HDZ.out.1 HDZ.out.2 (by have:=HIN.out;omega) HQ1.out (by have:=HIN.out;omega) (some ⟨g,0,none⟩) n1 c1 hz (fun b off _ e=>by injection e with e;injection e with e;exact Or.inr (by omega)) 0 (.slice none 0 0))
   go_upto_region 17 with (first
    | (go_at_call 37;((with_reducible refine (CE.out _).mono ?_);rintro v w14 ⟨g14,n14,c14,rfl,l14,r14,hg14,b14⟩;have R14:=zhz (And.intro r14 (show h0≤g14 from Nat.le_trans T3.out.hs hg14));have T4:=zhz (T3.out.keep b14);have M4:=zhz (M3.out.keep b14);have KR4:=zhz (KR3.out.keep b14);have KC4:=zhz (KC.out.keep b14);clear l14 r14 hg14 b14))
    | (go_at_call 30;((with_reducible refine (CK.out _ _ _ _ T4.out R14.out.1 R14.out.2).mono ?_);rintro v w15 ⟨A5,n5,c5,x,rfl,g1,hx1,hx2,f1⟩;have T5:=zhz g1;have HX:=zhz (And.intro hx1 hx2);have M5:=zhz (M4.out.fr f1 (fun hh=>by have h8:=hh.2;have h9:=HMB.out;omega));have KR5:=zhz (KR4.out.fr f1 (fun hh=>by have h8:=hh.1;have h9:=HRB.out;omega));have KC5:=zhz (KC4.out.fr f1 (fun hh=>by have h8:=hh.2;have h9:=HBX.out.2.1;omega));clear g1 f1 hx1 hx2)))
   clear CE CK ecv kx
   have CD:=zhz (T5.out.drain (ck:=t') ⟨Int.le_refl _,by have:=HTT.out;omega⟩ 99 (by have:=HX.out.1;omega) (by have:=HX.out.1;omega) HX.out.2 (by have:=HIN.out;omega) (.slice none 0 0) (.slice none 0 0))
   go_upto_region 18 with (go_at_call 30;((with_reducible refine CD.out.mono ?_);rintro v w16 ⟨g6,d6,rfl,_,_,t6,f6,_⟩;have T6:=zhz t6;have M6:=zhz (M5.out.fr f6 (fun hh=>by have h8:=hh.2;have h9:=HMB.out;omega));have KR6:=zhz (KR5.out.fr f6 (fun hh=>by have h8:=hh.1;have h9:=HRB.out;omega));have KC6:=zhz (KC5.out.fr f6 (fun hh=>by have h8:=hh.2;have h9:=HBX.out.2.1;omega));clear t6 f6))
   clear CD
   have kx:=KC6.out.rd
   obtain ⟨_,_,σx,_,_,_,_,hTp⟩:=HT.out.st
   have HTP:=zhz hTp
   obtain ⟨hg,hhg⟩:=zeq ((H ky).getD 0)
   have hgb:0≤hg∧hg≤tot∧tot≤32*150:=by
    have h1:=hTp.xb ky
    have h2:=hTp.ss.pos ky
    have h3:=hTp.tb
    have h4:=HIN.out
    unfold hadH at h2
    omega
   have eh:IntKind.i64.wrap (hg+dz)=hg+dz:=by have:=HDZ.out;rw [IntKind.wrap_i64];omega
   have etn:IntKind.i64.wrap (tot+dz)=tot+dz:=by have:=HDZ.out;rw [IntKind.wrap_i64];omega
   have HHG:=zhz hhg
   have HKM:=zhz (show ky.size≤maxLen from by have:=HKY.out;unfold maxLen;omega)
   have HCI:=zhz (show cm<maxLen from by have:=hTp.ci;have:=HIN.out;unfold maxLen;omega)
   clear hTp hgb hhg
   have hlk2:=M6.out.look Tryz.underlying9 Tryz.underlying119 (z:=.int .i64 0) (by kernel_rfl) (s:=ky) HKM.out
   rw [zdk,← HHG.out] at hlk2
   obtain ⟨y3,hst,m3,f3⟩:=M6.out.store Tryz.underlying9 Tryz.underlying119 HCI.out (s:=ky) HKM.out (.int .i64 (hg+dz))
   rw [ziJ,show (liftH H ky).isSome=(H ky).isSome from by unfold liftH;simp] at m3
   have M7:=zhz (show Mp.MapS Tryz.prog 9 y3 mb (if (H ky).isSome=true then cm else cm+1) (liftH (putH H ky ((H ky).getD 0+dz))) from by rw [← HHG.out];exact m3)
   have T7:=zhz (T6.out.own f3 (fun b hb=>by have:b=mb:=hb;rw [this];exact HMB.out))
   have KR7:=zhz (KR6.out.fr f3 (fun hh=>by have:rb=mb:=hh;have h8:=HRB.out;have h9:=HMB.out;have h10:=T1.out.st;obtain ⟨_,_,_,h11,_⟩:=h10;have h12:=h11.at_.lo;have h13:=HLT.out s (Or.inl rfl);omega))
   clear m3 f3
   go_wp2
   go_roundg (n2 - (i+1))
   case measure=>have:=HKK.out;have:=HIN.out;omega
   case rel=>exact ⟨i+1,_,t',tot+dz,_,HIN.out,zhz rfl,rfl,rfl,by go_num,zhz ⟨HTT.out.2.1,by have:=HTT.out.2.2.1;omega⟩,zhz (T7.out.mono (by have:=HIN.out;omega)),M7,KR7⟩
  ·have hie:i=n2:=by omega
   subst hie
   have HBL:=zhz HT.out.bl
   have HIB:=zhz (show i≤150 by omega)
   have hmm:=@run_makeMap Tryz.prog
   obtain ⟨kz,hkz⟩:=zeq (kq % 256)
   have ekz:bits .and .i64 kq 255=kz:=by rw [hkz];exact zey _
   have HKZ:=zhz (show 0≤kz∧kz≤255 by omega)
   clear hkz
   go_upto_region 22 with (fail)
   clear ekz
   have HQT:=zhz (show okQ (((confR lps).length:Nat):Int) (mkR 4 0 0 ⟨#[]⟩ kz) from by rw [HC0.out];exact zm7 (by show (0:Int)≤0∧(0:Int)<1;decide) (by show (1:Int)≤8;decide) HKZ.out)
   have CE:=zhz (fun wx=>zlt (op:=4) (ru:=0) (co:=0) (k:=kz) (ky:=⟨#[]⟩) (zb2 (by rw [HC0.out];show (1:Int)≤256;decide) HQT.out) (by decide) wx)
   have CK:=zhz (fun (wx:World) (g n1 c1:Nat) (hD:TtI w wx base s h0 lps Ns Ks N0 now (75*2097153*(i:Int)) [] H tot cm i) (hz:RdI wx .u8 (some ⟨g,0,none⟩) n1 c1 (encZ (mkR 4 0 0 ⟨#[]⟩ kz))) (hg:h0≤g)=>hD.top (ck:=now) ⟨Int.le_refl _,by have:=HNOW.out;omega⟩ HKZ.out (by omega) (some ⟨g,0,none⟩) n1 c1 hz HQT.out (fun b off _ e=>by injection e with e;injection e with e;exact Or.inr (by omega)) 0 (.slice none 0 0))
   go_upto_region 23 with (first
    | (go_at_call 37;((with_reducible refine (CE.out _).mono ?_);rintro v w14 ⟨g14,n14,c14,rfl,l14,r14,hg14,b14⟩;have R14:=zhz (And.intro r14 (show h0≤g14 from Nat.le_trans HT.out.hs hg14));have T4:=zhz (HT.out.keep b14);have M4:=zhz (HM.out.keep b14);have KR4:=zhz (HKR.out.keep b14);clear l14 r14 hg14 b14))
    | (go_at_call 30;((with_reducible refine (CK.out _ _ _ _ T4.out R14.out.1 R14.out.2).mono ?_);rintro v w15 ⟨A5,n5,c5,x,M,rfl,g1,hTM,hxe,hoks,hsz,hxl,hxb,f1⟩;have T5:=zhz g1;have HV:=zhz hTM;have HXE:=zhz (And.intro hxe hoks);have HSZ:=zhz hsz;have HXL:=zhz (And.intro hxl hxb);have M5:=zhz (M4.out.fr f1 (fun hh=>by have h8:=hh.2;have h9:=HMB.out;omega));have KR5:=zhz (KR4.out.fr f1 (fun hh=>by have h8:=hh.1;have h9:=HRB.out;omega));clear g1 f1 hTM hxe hoks hsz hxl hxb)))
   clear CE CK
   have CD:=zhz (T5.out.drain (ck:=now) ⟨Int.le_refl _,by have:=HNOW.out;omega⟩ 65536 (by have:=HXL.out.1;omega) (by have:=HXL.out.1;omega) HXL.out.2 (by omega) (.slice none 0 0) (.slice none 0 0))
   go_upto_region 24 with (go_at_call 30;((with_reducible refine CD.out.mono ?_);rintro v w16 ⟨g6,d6,rfl,hd6,r6,t6,f6,hg6⟩;obtain ⟨z3,z4,ez3,kr,kw,ez4,b17,k17⟩:=box4S w16 (.int .i64 0) (.int .i64 0) (.slice (some ⟨g6,0,none⟩) d6 d6) (.slice none 0 0);have B6:=zhz (zae t6.bl b17);have R6:=zhz (And.intro (r6.below b17) (show d6≤655 from by rw [hd6];exact HXL.out.1));have K17:=zhz k17;have M6:=zhz ((M5.out.fr f6 (fun hh=>by have h8:=hh.2;have h9:=HMB.out;omega)).keep b17);have KR6:=zhz ((KR5.out.fr f6 (fun hh=>by have h8:=hh.1;have h9:=HRB.out;omega)).keep b17);clear hd6 r6 t6 f6 hg6 b17 k17))
   try rw [ez4]
   clear ez3 kr kw ez4 CD
   obtain ⟨ob,hob⟩:=zeq (w16.heap.size)
   rw [← hob] at K17 ⊢
   clear hob
   have ko:=K17.out.rd
   obtain ⟨kk,hkk⟩:=zeq (topN kz N0.S.N.n)
   have hn1:1≤N0.S.N.n∧N0.S.N.n≤8:=by have:=HNB.out;omega
   have hkb:=zc7 kz hn1.1
   rw [← hkk] at hkb HXE
   obtain ⟨Mk,hMk⟩:=zeq (M.take kk)
   rw [← hMk] at HXE
   have CR:=zhz (zkS (n:=d6) (c:=d6) (w:=z4) (by have:=R6.out.2;omega) R6.out.1 HXE.out.1 HXE.out.2)
   obtain ⟨kx,hkx⟩:=zeq (max kz 1)
   have hmax:max kz 1=kx:=hkx.symm
   have hmin:min kx r0.Tr=(kk:Int):=by rw [hkx,hkk];have:=HNB.out.2.1;unfold topN;omega
   have HKK2:=zhz (show (1≤kk∧kk≤N0.S.N.n)∧Mk=M.take kk from ⟨hkb,hMk⟩)
   obtain ⟨ql,hql⟩:=zeq (Mk.length)
   have HQL:=zhz (show ql=Mk.length∧ql≤kk∧kk≤8∧ql≤M.length from ⟨hql,by rw [hql,hMk,List.length_take];omega,by omega,by rw [hql,hMk,List.length_take];omega⟩)
   rw [← hql] at CR
   clear hkk hn1 hkb hMk hkx hql
   go_upto_region 25 with (go_at_call 38;((with_reducible refine CR.out.mono ?_);rintro e w18 ⟨LA,LC,mr,rfl,ow18,b18⟩;obtain ⟨z5,z6,ez5,kr,kw,ez6,b19,k19⟩:=box12S w18 (.int .i64 4) (.int .i64 0) (.int .i64 0) (.int .i64 0) (.int .i64 0) (.int .i64 0) (.int .i64 0) (.int .i64 0) (.int .i64 0) (.int .i64 0) (.slice LA ql LC) (.int .i64 0);have K19:=zhz k19;have OW:=zhz (ow18.keep b19);have B7x:=zhz (zae (zae B6.out b18) b19);have M7:=zhz ((M6.out.keep b18).keep b19);have KR7:=zhz ((KR6.out.keep b18).keep b19);have HW4:=zhz (show z4.heap.size≤w18.heap.size from b18.size);clear ow18 b18 b19 k19))
   try rw [ez6]
   clear ez5 kr kw ez6 CR ko
   obtain ⟨sb,hsb⟩:=zeq (w18.heap.size)
   rw [← hsb] at K19 ⊢
   clear hsb
   have ks:=K19.out.rd
   have krb:=KR7.out.rd
   obtain ⟨Al,cl,hLs,hlc,hlm,hlg⟩:=OW.out.slice
   have hcl1:LA=Al∧ql=Mk.length∧LC=cl:=by injection hLs with h1 h2 h3;exact ⟨h1,h2,h3⟩
   have HLG:=zhz (show (0<ql→∃ g,LA=some ⟨g,0,none⟩)∧ql≤LC from ⟨fun h=>by obtain ⟨g,h1,_⟩:=hlg (by omega);exact ⟨g,by rw [hcl1.1];exact h1⟩,by omega⟩)
   have hlcc:(LC:Int)≤9223372036854775807:=by have:=hcl1.2.2;unfold maxLen at hlm;omega
   have hqlc:ql≤LC:=by omega
   clear hLs hlc hlm hlg hcl1
   go_upto_region 28 with (fail)
   clear hmax hmin krb
   go_upto_region 29 with (fail)
   have hm0:Mp.MapS Tryz.prog 9 (z6.alloc (.map #[] 0)) z6.heap.size 0 (fun _=>none):=Mp.MapS.new (P:=Tryz.prog) (k:=9) z6
   obtain ⟨ub,hub⟩:=zeq (z6.heap.size)
   rw [← hub] at hm0 ⊢
   have blb:Below z6.heap.size z6 (z6.alloc (.map #[] 0)):=(Below.refl _ _).alloc (Nat.le_refl _) _
   have U8:=zhz hm0
   have M8:=zhz (M7.out.keep blb)
   have KR8:=zhz (KR7.out.keep blb)
   have K20:=zhz (K19.out.keep blb)
   have OW8:=zhz (OW.out.keep blb)
   have B8x:=zhz (zae B7x.out blb)
   have HUB:=zhz (show mb≠ub∧rb≠ub∧sb≠ub∧w.heap.size≤ub∧(∀ g,(Value.slice LA ql LC).ownBlock=some g→g≠ub) from ⟨fun e=>by have:=M7.out.lt;omega,fun e=>by have:=lt_of_block KR7.out;omega,fun e=>by have:=lt_of_block K19.out;omega,by rw [hub];exact B7x.out.size,fun g hg e=>by have:=OW.out.lt g hg;omega⟩)
   generalize z6.alloc (.map #[] 0)=z7 at U8 M8 KR8 K20 OW8 B8x ⊢
   clear hm0 hub blb hmm ks
   have ks:=K20.out.rd
   go_upto_region 30 with (fail)
   clear ks
   have hql8:(ql:Int)≤8:=by have:=HQL.out;omega
   go_loopg [126] ql (fun kv si wv=>∃ (j:Nat),j≤ql∧Hid (kv=ql - j)∧si=.int .i64 (j:Int)∧Hid (Mp.MapS Tryz.prog 9 wv mb cm (liftH H))∧Hid (Mp.MapS Tryz.prog 9 wv ub j (seenM (Mk.take j)))∧Hid (OwR wv z4.heap.size 121 3 enc3T (.slice LA ql LC) Mk)∧Hid (Blk wv sb 92 #[.int .i64 4,.int .i64 0,.int .i64 0,.int .i64 0,.int .i64 0,.int .i64 0,.int .i64 0,.int .i64 0,.int .i64 0,.int .i64 0,.slice LA ql LC,.int .i64 0])∧Hid (Blk wv rb 53 #[.int .i64 r0.L,.int .i64 r0.W,.int .i64 r0.B,.int .i64 r0.Sl,.int .i64 r0.Ce,.int .i64 r0.Ro,.int .i64 r0.Wi,.int .i64 r0.Tr,.bool r0.sm])∧Hid (Below w.heap.size w wv))
   case atStart=>exact ⟨0,by omega,zhz rfl,rfl,M8,zhz (by rw [List.take_zero,zjz];exact U8.out),OW8,K20,KR8,B8x⟩
   case round =>
    obtain ⟨j,hj,HJJ,rfl,MJ,UJ,OJ,SJ,RJ,BJ⟩:=hrel
    by_cases hjq:j<ql
    ·have HJQ:=zhz hjq
     have hjm:j<Mk.length:=by have:=HQL.out.1;omega
     obtain ⟨⟨s1,nn,ee⟩,hx⟩:∃ a,Mk[j]?=some a:=⟨_,List.getElem?_eq_getElem hjm⟩
     have hxM:M[j]?=some (s1,nn,ee):=by
      have h9:=hx
      rw [HKK2.out.2,List.getElem?_take,if_pos (by have:=HQL.out;omega)] at h9
      exact h9
     have hmem:=List.mem_of_getElem? hxM
     obtain ⟨bd1,bd2,bd3,bd4,bd5⟩:=HV.out.ss.bd _ hmem
     have htb:=HV.out.tb
     have hxb:=HV.out.xb s1
     have hps:=HV.out.ss.pos s1
     have hss:=HSZ.out _ hmem
     unfold hadH at bd1 bd2 hps
     obtain ⟨hs,hhs⟩:=zeq ((H s1).getD 0)
     rw [← hhs] at bd1 bd2 hxb hps
     dsimp only at bd1 bd2 bd3 bd4 bd5 hss
     have HHS:=zhz hhs
     have HSS:=zhz (show s1.size≤maxLen from by unfold maxLen;omega)
     have hen:ee≤tot:=by
      have h1:ee*1≤ee*(N0.S.N.n:Int):=Int.mul_le_mul_of_nonneg_left (by have:=HNB.out;omega) bd3
      omega
     obtain ⟨g1,hg1⟩:=HLG.out.1 (by omega)
     subst hg1
     have p0:wr.cell? ⟨g1,j*3,none⟩=some (.string s1):=OJ.out.cell zbW hx (j:=0) (by omega)
     have p1:wr.cell? ⟨g1,j*3+1,none⟩=some (.int .i64 nn):=OJ.out.cell zbW hx (j:=1) (by omega)
     have p2:wr.cell? ⟨g1,j*3+2,none⟩=some (.int .i64 ee):=OJ.out.cell zbW hx (j:=2) (by omega)
     obtain ⟨x2,hx2,kc2,bl2,sz2⟩:=zad wr #[.string s1,.int .i64 nn,.int .i64 ee] 121
     obtain ⟨bx,hbx⟩:=zeq (wr.heap.size)
     rw [← hbx] at kc2
     have HBXE:=zhz hbx
     have HBU:=zhz (show bx≠ub from by have:=UJ.out.lt;omega)
     have KC:=zhz kc2
     have MK2:=zhz (MJ.out.keep bl2)
     have UK2:=zhz (UJ.out.keep bl2)
     have OK2:=zhz (OJ.out.keep bl2)
     have SK2:=zhz (SJ.out.keep bl2)
     have RK2:=zhz (RJ.out.keep bl2)
     have BK2:=zhz (zae BJ.out bl2)
     have t4:(0:Int)≤(j:Int):=by omega
     have t5:(j:Int)<(ql:Int):=by omega
     have HX:=zhz hx
     have HXM:=zhz hxM
     have hj63:=zhz (show j<maxLen from by unfold maxLen;omega)
     have hb3:=HIB.out
     have b1:decide (nn<hs)=false:=by rw [decide_eq_false_iff_not];omega
     obtain ⟨dd,hdd⟩:=zeq (nn - ee)
     have e1:IntKind.i64.wrap (nn - ee)=dd:=by rw [IntKind.wrap_i64];omega
     have b2:decide (hs<dd)=false:=by rw [decide_eq_false_iff_not];omega
     obtain ⟨qd,hqd⟩:=zeq (Int.tdiv tot r0.Tr)
     have hTr:=HNB.out
     have hqe:qd=tot / r0.Tr:=by rw [hqd,Int.tdiv_eq_ediv_of_nonneg (by omega)]
     have hqb:0≤qd∧qd≤tot:=by
      rw [hqe]
      exact ⟨Int.ediv_nonneg (by omega) (by omega),Int.ediv_le_self _ (by omega)⟩
     have hq1:Int.tdiv tot r0.Tr=qd:=hqd.symm
     have hq2:IntKind.i64.wrap qd=qd:=by rw [IntKind.wrap_i64];omega
     have tdz:¬ r0.Tr=0:=by omega
     have b3:decide (qd<ee)=false:=by
      rw [decide_eq_false_iff_not,hqe]
      have h1:ee≤tot / r0.Tr:=(Int.le_ediv_iff_mul_le (by omega)).2 (by rw [← hTr.2.1];exact bd4)
      omega
     clear bl2 kc2 sz2 hjq hjm hmem bd1 bd2 bd3 bd4 bd5 htb hxb hps hss hen hhs hbx hx hxM hdd hqd hqe hqb hTr
     go_upto_region 32 with (fail)
     try rw [hx2]
     rw [← HBXE.out]
     clear hx2 p0 p1 p2
     have kx:=KC.out.rd
     obtain ⟨y3,hst,m3,f3⟩:=UK2.out.store Tryz.underlying9 Tryz.underlying97 hj63.out (s:=s1) HSS.out (.bool true)
     have HNT:=zhz (show (Mk.take j).any (fun t=>decide (t.1=s1))=false from by
      rw [List.any_eq_false]
      intro t ht
      simp only [decide_eq_true_eq]
      intro e
      rw [HKK2.out.2,List.take_take] at ht
      obtain ⟨i',hi',ei'⟩:=List.mem_take_iff_getElem.1 ht
      obtain ⟨hjx1,hjx2⟩:=List.getElem?_eq_some_iff.1 HXM.out
      have:=(List.pairwise_iff_getElem.1 HV.out.ss.uni) i' j (by simp;omega) (by simp;exact hjx1) (by omega)
      simp only [List.getElem_map] at this
      rw [ei',e,hjx2] at this
      exact this rfl)
     have hne:(seenM (Mk.take j) s1).isSome=false:=by unfold seenM;rw [HNT.out];rfl
     rw [hne,if_neg (by decide),zhA (Mk.take j) (s1,nn,ee),← zhQ HX.out] at m3
     have U3:=zhz m3
     have HU:=HUB.out
     have M3:=zhz (MK2.out.fr f3 (fun hh=>HU.1 hh))
     have O3:=zhz (OK2.out.fr f3 (fun g hg hh=>HU.2.2.2.2 g hg hh))
     have S3:=zhz (SK2.out.fr f3 (fun hh=>HU.2.2.1 hh))
     have R3:=zhz (RK2.out.fr f3 (fun hh=>HU.2.1 hh))
     have KC3:=zhz (KC.out.fr f3 (fun hh=>HBU.out hh))
     have B3:=zhz (BK2.out.trans (f3.below BK2.out.size (fun k hk=>by have:k=ub:=hk;rw [this];exact HU.2.2.2.1)))
     clear m3 f3 hne HU
     go_upto_region 33 with (fail)
     clear hst kx
     have N1:=zhz (show Below y3.heap.size y3 y3.drew from zaa (Below.refl _ _) 1)
     obtain ⟨W0,hW0⟩:=zeq (y3.drew)
     rw [← hW0] at N1
     have U4:=zhz (U3.out.keep N1.out)
     have M4':=zhz (M3.out.keep N1.out)
     have O4:=zhz (O3.out.keep N1.out)
     have S4:=zhz (S3.out.keep N1.out)
     have R4':=zhz (R3.out.keep N1.out)
     have KC4:=zhz (KC3.out.keep N1.out)
     have B4':=zhz (zae B3.out N1.out)
     have LK:=zhz (fun (wx:World) (h:Mp.MapS Tryz.prog 9 wx mb cm (liftH H))=>show (Instr.lookup 119 (.map (some mb)) (.string s1) false).run Tryz.prog wx=.ok (.int .i64 hs) wx from by
      have:=h.look Tryz.underlying9 Tryz.underlying119 (z:=.int .i64 0) (by kernel_rfl) (s:=s1) HSS.out
      rw [zdk,← HHS.out] at this
      exact this)
     rcases Nat.eq_zero_or_pos j with hj0 | hj0
     focus
       have tj:decide ((0:Int)<(j:Int))=false:=by rw [decide_eq_false_iff_not];omega
       have tj2:decide (0<j)=false:=by rw [decide_eq_false_iff_not];omega
       have hS:(fun wx:World=>((∀ x,wx.cell? ⟨bx,x,none⟩=(#[.string s1,.int .i64 nn,.int .i64 ee]:Array Value)[x]?)∧(∀ x,wx.cell? ⟨rb,x,none⟩=(#[.int .i64 r0.L,.int .i64 r0.W,.int .i64 r0.B,.int .i64 r0.Sl,.int .i64 r0.Ce,.int .i64 r0.Ro,.int .i64 r0.Wi,.int .i64 r0.Tr,.bool r0.sm]:Array Value)[x]?))∧Mp.MapS Tryz.prog 9 wx mb cm (liftH H)) W0:=⟨⟨KC4.out.rd,R4'.out.rd⟩,M4'.out⟩
       refine wp_region_held_drew (S:=(fun wx:World=>((∀ x,wx.cell? ⟨bx,x,none⟩=(#[.string s1,.int .i64 nn,.int .i64 ee]:Array Value)[x]?)∧(∀ x,wx.cell? ⟨rb,x,none⟩=(#[.int .i64 r0.L,.int .i64 r0.W,.int .i64 r0.B,.int .i64 r0.Sl,.int .i64 r0.Ce,.int .i64 r0.Ro,.int .i64 r0.Wi,.int .i64 r0.Tr,.bool r0.sm]:Array Value)[x]?))∧Mp.MapS Tryz.prog 9 wx mb cm (liftH H))) (by kernel_rfl) (by rw [← hW0];exact hS) (fun hHeld=>?_)
       rw [← hW0] at hHeld ⊢
       clear hW0
       refine wR 0 ?_
       refine wR 1 ?_
       refine wR 2 ?_
       refine wpAnyH_take (i:=3) (oi:=?_) (v:=?_) ?_ ?_ ?_ ?_ ?_ ?_ ?_ ?_
       rotate_left 2
       ·simp only [List.getElem?_toArray,List.getElem?_cons_succ,List.getElem?_cons_zero];rfl
       ·kernel_rfl
       ·kernel_rfl
       ·kernel_rfl
       ·exact fun _ _ _ h=>h
       ·refine Or.inl ⟨by rfl,?_⟩
        intro w' hSw
        (try dsimp only at hSw)
        have hlk:=LK.out w' hSw.2
        go_simp
        all_goals (with_reducible rfl)
       ·assumption
       try simp only [Act.put,zs1,zs2,zs3]
       refine wR 4 ?_
       refine wR 5 ?_
       refine wR 6 ?_
       refine wR 7 ?_
       refine wR 8 ?_
       refine wR 9 ?_
       refine wR 10 ?_
       refine wpAnyH_take (i:=11) (oi:=?_) (v:=?_) ?_ ?_ ?_ ?_ ?_ ?_ ?_ ?_
       rotate_left 2
       ·simp only [List.getElem?_toArray,List.getElem?_cons_succ,List.getElem?_cons_zero];rfl
       ·kernel_rfl
       ·kernel_rfl
       ·kernel_rfl
       ·exact fun _ _ _ h=>h
       ·refine Or.inl ⟨by rfl,?_⟩
        intro w' hSw
        (try dsimp only at hSw)
        have hlk:=LK.out w' hSw.2
        go_simp
        all_goals (with_reducible rfl)
       ·assumption
       try simp only [Act.put,zs1,zs2,zs3]
       refine wR 12 ?_
       refine wR 13 ?_
       refine wR 14 ?_
       refine wR 15 ?_
       refine wR 16 ?_
       refine wR 17 ?_
       refine wR 18 ?_
       refine wR 19 ?_
       refine wR 20 ?_
       refine wR 21 ?_
       refine wR 22 ?_
       refine wR 23 ?_
       refine wR 24 ?_
       refine wR 25 ?_
       refine wR 26 ?_
       refine wR 27 ?_
       refine wR 28 ?_
       refine wR 29 ?_
       refine wR 30 ?_
       refine wR 31 ?_
       refine wO 32 ?_
       refine wO 33 ?_
       refine wO 34 ?_
       refine wO 35 ?_
       refine wO 36 ?_
       refine wO 37 ?_
       refine wO 38 ?_
       refine wO 39 ?_
       refine wO 40 ?_
       refine wO 41 ?_
       refine wR 42 ?_
       refine wR 43 ?_
       refine wpAnyH_done (by kernel_rfl) ?_ _
       clear hHeld hS tj tj2 hj0
     rotate_left 1
     focus
       have tj:decide ((0:Int)<(j:Int))=true:=by rw [decide_eq_true_iff];omega
       have tj2:decide (0<j)=true:=by rw [decide_eq_true_iff];omega
       obtain ⟨j1,hj1⟩:=zeq (j - 1)
       obtain ⟨⟨s',n',e'⟩,hy⟩:∃ a,Mk[j1]?=some a:=⟨_,List.getElem?_eq_getElem (by have:=HJQ.out;have:=HQL.out.1;omega)⟩
       have r1:W0.cell? ⟨g1,j1*3+1,none⟩=some (.int .i64 n'):=O4.out.cell zbW hy (j:=1) (by omega)
       have e5:IntKind.i64.wrap ((j:Int) - 1)=(j1:Int):=by rw [IntKind.wrap_i64];omega
       have t6:(0:Int)≤(j1:Int):=by omega
       have t7:(j1:Int)<(ql:Int):=by omega
       have hyM:M[j1]?=some (s',n',e'):=by
        have h9:=hy
        rw [HKK2.out.2,List.getElem?_take,if_pos (by have:=HQL.out;have:=HJQ.out;omega)] at h9
        exact h9
       have hle:nn≤n':=by
        obtain ⟨l1,f1⟩:=List.getElem?_eq_some_iff.1 hyM
        obtain ⟨l2,f2⟩:=List.getElem?_eq_some_iff.1 HXM.out
        have:=List.pairwise_iff_getElem.1 HV.out.ss.srt j1 j l1 l2 (by omega)
        rw [f1,f2] at this
        exact this
       have b4:decide (n'<nn)=false:=by rw [decide_eq_false_iff_not];omega
       clear hy hyM hle hj1
       have hS:(fun wx:World=>((∀ x,wx.cell? ⟨bx,x,none⟩=(#[.string s1,.int .i64 nn,.int .i64 ee]:Array Value)[x]?)∧(∀ x,wx.cell? ⟨rb,x,none⟩=(#[.int .i64 r0.L,.int .i64 r0.W,.int .i64 r0.B,.int .i64 r0.Sl,.int .i64 r0.Ce,.int .i64 r0.Ro,.int .i64 r0.Wi,.int .i64 r0.Tr,.bool r0.sm]:Array Value)[x]?)∧(∀ x,wx.cell? ⟨sb,x,none⟩=(#[.int .i64 4,.int .i64 0,.int .i64 0,.int .i64 0,.int .i64 0,.int .i64 0,.int .i64 0,.int .i64 0,.int .i64 0,.int .i64 0,.slice (some ⟨g1,0,none⟩) ql LC,.int .i64 0]:Array Value)[x]?)∧wx.cell? ⟨g1,j1*3+1,none⟩=some (.int .i64 n'))∧Mp.MapS Tryz.prog 9 wx mb cm (liftH H)) W0:=⟨⟨KC4.out.rd,R4'.out.rd,S4.out.rd,r1⟩,M4'.out⟩
       refine wp_region_held_drew (S:=(fun wx:World=>((∀ x,wx.cell? ⟨bx,x,none⟩=(#[.string s1,.int .i64 nn,.int .i64 ee]:Array Value)[x]?)∧(∀ x,wx.cell? ⟨rb,x,none⟩=(#[.int .i64 r0.L,.int .i64 r0.W,.int .i64 r0.B,.int .i64 r0.Sl,.int .i64 r0.Ce,.int .i64 r0.Ro,.int .i64 r0.Wi,.int .i64 r0.Tr,.bool r0.sm]:Array Value)[x]?)∧(∀ x,wx.cell? ⟨sb,x,none⟩=(#[.int .i64 4,.int .i64 0,.int .i64 0,.int .i64 0,.int .i64 0,.int .i64 0,.int .i64 0,.int .i64 0,.int .i64 0,.int .i64 0,.slice (some ⟨g1,0,none⟩) ql LC,.int .i64 0]:Array Value)[x]?)∧wx.cell? ⟨g1,j1*3+1,none⟩=some (.int .i64 n'))∧Mp.MapS Tryz.prog 9 wx mb cm (liftH H))) (by kernel_rfl) (by rw [← hW0];exact hS) (fun hHeld=>?_)
       rw [← hW0] at hHeld ⊢
       clear hW0
       refine wR 0 ?_
       refine wR 1 ?_
       refine wR 2 ?_
       refine wpAnyH_take (i:=3) (oi:=?_) (v:=?_) ?_ ?_ ?_ ?_ ?_ ?_ ?_ ?_
       rotate_left 2
       ·simp only [List.getElem?_toArray,List.getElem?_cons_succ,List.getElem?_cons_zero];rfl
       ·kernel_rfl
       ·kernel_rfl
       ·kernel_rfl
       ·exact fun _ _ _ h=>h
       ·refine Or.inl ⟨by rfl,?_⟩
        intro w' hSw
        (try dsimp only at hSw)
        have hlk:=LK.out w' hSw.2
        go_simp
        all_goals (with_reducible rfl)
       ·assumption
       try simp only [Act.put,zs1,zs2,zs3]
       refine wR 4 ?_
       refine wR 5 ?_
       refine wR 6 ?_
       refine wR 7 ?_
       refine wR 8 ?_
       refine wR 9 ?_
       refine wR 10 ?_
       refine wpAnyH_take (i:=11) (oi:=?_) (v:=?_) ?_ ?_ ?_ ?_ ?_ ?_ ?_ ?_
       rotate_left 2
       ·simp only [List.getElem?_toArray,List.getElem?_cons_succ,List.getElem?_cons_zero];rfl
       ·kernel_rfl
       ·kernel_rfl
       ·kernel_rfl
       ·exact fun _ _ _ h=>h
       ·refine Or.inl ⟨by rfl,?_⟩
        intro w' hSw
        (try dsimp only at hSw)
        have hlk:=LK.out w' hSw.2
        go_simp
        all_goals (with_reducible rfl)
       ·assumption
       try simp only [Act.put,zs1,zs2,zs3]
       refine wR 12 ?_
       refine wR 13 ?_
       refine wR 14 ?_
       refine wR 15 ?_
       refine wR 16 ?_
       refine wR 17 ?_
       refine wR 18 ?_
       refine wR 19 ?_
       refine wR 20 ?_
       refine wR 21 ?_
       refine wR 22 ?_
       refine wR 23 ?_
       refine wR 24 ?_
       refine wR 25 ?_
       refine wR 26 ?_
       refine wR 27 ?_
       refine wR 28 ?_
       refine wR 29 ?_
       refine wR 30 ?_
       refine wR 31 ?_
       refine wR 32 ?_
       refine wR 33 ?_
       refine wR 34 ?_
       refine wR 35 ?_
       refine wR 36 ?_
       refine wR 37 ?_
       refine wR 38 ?_
       refine wR 39 ?_
       refine wR 40 ?_
       refine wR 41 ?_
       refine wR 42 ?_
       refine wR 43 ?_
       refine wpAnyH_done (by kernel_rfl) ?_ _
       clear hHeld hS tj tj2 hj0 e5 t6 t7 b4 r1
     rotate_left 1
     all_goals
       clear b1 e1 b2 hq1 hq2 tdz b3
       go_wp2
       go_roundg (ql - (j+1))
       case measure=>have:=HJJ.out;have:=HJQ.out;omega
       case rel=>exact ⟨j+1,HJQ.out,zhz rfl,by go_num,M4',U4,O4,S4,R4',B4'⟩
    ·have hjq2:j=ql:=by omega
     subst hjq2
     obtain ⟨wy,hwy⟩:=zeq (wr)
     rw [← hwy] at MJ UJ OJ SJ RJ BJ ⊢
     clear hwy
     have hqk:Mk.take j=Mk:=by rw [HQL.out.1];exact List.take_length
     have UY:=zhz (show Mp.MapS Tryz.prog 9 wy ub j (seenM Mk) from by have:=UJ.out;rw [hqk] at this;exact this)
     have TP:=zhz (fun (s:ByteArray) (h:tot<hadH H s*(kk:Int))=>show Mk.any (fun t=>decide (t.1=s))=true from by
      obtain ⟨t,ht,e⟩:=HV.out.ss.top HKK2.out.1 h
      rw [HKK2.out.2]
      exact List.any_eq_true.2 ⟨t,ht,by simpa using e⟩)
     have tle:(j:Int)≤(kk:Int):=by have:=HQL.out;omega
     have tk1:(1:Int)≤(kk:Int):=by have:=HKK2.out.1;omega
     have tk2:(kk:Int)≤8:=by have:=HQL.out;omega
     clear hqk
     go_upto_region 36 with (fail)
     go_wp2_with (at_range;refine Mp.wpList_rangeS Tryz.underlying9 Tryz.underlying119 (by rfl) _ (by rfl) (by rfl) MJ.out ?_;intro wr0 hr0 hb0 hs0;have R0:=zhz hr0;have HB0:=zhz hb0;clear hr0 hb0)
     go_frame
     obtain ⟨rr,hrr⟩:=zeq (wy.heap.size)
     rw [← hrr] at R0 ⊢
     have RR:=zhz (show rr≠ub∧w.heap.size≤rr∧rr≠sb from ⟨fun e=>by have:=UY.out.lt;omega,by rw [hrr];exact BJ.out.size,fun e=>by have:=lt_of_block SJ.out;omega⟩)
     clear hrr hs0
     go_loopg [] cm (fun kq wq=>∃ left,Hid (Mp.RangeS Tryz.prog 9 wq mb rr cm (liftH H) left kq)∧Hid (Mp.MapS Tryz.prog 9 wq ub j (seenM Mk))∧Hid (Blk wq sb 92 #[.int .i64 4,.int .i64 0,.int .i64 0,.int .i64 0,.int .i64 0,.int .i64 0,.int .i64 0,.int .i64 0,.int .i64 0,.int .i64 0,.slice LA j LC,.int .i64 0])∧Hid (Below w.heap.size w wq))
     case atStart=>exact ⟨_,R0,zhz (UY.out.keep HB0.out),zhz (SJ.out.keep HB0.out),zhz (zae BJ.out HB0.out)⟩
     case round =>
      obtain ⟨left,RS,US,SS,BS⟩:=hrel
      have ks:=SS.out.rd
      go_wp2_with (at_next;refine Mp.wpList_nextS Tryz.underlying9 (by rfl) _ (by rfl) (by rfl) RS.out ?_ ?_)
      ·intro _ _
       (try go_frame)
       go_wp2
       go_ret
       exact ⟨by simp [tle],BS.out⟩
      ·intro t u w4 nr hts hlf hMt hrs hlt hfr hsz hen
       obtain ⟨x,hHx,rfl⟩:=zhd hMt
       have HLT2:=zhz hlt
       have RS2:=zhz hrs
       have US2:=zhz (US.out.fr hfr (fun e=>RR.out.1 e.symm))
       have SS2:=zhz (SS.out.fr hfr (fun e=>RR.out.2.2 e.symm))
       have BS2:=zhz (BS.out.trans (hfr.below BS.out.size (fun k hk=>by rw [hk];exact RR.out.2.1)))
       have hxb:=HV.out.xb t
       have hxp:=HV.out.ss.pos t
       unfold hadH at hxp
       rw [hHx] at hxb hxp
       simp only [Option.getD_some] at hxb hxp
       have htb:=HV.out.tb
       have htb2:tot≤38400:=by have:=HIB.out;omega
       obtain ⟨p,hp⟩:∃ p,p=x*(kk:Int):=⟨_,rfl⟩
       have hpb:0≤p∧p≤614400:=by
        rw [hp]
        refine ⟨Int.mul_nonneg hxp (by omega),?_⟩
        have h1:=Int.mul_le_mul_of_nonneg_right (show x≤38400 by omega) (show (0:Int)≤(kk:Int) by omega)
        omega
       have ep:IntKind.i64.wrap (x*(kk:Int))=p:=by rw [← hp,IntKind.wrap_i64];omega
       have LK2:=zhz (US2.out.look Tryz.underlying9 Tryz.underlying97 (z:=.bool false) (by kernel_rfl) (s:=t) hts)
       rw [zjy] at LK2
       by_cases hA:tot<x*(kk:Int)
       ·have hat:=TP.out t (by unfold hadH;rw [hHx];exact hA)
        have hlk:=LK2.out
        rw [hat] at hlk
        have hA':tot<p:=by omega
        clear hA hMt hrs hlt hfr hsz hlf htb hat hHx hp ks
        (try go_frame)
        go_wp2
        all_goals
          go_roundg nr
          case measure=>exact HLT2.out
          case rel=>exact ⟨_,RS2,US2,SS2,BS2⟩
       ·have hA':¬ tot<p:=by omega
        clear hMt hrs hlt hfr hsz hlf htb hHx hp hA ks
        (try go_frame)
        go_wp2
        all_goals
          go_roundg nr
          case measure=>exact HLT2.out
          case rel=>exact ⟨_,RS2,US2,SS2,BS2⟩
end Go.Proofs.YtambcbbekoehiaaGreat
