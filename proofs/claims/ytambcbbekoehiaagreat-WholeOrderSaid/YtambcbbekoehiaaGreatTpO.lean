import Derived.Test.YtambcbbekoehiaaGreatZSvW
set_option linter.unusedSimpArgs false
set_option linter.unusedVariables false
set_option maxRecDepth 100000
set_option maxHeartbeats 9000000
namespace Go.Proofs.YtambcbbekoehiaaGreat
open Go.ChangeShapes Go.WideShapes Go.ChangeAt Go.RowKit
theorem zfP {w:World} {A:Option Addr} {n c:Nat} {q:List Int} (h:RdI w .u8 A n c q) {t:Nat} (ht:t≤n) :
  ∃ A',(∀ W,(Instr.slice 56 (.slice A n c) (some (.int .i64 (t:Int))) none none).run Tryz.prog W=.ok (.slice A' (n - t) (c - t)) W)∧RdI w .u8 A' (n - t) (c - t) (q.drop t):=by
 have hc:=h.cap
 have hm:=h.max
 refine ⟨if c=t then A else A.map (·.add (t*1)),fun W=>?_,?_⟩
 ·rw [run_slice_l W 56 A n c (by kernel_rfl) .i64 (t:Int) (by omega) (by omega)]
  show (Result.andThen _ _)=_
  rw [show (sizeOf (Tryz.prog.elem 56)).run Tryz.prog W=.ok 1 W from by kernel_rfl]
  simp [sliced]
 ·by_cases hlt:t<n
  ·obtain ⟨d,off,rfl,_,_⟩:=h.at_ (by omega)
   rw [if_neg (by omega)]
   have:=zaL h ht
   by_cases h0:t=0
   ·subst h0;simpa [Addr.add] using this
   ·simpa [Addr.add,h0] using this
  ·have e0:n - t=0:=by omega
   have e1:q.drop t=[]:=List.drop_eq_nil_of_le (by have:=h.len;omega)
   rw [e0,e1]
   exact za7 (by omega)
theorem zl5 (k:Int) (A:Option Addr) (n c:Nat) (w:World):(Instr.field 68 (.agg #[.int .i64 0,.int .i64 k,.slice none 0 0,.slice A n c]) 1).run Tryz.prog w=.ok (.int .i64 k) w:=by kernel_rfl
theorem zfb {xs:List Int} (h:byt xs):∀ z ∈ xs,0≤z∧z≤255:=fun z hz=>by have:=h z hz;omega
theorem rd0 (w:World):RdI w .u64 none 0 0 []:=⟨rfl,Nat.le_refl _,Nat.zero_le _,fun h=>absurd h (by omega),fun z hz=>by cases hz⟩
theorem zki {w:World} {base:Nat} {v:Value} {L:List Req} {q:Req} {n:Nat} (hn:n=L.length) (h:w.ownsRow base 44 5 v (n+1) (rws encR L++[.int .i64 q.op,.int .i64 q.rule,.int .u32 q.cost,.string (strOfNums q.key),.int .i64 q.k])):OwR w base 44 5 encR v (L++[q]):=by
 subst hn
 unfold OwR
 rw [zec,List.length_append,List.length_singleton]
 have e:rws encR [q]=[.int .i64 q.op,.int .i64 q.rule,.int .u32 q.cost,.string (strOfNums q.key),.int .i64 q.k]:=by simp [rws,encR]
 rw [e]
 exact h
theorem zlU {A:Option Addr} {n c:Nat} {z x y:List Int} {q:Req} {w:World} (hn:n≤100000) (hr:RdI w .u8 A n c z) (hz:z=x++y) (hx:Ans q x):∃ sr:Int,(q.op=3∨q.op=4→sr=q.rule)∧Calls Tryz.prog 38 #[.slice A n c] w fun e w'=>∃ (v re rt a d b cc wt er:Int) (LA:Option Addr) (LN LC:Nat),e=.returned (.tuple #[.agg #[.int .i64 q.op,.int .i64 sr,.int .i64 v,.int .i64 re,.int .i64 rt,.int .i64 a,.int .i64 d,.int .i64 b,.int .i64 cc,.int .i64 wt,.slice LA LN LC,.int .i64 er],.int .i64 (x.length:Int),.bool true])∧Below w.heap.size w w':=by
 obtain ⟨body,sd,rfl,h1,h2,h3,h4⟩:=hx
 have h5:=zkp h1 (by omega) y
 rw [← hz] at h5
 refine ⟨sd.rule,h3,((zko A n c z w hn hr).1 _ _ h5).mono ?_⟩
 rintro e w' ⟨LA,LN,LC,rfl,_,hb⟩
 refine ⟨sd.v,sd.rem,sd.ret,sd.a,sd.d,sd.b,sd.c,sd.wt,sd.err,LA,LN,LC,?_,hb⟩
 rw [← h2,zaE]
 rfl
theorem wholeorder_law (w:World) (A:Option Addr) (n c:Nat) (lps:List RuZ) (A2:Option Addr) (n2 c2:Nat) (l:List Req) (Ab:Option Addr) (nb cbb:Nat) (BB:Nat→Bool) (hrp:RdRu w A n c lps) (hrq:RdRq w A2 n2 c2 l) (hok:∀ q ∈ l,okR q) (hrb:RdB w Ab nb cbb BB) :
  Calls Tryz.prog 11 #[.slice A n c,.slice A2 n2 c2,.slice Ab nb cbb] w fun e w'=>e=.returned (.bool true)∧Below w.heap.size w w':=by
 have hmx2:=hrq.max
 have hmxb:=hrb.max
 unfold maxLen at hmx2 hmxb
 have hcp2:=hrq.cap
 have hcpb:=hrb.cap
 have HRP:=zhz hrp
 have HRQ:=zhz hrq
 have HOK:=zhz hok
 have HRB:=zhz hrb
 clear hrp hrq hok hrb
 go_enter Tryz.func11,Tryz.ntmps11
 go_upto_region 3 with (go_at_call 14;((refine (zjl _).mono ?_);rintro e w1 ⟨rfl,b1⟩;have B1:=zhz (show Below w.heap.size w w1 from b1);clear b1))
 by_cases h40:(40:Int)<(n2:Int)
 ·go_wp2
  go_ret
  exact ⟨rfl,B1.out⟩
 have HN2:=zhz (show n2≤40 by omega)
 have hn40:(n2:Int)≤40:=by omega
 go_upto_region 5 with (fail)
 clear h40
 have CF:=zhz (zgK lps 660 A n c 0 rfl w1 (HRP.out.below B1.out))
 go_upto_region 6 with (go_at_call 16;((with_reducible refine CF.out.mono ?_);rintro e w3 ⟨A',m',c',rfl,r3,z3,b3⟩;obtain ⟨x1,x2,ex1,kr,kw,ex2,b4,k4⟩:=box4K w3 (.int .i64 4294967296) (.int .i64 3) (.int .i64 660) (.slice A' m' c');have B4:=zhz (zae (zae B1.out b3) b4);have R4:=zhz (r3.below b4);have Z4:=zhz z3;have K4:=zhz k4;clear r3 z3 b3 b4 k4))
 try rw [ex2]
 clear ex1 kr kw ex2 CF
 obtain ⟨cb,hcb⟩:=zeq (w3.heap.size)
 rw [← hcb] at K4 ⊢
 clear hcb
 have HM:=zhz (show (confR lps).length=m'∧m'≤8 from ⟨R4.out.len,by have h1:=R4.out.len;have h2:=Z4.out.2.1;omega⟩)
 have kc:=K4.out.rd
 have HNW:=zhz (svnewN lps 660 A' m' c' none 0 0 [] x2 R4.out Z4.out (by omega) (by omega) (rd0 _))
 go_upto_region 7 with (go_at_call 17;((with_reducible refine HNW.out.mono ?_);rintro e wa ⟨s,rfl,ha,ba⟩;have HA:=zhz ha;have BA:=zhz (zae B4.out ba);have KCA:=zhz (K4.out.keep ba);have BX:=zhz ba;clear ha ba))
 clear HNW kc
 obtain ⟨base,hbase⟩:=zeq (x2.heap.size)
 obtain ⟨h0,hh0⟩:=zeq (wa.heap.size)
 have HCB:=zhz (show cb<base from by rw [hbase];exact lt_of_block K4.out)
 have HWB:=zhz (show w.heap.size≤base from by rw [hbase];exact B4.out.size)
 rw [← hbase] at HA
 obtain ⟨cc,Ns,Ks,hS,hsn,hlr,hk3⟩:=HA.out
 have HK3:=zhz hk3
 have HLT:=zhz (show ∀ x,svF s Ns Ks x→x<h0 from fun x hx=>by rw [hh0];exact hS.sv_lt x hx)
 obtain ⟨K0,hK0⟩:∃ K,Ks[0]?=some K:=⟨_,List.getElem?_eq_getElem (by omega)⟩
 obtain ⟨K1,hK1⟩:∃ K,Ks[1]?=some K:=⟨_,List.getElem?_eq_getElem (by omega)⟩
 have eo:onS 0 cZ=(0,⟨[],0,[],true⟩):=by unfold onS;rw [if_pos rfl];rfl
 have C1:=zhz (show Calls Tryz.prog 30 #[.pointer (some ⟨s,0,none⟩),actV 0 0 0 (.slice none 0 0) 0 (.slice none 0 0)] wa (fun e w'=>e=.returned (stepV 0)∧SrB w' base s (confR lps) 660 Ns Ks (cc.next 0) (rsZ (confR lps)) [⟨[],0,[],true⟩,cZ,cZ] 0∧Fr (fun b=>K0.F b∨b=s) wa w') from by
  have h9:=hS.plain 0 0 0 (by decide) 0 (.slice none 0 0) (.slice none 0 0) hK0 rfl (by decide) (fun h=>by rcases h with h | h <;> cases h)
  rw [eo] at h9
  exact h9)
 have HIN:=zhz (show ∀ (K:CnN) (k:Nat),Ks[k]?=some K→∀ b,(K.F b∨b=s)→inS base h0 b from fun K k hK b hb=>by
  have h9:svF s Ns Ks b:=by rcases hb with hb | hb;exact zgT hK (Or.inl hb);exact zgT hK (Or.inr (Or.inl hb))
  exact ⟨hS.sv_lo b h9,HLT.out b h9⟩)
 have HH0:=zhz hh0
 have HKK:=zhz (And.intro hK0 hK1)
 clear hbase hS hsn hlr hk3 hK0 hK1 hh0
 go_upto_region 8 with (go_at_call 30;((with_reducible refine C1.out.mono ?_);rintro e z1 ⟨rfl,g1,f1⟩;have G1:=zhz g1;have F1:=zhz (f1.mono (HIN.out _ _ HKK.out.1));clear g1 f1))
 clear C1
 have C2:=zhz (show Calls Tryz.prog 30 #[.pointer (some ⟨s,0,none⟩),actV 0 0 1 (.slice none 0 0) 0 (.slice none 0 0)] z1 (fun e w'=>e=.returned (stepV 0)∧SrB w' base s (confR lps) 660 Ns Ks ((cc.next 0).next 0) (rsZ (confR lps)) [⟨[],0,[],true⟩,⟨[],0,[],true⟩,cZ] 0∧Fr (fun b=>K1.F b∨b=s) z1 w') from by
  have h9:=G1.out.plain 0 0 0 (by decide) 1 (.slice none 0 0) (.slice none 0 0) HKK.out.2 rfl (by decide) (fun h=>by rcases h with h | h <;> cases h)
  rw [eo] at h9
  exact h9)
 clear eo
 go_upto_region 9 with (go_at_call 30;((with_reducible refine C2.out.mono ?_);rintro e z2 ⟨rfl,g2,f2⟩;have G2:=zhz g2;have F2:=zhz (f2.mono (HIN.out _ _ HKK.out.2));clear g2 f2))
 clear C2
 have F12:=zhz (F1.out.trans F2.out)
 have O2:=zhz (show OrI w z2 base s h0 lps Ns Ks 0 from ⟨⟨_,_,G2.out⟩,HWB.out,HLT.out,by have:=F12.out.size;have:=HH0.out;omega,BA.out.trans (F12.out.below BA.out.size (fun b hb=>Nat.le_trans HWB.out hb.1)),HK3.out⟩)
 have KC2:=zhz (KCA.out.fr F12.out (fun hh=>by have:=hh.1;have:=HCB.out;omega))
 clear G1 G2 F1 F2
 obtain ⟨v1,hv1,q1,bv1,sv1⟩:=zad z2 #[.slice none 0 0,.slice none 0 0] 125
 obtain ⟨sb,hsb⟩:=zeq (z2.heap.size)
 rw [← hsb] at q1
 have HSB:=zhz (show h0≤sb from by rw [hsb];exact O2.out.hs)
 have HSE:=zhz hsb
 obtain ⟨v2,hv2,q2,bv2,sv2⟩:=zad v1 #[.slice none 0 0,.slice none 0 0] 126
 obtain ⟨ob,hob⟩:=zeq (v1.heap.size)
 rw [← hob] at q2
 have HOE:=zhz hob
 obtain ⟨bs,hbs⟩:=zeq (v2.heap.size)
 have HSO:=zhz (show sb<ob∧ob<bs∧bs≤v2.heap.size from ⟨by rw [hob];exact lt_of_block q1,by rw [hbs];exact lt_of_block q2,by rw [hbs];exact Nat.le_refl _⟩)
 have S3:=zhz (OrS.start (X:=z2) (w1:=v1) (q1.keep bv2) q2 HSO.out)
 have O3:=zhz ((O2.out.keep bv1).keep bv2)
 have KC3:=zhz ((KC2.out.keep bv1).keep bv2)
 clear q1 bv1 sv1 q2 bv2 sv2 hsb hob hbs
 go_upto_region 10 with (fail)
 try rw [hv1]
 rw [← HSE.out]
 go_upto_region 11 with (fail)
 try rw [hv2]
 rw [← HOE.out]
 clear hv1 hv2
 go_upto_region 12 with (fail)
 go_loopg [43] n2 (fun kk si wr=>∃ (j:Nat) (V U:Nat→Value) (L:Nat→List Req) (B:Nat→List Int),j≤n2∧Hid (kk=n2 - j)∧si=.int .i64 (j:Int)∧Hid (OrI w wr base s h0 lps Ns Ks (75*2097153*(j:Int)))∧Hid (Blk wr cb 29 #[.int .i64 4294967296,.int .i64 3,.int .i64 660,.slice A' m' c'])∧Hid (OrS wr sb ob bs V U L B)∧Hid (∀ k,k<2→Told (L k) (B k)∧byt (B k)∧(L k).length≤j∧(B k).length≤664*j))
 case atStart=>exact ⟨0,_,_,_,_,by omega,zhz rfl,rfl,zhz (by rw [show 75*2097153*((0:Nat):Int)=0 by omega];exact O3.out),KC3,S3,zhz (fun k hk=>⟨rfl,(fun z hz=>by cases hz),Nat.zero_le _,Nat.zero_le _⟩)⟩
 case round =>
  obtain ⟨j,V,U,L,B,hj,HJK,rfl,HO,HC,HS,HT⟩:=hrel
  by_cases hjn:j<n2
  ·have HBW:=zhz HO.out.bl
   have hl:=HRQ.out.len
   obtain ⟨b',off,rfl,hlt,hc⟩:=(HRQ.out.below HBW.out).at_ (by omega)
   obtain ⟨q,hq⟩:∃ q,l[j]?=some q:=⟨_,List.getElem?_eq_getElem (by omega)⟩
   obtain ⟨c0,c1,c2',c3',c4⟩:=hc j q hq
   have HQR:=zhz (HOK.out q (List.mem_of_getElem? hq))
   have HJN:=zhz hjn
   have hsz:((strOfNums q.key).size:Int)≤9223372036854775807:=by have:=HQR.out.2.1;unfold maxLen at this;omega
   have t2:(j:Int)<(n2:Int):=by omega
   clear hc hlt hq hl hjn
   obtain ⟨w6,hw6,k6,b6,s6⟩:=zad wr #[.int .i64 q.op,.int .i64 q.rule,.int .u32 q.cost,.string (strOfNums q.key),.int .i64 q.k] 44
   obtain ⟨qb,hqb⟩:=zeq (wr.heap.size)
   have HQB:=zhz (show qb=wr.heap.size∧bs≤qb from ⟨hqb,by rw [hqb];exact HS.out.so.2.2⟩)
   rw [← hqb] at k6
   have K6:=zhz k6
   have O6:=zhz (HO.out.keep b6)
   have S6:=zhz (HS.out.keep b6)
   have C6:=zhz (HC.out.keep b6)
   clear k6 b6 s6 hqb
   go_upto_region 14 with (fail)
   try rw [hw6]
   rw [← HQB.out.1]
   clear hw6 c0 c1 c2' c3' c4
   have k6:=K6.out.rd
   have kc:=C6.out.rd
   by_cases hkey:(100:Int)<((strOfNums q.key).size:Int)
   ·have hund:undef=Value.tuple #[]:=rfl
    go_wp2
    go_roundg (n2 - (j+1))
    case measure=>have:=HJK.out;have:=HJN.out;omega
    case rel=>exact ⟨j+1,V,U,L,B,HJN.out,zhz rfl,by go_num,zhz (O6.out.mono (by have:=HJN.out;have:=HN2.out;omega)),C6,S6,zhz (fun k hk=>by obtain ⟨g1,g2,g3,g4⟩:=HT.out k hk;exact ⟨g1,g2,by omega,by omega⟩)⟩
   by_cases hR:rightP q (m':Int)
   rotate_left 1
   ·have CR:=zhz (fun w=>(zc4 q.op q.rule q.cost q.k (m':Int) (strOfNums q.key) w HQR.out.2.1).2 (by rw [HQR.out.mk];exact hR))
    clear hR
    go_wp2_with (go_at_call 42;((with_reducible refine (CR.out _).mono ?_);rintro e w7 ⟨rfl,b7⟩;have O7:=zhz (O6.out.keep b7);have S7:=zhz (S6.out.keep b7);have C7:=zhz (C6.out.keep b7);clear b7))
    go_roundg (n2 - (j+1))
    case measure=>have:=HJK.out;have:=HJN.out;omega
    case rel=>exact ⟨j+1,V,U,L,B,HJN.out,zhz rfl,by go_num,zhz (O7.out.mono (by have:=HJN.out;have:=HN2.out;omega)),C7,S7,zhz (fun k hk=>by obtain ⟨g1,g2,g3,g4⟩:=HT.out k hk;exact ⟨g1,g2,by omega,by omega⟩)⟩
   have HRT:=zhz (show okQ ((confR lps).length:Int) q from ⟨by rw [HM.out.1];exact hR,HQR.out.1,HQR.out.byt⟩)
   have CR:=zhz (fun w=>(zc4 q.op q.rule q.cost q.k (m':Int) (strOfNums q.key) w HQR.out.2.1).1 (by rw [HQR.out.mk];exact hR))
   clear hR
   go_upto_region 16 with (go_at_call 42;((with_reducible refine (CR.out _).mono ?_);rintro e w7 ⟨rfl,b7⟩;have K7:=zhz (K6.out.keep b7);have O7:=zhz (O6.out.keep b7);have S7:=zhz (S6.out.keep b7);have C7:=zhz (C6.out.keep b7);clear b7))
   clear CR hkey k6 kc hsz t2
   have hcn:=HRB.out.cap
   go_cut [69] from 60 to 102 (fun s69 wx=>s69=.bool (decide (j<nb) && BB j)∧wx=w7)
   case first =>
    by_cases h2:j<nb
    ·obtain ⟨b2',off2,rfl,hlt2,hcell2⟩:=(HRB.out.below O7.out.bl).at_ (by omega)
     have hc2:w7.cell? ⟨b2',off2+j,none⟩=some (.bool (BB j)):=hcell2 j h2
     have t3:(j:Int)<(nb:Int):=by omega
     clear hcell2
     go_wp2
     go_meet
     case rel=>exact ⟨by simp [h2],rfl⟩
    ·have t3:¬ (j:Int)<(nb:Int):=by omega
     go_wp2
     go_meet
     case rel=>exact ⟨by simp [h2],rfl⟩
   case rest =>
   obtain ⟨hs69,hwx⟩:=hcut
   have hwx:=hwx.symm
   subst hwx
   subst hs69
   obtain ⟨tn,htn⟩:=zeq ((decide (j<nb) && BB j))
   rw [← htn]
   clear htn hcn
   go_upto_if 69 with (fail)
   go_cut [14] from 60 to 102 (fun s14 wx=>∃ k:Nat,k<2∧s14=.int .i64 (k:Int)∧wx=w7)
   case first =>
    cases tn
    ·go_wp2
     go_meet
     case rel=>exact ⟨0,by omega,rfl,rfl⟩
    ·go_wp2
     go_meet
     case rel=>exact ⟨1,by omega,rfl,rfl⟩
   case rest =>
   obtain ⟨k,hk2,rfl,hwx⟩:=hcut
   have hwx:=hwx.symm
   subst hwx
   have HK2:=zhz hk2
   have HR256:=zhz (show rightP q 256 from zhk HRT.out.1 (by have:=HM.out;omega))
   have CE:=zhz (fun w=>zmd (op:=q.op) (ru:=q.rule) (co:=q.cost) (k:=q.k) (ky:=strOfNums q.key) (by rw [HQR.out.mk];exact HR256.out) HQR.out.1 w)
   rw [HQR.out.mk] at CE
   have k7:=K7.out.rd
   go_upto_region 19 with (go_at_call 37;((with_reducible refine (CE.out _).mono ?_);rintro e w8 ⟨g8,n8,c8,rfl,_,r8,hg8,b8⟩;have R8:=zhz (And.intro r8 (Nat.le_trans O7.out.hs hg8));have K8:=zhz (K7.out.keep b8);have O8:=zhz (O7.out.keep b8);have S8:=zhz (S7.out.keep b8);have C8:=zhz (C7.out.keep b8);clear r8 hg8 b8))
   clear CE k7
   have CA:=zhz (O8.out.ask HK2.out (ck:=(j:Int)) (by have:=HJN.out;omega) HRT.out (by have:=HJN.out;have:=HN2.out;omega) (some ⟨g8,0,none⟩) n8 c8 R8.out.1 (fun b off _ e=>by injection e with e;injection e with e;exact Or.inr (by have:=R8.out.2;omega)) 0 (.slice none 0 0))
   have hfd:=fun k A n c w=>zl5 k A n c w
   go_upto_region 21 with (go_at_call 30;((with_reducible refine CA.out.mono ?_);rintro e w9 ⟨A4,n4,c4,x,rfl,g9,hx9,hb9,f9⟩;have J9:=zhz g9;have HX:=zhz (And.intro hx9 hb9);have K9:=zhz (K8.out.fr f9 (fun hh=>by have h1:=hh.2;have h2:=HQB.out.2;have h3:=S8.out.so;have h4:=HSB.out;omega));have S9:=zhz (S8.out.fr f9 HSB.out);have C9:=zhz (C8.out.fr f9 (fun hh=>by have h1:=hh.1;have h2:=HCB.out;omega));clear g9 hx9 hb9 f9))
   clear CA hfd
   obtain ⟨ln,hln⟩:=zeq ((L k).length)
   have HLN:=zhz (show ln=(L k).length∧ln≤40 from ⟨hln,by have:=(HT.out k HK2.out).2.2.1;have:=HJN.out;have:=HN2.out;omega⟩)
   clear hln
   have D9:=zhz (show Below w9.heap.size w9 w9.drew from zaa (Below.refl _ _) 1)
   obtain ⟨W0,hW0⟩:=zeq (w9.drew)
   rw [← hW0] at D9
   have J10:=zhz (J9.out.keep D9.out)
   have K10:=zhz (K9.out.keep D9.out)
   have S10:=zhz (S9.out.keep D9.out)
   have C10:=zhz (C9.out.keep D9.out)
   have st:=And.intro ((S10.out.sk.rd k).trans (zcv V HK2.out)) K10.out.rd
   have hk2i:(k:Int)<2:=by have:=HK2.out;omega
   obtain ⟨i0,hi0,hz0,hz1,hz2⟩:=info_parts infoRq
   obtain ⟨W1,hW1,q1,bW1,sW1⟩:=zad W0 #[.int .i64 q.op,.int .i64 q.rule,.int .u32 q.cost,.string (strOfNums q.key),.int .i64 q.k] 44
   have BW1:=zhz bW1
   have st1:=zhz (And.intro (((S10.out.keep bW1).sk.rd k).trans (zcv V HK2.out)) (K10.out.keep bW1).rd)
   have HSV:=zhz (show W0.ownsRow bs 44 5 (V k) ln (rws encR (L k)) from by rw [HLN.out.1];exact S10.out.sv k HK2.out)
   have HW1:=zhz hW1
   clear q1 bW1 sW1 hW1
   refine Ph.start [8] (Ph.pick [(fun w':World=>w'.cell? ⟨sb,k,none⟩=some (V k)∧∀ i,w'.cell? ⟨qb,i,none⟩=(#[.int .i64 q.op,.int .i64 q.rule,.int .u32 q.cost,.string (strOfNums q.key),.int .i64 q.k]:Array Value)[i]?),(fun _:World=>True)]) (by kernel_rfl) (Ph.pick0 (by rw [← hW0];exact st)) (fun hHeld hOrd=>?_)
   rw [← hW0] at hHeld ⊢
   clear hW0
   obtain ⟨sa1,sa2⟩:=st
   refine Ph.pR 0 0 hOrd ?_;clear hOrd;intro hOrd
   refine Ph.pR 1 0 hOrd ?_;clear hOrd;intro hOrd
   refine Ph.pR 2 0 hOrd ?_;clear hOrd;intro hOrd
   refine Ph.pR 3 0 hOrd ?_;clear hOrd;intro hOrd
   refine Ph.pR 4 0 hOrd ?_;clear hOrd;intro hOrd
   refine Ph.pC 5 0 hOrd ?_;clear hOrd;intro K hK
   go_simp
   skip
   refine hK.out _ _ (Ph.pick0 (by rw [HW1.out];exact st1.out)) fun hHeld hOrd=>?_
   clear hK K
   try simp only [Act.put,zs1,zs2,zs3] at hOrd ⊢
   refine Ph.pC 6 0 hOrd ?_;clear hOrd;intro K hK
   refine G.step_push (by rfl) _ _ (by rfl) (by rfl) (by rfl) Tryz.underlying123 hi0 hz0 hz1 hz2 (by rfl) (by omega) HSV.out (by exact S10.out.so.2.2) [.int .i64 q.op,.int .i64 q.rule,.int .u32 q.cost,.string (strOfNums q.key),.int .i64 q.k] rfl (by intro u hu;simp at hu;rcases hu with rfl | rfl | rfl | rfl | rfl <;> rfl) (by have:=HLN.out.2;omega) (by have:=HLN.out.2;unfold maxLen;omega) ?_;intro g12 cap12 w12 ho12 f12 hat12;have OW12:=zhz (zki HLN.out.1 ho12);have F12':=zhz f12;have AT12:=zhz (show (V k).ownBlock=some g12∨W0.heap.size≤g12 from hat12.imp id (fun h=>Nat.le_of_lt h));have K12:=zhz (K10.out.fr f12 (fun e=>by have h1:=(S10.out.sv k HK2.out).base_le _ e;have h2:=(S9.out.sv k HK2.out).lt _ e;have h3:=HQB.out;have h4:=(HS.out.sv k HK2.out).lt _ e;omega));have SB12:=zhz (S10.out.sk.fr f12 (fun e=>by have h1:=(S10.out.sv k HK2.out).base_le _ e;have h2:=S10.out.so;omega));have S12a:=zhz ((SB12.out.rd k).trans (zcv V HK2.out));clear ho12 f12 hat12
   refine hK.out _ _ (Ph.pick0 ⟨S12a.out,K12.out.rd⟩) fun hHeld hOrd=>?_
   clear hK K
   try simp only [Act.put,zs1,zs2,zs3] at hOrd ⊢
   refine Ph.pR 7 0 hOrd ?_;clear hOrd;intro hOrd
   have c12:=S12a.out
   have f12w:=SB12.out.wr
   obtain ⟨w13,e13,s13,f13⟩:=S10.out.push HK2.out OW12.out F12'.out AT12.out
   refine Ph.pC 8 1 hOrd ?_;clear hOrd;intro K hK
   go_simp
   (try rw [e13])
   refine hK.out _ _ (Ph.pick1 trivial) fun hHeld hOrd=>?_
   clear hK K
   try simp only [Act.put,zs1,zs2,zs3] at hOrd ⊢
   refine Ph.done (by kernel_rfl) ?_ _
   try rw [e13]
   clear hHeld hOrd c12 f12w e13 sa1 sa2 hi0 hz0 hz1 hz2
   have S13:=zhz s13
   have J13:=zhz (J10.out.own f13 (fun b hb=>Nat.le_trans HSB.out hb))
   have C13:=zhz (C10.out.fr f13 (fun hh=>by have h1:=HCB.out;have h2:=HSB.out;have h3:=J10.out.st;obtain ⟨_,_,h4⟩:=h3;have h5:=h4.at_.lo;have h6:=HLT.out s (Or.inl rfl);omega))
   clear s13 f13
   have CD:=zhz (fun (wx:World) (hb:Below w13.heap.size w13 wx)=>(J13.out.keep hb).drain HK2.out HX.out.1 HX.out.2 (ck:=(j:Int)) (by have:=HJN.out;omega) (by have:=HJN.out;have:=HN2.out;omega) (.slice none 0 0) (.slice none 0 0))
   go_upto_region 22 with (fail)
   have D13:=zhz (show Below w13.heap.size w13 w13.drew from zaa (Below.refl _ _) 1)
   obtain ⟨W3,hW3⟩:=zeq (w13.drew)
   rw [← hW3] at D13
   have S14:=zhz (S13.out.keep D13.out)
   have C14:=zhz (C13.out.keep D13.out)
   have su:=(S14.out.ok.rd k).trans (zcv U HK2.out)
   have HBK:=zhz (HT.out k HK2.out)
   have hfd:=fun g n w=>zkK g n w
   have HBX:=zhz (show byt (B k++x) from fun z hz=>by rcases List.mem_append.1 hz with hz | hz;exact HBK.out.2.1 z hz;exact HX.out.2 z hz)
   refine Ph.start [12] (Ph.pick [(fun w':World=>w'.cell? ⟨ob,k,none⟩=some (U k)),(fun _:World=>True)]) (by kernel_rfl) (Ph.pick0 (by rw [← hW3];exact su)) (fun hHeld hOrd=>?_)
   rw [← hW3] at hHeld ⊢
   clear hW3
   refine Ph.pR 0 0 hOrd ?_;clear hOrd;intro hOrd
   refine Ph.pR 1 0 hOrd ?_;clear hOrd;intro hOrd
   refine Ph.pR 2 0 hOrd ?_;clear hOrd;intro hOrd
   refine Ph.pR 3 0 hOrd ?_;clear hOrd;intro hOrd
   refine Ph.pR 4 0 hOrd ?_;clear hOrd;intro hOrd
   refine Ph.pR 5 0 hOrd ?_;clear hOrd;intro hOrd
   refine Ph.pR 6 0 hOrd ?_;clear hOrd;intro hOrd
   refine Ph.pR 7 0 hOrd ?_;clear hOrd;intro hOrd
   refine Ph.pC 8 0 hOrd ?_;clear hOrd;intro K hK
   go_simp
   ((with_reducible refine (CD.out _ D13.out).mono ?_);rintro e w15 ⟨g15,d15,rfl,hd15,r15,o15,f15⟩;have O15:=zhz o15;have R15:=zhz r15;have HD15:=zhz (show d15≤664 from by rw [hd15];exact HX.out.1.len.2);have S15:=zhz (S14.out.fr f15 HSB.out);have C15:=zhz (C14.out.fr f15 (fun hh=>by have h1:=hh.1;have h2:=HCB.out;omega));have SU15:=zhz ((S15.out.ok.rd k).trans (zcv U HK2.out));clear hd15 r15 o15 f15)
   refine hK.out _ _ (Ph.pick0 SU15.out) fun hHeld hOrd=>?_
   clear hK K
   try simp only [Act.put,zs1,zs2,zs3] at hOrd ⊢
   refine Ph.pR 9 0 hOrd ?_;clear hOrd;intro hOrd
   refine Ph.pC 10 0 hOrd ?_;clear hOrd;intro K hK
   refine zjn (by rfl) _ _ d15 (by rfl) (by rfl) (by rfl) (S15.out.uv k HK2.out) (zfb HBK.out.2.1) R15.out (by have h1:=HBK.out.2.2.2;have h2:=HD15.out;have h3:=HJN.out;have h4:=HN2.out;omega) S15.out.so.2.2 ?_;intro v16 w16 o16 hg16 _ hat16;obtain ⟨A16,c16,hv16,_,_⟩:=o16.rd (zfb HBX.out);obtain ⟨n16,hn16⟩:=zeq ((B k++x).length);rw [← hn16] at hv16;clear hn16;subst hv16;have f16:=fr_row hg16;have OW16:=zhz o16;have F16:=zhz f16;have AT16:=zhz (show ∀ g,(Value.slice A16 n16 c16).ownBlock=some g→(U k).ownBlock=some g∨w15.heap.size≤g from fun g e=>by rcases hat16 with h | h;exact Or.inl (h ▸ e);exact Or.inr (by rw [h] at e;injection e with e;omega));have OB16:=zhz (S15.out.ok.fr f16 (fun e=>by have h1:=((S15.out.uv k HK2.out).lt _ e).1;have h2:=S15.out.so;omega));have SU16:=zhz ((OB16.out.rd k).trans (zcv U HK2.out));clear o16 hg16 hat16 f16
   refine hK.out _ _ (Ph.pick0 SU16.out) fun hHeld hOrd=>?_
   clear hK K
   try simp only [Act.put,zs1,zs2,zs3] at hOrd ⊢
   refine Ph.pR 11 0 hOrd ?_;clear hOrd;intro hOrd
   have c16:=SU16.out
   have f16w:=OB16.out.wr
   obtain ⟨w17,e17,s17,f17⟩:=S15.out.more HK2.out OW16.out F16.out AT16.out
   refine Ph.pC 12 1 hOrd ?_;clear hOrd;intro K hK
   go_simp
   (try rw [e17])
   refine hK.out _ _ (Ph.pick1 trivial) fun hHeld hOrd=>?_
   clear hK K
   try simp only [Act.put,zs1,zs2,zs3] at hOrd ⊢
   refine Ph.done (by kernel_rfl) ?_ _
   try rw [e17]
   clear hHeld hOrd c16 f16w e17 hfd su
   have S17:=zhz s17
   have O17:=zhz (O15.out.own f17 (fun b hb=>Nat.le_trans HSB.out hb))
   have C17:=zhz (C15.out.fr f17 (fun hh=>by have h1:=HCB.out;have h2:=HSB.out;have h3:=J10.out.st;obtain ⟨_,_,h4⟩:=h3;have h5:=h4.at_.lo;have h6:=HLT.out s (Or.inl rfl);omega))
   clear s17 f17
   go_wp2
   go_roundg (n2 - (j+1))
   case measure=>have:=HJK.out;have:=HJN.out;omega
   case rel=>exact ⟨j+1,_,_,_,_,HJN.out,zhz rfl,by go_num,zhz (O17.out.mono (by have:=HJN.out;have:=HN2.out;omega)),C17,S17,zhz (fun i hi=>by
    obtain ⟨g1,g2,g3,g4⟩:=HT.out i hi
    by_cases hik:i=k
    ·subst hik
     rw [zbt,zbt]
     have h5:=HX.out.1.len
     refine ⟨Told.snoc _ _ _ _ g1 HX.out.1,HBX.out,by rw [List.length_append,List.length_singleton];omega,by rw [List.length_append];omega⟩
    ·rw [zbg _ _ hik,zbg _ _ hik]
     exact ⟨g1,g2,by omega,by omega⟩)⟩
  ·have hje:j=n2:=by omega
   subst hje
   have HBL:=zhz HO.out.bl
   clear hn40
   go_upto_region 25 with (fail)
   go_loopg [103] 2 (fun kk sk wz=>∃ k:Nat,k≤2∧Hid (kk=2 - k)∧sk=.int .i64 (k:Int)∧Hid (Below wr.heap.size wr wz))
   case atStart=>exact ⟨0,by omega,zhz rfl,rfl,zhz (Below.refl _ _)⟩
   case round =>
    obtain ⟨k,hk,HKZ,rfl,HZ⟩:=hrel
    obtain ⟨wz,hwz⟩:=zeq (wr)
    rw [← hwz] at HZ ⊢
    clear hwz
    by_cases hk2:k<2
    ·have HK2:=zhz hk2
     have S2:=zhz (HS.out.keep HZ.out)
     have su:=(S2.out.ok.rd k).trans (zcv U hk2)
     have sv:=(S2.out.sk.rd k).trans (zcv V hk2)
     obtain ⟨Au,cu,hu,hru,_⟩:=(S2.out.uv k hk2).rd (zfb (HT.out k hk2).2.1)
     have hsv:=S2.out.sv k hk2
     obtain ⟨Av,cv,hv,hcv,hmv,hgv⟩:=hsv.slice
     obtain ⟨nu,hnu⟩:=zeq ((B k).length)
     obtain ⟨ln,hln⟩:=zeq ((L k).length)
     rw [hu,← hnu] at su
     rw [hv] at hsv
     rw [hv,← hln] at sv
     rw [← hnu] at hru
     rw [← hln] at hcv hgv hsv
     have HRU:=zhz hru
     have HSV:=zhz hsv
     have HGV:=zhz hgv
     have HLN:=zhz (show ln=(L k).length∧ln≤40 from ⟨hln,by have:=(HT.out k hk2).2.2.1;have:=HN2.out;omega⟩)
     have HNU:=zhz (show nu≤30000 from by have:=(HT.out k hk2).2.2.2;have:=HN2.out;omega)
     have HT1:=zhz (HT.out k hk2).1
     have hk2i:(k:Int)<2:=by omega
     have hln40:(ln:Int)≤40:=by have:=HLN.out.2;omega
     have hcvi:ln≤cv:=hcv
     have hcvm:(cv:Int)≤9223372036854775807:=by unfold maxLen at hmv;omega
     have hcu:=HRU.out.cap
     clear hu hv hru hsv hgv hcv hmv hnu hln
     go_upto_region 29 with (fail)
     clear su sv
     go_loopg [17,113] ln (fun kk sl si wy=>∃ (i:Nat) (Ai:Option Addr) (ni ci:Nat) (rest:List Int),i≤ln∧Hid (kk=ln - i)∧sl=.slice Ai ni ci∧si=.int .i64 (i:Int)∧Hid (RdI wy .u8 Ai ni ci rest)∧Hid (Told ((L k).drop i) rest)∧Hid (ni≤30000)∧Hid (Below wz.heap.size wz wy))
     case atStart=>exact ⟨0,Au,nu,cu,B k,by omega,zhz rfl,rfl,rfl,HRU,HT1,HNU,zhz (Below.refl _ _)⟩
     case round =>
      obtain ⟨i,Ai,ni,ci,rest,hi,HKI,rfl,rfl,HRI,HTO,HNI,HBY⟩:=hrel
      obtain ⟨wy,hwy⟩:=zeq (wr)
      rw [← hwy] at HRI HBY ⊢
      clear hwy
      by_cases hil:i<ln
      ·have HIL:=zhz hil
       have hlt:i<(L k).length:=by have:=HLN.out.1;omega
       obtain ⟨q,hq⟩:∃ q,(L k)[i]?=some q:=⟨_,List.getElem?_eq_getElem hlt⟩
       have hdr:(L k).drop i=q :: (L k).drop (i+1):=by
        rw [List.drop_eq_getElem_cons hlt]
        congr 1
        have:=(List.getElem?_eq_some_iff.1 hq).2
        exact this
       have hto:=HTO.out
       rw [hdr] at hto
       obtain ⟨x,y,hxy,hax,hty⟩:=hto
       have HTY:=zhz hty
       have HXY:=zhz hxy
       have HAX:=zhz hax
       obtain ⟨gv,hav,_,_⟩:=HGV.out (by omega)
       subst hav
       have hrow:=HSV.out.keep HBY.out
       have kr0:wy.cell? ⟨gv,i*5,none⟩=some (.int .i64 q.op):=hrow.cell zb0 hq (j:=0) (by omega)
       have kr1:wy.cell? ⟨gv,i*5+1,none⟩=some (.int .i64 q.rule):=hrow.cell zb0 hq (j:=1) (by omega)
       have kr2:wy.cell? ⟨gv,i*5+2,none⟩=some (.int .u32 q.cost):=hrow.cell zb0 hq (j:=2) (by omega)
       have kr3:wy.cell? ⟨gv,i*5+3,none⟩=some (.string (strOfNums q.key)):=hrow.cell zb0 hq (j:=3) (by omega)
       have kr4:wy.cell? ⟨gv,i*5+4,none⟩=some (.int .i64 q.k):=hrow.cell zb0 hq (j:=4) (by omega)
       have t2:(i:Int)<(ln:Int):=by omega
       clear hdr hxy hax hty hq hlt hrow hil
       obtain ⟨w6,hw6,k6,b6,s6⟩:=zad wy #[.int .i64 q.op,.int .i64 q.rule,.int .u32 q.cost,.string (strOfNums q.key),.int .i64 q.k] 44
       obtain ⟨qb,hqb⟩:=zeq (wy.heap.size)
       have HQE:=zhz hqb
       rw [← hqb] at k6
       have K6:=zhz k6
       have B6:=zhz (show Below wz.heap.size wz w6 from HBY.out.trans (b6.mono HBY.out.size))
       have R6:=zhz (HRI.out.below b6)
       clear k6 b6 s6 hqb
       obtain ⟨xl,hxl⟩:=zeq (x.length)
       have HXL:=zhz (show xl=x.length∧xl≤ni from ⟨hxl,by have h1:=R6.out.len;rw [HXY.out,List.length_append] at h1;omega⟩)
       obtain ⟨sr,hsr,hread⟩:=zlU (by have:=HNI.out;omega) R6.out HXY.out HAX.out
       rw [← hxl] at hread
       have CR:=zhz hread
       have HSR:=zhz hsr
       clear hread hsr hxl
       go_upto_region 31 with (fail)
       try rw [hw6]
       rw [← HQE.out]
       clear hw6 kr0 kr1 kr2 kr3 kr4 HQE
       go_upto_region 32 with (go_at_call 38;((with_reducible refine CR.out.mono ?_);rintro e w8 ⟨v,re,rt,a,d,b,cc,wt,er,LA,LN,LC,rfl,b8⟩;obtain ⟨z1,z2,ez1,kr,kw,ez2,bz,kz⟩:=box12S w8 (.int .i64 q.op) (.int .i64 sr) (.int .i64 v) (.int .i64 re) (.int .i64 rt) (.int .i64 a) (.int .i64 d) (.int .i64 b) (.int .i64 cc) (.int .i64 wt) (.slice LA LN LC) (.int .i64 er);have KS:=zhz kz;have K8:=zhz ((K6.out.keep b8).keep bz);have B8:=zhz ((B6.out.trans (b8.mono B6.out.size)).trans (bz.mono (Nat.le_trans B6.out.size b8.size)));have R8:=zhz ((R6.out.below b8).below bz);clear b8 bz kz))
       try rw [ez2]
       clear ez1 kr kw ez2 CR
       obtain ⟨db,hdb⟩:=zeq (w8.heap.size)
       rw [← hdb] at KS ⊢
       clear hdb
       have ks:=KS.out.rd
       have kq:=K8.out.rd
       obtain ⟨A9,hsl,hr9⟩:=zfP R8.out (t:=xl) HXL.out.2
       have R9:=zhz (show RdI z2 .u8 A9 (ni - xl) (ci - xl) y from by
        have e:rest.drop xl=y:=by rw [HXY.out,HXL.out.1,List.drop_left]
        rw [e] at hr9;exact hr9)
       have hfs:=hsl
       clear hsl hr9
       have HN9:=zhz (show ni - xl≤30000 from by have:=HNI.out;omega)
       have h34:q.op=3∨q.op=4∨(¬ q.op=3∧¬ q.op=4):=by omega
       rcases h34 with t3 | t3 | ⟨t3,t4⟩
       ·obtain rfl:=HSR.out (Or.inl t3)
        go_wp2
        go_roundg (ln - (i+1))
        case measure=>have:=HKI.out;have:=HIL.out;omega
        case rel=>exact ⟨i+1,A9,_,_,y,HIL.out,zhz rfl,rfl,by go_num,R9,HTY,HN9,B8⟩
       ·obtain rfl:=HSR.out (Or.inr t3)
        go_wp2
        go_roundg (ln - (i+1))
        case measure=>have:=HKI.out;have:=HIL.out;omega
        case rel=>exact ⟨i+1,A9,_,_,y,HIL.out,zhz rfl,rfl,by go_num,R9,HTY,HN9,B8⟩
       ·go_wp2
        go_roundg (ln - (i+1))
        case measure=>have:=HKI.out;have:=HIL.out;omega
        case rel=>exact ⟨i+1,A9,_,_,y,HIL.out,zhz rfl,rfl,by go_num,R9,HTY,HN9,B8⟩
      ·have hie:i=ln:=by omega
       subst hie
       have hre:rest=[]:=by
        have:=HTO.out
        rw [HLN.out.1,List.drop_length] at this
        exact this
       have hn0:ni=0:=by rw [← HRI.out.len,hre];rfl
       subst hn0
       go_wp2
       go_roundg (2 - (k+1))
       case measure=>have:=HKZ.out;have:=HK2.out;omega
       case rel=>exact ⟨k+1,HK2.out,zhz rfl,by go_num,zhz (HZ.out.trans (HBY.out.mono HZ.out.size))⟩
    ·have hke:k=2:=by omega
     subst hke
     go_wp2
     go_ret
     exact ⟨rfl,zae HBL.out HZ.out⟩
end Go.Proofs.YtambcbbekoehiaaGreat
