import Derived.Test.YtannniobeanhlaaGreatZSvW
set_option linter.unusedSimpArgs false
set_option linter.unusedVariables false
set_option maxRecDepth 100000
set_option maxHeartbeats 9000000
namespace Go.Proofs.YtannniobeanhlaaGreat
open Go.ChangeShapes Go.WideShapes Go.ChangeAt Go.RowKit
theorem zkn {w:World} {g:Nat} {t:TypeId} (h:Blk w g t #[.int .u64 5]):RdI w .u64 (some ⟨g,0,none⟩) 1 1 [5] :=
 ⟨rfl,Nat.le_refl _,by unfold maxLen;omega,fun _=>⟨g,0,rfl,lt_of_block h,fun i hi=>by
  have h0:i=0:=by omega
  subst h0
  rw [Nat.zero_add,h.rd 0];rfl⟩,fun z hz=>by rw [List.mem_singleton.1 hz];decide⟩
theorem serverstats_law (w:World) (A:Option Addr) (n c:Nat) (lps:List RuZ) (Ad:Option Addr) (nd cd:Nat) (L:List DeZ) (hrp:RdRu w A n c lps) (hrd:RdDe w Ad nd cd L) :
  Calls Tryz.prog 6 #[.slice A n c,.slice Ad nd cd] w fun e w'=>e=.returned (.bool true)∧Below w.heap.size w w':=by
 have hmxd:=hrd.max
 unfold maxLen at hmxd
 have hcpd:=hrd.cap
 have HRP:=zhz hrp
 have HRD:=zhz hrd
 clear hrp hrd
 go_enter Tryz.func6,Tryz.ntmps6
 go_upto_region 3 with (go_at_call 12;((refine (zju _).mono ?_);rintro e w1 ⟨rfl,b1⟩;have B1:=zhz b1;clear b1))
 have CL:=zhz (zfV Ad nd cd L w1 (HRD.out.below B1.out))
 cases hlb:lightD L with
 | false =>
  rw [hlb] at CL
  go_wp2_with (go_at_call 13;((with_reducible refine CL.out.mono ?_);rintro e w2 ⟨rfl,b2⟩;have B2:=zhz (B1.out.trans (b2.mono B1.out.size));clear b2))
  go_ret
  exact ⟨rfl,B2.out⟩
 | true =>
 rw [hlb] at CL
 have HLD:=zhz (zit hlb)
 clear hlb
 go_upto_region 5 with (go_at_call 13;((with_reducible refine CL.out.mono ?_);rintro e w2 ⟨rfl,b2⟩;have B2:=zhz (show Below w.heap.size w w2 from B1.out.trans (b2.mono B1.out.size));clear b2))
 clear CL
 have CF:=zhz (zgK lps 660 A n c 0 rfl w2 (HRP.out.below B2.out))
 go_upto_region 6 with (go_at_call 14;((with_reducible refine CF.out.mono ?_);rintro e w3 ⟨A',m',c',rfl,r3,z3,b3⟩;obtain ⟨x1,x2,ex1,kr,kw,ex2,b4,k4⟩:=box4K w3 (.int .i64 4294967296) (.int .i64 3) (.int .i64 660) (.slice A' m' c');have B4:=zhz (show Below w.heap.size w x2 from (B2.out.trans (b3.mono B2.out.size)).trans (b4.mono (Nat.le_trans B2.out.size b3.size)));have R4:=zhz (r3.below b4);have Z4:=zhz z3;have K4:=zhz k4;clear r3 z3 b3 b4 k4))
 try rw [ex2]
 clear ex1 kr kw ex2 CF
 obtain ⟨cb,hcb⟩:=zeq (w3.heap.size)
 rw [← hcb] at K4 ⊢
 clear hcb
 have kc4:=K4.out.rd
 obtain ⟨w5,hw5,k5,b5,s5⟩:=zad x2 #[.int .u64 5] 69
 obtain ⟨sdb,hsdb⟩:=zeq (x2.heap.size)
 rw [← hsdb] at k5
 have B5:=zhz (show Below w.heap.size w w5 from B4.out.trans (b5.mono B4.out.size))
 have R5:=zhz (R4.out.below b5)
 have K5:=zhz (K4.out.keep b5)
 have HSB:=zhz hsdb
 have HNW:=zhz (show Calls Tryz.prog 15 #[.agg #[.int .i64 4294967296,.int .i64 3,.int .i64 660,.slice A' m' c'],.slice (some ⟨sdb,0,none⟩) 1 1] w5 (fun e w'=>∃ s,e=.returned (.tuple #[.pointer (some ⟨s,0,none⟩),.int .i64 0])∧SrF w' w5.heap.size s lps 660 0 0 (fun _=>False) 2∧Below w5.heap.size w5 w') from svnewF lps 660 A' m' c' (some ⟨sdb,0,none⟩) 1 1 [5] w5 R5.out Z4.out (by omega) (by omega) (zkn k5))
 clear k5 b5 s5 hsdb
 go_upto_region 7 with (first
  | (rw [← HSB.out];go_at_call 15;((with_reducible refine HNW.out.mono ?_);rintro e w6 ⟨s,rfl,h6,b6⟩;have B6:=zhz (show Below w.heap.size w w6 from B5.out.trans (b6.mono B5.out.size));have B56:=zhz b6;have H6:=zhz h6;clear h6 b6)))
 clear HNW kc4 hw5
 obtain ⟨base,hbase⟩:=zeq (w5.heap.size)
 rw [← hbase] at H6
 have HBS:=zhz (show w.heap.size≤base from by rw [hbase];exact B5.out.size)
 have R6:=zhz (R5.out.below B56.out)
 have HRB:=zhz (show ∀ b off,0<m'→A'=some ⟨b,off,none⟩→¬ base≤b from fun b off h0 e=>by obtain ⟨b',off',e',hlt,_⟩:=R5.out.at_ h0;rw [e] at e';injection e' with e';injection e' with e';rw [hbase];omega)
 have K6:=zhz (K5.out.keep B56.out)
 have HCB:=zhz (show cb<base from by rw [hbase];exact lt_of_block K5.out)
 clear hbase R5 K5 R4 K4
 have N6:=zhz (show Below w6.heap.size w6 w6.drew from zaa (Below.refl _ _) 1)
 have K7:=zhz (K6.out.keep N6.out)
 obtain ⟨wA,hwA,kA,bA,sA⟩:=zad w6.drew #[.int .i64 0,.int .i64 0,.int .i64 0,.int .i64 0,.int .i64 0,.int .i64 0,.int .u32 0,.string ⟨#[]⟩,.int .i64 0,.slice none 0 0,.int .i64 0,.int .i64 1,.int .i64 0,.int .i64 0,.int .i64 0,.int .i64 0,.int .u32 0,.string ⟨#[]⟩,.int .i64 0,.slice none 0 0] 82
 have BA:=zhz (show Below w6.heap.size w6 wA from zae N6.out bA)
 have OA:=zhz (zlL kA)
 have KA:=zhz (K7.out.keep bA)
 have RDA:=zhz (HRD.out.below (show Below w.heap.size w wA from B6.out.trans (BA.out.mono B6.out.size)))
 have HLA:=zhz (show w6.drew.heap.size<wA.heap.size from by rw [sA];omega)
 have HDN:=zhz (RDA.out.new_ne BA.out HRD.out B6.out.size)
 have kc7:=K7.out.rd
 have st:∀ j,w6.drew.cell? ⟨cb,j,none⟩=(#[.int .i64 4294967296,.int .i64 3,.int .i64 660,.slice A' m' c']:Array Value)[j]?:=K7.out.rd
 have HM1:=zhz (show 1≤m'∧m'≤8 from by have h1:=R6.out.len;have h2:=Z4.out.2.1;omega)
 have CA:=zhz (fun (wx:World) (g8 c8:Nat) (r8:RdDe wx (some ⟨g8,0,none⟩) (2+nd) c8 ([dzE 0,dzE 1]++L))=>show Calls Tryz.prog 18 #[.slice (some ⟨g8,0,none⟩) (2+nd) c8,.int .i64 (m':Int)] wx (fun e w'=>∃ v ls,e=.returned v∧AcR wx w' v ls∧ls.length=2+nd∧Below wx.heap.size wx w') from zhx _ _ c8 _ m' HM1.out wx r8 (by rw [List.length_append];have:=HLD.out.1;show 2+L.length≤160;omega) (fun d hd=>by
  rcases List.mem_append.1 hd with q | q
  ·rcases List.mem_cons.1 q with rfl | q
   ·exact ⟨Nat.zero_le _,Nat.zero_le _⟩
   ·rw [List.mem_singleton.1 q];exact ⟨Nat.zero_le _,Nat.zero_le _⟩
  ·exact HLD.out.2 d q))
 clear kA bA sA
 go_upto_region 9 with (fail)
 refine wp_region_held_drew (S:=fun wx=>∀ j,wx.cell? ⟨cb,j,none⟩=(#[.int .i64 4294967296,.int .i64 3,.int .i64 660,.slice A' m' c']:Array Value)[j]?) (by kernel_rfl) st (fun hHeld=>?_)
 clear st
 refine wR 0 ?_
 refine wR 1 ?_
 refine wR 3 ?_
 refine wR 5 ?_
 refine wR 6 ?_
 refine wR 7 ?_
 refine wR 10 ?_
 refine wC 2 fun K hK=>?_
 go_simp
 skip
 refine hK.out _ _ KA.out.rd fun hHeld=>?_
 clear hK K
 try simp only [Act.put,zs1,zs2,zs3]
 refine wC 4 fun K hK=>?_
 refine zhw (by rfl) _ _ cd (by rfl) (by rfl) (by rfl) (M:=[dzE 0,dzE 1]) (L:=L) (base:=w6.drew.heap.size) (by decide) (by decide) OA.out (zmQ _) RDA.out (by have h1:=HLD.out.1;have h2:=HRD.out.len;omega) (by have:=HLA.out;omega) HDN.out ?_;intro g8 c8 w8 r8 gr8;have G8:=zhz (fr_row gr8);have R8:=zhz (show RdDe w8 (some ⟨g8,0,none⟩) (2+nd) c8 ([dzE 0,dzE 1]++L) from r8);have B8:=zhz (show Below w6.heap.size w6 w8 from BA.out.trans (G8.out.below BA.out.size (fun k hk=>by have e:some w6.heap.size=some k:=hk;injection e with e;omega)));have KB:=zhz (K6.out.keep B8.out);clear r8 gr8
 refine hK.out _ _ KB.out.rd fun hHeld=>?_
 clear hK K
 try simp only [Act.put,zs1,zs2,zs3]
 refine wC 8 fun K hK=>?_
 go_simp
 ((with_reducible refine (CA.out w8 g8 c8 R8.out).mono ?_);rintro v w9 ⟨v9,ls,rfl,a9,l9,b9⟩;obtain ⟨A9,c9,hv9⟩:=a9.slice;have G9:=zhz (DoF.start (H6.out.keep B8.out) HBS.out (B6.out.trans (B8.out.mono B6.out.size)) a9 b9);have L9:=zhz (And.intro l9 HLD.out.1);have KC:=zhz (KB.out.keep b9);have F9:=zhz (show Below w6.heap.size w6 w9 from zae B8.out b9);subst hv9;clear a9 l9 b9)
 refine hK.out _ _ KC.out.rd fun hHeld=>?_
 clear hK K
 try simp only [Act.put,zs1,zs2,zs3]
 refine wR 9 ?_
 refine wpAnyH_done (by kernel_rfl) ?_ _
 clear hHeld CA hwA kc7
 go_wp2
 obtain ⟨hi,hhi⟩:=zeq (w9.heap.size)
 rw [← hhi] at G9
 clear hhi
 obtain ⟨nn,hnn⟩:=zeq (ls.length)
 have HNN:=zhz (show nn=ls.length∧nn≤152 from ⟨hnn,by have:=L9.out;have:=HRD.out.len;omega⟩)
 try rw [← hnn]
 rw [← hnn] at G9
 clear hnn
 go_loopg [41] nn (fun kk si wr=>∃ (i:Nat) (now:Int),i≤nn∧Hid (kk=nn - i)∧si=.int .i64 (i:Int)∧Hid (DoF w w8 wr base s lps 660 now (500*2097153*(i:Int)) hi (.slice A9 nn c9) ls (fun _=>False) 2)∧Hid (0≤now∧now≤163680)∧Hid (Fr (fun b=>base≤b) w6 wr))
 case atStart=>exact ⟨0,0,by omega,zhz rfl,rfl,G9,zhz (by omega),zhz (Fr.of_below F9.out)⟩
 case round =>
  obtain ⟨i,now,hi',HKK,rfl,HG,HNW,HF⟩:=hrel
  by_cases hin:i<nn
  ·obtain ⟨g,cg,hvg,hg1,hg2,hcg⟩:=HG.out.ac.at_ (by have:=HNN.out;omega)
   injection hvg with hvA hvn hvc
   subst hvA
   clear hvn hvc
   obtain ⟨a,ha⟩:∃ a,ls[i]?=some a:=⟨_,List.getElem?_eq_getElem (by have:=HNN.out;omega)⟩
   have HAM:=zhz (List.mem_of_getElem? ha)
   have HAH:=zhz (HG.out.ac.hold a HAM.out)
   have hca:=hcg i a ha
   obtain ⟨kd,ck,k,dA,na,ca,dn,sB,nb,cb'⟩:=a
   have kr0:wr.cell? ⟨g,i*6,none⟩=some (.int .i64 kd):=hca 0 (by omega)
   have kr1:wr.cell? ⟨g,i*6+1,none⟩=some (.int .i64 ck):=hca 1 (by omega)
   have kr2:wr.cell? ⟨g,i*6+2,none⟩=some (.int .i64 (k:Int)):=hca 2 (by omega)
   have kr3:wr.cell? ⟨g,i*6+3,none⟩=some (.slice dA na ca):=hca 3 (by omega)
   have kr4:wr.cell? ⟨g,i*6+4,none⟩=some (.int .i64 dn):=hca 4 (by omega)
   have kr5:wr.cell? ⟨g,i*6+5,none⟩=some (.slice sB nb cb'):=hca 5 (by omega)
   obtain ⟨x1,x2,ex1,kr,kw,ex2,bl2,kc2⟩:=box6E wr (.int .i64 kd) (.int .i64 ck) (.int .i64 (k:Int)) (.slice dA na ca) (.int .i64 dn) (.slice sB nb cb')
   obtain ⟨bx,hbx⟩:=zeq (wr.heap.size)
   rw [← hbx] at kc2
   have G2:=zhz (HG.out.box bl2 (bx:=bx) ⟨by omega,lt_of_block kc2⟩)
   have HBX:=zhz hbx
   have KC:=zhz kc2
   have BL2:=zhz bl2
   have HCK:=zhz (show 0≤ck∧ck≤163680 from HAH.out.ck)
   have t2:(i:Int)<(nn:Int):=by omega
   have t3:(nn:Int)≤152:=by have:=HNN.out.2;omega
   have HIN:=zhz hin
   clear hcg hca ha bl2 kc2 hbx hg1 hg2 hin
   go_upto_region 12 with (fail)
   try rw [ex2]
   rw [← HBX.out]
   clear ex1 kr kw ex2 kr0 kr1 kr2 kr3 kr4 kr5
   have kx:=KC.out.rd
   by_cases hk1:1<k
   ·have tk:(1:Int)<(k:Int):=by omega
    go_wp2
    go_roundg (nn - (i+1))
    case measure=>have:=HKK.out;have:=HIN.out;omega
    case rel=>exact ⟨i+1,now,HIN.out,zhz rfl,by go_num,zhz ((G2.out.mono (by have h1:=HNN.out.2;have h2:=HIN.out;omega)).drop (fun _ h=>h.elim)),HNW,zhz (HF.out.trans (Fr.of_below BL2.out))⟩
   ·have tk:¬ (1:Int)<(k:Int):=by omega
    have CD:=zhz (show Calls Tryz.prog 20 #[.pointer (some ⟨s,0,none⟩),.agg #[.int .i64 kd,.int .i64 ck,.int .i64 (k:Int),.slice dA na ca,.int .i64 dn,.slice sB nb cb']] x2 (fun e w'=>∃ r,e=.returned r∧DoF w w8 w' base s lps 660 (if kd=4 then max 0 ck else max now ck) (500*2097153*(i:Int)+500*2097153) hi (.slice (some ⟨g,0,none⟩) nn c9) ls (fun b=>False∨b=bx) 2∧Fr (fun b=>base≤b∧¬ (w8.heap.size≤b∧b<hi∨(False∨b=bx))) x2 w') from
     G2.out.act HAM.out (ck:=ck) (by have:=HCK.out;omega) (by have h1:=HNN.out.2;have h2:=HIN.out;omega) (show ¬ (2:Nat)=k from by omega))
    go_upto_region 14 with (go_at_call 20;((with_reducible refine CD.out.mono ?_);rintro e wd ⟨r6,rfl,g6,f6⟩;have G6:=zhz g6;have F6:=zhz (show Fr (fun b=>base≤b) w6 wd from (HF.out.trans (Fr.of_below BL2.out)).trans (f6.mono (fun b hb=>hb.1)));clear g6 f6))
    clear kx CD tk
    go_wp2
    go_roundg (nn - (i+1))
    case measure=>have:=HKK.out;have:=HIN.out;omega
    case rel=>exact ⟨i+1,_,HIN.out,zhz rfl,by go_num,zhz (by rw [show 500*2097153*((i+1:Nat):Int)=500*2097153*(i:Int)+500*2097153 by omega];exact G6.out.drop (fun _ h=>h.elim)),zhz (by have h1:=HNW.out;have h2:=HCK.out;split <;> omega),F6⟩
  ·have hie:i=nn:=by omega
   subst hie
   have CN:=zhz (zl8 HG.out.sv)
   have CO:=zhz (HG.out.sv.open2 (by have:=HNW.out;omega))
   go_upto_region 17 with (first
    | (go_at_call 22;((with_reducible refine CN.out.mono ?_);rintro e w10 ⟨rfl,rfl⟩))
    | (go_at_call 20;((with_reducible refine CO.out.mono ?_);rintro e w11 ⟨v11,rfl,h11,f11⟩;have H11:=zhz h11;have F11:=zhz (show Fr (fun b=>base≤b) w6 w11 from HF.out.trans f11);have B11:=zhz (show Below w.heap.size w w11 from HG.out.bl.trans (f11.below HG.out.bl.size (fun b hb=>by have h2:=HBS.out;omega)));clear h11 f11)))
   clear CN CO
   have KC11:=zhz (K6.out.fr F11.out (by have:=HCB.out;omega))
   have kc:=KC11.out.rd
   go_upto_region 18 with (fail)
   clear kc
   obtain ⟨m0,hm0⟩:∃ z,z=500*2097153*(i:Int):=⟨_,rfl⟩
   have HM0:=zhz (show 0≤m0∧m0≤500*2097153*152 from by have:=HNN.out.2;omega)
   rw [← hm0] at H11
   clear hm0
   go_wp2
   go_loopg [63] m' (fun kk si wz=>∃ (j:Nat),j≤m'∧Hid (kk=m' - j)∧si=.int .i64 (j:Int)∧Hid (SrG wz base s lps now (m0+75*2097153*(j:Int)))∧Hid (Fr (fun b=>base≤b) w6 wz)∧Hid (Below w.heap.size w wz))
   case atStart=>exact ⟨0,by omega,zhz rfl,rfl,zhz (by rw [show m0+75*2097153*((0:Nat):Int)=m0 by omega];exact H11.out),F11,B11⟩
   case round =>
    obtain ⟨j,hj,HKJ,rfl,HS,HF2,HB2⟩:=hrel
    by_cases hjm:j<m'
    ·have R12:=zhz (zi0 R6.out HF2.out HRB.out)
     obtain ⟨r,hr⟩:∃ r,(confR lps)[j]?=some r:=⟨_,List.getElem?_eq_getElem (by rw [R6.out.len];exact hjm)⟩
     obtain ⟨Ns,Ks,cc,Ss,σs,N,σ,K,hs,hk3,hcn,hc2,hN,hσ,hK,h8⟩:=HS.out.rule hr
     have HSS:=zhz hs
     have HNJ:=zhz hN
     have HSJ:=zhz hσ
     have HKJ2:=zhz hK
     have HC2:=zhz (And.intro hc2 (And.intro hcn h8))
     have HK3:=zhz hk3
     have HRJ:=zhz hr
     have HI:=zhz (hs.lm j N σ hN hσ)
     have HTO:=zhz (show i64P σ.tot from (hs.at_.J.at_ j N σ hN hσ).tracked.2.1)
     have HLC:=zhz (show 0≤σ.len N∧σ.len N≤r.Ce∧r.Ce≤1024 from by
      obtain ⟨zs,hlr⟩:=hs.hn.lr j r N hr hN
      have hpc:=hlr.pC
      obtain ⟨p,rfl⟩:=zbT hr
      have e1:(planR p).Ce=((lqC p.Ce:Nat):Int):=rfl
      have e2:lqC p.Ce≤1024:=by unfold lqC;omega
      rw [e1] at hpc ⊢
      unfold LmS.len
      rw [hpc,Int.toNat_natCast]
      omega)
     have CRu:=zhz (show Calls Tryz.prog 26 #[.pointer (some ⟨s,0,none⟩),.int .i64 (j:Int)] wr (fun e w'=>e=.returned (.pointer (some ⟨N.l,0,none⟩))∧wr=w') from zeX (by omega) (zm1 hs hN) wr hs.at_.sv)
     have CT:=zhz (zci wr (hs.at_.J.at_ j N σ hN hσ))
     obtain ⟨ln,hln⟩:=zeq (σ.len N)
     rw [← hln] at CT HLC
     have HLN:=zhz hln
     have t2:(j:Int)<(m':Int):=by omega
     have t3:(m':Int)≤8:=by have:=HM1.out;omega
     have HJM:=zhz hjm
     clear hs hN hσ hK hc2 hcn h8 hr hln hk3 hjm
     go_upto_region 21 with (first
      | (go_at_call 26;((with_reducible refine CRu.out.mono ?_);rintro e w12 ⟨rfl,rfl⟩))
      | (go_at_call 30;((with_reducible refine CT.out.mono ?_);rintro e w13 ⟨rfl,b13⟩;have S13:=zhz (show wr.heap.size≤w13.heap.size from b13.size);obtain ⟨x3,x4,ex3,kr,kw,ex4,bl2,kc2⟩:=box5S w13 (.int .i64 σ.al) (.int .i64 σ.de) (.int .i64 σ.ba) (.int .i64 ln) (.int .i64 σ.tot);have B14:=zhz (zae b13 bl2);have KT:=zhz kc2;clear b13 bl2 kc2)))
     try rw [ex4]
     clear ex3 kr kw ex4 CRu CT
     obtain ⟨tb,htb⟩:=zeq (w13.heap.size)
     rw [← htb] at KT S13 ⊢
     clear htb
     have H14:=zhz (HSS.out.keep B14.out)
     have HRL:=zhz (show (((confR lps).length:Nat):Int)=(m':Int) from by rw [R6.out.len])
     have HQ:=zhz (show okQ (((confR lps).length:Nat):Int) (mkR 3 (j:Int) 0 ⟨#[]⟩ 0) from zm2 (by have:=HRL.out;omega) (by have:=HRL.out;omega))
     have CE:=zhz (fun wx=>zml (op:=3) (ru:=(j:Int)) (co:=0) (k:=0) (ky:=⟨#[]⟩) (ziy (by have:=HRL.out;omega) HQ.out) (by decide) wx)
     have CK:=zhz (fun (wq:World) (g na ca:Nat) (hna:(encZ (mkR 3 (j:Int) 0 ⟨#[]⟩ 0)).length=na) (hb:Below x4.heap.size x4 wq) (hz:RdI wq .u8 (some ⟨g,0,none⟩) na ca (encZ (mkR 3 (j:Int) 0 ⟨#[]⟩ 0))) (hg:x4.heap.size≤g)=>show Calls Tryz.prog 20 #[.pointer (some ⟨s,0,none⟩),.agg #[.int .i64 2,.int .i64 now,.int .i64 2,.slice (some ⟨g,0,none⟩) na ca,.int .i64 0,.slice none 0 0]] wq (fun e w'=>∃ v,e=.returned v∧SrB w' base s (confR lps) 660 Ns Ks (cc.next now) Ss (σs.set 2 ⟨[],0,frmZ (totZ (j:Int) σ.al σ.de σ.ba ln σ.tot),true⟩) (m0+75*2097153*(j:Int)+75*2097153)∧Fr (chF s Ns K) wq w') from by
      refine (H14.out.ask2 ⟨lps,rfl⟩ now (by have:=HNW.out;omega) 2 HKJ2.out HC2.out.1 HQ.out (by have h1:=HM0.out;omega) g na ca hna hb hz hg 0 _).mono ?_
      rintro e w' ⟨A4,c4,he,h1,_,h2⟩
      obtain ⟨e1,_,e3⟩:=zl6 (h:=ho0 cc now Ss) (ky:=⟨#[]⟩) HRJ.out HNJ.out HSJ.out
      rw [e1,e3,← HLN.out] at h1
      exact ⟨_,he,h1,h2⟩)
     go_upto_region 22 with (first
      | (go_at_call 28;((with_reducible refine (CE.out _).mono ?_);rintro v w14 ⟨g14,n14,c14,rfl,l14,r14,hg14,b14⟩;have R14:=zhz (And.intro l14 (And.intro r14 hg14));have B15:=zhz b14;clear l14 r14 hg14 b14))
      | (go_at_call 20;((with_reducible refine (CK.out _ _ _ _ R14.out.1 B15.out R14.out.2.1 R14.out.2.2).mono ?_);rintro v w15 ⟨v15,rfl,h15,f15⟩;have H15:=zhz h15;have F15:=zhz f15;clear h15 f15)))
     clear CE CK
     have CD:=zhz (show Calls Tryz.prog 20 #[.pointer (some ⟨s,0,none⟩),.agg #[.int .i64 3,.int .i64 now,.int .i64 2,.slice none 0 0,.int .i64 99,.slice none 0 0]] w15 (fun e w'=>∃ g,e=.returned (stepQ 0 0 (some ⟨g,0,none⟩) 46 46 none 0 0)∧Blk w' g 5 (obbyC (frmZ (totZ (j:Int) σ.al σ.de σ.ba ln σ.tot)))∧SrG w' base s lps now (m0+75*2097153*(j:Int)+75*2097153)∧Fr (chF s Ns K) w15 w') from by
      have h2s:2<σs.length:=(List.getElem?_eq_some_iff.1 HC2.out.1).1
      refine (H15.out.drain2 now 99 (by have:=HNW.out;omega) 2 HKJ2.out (by rw [List.getElem?_set,if_pos rfl,if_pos h2s]) 46 (by rw [zaW,zaX]) (by decide) _ _).mono ?_
      rintro e w' ⟨g,h1,h2,h3,h4,_⟩
      refine ⟨g,h1,h2,⟨_,_,_,_,_,h3,HK3.out,?_,?_⟩,h4⟩
      ·show max (max cc.now now) now=now
       rw [HC2.out.2.1];omega
      ·rw [List.getElem?_set,if_pos rfl,if_pos (by rw [List.length_set];exact h2s)])
     have hfd:=fun g w=>zkC g 46 w
     have CR:=zhz (fun wx g h=>zi1 (w:=wx) (g:=g) (ru:=(j:Int)) (a:=σ.al) (d:=σ.de) (b:=σ.ba) (c:=ln) (wt:=σ.tot) h (by omega) (by have:=HI.out.al;have:=HI.out.m;unfold i64P;omega) (by have:=HI.out.de;have:=HI.out.m;unfold i64P;omega) (by have:=HI.out.ba;have:=HI.out.m;unfold i64P;omega) (by have:=HLC.out;unfold i64P;omega) HTO.out)
     go_upto_region 23 with (first
      | (go_at_call 20;((with_reducible refine CD.out.mono ?_);rintro e w16 ⟨g16,rfl,o16,h16,f16⟩;have H16:=zhz h16;have F16:=zhz f16;have O16:=zhz o16;clear o16 h16 f16))
      | (go_at_call 31;((with_reducible refine (CR.out _ _ O16.out).mono ?_);rintro e w18 ⟨LA,LN,LC,rfl,b18⟩;obtain ⟨z1,z2,ez1,kr,kw,ez2,b19,k19⟩:=box12S w18 (.int .i64 3) (.int .i64 (j:Int)) (.int .i64 0) (.int .i64 0) (.int .i64 0) (.int .i64 σ.al) (.int .i64 σ.de) (.int .i64 σ.ba) (.int .i64 ln) (.int .i64 σ.tot) (.slice LA LN LC) (.int .i64 0);have K19:=zhz k19;have H19:=zhz ((H16.out.keep b18).keep b19);have B19:=zhz (zae b18 b19);clear b18 b19 k19)))
     try rw [ez2]
     clear ez1 kr kw ez2 CD CR hfd
     obtain ⟨sb,hsb⟩:=zeq (w18.heap.size)
     rw [← hsb] at K19 ⊢
     clear hsb
     have N1:=zhz (show Below z2.heap.size z2 z2.drew from zaa (Below.refl _ _) 1)
     have FR:=zhz (show Fr (fun b=>base≤b) wr z2 from ((Fr.of_below B14.out).mono (fun b (hb:False)=>hb.elim)).trans (((Fr.of_below B15.out).mono (fun b (hb:False)=>hb.elim)).trans ((F15.out.mono (fun b hb=>HSS.out.ch_lo HKJ2.out b hb)).trans ((F16.out.mono (fun b hb=>HSS.out.ch_lo HKJ2.out b hb)).trans ((Fr.of_below B19.out).mono (fun b (hb:False)=>hb.elim))))))
     obtain ⟨wz,hwz⟩:=zeq (z2.drew)
     rw [← hwz] at N1
     have FZ:=zhz (show Fr (fun b=>base≤b) wr wz from FR.out.trans ((Fr.of_below N1.out).mono (fun b (hb:False)=>hb.elim)))
     have NCT:=zhz (show ¬ chF s Ns K tb from fun hb=>by have h1:=HSS.out.ch_lt HKJ2.out tb hb;have h2:=S13.out;omega)
     have KT2:=zhz (((((KT.out.keep B15.out).fr F15.out NCT.out).fr F16.out NCT.out).keep B19.out).keep N1.out)
     have KS2:=zhz (K19.out.keep N1.out)
     have KC2:=zhz (K6.out.fr (HF2.out.trans FZ.out) (by have:=HCB.out;omega))
     have R13:=zhz (zi0 R6.out (HF2.out.trans FZ.out) HRB.out)
     have H20:=zhz (H19.out.keep N1.out)
     obtain ⟨b',off,hA',hbl,hcl⟩:=R13.out.at_ (by have:=HJM.out;omega)
     have hjl:j<(confR lps).length:=(List.getElem?_eq_some_iff.1 HRJ.out).1
     have hrc:(confR lps)[j]=r:=by have:=HRJ.out;rw [List.getElem?_eq_getElem hjl] at this;exact Option.some.inj this
     obtain ⟨rce,hrce⟩:=zeq (r.Ce)
     have kb:wz.cell? ⟨b',off+j*9+4,none⟩=some (.int .i64 rce):=by
      have:=hcl j hjl 4 (by omega)
      rw [hrc] at this
      rw [this,hrce];rfl
     have tln:¬ rce<ln:=by have:=HLC.out;omega
     subst hA'
     have heq:∀ w,(Op.equalIn 10000 84 (.agg #[.int .i64 σ.al,.int .i64 σ.de,.int .i64 σ.ba,.int .i64 ln,.int .i64 σ.tot]) (.agg #[.int .i64 σ.al,.int .i64 σ.de,.int .i64 σ.ba,.int .i64 ln,.int .i64 σ.tot])).run Tryz.prog w=.ok true w:=fun w=>by rw [ze1];simp
     have ST:=zhz (show (∀ j,wz.cell? ⟨sb,j,none⟩=_)∧(∀ j,wz.cell? ⟨tb,j,none⟩=_)∧(∀ j,wz.cell? ⟨cb,j,none⟩=_)∧wz.cell? ⟨b',off+j*9+4,none⟩=some (.int .i64 rce) from ⟨KS2.out.rd,KT2.out.rd,KC2.out.rd,kb⟩)
     clear hbl hcl hjl hrc hrce kb
     refine wp_region_held_drew (S:=fun wx=>(∀ q,wx.cell? ⟨sb,q,none⟩=(#[.int .i64 3,.int .i64 (j:Int),.int .i64 0,.int .i64 0,.int .i64 0,.int .i64 σ.al,.int .i64 σ.de,.int .i64 σ.ba,.int .i64 ln,.int .i64 σ.tot,.slice LA LN LC,.int .i64 0]:Array Value)[q]?)∧(∀ q,wx.cell? ⟨tb,q,none⟩=(#[.int .i64 σ.al,.int .i64 σ.de,.int .i64 σ.ba,.int .i64 ln,.int .i64 σ.tot]:Array Value)[q]?)∧(∀ q,wx.cell? ⟨cb,q,none⟩=(#[.int .i64 4294967296,.int .i64 3,.int .i64 660,.slice (some ⟨b',off,none⟩) m' c']:Array Value)[q]?)∧wx.cell? ⟨b',off+j*9+4,none⟩=some (.int .i64 rce)) (by kernel_rfl) (by rw [← hwz];exact ST.out) (fun hHeld=>?_)
     rw [← hwz] at hHeld ⊢
     clear hwz
     refine wR 0 ?_
     refine wR 1 ?_
     refine wR 2 ?_
     refine wR 3 ?_
     refine wR 4 ?_
     refine wR 5 ?_
     refine wR 6 ?_
     refine wR 7 ?_
     refine wR 8 ?_
     refine wR 9 ?_
     refine wR 10 ?_
     refine wR 11 ?_
     refine wR 12 ?_
     refine wR 13 ?_
     refine wR 14 ?_
     refine wR 15 ?_
     refine wR 16 ?_
     refine wR 17 ?_
     refine wR 18 ?_
     refine wR 19 ?_
     refine wR 20 ?_
     refine wR 21 ?_
     refine wR 22 ?_
     refine wR 23 ?_
     refine wR 24 ?_
     refine wR 25 ?_
     refine wR 26 ?_
     refine wR 27 ?_
     refine wR 28 ?_
     refine wpAnyH_done (by kernel_rfl) ?_ _
     clear hHeld heq tln
     have BZ:=zhz (HB2.out.trans (FZ.out.below HB2.out.size (fun b hb=>by have:=HBS.out;omega)))
     have FE:=zhz (HF2.out.trans FZ.out)
     go_wp2
     go_roundg (m' - (j+1))
     case measure=>have:=HKJ.out;have:=HJM.out;omega
     case rel=>exact ⟨j+1,HJM.out,zhz rfl,by go_num,zhz (by rw [show m0+75*2097153*((j+1:Nat):Int)=m0+75*2097153*(j:Int)+75*2097153 by omega];exact H20.out),FE,BZ⟩
    ·have hje:j=m':=by omega
     subst hje
     go_wp2
     go_ret
     exact ⟨rfl,HB2.out⟩
end Go.Proofs.YtannniobeanhlaaGreat
