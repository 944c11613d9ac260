import Derived.Test.YtannniobeanhlaaGreatZSvW
set_option linter.unusedSimpArgs false
set_option linter.unusedVariables false
set_option maxRecDepth 100000
set_option maxHeartbeats 9000000
namespace Go.Proofs.YtannniobeanhlaaGreat
open Go.ChangeShapes Go.WideShapes Go.ChangeAt Go.RowKit
theorem zi0 {w:World} {g:Nat} {t:TypeId} (h:Blk w g t #[.int .u64 2,.int .u64 3]):RdI w .u64 (some ⟨g,0,none⟩) 2 2 [2,3] :=
 ⟨rfl,Nat.le_refl _,by unfold maxLen;omega,fun _=>⟨g,0,rfl,lt_of_block h,fun i hi=>by
  have h0:i=0∨i=1:=by omega
  rcases h0 with rfl | rfl
  ·rw [Nat.zero_add,h.rd 0];rfl
  ·rw [Nat.zero_add,h.rd 1];rfl⟩,fun z hz=>by
  rcases List.mem_cons.1 hz with rfl | hz
  ·decide
  ·rw [List.mem_singleton.1 hz];decide⟩
theorem box2W (X:World) (a:Int) (k:ByteArray):∃ w1 w2,X.alloc (.cells #[.int .i64 0,.string ⟨#[]⟩] 103)=w1 ∧
  (∀ j,w1.cell? ⟨X.heap.size,j,none⟩=(#[.int .i64 0,.string ⟨#[]⟩]:Array Value)[j]?)∧(∀ j,w1.frozen? ⟨X.heap.size,j,none⟩=false) ∧
  (w1.setCell ⟨X.heap.size,0,none⟩ (.int .i64 a)).setCell ⟨X.heap.size,1,none⟩ (.string k)=w2 ∧
  Below X.heap.size X w2∧Blk w2 X.heap.size 103 #[.int .i64 a,.string k]:=by
 obtain ⟨w1,hw1,k1,b1,s1⟩:=zad X #[.int .i64 0,.string ⟨#[]⟩] 103
 have hl:=lt_of_block k1
 have he:(w1.setCell ⟨X.heap.size,0,none⟩ (.int .i64 a)).setCell ⟨X.heap.size,1,none⟩ (.string k)=setObj w1 X.heap.size (.cells #[.int .i64 a,.string k] 103 (0,0)):=by
  rw [zac k1]
  simp only [zai hl,zs1,zs2,zs3]
 refine ⟨w1,_,hw1,k1.rd,k1.wr,rfl,?_,?_⟩
 ·rw [he]
  exact b1.trans ((Fr.setObj (F:=fun k=>k=X.heap.size) (Fr.refl _ _) rfl _).below b1.size (fun k hk=>by omega))
 ·rw [he]
  exact zab hl _
theorem zbZ {w:World} {b:Nat} {t:TypeId} {a0 a1 a2 a3:Value} (h:Blk w b t #[a0,a1,a2,a3]) (v0 v1 v2 v3:Value):∃ y,((((w.setCell ⟨b,0,none⟩ v0).setCell ⟨b,1,none⟩ v1).setCell ⟨b,2,none⟩ v2).setCell ⟨b,3,none⟩ v3)=y∧Fr (fun k=>k=b) w y∧Blk y b t #[v0,v1,v2,v3] :=
 ⟨_,zaj h,Fr.setObj (F:=fun k=>k=b) (Fr.refl _ w) rfl _,zab (lt_of_block h) _⟩
theorem zmR {r:Int} (h:0≤r∧r<100):(Lit.int .i64 r).wf=true:=by
 show (decide (IntKind.i64.min≤r) && decide (r≤IntKind.i64.max))=true
 have e1:IntKind.i64.min = -9223372036854775808:=rfl
 have e2:IntKind.i64.max=9223372036854775807:=rfl
 rw [e1,e2]
 simp
 omega
theorem serverevents_law (w:World) (A:Option Addr) (n c:Nat) (lps:List RuZ) (Ad:Option Addr) (nd cd:Nat) (L:List DeZ) (hrp:RdRu w A n c lps) (hrd:RdDe w Ad nd cd L) :
  Calls Tryz.prog 9 #[.slice A n c,.slice Ad nd cd] w fun e w'=>e=.returned (.bool true)∧Below w.heap.size w w':=by
 have hmxd:=hrd.max
 unfold maxLen at hmxd
 have hcpd:=hrd.cap
 have HRP:=zhz hrp
 have HRD:=zhz hrd
 clear hrp hrd
 have hmm:=@run_makeMap Tryz.prog
 go_enter Tryz.func9,Tryz.ntmps9
 go_upto_region 3 with (go_at_call 12;((refine (zjr _).mono ?_);rintro e w1 ⟨rfl,b1⟩;have B1:=zhz b1;clear b1))
 have CL:=zhz (zfM Ad nd cd L w1 (HRD.out.below B1.out))
 cases hlb:lightD L with
 | false =>
  rw [hlb] at CL
  go_wp2_with (go_at_call 13;((with_reducible refine CL.out.mono ?_);rintro e w2 ⟨rfl,b2⟩;have B2:=zhz (B1.out.trans (b2.mono B1.out.size));clear b2))
  go_ret
  exact ⟨rfl,B2.out⟩
 | true =>
 rw [hlb] at CL
 have HLD:=zhz (ziu hlb)
 clear hlb
 go_upto_region 5 with (go_at_call 13;((with_reducible refine CL.out.mono ?_);rintro e w2 ⟨rfl,b2⟩;have B2:=zhz (show Below w.heap.size w w2 from B1.out.trans (b2.mono B1.out.size));clear b2))
 clear CL
 have CF:=zhz (zgE lps 660 A n c 0 rfl w2 (HRP.out.below B2.out))
 go_upto_region 6 with (go_at_call 14;((with_reducible refine CF.out.mono ?_);rintro e w3 ⟨A',m',c',rfl,r3,z3,b3⟩;obtain ⟨x1,x2,ex1,kr,kw,ex2,b4,k4⟩:=box4K w3 (.int .i64 4294967296) (.int .i64 3) (.int .i64 660) (.slice A' m' c');have B4:=zhz (show Below w.heap.size w x2 from (B2.out.trans (b3.mono B2.out.size)).trans (b4.mono (Nat.le_trans B2.out.size b3.size)));have R4:=zhz (r3.below b4);have Z4:=zhz z3;have K4:=zhz k4;clear r3 z3 b3 b4 k4))
 try rw [ex2]
 clear ex1 kr kw ex2 CF
 obtain ⟨cb,hcb⟩:=zeq (w3.heap.size)
 rw [← hcb] at K4 ⊢
 clear hcb
 have kc4:=K4.out.rd
 obtain ⟨w5,hw5,k5,b5,s5⟩:=zad x2 #[.int .u64 2,.int .u64 3] 69
 obtain ⟨sdb,hsdb⟩:=zeq (x2.heap.size)
 rw [← hsdb] at k5
 have B5:=zhz (show Below w.heap.size w w5 from B4.out.trans (b5.mono B4.out.size))
 have R5:=zhz (R4.out.below b5)
 have K5:=zhz (K4.out.keep b5)
 have HSB:=zhz hsdb
 have HNW:=zhz (show Calls Tryz.prog 15 #[.agg #[.int .i64 4294967296,.int .i64 3,.int .i64 660,.slice A' m' c'],.slice (some ⟨sdb,0,none⟩) 2 2] w5 (fun e w'=>∃ s,e=.returned (.tuple #[.pointer (some ⟨s,0,none⟩),.int .i64 0])∧NwS w' w5.heap.size s lps [2,3] 2∧Below w5.heap.size w5 w') from svnewN lps 660 A' m' c' (some ⟨sdb,0,none⟩) 2 2 [2,3] w5 R5.out Z4.out (by omega) (by omega) (zi0 k5))
 clear k5 b5 s5 hsdb
 go_upto_region 7 with (first
  | (rw [← HSB.out];go_at_call 15;((with_reducible refine HNW.out.mono ?_);rintro e w6 ⟨s,rfl,h6,b6⟩;have B6:=zhz (show Below w.heap.size w w6 from B5.out.trans (b6.mono B5.out.size));have B56:=zhz b6;have H6:=zhz h6;clear h6 b6)))
 clear HNW kc4 hw5
 obtain ⟨base,hbase⟩:=zeq (w5.heap.size)
 rw [← hbase] at H6
 have HBS:=zhz (show w.heap.size≤base from by rw [hbase];exact B5.out.size)
 have R6:=zhz (R5.out.below B56.out)
 have HRB:=zhz (show ∀ b off,0<m'→A'=some ⟨b,off,none⟩→¬ base≤b from fun b off h0 e=>by obtain ⟨b',off',e',hlt,_⟩:=R5.out.at_ h0;rw [e] at e';injection e' with e';injection e' with e';rw [hbase];omega)
 have K6:=zhz (K5.out.keep B56.out)
 have HCB:=zhz (show cb<base from by rw [hbase];exact lt_of_block K5.out)
 clear hbase R5 K5 R4 K4
 go_upto_region 9 with (fail)
 have hm0:Mg.MapS whoC (w6.alloc (.map #[] 0)) w6.heap.size 0 (fun _=>none):=Mg.MapS.new (C:=whoC) w6
 obtain ⟨mb,hmb⟩:=zeq (w6.heap.size)
 rw [← hmb] at hm0
 have bl9:Below w6.heap.size w6 (w6.alloc (.map #[] 0)):=(Below.refl _ _).alloc (Nat.le_refl _) _
 have HEV:=zhz ((EvS.start H6.out).more (D':=fun b=>b=mb) bl9 (fun b e=>Or.inr ⟨by omega,by have:=hm0.lt;omega⟩))
 have M6:=zhz hm0
 have KM:=zhz (K6.out.keep bl9)
 have BM:=zhz (show Below w.heap.size w (w6.alloc (.map #[] 0)) from zae B6.out bl9)
 have HME:=zhz hmb
 have HMB:=zhz (show base≤mb∧w.heap.size≤mb from by have h1:=(EvS.start H6.out).lo;have h2:=B6.out.size;omega)
 clear hm0 hmb bl9
 go_upto_region 10 with (fail)
 try rw [← HME.out]
 clear hmm
 generalize w6.alloc (.map #[] 0)=wm at HEV M6 KM BM ⊢
 have N6:=zhz (show Below wm.heap.size wm wm.drew from zaa (Below.refl _ _) 1)
 have K7:=zhz (KM.out.keep N6.out)
 obtain ⟨wA,hwA,kA,bA,sA⟩:=zad wm.drew #[.int .i64 0,.int .i64 0,.int .i64 0,.int .i64 0,.int .i64 0,.int .i64 0,.int .u32 0,.string ⟨#[]⟩,.int .i64 0,.slice none 0 0,.int .i64 0,.int .i64 1,.int .i64 0,.int .i64 0,.int .i64 0,.int .i64 0,.int .u32 0,.string ⟨#[]⟩,.int .i64 0,.slice none 0 0] 82
 have BA:=zhz (show Below wm.heap.size wm wA from zae N6.out bA)
 have OA:=zhz (zlR kA)
 have KA:=zhz (K7.out.keep bA)
 have RDA:=zhz (HRD.out.below (show Below w.heap.size w wA from BM.out.trans (BA.out.mono BM.out.size)))
 have HLA:=zhz (show wm.drew.heap.size<wA.heap.size from by rw [sA];omega)
 have HDN:=zhz (RDA.out.new_ne BA.out HRD.out BM.out.size)
 have kc7:=K7.out.rd
 have st:∀ j,wm.drew.cell? ⟨cb,j,none⟩=(#[.int .i64 4294967296,.int .i64 3,.int .i64 660,.slice A' m' c']:Array Value)[j]?:=K7.out.rd
 have HM1:=zhz (show 1≤m'∧m'≤8 from by have h1:=R6.out.len;have h2:=Z4.out.2.1;omega)
 have CA:=zhz (fun (wx:World) (g8 c8:Nat) (r8:RdDe wx (some ⟨g8,0,none⟩) (2+nd) c8 ([dzE 0,dzE 1]++L))=>show Calls Tryz.prog 18 #[.slice (some ⟨g8,0,none⟩) (2+nd) c8,.int .i64 (m':Int)] wx (fun e w'=>∃ v ls,e=.returned v∧AcR wx w' v ls∧ls.length=2+nd∧Below wx.heap.size wx w') from zhu _ _ c8 _ m' HM1.out wx r8 (by rw [List.length_append];have:=HLD.out.1;show 2+L.length≤160;omega) (fun d hd=>by
  rcases List.mem_append.1 hd with q | q
  ·rcases List.mem_cons.1 q with rfl | q
   ·exact ⟨Nat.zero_le _,Nat.zero_le _⟩
   ·rw [List.mem_singleton.1 q];exact ⟨Nat.zero_le _,Nat.zero_le _⟩
  ·exact HLD.out.2 d q))
 clear kA bA sA
 refine wp_region_held_drew (S:=fun wx=>∀ j,wx.cell? ⟨cb,j,none⟩=(#[.int .i64 4294967296,.int .i64 3,.int .i64 660,.slice A' m' c']:Array Value)[j]?) (by kernel_rfl) st (fun hHeld=>?_)
 clear st
 refine wR 0 ?_
 refine wR 1 ?_
 refine wR 3 ?_
 refine wR 5 ?_
 refine wR 6 ?_
 refine wR 7 ?_
 refine wR 10 ?_
 refine wC 2 fun K hK=>?_
 go_simp
 skip
 refine hK.out _ _ KA.out.rd fun hHeld=>?_
 clear hK K
 try simp only [Act.put,zs1,zs2,zs3]
 refine wC 4 fun K hK=>?_
 refine zht (by rfl) _ _ cd (by rfl) (by rfl) (by rfl) (M:=[dzE 0,dzE 1]) (L:=L) (base:=wm.drew.heap.size) (by decide) (by decide) OA.out (zmW _) RDA.out (by have h1:=HLD.out.1;have h2:=HRD.out.len;omega) (by have:=HLA.out;omega) HDN.out ?_;intro g8 c8 w8 r8 gr8;have G8:=zhz (fr_row gr8);have R8:=zhz (show RdDe w8 (some ⟨g8,0,none⟩) (2+nd) c8 ([dzE 0,dzE 1]++L) from r8);have B8:=zhz (show Below wm.heap.size wm w8 from BA.out.trans (G8.out.below BA.out.size (fun k hk=>by have e:some wm.heap.size=some k:=hk;injection e with e;omega)));have KB:=zhz (KM.out.keep B8.out);clear r8 gr8
 refine hK.out _ _ KB.out.rd fun hHeld=>?_
 clear hK K
 try simp only [Act.put,zs1,zs2,zs3]
 refine wC 8 fun K hK=>?_
 go_simp
 ((with_reducible refine (CA.out w8 g8 c8 R8.out).mono ?_);rintro v w9 ⟨v9,ls,rfl,a9,l9,b9⟩;obtain ⟨A9,c9,hv9⟩:=a9.slice;have G9:=zhz (EvL.start (HEV.out.keep B8.out) HBS.out (BM.out.trans (B8.out.mono BM.out.size)) a9 b9);have M9:=zhz ((M6.out.keep B8.out).keep b9);have S9:=zhz (show mb<w8.heap.size from (M6.out.keep B8.out).lt);have L9:=zhz (And.intro l9 HLD.out.1);have KC:=zhz (KB.out.keep b9);have F9:=zhz (show Below wm.heap.size wm w9 from zae B8.out b9);subst hv9;clear a9 l9 b9)
 refine hK.out _ _ KC.out.rd fun hHeld=>?_
 clear hK K
 try simp only [Act.put,zs1,zs2,zs3]
 refine wR 9 ?_
 refine wpAnyH_done (by kernel_rfl) ?_ _
 clear hHeld CA hwA kc7
 go_wp2
 obtain ⟨hi,hhi⟩:=zeq (w9.heap.size)
 rw [← hhi] at G9
 clear hhi
 obtain ⟨nn,hnn⟩:=zeq (ls.length)
 have HNN:=zhz (show nn=ls.length∧nn≤152 from ⟨hnn,by have:=L9.out;have:=HRD.out.len;omega⟩)
 try rw [← hnn]
 rw [← hnn] at G9
 clear hnn
 obtain ⟨rn,hrn⟩:=zeq ((confR lps).length)
 have HRN:=zhz (show rn=(confR lps).length∧rn≤8 from ⟨hrn,by have:=(zbN lps);omega⟩)
 clear hrn
 go_loopg [45] nn (fun kk si wr=>∃ (i cnt:Nat) (now:Int) (V:Who→Option Value) (M:Int→ByteArray→Bool),i≤nn∧Hid (kk=nn - i)∧si=.int .i64 (i:Int)∧Hid (EvL w w8 wr base s lps now (500*2097153*(i:Int)) hi (.slice A9 nn c9) ls (fun b=>b=mb) M)∧Hid (0≤now∧now≤163680)∧Hid (Mg.MapS whoC wr mb cnt V)∧Hid (VMap V M rn)∧Hid (cnt≤1000000*i))
 case atStart=>exact ⟨0,0,0,_,_,by omega,zhz rfl,rfl,G9,zhz (by omega),M9,zhz VMap.nil,zhz (by omega)⟩
 case round =>
  obtain ⟨i,cnt,now,V,M,hi',HKK,rfl,HG,HNW,HM,HV,HCN⟩:=hrel
  by_cases hin:i<nn
  ·obtain ⟨g',cg,hvg,hg1,hg2,hcg⟩:=HG.out.ac.at_ (by have:=HNN.out;omega)
   injection hvg with hvA hvn hvc
   subst hvA
   clear hvn hvc
   obtain ⟨a,ha⟩:∃ a,ls[i]?=some a:=⟨_,zge (by have:=HNN.out;omega)⟩
   have HAM:=zhz (List.mem_of_getElem? ha)
   have HAH:=zhz (HG.out.ac.hold a HAM.out)
   have hca:=hcg i a ha
   obtain ⟨kd,ck,k,dA,na,ca,dn,sB,nb,cb'⟩:=a
   have kr0:wr.cell? ⟨g',i*6,none⟩=some (.int .i64 kd):=hca 0 (by omega)
   have kr1:wr.cell? ⟨g',i*6+1,none⟩=some (.int .i64 ck):=hca 1 (by omega)
   have kr2:wr.cell? ⟨g',i*6+2,none⟩=some (.int .i64 (k:Int)):=hca 2 (by omega)
   have kr3:wr.cell? ⟨g',i*6+3,none⟩=some (.slice dA na ca):=hca 3 (by omega)
   have kr4:wr.cell? ⟨g',i*6+4,none⟩=some (.int .i64 dn):=hca 4 (by omega)
   have kr5:wr.cell? ⟨g',i*6+5,none⟩=some (.slice sB nb cb'):=hca 5 (by omega)
   obtain ⟨x1,x2,ex1,kr,kw,ex2,bl2,kc2⟩:=box6E wr (.int .i64 kd) (.int .i64 ck) (.int .i64 (k:Int)) (.slice dA na ca) (.int .i64 dn) (.slice sB nb cb')
   obtain ⟨bx,hbx⟩:=zeq (wr.heap.size)
   rw [← hbx] at kc2
   have G2:=zhz (HG.out.box bl2 (bx:=bx) ⟨by omega,lt_of_block kc2⟩)
   have M2:=zhz (HM.out.keep bl2)
   have HBX:=zhz hbx
   have KC:=zhz kc2
   have HCK:=zhz (show 0≤ck∧ck≤163680 from HAH.out.ck)
   have t2:(i:Int)<(nn:Int):=by omega
   have t3:(nn:Int)≤152:=by have:=HNN.out.2;omega
   have HIN:=zhz hin
   clear hcg hca ha bl2 kc2 hbx hg1 hg2 hin
   go_upto_region 13 with (fail)
   try rw [ex2]
   rw [← HBX.out]
   clear ex1 kr kw ex2 kr0 kr1 kr2 kr3 kr4 kr5
   have kx:=KC.out.rd
   have cd1:=G2.out.act HAM.out (by omega) (by have h1:=HNN.out.2;have h2:=HIN.out;omega)
   dsimp only [actV,actC] at cd1
   have CD:=zhz cd1
   clear cd1
   go_upto_region 14 with (go_at_call 20;((with_reducible refine CD.out.mono ?_);rintro e wd ⟨ev,nx,A3,n3,c3,A4,n4,c4,Lv,now2,M1,rfl,g6,r4,l4,h41,f6,hnow,h4a,h4b⟩;obtain ⟨q3,q4,eq3,kr,kw,eq4,b7,k7⟩:=box4S wd (.int .i64 ev) (.int .i64 (nx:Int)) (.slice A3 n3 c3) (.slice A4 n4 c4);have G6:=zhz (g6.keep b7);have Y6:=zhz k7;have E6:=zhz (r4.below b7);have M6x:=zhz ((M2.out.fr f6 (fun h=>h.2 (Or.inr (Or.inl rfl)))).keep b7);have NE6:=zhz (show ∀ b off,0<n4→A4=some ⟨b,off,none⟩→b≠mb from fun b off h1 e h2=>by have h3:=l4 b off h1 e;have h4:=M2.out.lt;omega);have NY:=zhz (show wd.heap.size≠mb from by have h4:=(M2.out.fr f6 (fun h=>h.2 (Or.inr (Or.inl rfl)))).lt;omega);have HN4:=zhz h41;have HNO:=zhz hnow;have H4A:=zhz h4a;have H4B:=zhz h4b;have K6b:=zhz ((KC.out.fr f6 (fun h=>h.2 (Or.inr (Or.inr rfl)))).keep b7);clear g6 r4 l4 h41 f6 hnow h4a h4b b7 k7))
   try rw [eq4]
   clear eq3 kr kw eq4 kx CD
   obtain ⟨yb,hyb⟩:=zeq (wd.heap.size)
   rw [← hyb] at Y6 NY ⊢
   clear hyb
   have kx:=K6b.out.rd
   go_upto_if 54 with (fail)
   go_cut [] from 46 to 108 (fun wx=>∃ (cnt2:Nat) (V2:Who→Option Value) (M0:Int→ByteArray→Bool),Hid (EvL w w8 wx base s lps now2 (500*2097153*(i:Int)+500*2097153) hi (.slice (some ⟨g',0,none⟩) nn c9) ls (fun b=>b=mb∨b=bx) M1)∧Hid (Mg.MapS whoC wx mb cnt2 V2)∧Hid (VMap V2 M0 rn)∧Hid (cnt2≤cnt)∧Hid (okB now2 M0 Lv∧M1=Lv.foldl stepB M0∧∀ x ∈ Lv,0≤x.rule∧x.rule<(rn:Int))∧Hid (Blk wx yb 46 #[.int .i64 ev,.int .i64 (nx:Int),.slice A3 n3 c3,.slice A4 n4 c4])∧Hid (RdE wx A4 n4 Lv))
   case first =>
    by_cases h4:kd=4
    ·obtain ⟨y3,hcl,m3,f3⟩:=M6x.out.clear Tryz.underlying99
     obtain ⟨e1,e2⟩:=H4A.out h4
     have MC:=zhz m3
     have GC:=zhz (G6.out.set (Or.inl rfl) (Or.inl S9.out) HMB.out.2 f3)
     have YC:=zhz (Y6.out.fr f3 (fun e=>NY.out e))
     have EC:=zhz (E6.out.fr f3 (fun b off h1 e h2=>NE6.out b off h1 e h2))
     subst h4
     clear m3 f3
     go_wp2
     go_meet
     case rel=>exact ⟨0,_,_,GC,MC,zhz VMap.nil,zhz (Nat.zero_le _),zhz ⟨by rw [e1];trivial,by rw [e1,e2];rfl,fun x hx=>by rw [e1] at hx;cases hx⟩,YC,EC⟩
    ·have t4:(kd==4)=false:=by simp [h4]
     obtain ⟨e1,e2,e3⟩:=H4B.out h4
     have HE:=zhz (show okB now2 M Lv∧M1=Lv.foldl stepB M∧∀ x ∈ Lv,0≤x.rule∧x.rule<(rn:Int) from ⟨e1,e2,by rw [HRN.out.1];exact e3⟩)
     clear h4 e1 e2 e3
     go_wp2
     go_meet
     case rel=>exact ⟨cnt,V,M,G6,M6x,HV,zhz (Nat.le_refl _),HE,Y6,E6⟩
   case rest =>
   obtain ⟨cnt2,V2,M0,GA,MA,VA,HC2,HOK,YA,EA⟩:=hcut
   have ky:=YA.out.rd
   have hn4c:n4≤1000000:=HN4.out
   go_upto_region 17 with (fail)
   clear ky
   go_loopg [59] n4 (fun kv sj wv=>∃ (j cnt3:Nat) (V3:Who→Option Value),j≤n4∧Hid (kv=n4 - j)∧sj=.int .i64 (j:Int)∧Hid (EvL w w8 wv base s lps now2 (500*2097153*(i:Int)+500*2097153) hi (.slice (some ⟨g',0,none⟩) nn c9) ls (fun b=>b=mb∨b=bx) M1)∧Hid (Mg.MapS whoC wv mb cnt3 V3)∧Hid (VMap V3 ((Lv.take j).foldl stepB M0) rn)∧Hid (cnt3≤cnt+j)∧Hid (RdE wv A4 n4 Lv))
   case atStart=>exact ⟨0,cnt2,V2,Nat.zero_le _,zhz rfl,rfl,GA,MA,zhz VA.out,zhz (by have:=HC2.out;omega),EA⟩
   case round =>
    obtain ⟨j,cnt3,V3,hj,HKJ,rfl,GJ,MJ,VJ,HCJ,EJ⟩:=hrel
    by_cases hjn:j<n4
    ·obtain ⟨be,oe,rfl,hbl,hce⟩:=EJ.out.at_ (by omega)
     obtain ⟨⟨eru,eky,eup,eat⟩,hx⟩:∃ x,Lv[j]?=some x:=⟨_,zge (by rw [EJ.out.len];exact hjn)⟩
     obtain ⟨ob1,ob2,ob3⟩:=ziG HOK.out.1 hx
     have ob4:=HOK.out.2.2 _ (List.mem_of_getElem? hx)
     dsimp only at ob1 ob2 ob3 ob4
     have HKY:=zhz (show eky.size≤maxLen from by unfold maxLen;omega)
     have HX:=zhz hx
     have HOB:=zhz (And.intro ob1 ob4)
     subst ob2
     obtain ⟨who,hwho⟩:∃ x:Who,x.r=eru∧x.s=eky:=⟨⟨eru,eky,zmR (by have:=HRN.out.2;omega),HKY.out⟩,rfl,rfl⟩
     have HWO:=zhz hwho
     have kr0:wr.cell? ⟨be,oe+j*4,none⟩=some (.int .i64 eru):=hce j _ hx 0 (by omega)
     have kr1:wr.cell? ⟨be,oe+j*4+1,none⟩=some (.string eky):=hce j _ hx 1 (by omega)
     have kr2:wr.cell? ⟨be,oe+j*4+2,none⟩=some (.bool eup):=hce j _ hx 2 (by omega)
     have kr3:wr.cell? ⟨be,oe+j*4+3,none⟩=some (.int .i64 eat):=hce j _ hx 3 (by omega)
     obtain ⟨u1,u2,eu1,kr,kw,eu2,bl3,kc3⟩:=box4E wr eru eky eup eat
     obtain ⟨eb,heb⟩:=zeq (wr.heap.size)
     rw [← heb] at kc3
     have HEB:=zhz heb
     have KE:=zhz kc3
     have GK:=zhz (GJ.out.keep bl3)
     have MK:=zhz (MJ.out.keep bl3)
     have EK:=zhz (EJ.out.below bl3)
     have t5:(j:Int)<(n4:Int):=by omega
     have HJN:=zhz hjn
     clear hce hx hbl bl3 kc3 heb hjn ob1 ob3 ob4 hwho
     go_upto_region 19 with (fail)
     try rw [eu2]
     rw [← HEB.out]
     clear kr0 kr1 kr2 kr3 eu1 kr kw eu2
     have ke:=KE.out.rd
     obtain ⟨u3,u4,eu3,kr,kw,eu4,bl4,kc4'⟩:=box2W u2 eru eky
     obtain ⟨wb,hwb⟩:=zeq (u2.heap.size)
     rw [← hwb] at kc4'
     have HWB:=zhz hwb
     have KW:=zhz kc4'
     have KE2:=zhz (KE.out.keep bl4)
     have GL:=zhz (GK.out.keep bl4)
     have ML:=zhz (MK.out.keep bl4)
     have EL:=zhz (EK.out.below bl4)
     clear bl4 kc4' hwb
     go_upto_region 20 with (fail)
     try rw [eu4]
     rw [← HWB.out]
     clear ke eu3 kr kw eu4
     have N1:=zhz (show Below u4.heap.size u4 u4.drew from zaa (Below.refl _ _) 1)
     obtain ⟨W0,hW0⟩:=zeq (u4.drew)
     rw [← hW0] at N1
     have GD:=zhz (GL.out.keep N1.out)
     have MD:=zhz (ML.out.keep N1.out)
     have ED:=zhz (EL.out.below N1.out)
     have KED:=zhz (KE2.out.keep N1.out)
     have KWD:=zhz (KW.out.keep N1.out)
     have LK:=zhz (fun (wx:World) (hm:Mg.MapS whoC wx mb cnt3 V3)=>show (Instr.lookup 99 (.map (some mb)) (.agg #[.int .i64 eru,.string eky]) false).run Tryz.prog wx=.ok (.bool (!eup)) wx from by
      have h1:=hm.look Tryz.underlying99 (z:=.bool false) (by kernel_rfl) (s:=who) trivial
      rw [VJ.out.look,HWO.out.1,HWO.out.2,HOB.out.1] at h1
      have h2:whoC.vl who=.agg #[.int .i64 eru,.string eky]:=by
       show whoV who=_
       unfold whoV
       rw [HWO.out.1,HWO.out.2]
      rw [h2] at h1
      exact h1)
     have CN:=zhz GD.out.sv.nowC
     have t6:((!eup)==eup)=false:=by cases eup <;> rfl
     have HS0:=GD.out.sv.lo
     have hS:(fun wx:World=>((∀ x,wx.cell? ⟨wb,x,none⟩=(#[.int .i64 eru,.string eky]:Array Value)[x]?)∧(∀ x,wx.cell? ⟨eb,x,none⟩=(#[.int .i64 eru,.string eky,.bool eup,.int .i64 eat]:Array Value)[x]?))∧Mg.MapS whoC wx mb cnt3 V3) W0:=⟨⟨KWD.out.rd,KED.out.rd⟩,MD.out⟩
     refine wp_region_held_drew (S:=(fun wx:World=>((∀ x,wx.cell? ⟨wb,x,none⟩=(#[.int .i64 eru,.string eky]:Array Value)[x]?)∧(∀ x,wx.cell? ⟨eb,x,none⟩=(#[.int .i64 eru,.string eky,.bool eup,.int .i64 eat]:Array Value)[x]?))∧Mg.MapS whoC wx mb cnt3 V3)) (by kernel_rfl) (by rw [← hW0];exact hS) (fun hHeld=>?_)
     rw [← hW0] at hHeld ⊢
     clear hW0
     refine wR 0 ?_
     refine wR 1 ?_
     refine wpAnyH_take (i:=2) (oi:=?_) (v:=?_) ?_ ?_ ?_ ?_ ?_ ?_ ?_ ?_
     rotate_left 2
     ·simp only [List.getElem?_toArray,List.getElem?_cons_succ,List.getElem?_cons_zero];rfl
     ·kernel_rfl
     ·kernel_rfl
     ·kernel_rfl
     ·exact fun _ _ _ h=>h
     ·refine Or.inl ⟨by rfl,?_⟩
      intro w' hSw
      (try dsimp only at hSw)
      have hlk:=LK.out w' hSw.2
      go_simp
      all_goals (with_reducible rfl)
     ·assumption
     try simp only [Act.put,zs1,zs2,zs3]
     refine wR 3 ?_
     refine wR 4 ?_
     refine wR 5 ?_
     refine wR 6 ?_
     refine wR 7 ?_
     refine wR 8 ?_
     refine wR 9 ?_
     refine wR 10 ?_
     refine wR 11 ?_
     refine wC 12 fun K hK=>?_
     go_simp
     ((with_reducible refine CN.out.mono ?_);rintro v w21 ⟨rfl,rfl⟩)
     refine hK.out _ _ hS fun hHeld=>?_
     clear hK K
     try simp only [Act.put,zs1,zs2,zs3]
     refine wR 13 ?_
     refine wR 14 ?_
     refine wpAnyH_done (by kernel_rfl) ?_ _
     clear hHeld t6
     have kw:=KWD.out.rd
     have ke:=KED.out.rd
     obtain ⟨y3,hst0,m3,f3⟩:=MD.out.store Tryz.underlying99 (show cnt3<maxLen from by have h1:=HCJ.out;have h2:=HCN.out;have h3:=HIN.out;have h5:=HNN.out.2;have h6:=HJN.out;unfold maxLen;omega) (s:=who) trivial (.bool eup)
     have hst:(Instr.mapUpdate 99 (.map (some mb)) (.agg #[.int .i64 eru,.string eky]) (.bool eup)).run Tryz.prog W0=.ok () y3:=by
      have h2:whoC.vl who=.agg #[.int .i64 eru,.string eky]:=by
       show whoV who=_
       unfold whoV
       rw [HWO.out.1,HWO.out.2]
      rw [h2] at hst0
      exact hst0
     have MS:=zhz m3
     have GS:=zhz (GD.out.set (Or.inl rfl) (Or.inl S9.out) HMB.out.2 f3)
     have ES:=zhz (ED.out.fr f3 (fun b off h1 e h2=>NE6.out b off h1 e h2))
     have VS:=zhz (show VMap (fun y=>if y=who then some (.bool eup) else V3 y) ((Lv.take (j+1)).foldl stepB M0) rn from by rw [zic HX.out];exact VJ.out.put (e:=⟨eru,eky,eup,_⟩) HWO.out.1 HWO.out.2 HOB.out.2)
     clear m3 f3 hst0 hS
     have t7:(n4:Int)≤1000000:=by have:=HN4.out;omega
     go_wp2
     go_roundg (n4 - (j+1))
     case measure=>have:=HKJ.out;have:=HJN.out;omega
     case rel=>exact ⟨j+1,_,_,HJN.out,zhz rfl,by go_num,GS,MS,VS,zhz (by have h1:=HCJ.out;split <;> omega),ES⟩
    ·have hje:j=n4:=by omega
     subst hje
     have VE:=zhz (show VMap V3 M1 rn from by rw [HOK.out.2.1];have h9:=VJ.out;rw [← EJ.out.len,List.take_length] at h9;exact h9)
     clear hn4c
     go_upto_region 24 with (fail)
     go_wp2_with (at_range;refine Mg.wpList_rangeS (C:=whoC) Tryz.underlying99 (by rfl) _ (by rfl) (by rfl) MJ.out ?_;intro wr0 hr0 hb0 hs0;have R0:=zhz hr0;have HB0:=zhz hb0;clear hr0 hb0)
     go_frame
     obtain ⟨rr,hrr⟩:=zeq (wr.heap.size)
     rw [← hrr] at R0 ⊢
     have RR:=zhz (show hi≤rr∧w.heap.size≤rr∧base≤rr from by rw [hrr];exact ⟨GJ.out.lo.2,GJ.out.bl.size,by have:=GJ.out.sv.lo;omega⟩)
     have G0:=zhz ((GJ.out.drop (X':=fun b=>b=mb) (fun b e=>Or.inl e)).box HB0.out (bx:=rr) ⟨by omega,by omega⟩)
     clear hrr hs0
     go_loopg [] cnt3 (fun kq wq=>∃ left,Hid (Mg.RangeS whoC wq mb rr cnt3 V3 left kq)∧Hid (EvL w w8 wq base s lps now2 (500*2097153*(i:Int)+500*2097153) hi (.slice (some ⟨g',0,none⟩) nn c9) ls (fun b=>b=mb∨b=rr) M1))
     case atStart=>exact ⟨_,R0,G0⟩
     case round =>
      obtain ⟨left,RS,GR⟩:=hrel
      go_wp2_with (at_next;refine Mg.wpList_nextS (by rfl) _ (by rfl) (by rfl) RS.out ?_ ?_)
      ·intro _ _
       (try go_frame)
       have t8:(i:Int)<(nn:Int):=by have:=HIN.out;omega
       have t9:(nn:Int)≤152:=by have:=HNN.out.2;omega
       go_wp2
       go_roundg (nn - (i+1))
       case measure=>have:=HKK.out;have:=HIN.out;omega
       case rel=>exact ⟨i+1,cnt3,now2,V3,M1,HIN.out,zhz rfl,by go_num,zhz (by rw [show 500*2097153*((i+1:Nat):Int)=500*2097153*(i:Int)+500*2097153 by omega];exact GR.out.drop (fun b e=>Or.inl e)),zhz (by rw [HNO.out];have h1:=HNW.out;have h2:=HCK.out;split <;> omega),zhz RS.out.map,VE,zhz (by have h1:=HCJ.out;have h2:=HCN.out;have h3:=HN4.out;omega)⟩
      ·intro x u w4 nr hts hlf hMt hrs hlt hfr hsz hen
       obtain ⟨hu,hx1,hx2⟩:u=.bool (M1 x.r x.s)∧0≤x.r∧x.r<rn:=by
        rcases VE.out x with ⟨h1,_⟩ | ⟨h1,h2,h3⟩
        ·rw [h1] at hMt;cases hMt
        ·rw [h1] at hMt;injection hMt with hMt;exact ⟨hMt.symm,h2,h3⟩
       subst hu
       have HLT2:=zhz hlt
       have RS2:=zhz hrs
       have GR2:=zhz (GR.out.set (Or.inr rfl) (Or.inr RR.out.1) RR.out.2.1 hfr)
       obtain ⟨lp,cv,hC⟩:=GR2.out.sv.res (x:=x.r) (k:=x.s) ⟨hx1,by have:=HRN.out.1;omega⟩ x.ok.2
       have hen2:(Instr.entry (.pointer (some ⟨rr,0,none⟩))).run Tryz.prog w4=.ok (.tuple #[.agg #[.int .i64 x.r,.string x.s],.bool (M1 x.r x.s)]) w4:=hen
       obtain ⟨xr,hxr⟩:=zeq (x.r)
       obtain ⟨xs,hxs⟩:=zeq (x.s)
       have HC:=zhz hC
       rw [← hxr,← hxs] at HC hen2
       obtain ⟨bq,hbq⟩:=zeq (M1 xr xs)
       rw [← hbq] at HC hen2
       have evl:whoC.vl x=.agg #[.int .i64 xr,.string xs]:=by rw [hxr,hxs];rfl
       rw [evl,← hxr,← hxs,← hbq]
       have t10:(bq != bq)=false:=by simp
       obtain ⟨u5,w5',eu5,kr,kw,eu6,bl6,kc6⟩:=box2W w4 xr xs
       obtain ⟨wb2,hwb2⟩:=zeq (w4.heap.size)
       rw [← hwb2] at kc6
       have HWB2:=zhz hwb2
       have KW4:=zhz kc6
       have RS3a:=zhz (RS2.out.keep bl6)
       have GR3a:=zhz (GR2.out.keep bl6)
       have B6w:=zhz bl6
       clear hC hen hMt hrs hlt hfr hsz hlf hts hx1 hx2 bl6 kc6 hwb2 hxr hxs hbq evl
       (try go_frame)
       go_upto_region 27 with (fail)
       try rw [eu6]
       rw [← HWB2.out]
       clear hen2 eu5 kr kw eu6
       have N5:=zhz (show Below w5'.heap.size w5' w5'.drew from zaa (Below.refl _ _) 1)
       obtain ⟨w5,hw5e⟩:=zeq (w5'.drew)
       rw [← hw5e] at N5
       have KW5:=zhz (KW4.out.keep N5.out)
       have RS3:=zhz (RS3a.out.keep N5.out)
       have GR3:=zhz (GR3a.out.keep N5.out)
       replace HC:=zhz (fun wx (hb:Below w5.heap.size w5 wx)=>HC.out wx (zae (zae B6w.out N5.out) hb))
       have NB:=zhz (Below.refl w5.heap.size w5)
       have st:=KW5.out.rd
       refine wp_region_held_drew (S:=fun wx=>∀ j,wx.cell? ⟨wb2,j,none⟩=(#[.int .i64 xr,.string xs]:Array Value)[j]?) (by kernel_rfl) (by rw [← hw5e];exact st) (fun hHeld=>?_)
       rw [← hw5e] at hHeld ⊢
       clear hw5e st
       refine wR 0 ?_
       refine wR 1 ?_
       refine wR 2 ?_
       refine wR 4 ?_
       refine wR 5 ?_
       refine wpAnyH_ready (rs:=[3,10]) (by kernel_rfl) (by simp) ?_
       refine AllReadyH.cons (o:=?_) ?_ ?_ ?_
       rotate_left 1
       ·simp only [List.getElem?_toArray,List.getElem?_cons_succ,List.getElem?_cons_zero];rfl
       focus
         intro K hK
         go_simp
         ((with_reducible refine ((HC.out _ NB.out).1).mono ?_);rintro v _ ⟨rfl,rfl⟩)
         refine hK.out _ _ (KW5.out.keep NB.out).rd (fun hHeld=>?_)
         clear hK K
         try simp only [Act.put,zs1,zs2,zs3]
         refine wpAnyH_ready (rs:=[6,10]) (by kernel_rfl) (by simp) ?_
         refine AllReadyH.cons (o:=?_) ?_ ?_ ?_
         rotate_left 1
         ·simp only [List.getElem?_toArray,List.getElem?_cons_succ,List.getElem?_cons_zero];rfl
         focus
           intro K hK
           go_simp
           ((with_reducible refine ((HC.out _ NB.out).2).mono ?_);rintro v W6 ⟨rfl,b6⟩;replace NB:=zhz (zae NB.out b6);clear b6)
           refine hK.out _ _ (KW5.out.keep NB.out).rd (fun hHeld=>?_)
           clear hK K
           try simp only [Act.put,zs1,zs2,zs3]
           refine wR 7 ?_
           refine wR 8 ?_
           refine wR 9 ?_
           refine wC 10 fun K hK=>?_
           go_simp
           (obtain ⟨W10,hw,kb,lb,sb⟩:=zad W6 #[.int .i64 0,.int .i64 0,.int .i64 0,.int .i64 0] 105;rw [hw];obtain ⟨cb2,hcb2⟩:=zeq (W6.heap.size);rw [← hcb2] at kb ⊢;have CB:=zhz (And.intro kb (show w5.heap.size≤cb2 from by rw [hcb2];exact NB.out.size));replace NB:=zhz (zae NB.out lb);clear hw kb lb sb hcb2)
           refine hK.out _ _ (KW5.out.keep NB.out).rd fun hHeld=>?_
           clear hK K
           try simp only [Act.put,zs1,zs2,zs3]
           have kcr:=CB.out.1.rd
           have kcw:=CB.out.1.wr
           refine wC 11 fun K hK=>?_
           go_simp
           (obtain ⟨W11,q7,f7,k7⟩:=zbZ CB.out.1 (.int .i64 cv.1) (.int .i64 cv.2.1) (.int .i64 cv.2.2.1) (.int .i64 cv.2.2.2);rw [q7];replace NB:=zhz (NB.out.trans (f7.below NB.out.size (fun b e=>by rw [e];exact CB.out.2)));clear q7 f7 k7 kcr kcw)
           refine hK.out _ _ (KW5.out.keep NB.out).rd fun hHeld=>?_
           clear hK K
           try simp only [Act.put,zs1,zs2,zs3]
           refine wR 12 ?_
           refine wpAnyH_done (by kernel_rfl) ?_ _
           clear hHeld
           have RSZ:=zhz (RS3.out.keep NB.out)
           have GRZ:=zhz ((GR3.out.keep NB.out).drop (X':=fun b=>b=mb∨b=rr) (fun b e=>e))
           go_wp2
           go_roundg nr
           case measure=>exact HLT2.out
           case rel=>exact ⟨_,RSZ,GRZ⟩
         rotate_left
         focus
           refine AllReadyH.cons (o:=?_) ?_ ?_ ?_
           rotate_left 1
           ·simp only [List.getElem?_toArray,List.getElem?_cons_succ,List.getElem?_cons_zero];rfl
           rotate_left 1
           ·exact AllReadyH.nil
           intro K hK
           go_simp
           (obtain ⟨W10,hw,kb,lb,sb⟩:=zad w5 #[.int .i64 0,.int .i64 0,.int .i64 0,.int .i64 0] 105;rw [hw];obtain ⟨cb2,hcb2⟩:=zeq (w5.heap.size);rw [← hcb2] at kb ⊢;have CB:=zhz (And.intro kb (show w5.heap.size≤cb2 from by rw [hcb2];exact NB.out.size));replace NB:=zhz (zae NB.out lb);clear hw kb lb sb hcb2)
           refine hK.out _ _ (KW5.out.keep NB.out).rd (fun hHeld=>?_)
           clear hK K
           try simp only [Act.put,zs1,zs2,zs3]
           refine wC 6 fun K hK=>?_
           go_simp
           ((with_reducible refine ((HC.out _ NB.out).2).mono ?_);rintro v W6 ⟨rfl,b6⟩;replace NB:=zhz (zae NB.out b6);replace CB:=zhz (And.intro (CB.out.1.keep b6) CB.out.2);clear b6)
           refine hK.out _ _ (KW5.out.keep NB.out).rd fun hHeld=>?_
           clear hK K
           try simp only [Act.put,zs1,zs2,zs3]
           refine wR 7 ?_
           refine wR 8 ?_
           refine wR 9 ?_
           have kcr:=CB.out.1.rd
           have kcw:=CB.out.1.wr
           refine wC 11 fun K hK=>?_
           go_simp
           (obtain ⟨W11,q7,f7,k7⟩:=zbZ CB.out.1 (.int .i64 cv.1) (.int .i64 cv.2.1) (.int .i64 cv.2.2.1) (.int .i64 cv.2.2.2);rw [q7];replace NB:=zhz (NB.out.trans (f7.below NB.out.size (fun b e=>by rw [e];exact CB.out.2)));clear q7 f7 k7 kcr kcw)
           refine hK.out _ _ (KW5.out.keep NB.out).rd fun hHeld=>?_
           clear hK K
           try simp only [Act.put,zs1,zs2,zs3]
           refine wR 12 ?_
           refine wpAnyH_done (by kernel_rfl) ?_ _
           clear hHeld
           have RSZ:=zhz (RS3.out.keep NB.out)
           have GRZ:=zhz ((GR3.out.keep NB.out).drop (X':=fun b=>b=mb∨b=rr) (fun b e=>e))
           go_wp2
           go_roundg nr
           case measure=>exact HLT2.out
           case rel=>exact ⟨_,RSZ,GRZ⟩
       rotate_left
       focus
         refine AllReadyH.cons (o:=?_) ?_ ?_ ?_
         rotate_left 1
         ·simp only [List.getElem?_toArray,List.getElem?_cons_succ,List.getElem?_cons_zero];rfl
         rotate_left 1
         ·exact AllReadyH.nil
         intro K hK
         go_simp
         (obtain ⟨W10,hw,kb,lb,sb⟩:=zad w5 #[.int .i64 0,.int .i64 0,.int .i64 0,.int .i64 0] 105;rw [hw];obtain ⟨cb2,hcb2⟩:=zeq (w5.heap.size);rw [← hcb2] at kb ⊢;have CB:=zhz (And.intro kb (show w5.heap.size≤cb2 from by rw [hcb2];exact NB.out.size));replace NB:=zhz (zae NB.out lb);clear hw kb lb sb hcb2)
         refine hK.out _ _ (KW5.out.keep NB.out).rd (fun hHeld=>?_)
         clear hK K
         try simp only [Act.put,zs1,zs2,zs3]
         refine wC 3 fun K hK=>?_
         go_simp
         ((with_reducible refine ((HC.out _ NB.out).1).mono ?_);rintro v _ ⟨rfl,rfl⟩)
         refine hK.out _ _ (KW5.out.keep NB.out).rd fun hHeld=>?_
         clear hK K
         try simp only [Act.put,zs1,zs2,zs3]
         refine wC 6 fun K hK=>?_
         go_simp
         ((with_reducible refine ((HC.out _ NB.out).2).mono ?_);rintro v W6 ⟨rfl,b6⟩;replace NB:=zhz (zae NB.out b6);replace CB:=zhz (And.intro (CB.out.1.keep b6) CB.out.2);clear b6)
         refine hK.out _ _ (KW5.out.keep NB.out).rd fun hHeld=>?_
         clear hK K
         try simp only [Act.put,zs1,zs2,zs3]
         refine wR 7 ?_
         refine wR 8 ?_
         refine wR 9 ?_
         have kcr:=CB.out.1.rd
         have kcw:=CB.out.1.wr
         refine wC 11 fun K hK=>?_
         go_simp
         (obtain ⟨W11,q7,f7,k7⟩:=zbZ CB.out.1 (.int .i64 cv.1) (.int .i64 cv.2.1) (.int .i64 cv.2.2.1) (.int .i64 cv.2.2.2);rw [q7];replace NB:=zhz (NB.out.trans (f7.below NB.out.size (fun b e=>by rw [e];exact CB.out.2)));clear q7 f7 k7 kcr kcw)
         refine hK.out _ _ (KW5.out.keep NB.out).rd fun hHeld=>?_
         clear hK K
         try simp only [Act.put,zs1,zs2,zs3]
         refine wR 12 ?_
         refine wpAnyH_done (by kernel_rfl) ?_ _
         clear hHeld
         have RSZ:=zhz (RS3.out.keep NB.out)
         have GRZ:=zhz ((GR3.out.keep NB.out).drop (X':=fun b=>b=mb∨b=rr) (fun b e=>e))
         go_wp2
         go_roundg nr
         case measure=>exact HLT2.out
         case rel=>exact ⟨_,RSZ,GRZ⟩
  ·have hie:i=nn:=by omega
   subst hie
   go_wp2
   go_ret
   exact ⟨rfl,HG.out.bl⟩
end Go.Proofs.YtannniobeanhlaaGreat
