import Derived.Test.YtambcbbekoehiabGreatHz
import Derived.Test.YtambcbbekoehiabGreatZSvW
import Derived.Test.YtambcbbekoehiabGreatZHa
import Derived.Test.YtambcbbekoehiabGreatZLm
import Derived.Test.YtambcbbekoehiabGreatZLiftS
namespace Go.Proofs.YtambcbbekoehiabGreat
set_option linter.unusedSimpArgs false
set_option linter.unusedVariables false
set_option maxRecDepth 100000
set_option maxHeartbeats 9000000
open Go.ChangeShapes Go.WideShapes Go.ChangeAt Go.RowKit
section
variable {rs:List RuZ} {Ns:List LmN} {N:LmN} {σ:LmS} {r:RuZ}
theorem zl9 {c:SvC} {ck co:Int} {ky:ByteArray} (hr:rs[0]?=some r) (hN:Ns[0]?=some N) (hB:co<1∨N.B<co):((ho0 c ck [σ]).nx rs Ns (mkR 1 0 co ky 0)).Ss=[σ.count 3]∧(ho0 c ck [σ]).ans rs Ns (mkR 1 0 co ky 0)=frmZ (ansZ 1 3 0 0):=by
 obtain ⟨e1,e2⟩:=zma (rs:=rs) (Ns:=Ns) (h:=ho0 c ck [σ]) (q:=mkR 1 0 co ky 0) (i:=0) rfl hr hN rfl
 have hz:refZ N (ho0 c ck [σ]).c.now ((ho0 c ck [σ]).c.held r.W) (mkR 1 0 co ky 0).cost=((3,0,0),true):=by
  unfold refZ
  rw [if_pos (show ((mkR 1 0 co ky 0).cost<1∨N.B<(mkR 1 0 co ky 0).cost) from hB)]
 obtain ⟨f1,f2,_⟩:=zhG (N:=N) (s:=σ) (now:=(ho0 c ck [σ]).c.now) (held:=(ho0 c ck [σ]).c.held r.W) (q:=mkR 1 0 co ky 0) rfl hz
 rw [e1,e2]
 exact ⟨by show [σ].set 0 _=_;rw [f2];rfl,f1⟩
end
def nevZ (C i:Nat):LmS:={ lmZ C with ba:=(i:Int) }
theorem zin (C i:Nat):(nevZ C i).count 3=nevZ C (i+1):=by
 unfold LmS.count nevZ
 rw [if_neg (by decide),if_neg (by decide),if_pos rfl]
 rfl
theorem zls {N:LmN} {C i:Nat} (h:N.Q.N.n=C):(nevZ C i).len N=0:=by
 unfold LmS.len
 have e:(nevZ C i).σ.fl.length=C:=by show (kNew C).fl.length=C;simp [kNew]
 rw [e,h,Nat.sub_self];rfl
theorem box5Z (X:World) (a b c d e:Value):∃ w1 w2,X.alloc (.cells #[.int .i64 0,.int .i64 0,.int .i64 0,.int .i64 0,.int .i64 0] 54)=w1 ∧
  (∀ j,w1.cell? ⟨X.heap.size,j,none⟩=(#[.int .i64 0,.int .i64 0,.int .i64 0,.int .i64 0,.int .i64 0]:Array Value)[j]?)∧(∀ j,w1.frozen? ⟨X.heap.size,j,none⟩=false) ∧
  ((((w1.setCell ⟨X.heap.size,0,none⟩ a).setCell ⟨X.heap.size,1,none⟩ b).setCell ⟨X.heap.size,2,none⟩ c).setCell ⟨X.heap.size,3,none⟩ d).setCell ⟨X.heap.size,4,none⟩ e=w2 ∧
  Below X.heap.size X w2∧Blk w2 X.heap.size 54 #[a,b,c,d,e]:=by
 obtain ⟨w1,hw1,k1,b1,s1⟩:=zad X #[.int .i64 0,.int .i64 0,.int .i64 0,.int .i64 0,.int .i64 0] 54
 have hl:=lt_of_block k1
 have he:((((w1.setCell ⟨X.heap.size,0,none⟩ a).setCell ⟨X.heap.size,1,none⟩ b).setCell ⟨X.heap.size,2,none⟩ c).setCell ⟨X.heap.size,3,none⟩ d).setCell ⟨X.heap.size,4,none⟩ e=setObj w1 X.heap.size (.cells #[a,b,c,d,e] 54 (0,0)):=by
  rw [zac k1]
  simp only [zaj hl,List.setIfInBounds_toArray,List.set_cons_zero,List.set_cons_succ]
 exact ⟨w1,_,hw1,k1.rd,k1.wr,he,b1.trans ((Fr.setObj (F:=fun k=>k=X.heap.size) (Fr.refl _ _) rfl _).below b1.size (fun k hk=>by omega)),zab hl _⟩
structure NevS (W w:World) (base s:Nat) (rs:List RuZ) (Ns:List LmN) (Ks:List CnN) (C i:Nat) (m:Int):Prop where
 sv:∃ c,SrB w base s rs 660 Ns Ks c [nevZ C i] [⟨[],0,[],true⟩,cZ,cZ] m
 bl:Below W.heap.size W w
theorem NevS.keep {W w w':World} {base s:Nat} {rs:List RuZ} {Ns:List LmN} {Ks:List CnN} {C i:Nat} {m:Int} (h:NevS W w base s rs Ns Ks C i m) (hb:Below w.heap.size w w'):NevS W w' base s rs Ns Ks C i m:=by
 obtain ⟨⟨c,h1⟩,h3⟩:=h
 exact ⟨⟨c,h1.keep hb⟩,h3.trans (hb.mono h3.size)⟩
theorem wholenever_law (w:World) (a b c d e f g h:Int) (sm:Bool) (A2:Option Addr) (n2 c2:Nat) (L:List Cl) (co0:Nat) (hpl:RuleOK a b c d e f g h) (hr2:RdL w A2 n2 c2 4 encCl L) (hok:∀ a ∈ L,okCl a) (hco0:co0<4294967296) :
  Calls Tryz.prog 6 #[planV a b c d e f g h sm,.slice A2 n2 c2,.int .u32 (co0:Int)] w fun e w'=>e=.returned (.bool true)∧Below w.heap.size w w':=by
 have hmx2:=hr2.max
 unfold maxLen at hmx2
 have hcp2:=hr2.cap
 have HR2:=zhz hr2
 have HO:=zhz hok
 have HPL:=zhz hpl
 clear hr2 hok hpl
 obtain ⟨w1,hw1,k1,l1',s1⟩:=zad w (planC a b c d e f g h sm) 23
 obtain ⟨pl,hpl⟩:=zeq (w.heap.size)
 rw [← hpl] at k1
 have K2:=zhz (And.intro k1 l1')
 have HB:=zhz hpl
 clear k1 l1' s1
 go_enter Tryz.func6,Tryz.ntmps6
 go_upto_region 1 with (fail)
 rw [← HB.out]
 clear hw1 hpl
 go_upto_region 3 with (go_at_call 7;((refine (zi8 _).mono ?_);rintro e w3 ⟨rfl,b3⟩;have K3:=zhz (And.intro (K2.out.1.keep b3) (zae K2.out.2 b3));clear b3))
 have CLi:=zhz (zfk A2 n2 c2 L w3 (HR2.out.below K3.out.2) HO.out)
 cases hlb:lightC L with
 | false =>
  rw [hlb] at CLi
  go_wp2_with (go_at_call 8;((with_reducible refine CLi.out.mono ?_);rintro e w4 ⟨rfl,b4⟩;have T4:=zhz (zae K3.out.2 b4);clear b4))
  go_ret
  exact ⟨rfl,T4.out⟩
 | true =>
 rw [hlb] at CLi
 have hlc:=zif hlb
 have hlen:=hlc.1
 have HLK:=zhz hlc.2
 have hln:=HR2.out.len
 have hb2:(n2:Int)≤150:=by omega
 clear hlb hlen hln hlc
 go_upto_region 5 with (go_at_call 8;((with_reducible refine CLi.out.mono ?_);rintro e w4 ⟨rfl,b4⟩;have K4:=zhz (And.intro (K3.out.1.keep b4) (zae K3.out.2 b4));clear b4))
 clear CLi
 have kp:=K4.out.1.rd
 obtain ⟨w5,hw5,k5,b5,s5⟩:=zad w4 (planC a b c d e f g h sm) 23
 obtain ⟨pb,hpb⟩:=zeq (w4.heap.size)
 rw [← hpb] at k5
 have CF:=zhz (zgy [⟨a,b,c,d,e,f,g,h,sm⟩] 660 (some ⟨pb,0,none⟩) 1 1 0 rfl w5 (zkb k5 HPL.out))
 have B5:=zhz (zae K4.out.2 b5)
 have HPB:=zhz hpb
 obtain ⟨ps,hps⟩:∃ z:List RuZ,z=[⟨a,b,c,d,e,f,g,h,sm⟩]:=⟨_,rfl⟩
 rw [← hps] at CF
 have HPS:=zhz hps
 clear k5 b5 s5 hpb hps
 go_upto_region 6 with (first
  | (rw [← HPB.out];go_at_call 9;((with_reducible refine CF.out.mono ?_);rintro e w6 ⟨A',m',c',rfl,r6,z6,b6⟩;obtain ⟨x1,x2,ex1,kr,kw,ex2,b7,k7⟩:=box4K w6 (.int .i64 4294967296) (.int .i64 3) (.int .i64 660) (.slice A' m' c');have B7:=zhz (zae (zae B5.out b6) b7);have R7:=zhz (r6.below b7);have K7:=zhz k7;have CN:=zhz (svnew0 ps A' m' c' x2 (r6.below b7) z6);clear r6 z6 b6 b7 k7)))
 try rw [ex2]
 clear ex1 kr kw ex2 hw5 kp CF
 have kc7:=K7.out.rd
 go_upto_region 7 with (go_at_call 10;((with_reducible refine CN.out.mono ?_);rintro e w8 ⟨s,c0,Ns,Ks,rfl,h8,n8,l8,p8,b8⟩;have B8:=zhz (zae B7.out b8);have H8:=zhz h8;have N8:=zhz n8;have HLR:=zhz l8;have B8x:=zhz b8;have P8:=zhz p8;clear h8 n8 l8 p8 b8))
 clear kc7 CN
 obtain ⟨K0,hK0⟩:∃ K,Ks[0]?=some K:=⟨_,List.getElem?_eq_getElem (by rw [P8.out];decide)⟩
 have HK:=zhz hK0
 obtain ⟨base,hbase⟩:=zeq (x2.heap.size)
 rw [← hbase] at H8
 have HBS:=zhz (show w.heap.size≤base from by rw [hbase];exact B7.out.size)
 have HCF:=zhz (show confR ps=[planR ⟨a,b,c,d,e,f,g,h,sm⟩] from by rw [HPS.out];rfl)
 obtain ⟨rs,hrs⟩:=zeq (confR ps)
 obtain ⟨Ss0,hSs0⟩:=zeq (rsZ (confR ps))
 have HR0:=zhz (show rs[0]?=some (planR ⟨a,b,c,d,e,f,g,h,sm⟩)∧rs.length=1∧(∃ ps,rs=confR ps)∧Ss0=[lmZ (planR ⟨a,b,c,d,e,f,g,h,sm⟩).Ce.toNat] from ⟨by rw [hrs,HCF.out];rfl,by rw [hrs,HCF.out];rfl,⟨ps,hrs⟩,by rw [hSs0,HCF.out];rfl⟩)
 rw [← hSs0,← hrs] at H8
 rw [← hrs] at HLR R7
 have HBQ:=zhz hbase
 clear hK0 hbase hrs hSs0
 obtain ⟨N0,hN0⟩:∃ N,Ns[0]?=some N:=⟨_,List.getElem?_eq_getElem (by rw [H8.out.hn.nl,HR0.out.2.1];decide)⟩
 have HN0:=zhz hN0
 clear hN0
 have C1:=zhz (fun (wx:World) (hx:SrB wx base s rs 660 Ns Ks c0 Ss0 [cZ,cZ,cZ] 0)=>show Calls Tryz.prog 11 #[.pointer (some ⟨s,0,none⟩),.agg #[.int .i64 0,.int .i64 0,.int .i64 0,.slice none 0 0,.int .i64 0,.slice none 0 0]] wx (fun e w'=>e=.returned (stepV 0)∧SrB w' base s rs 660 Ns Ks (c0.next 0) Ss0 [⟨[],0,[],true⟩,cZ,cZ] 0∧Fr (chF s Ns K0) wx w') from hx.open_ (ck:=0) (by decide) 0 HK.out rfl rfl 0 _ _)
 go_upto_region 8 with (go_at_call 11;((with_reducible refine (C1.out _ H8.out).mono ?_);rintro e w9 ⟨rfl,h9,f9⟩;have H9:=zhz h9;have B9:=zhz (H8.out.below HK.out f9 HBS.out B8.out (Nat.le_refl _));have B9x:=zhz (show Below x2.heap.size x2 w9 from H8.out.below HK.out f9 (by rw [HBQ.out];exact Nat.le_refl _) B8x.out (Nat.le_refl _));clear h9 f9))
 clear C1
 have HBU:=zhz (show N0.B=(planR ⟨a,b,c,d,e,f,g,h,sm⟩).B from (zbZ (HLR.out 0 _ N0 HR0.out.1 HN0.out)).pB)
 have R9:=zhz (R7.out.below B9x.out)
 have K9:=zhz (K7.out.keep B9x.out)
 obtain ⟨b',off,hA',hbl,hcl⟩:=R9.out.at_ (by have:=R9.out.len;have:=HR0.out.2.1;omega)
 have hr0:0<rs.length:=by rw [HR0.out.2.1];decide
 have hrc:rs[0]=planR ⟨a,b,c,d,e,f,g,h,sm⟩:=by have:=HR0.out.1;rw [List.getElem?_eq_getElem hr0] at this;exact Option.some.inj this
 obtain ⟨bu,hbu⟩:=zeq ((planR ⟨a,b,c,d,e,f,g,h,sm⟩).B)
 have kb:w9.cell? ⟨b',off+2,none⟩=some (.int .i64 bu):=by
  have:=hcl 0 hr0 2 (by omega)
  rw [show off+0*9+2=off+2 by omega,hrc] at this
  rw [this,hbu];rfl
 rw [← hbu] at HBU
 have hm1:∃ m1,m'=m1+1:=⟨m' - 1,by have:=R9.out.len;omega⟩
 subst hA'
 have kc9:=K9.out.rd
 have hmn:(m':Int)=1:=by have:=R9.out.len;have:=HR0.out.2.1;omega
 have tm1:(0:Int)<(m':Int):=by omega
 have HPC:=zhz (show N0.Q.N.n=(planR ⟨a,b,c,d,e,f,g,h,sm⟩).Ce.toNat from by rw [(zbZ (HLR.out 0 _ N0 HR0.out.1 HN0.out)).pC];show _=((lqC e:Nat):Int).toNat;simp)
 clear hbl hcl hrc hbu hm1 hr0
 have ecv:IntKind.i64.wrap (co0:Int)=(co0:Int):=by rw [IntKind.wrap_i64];omega
 have HS9:=zhz (show NevS w w9 base s rs Ns Ks (planR ⟨a,b,c,d,e,f,g,h,sm⟩).Ce.toNat 0 0 from ⟨⟨_,by rw [HR0.out.2.2.2] at H9;exact H9.out⟩,B9.out⟩)
 have HCO:=zhz hco0
 clear hco0
 obtain ⟨Ce,hCe⟩:=zeq ((planR ⟨a,b,c,d,e,f,g,h,sm⟩).Ce.toNat)
 rw [← hCe] at HS9 HPC
 have HCE:=zhz hCe
 clear hCe
 by_cases h1:(1:Int)≤(co0:Int)
 all_goals go_upto_if 45 with (fail)
 all_goals go_cut [2] from 46 (fun s2 wx=>∃ co:Int,s2=.int .u32 co∧Hid ((co<1∨bu<co)∧0≤co∧co<4294967296)∧wx=w9)
 case first =>
  by_cases h2:(co0:Int)≤bu
  ·go_wp2
   go_meet
   case rel=>exact ⟨0,rfl,zhz (by omega),rfl⟩
  ·have H2:=zhz h2
   go_wp2
   go_meet
   case rel=>exact ⟨(co0:Int),rfl,zhz (by have:=H2.out;have:=HCO.out;omega),rfl⟩
 case first =>
  have H1:=zhz h1
  go_wp2
  go_meet
  case rel=>exact ⟨(co0:Int),rfl,zhz (by have:=H1.out;have:=HCO.out;omega),rfl⟩
 all_goals
   obtain ⟨co,rfl,HC,hwc⟩:=hcut
   subst hwc
   clear h1 kb kc9 ecv hmn tm1
   go_wp2
   go_loopg [48] n2 (fun kk si wr=>∃ (i:Nat),i≤n2∧Hid (kk=n2 - i)∧si=.int .i64 (i:Int)∧Hid (NevS w wr base s rs Ns Ks Ce i (75*2097153*(i:Int))))
   case atStart=>exact ⟨0,by omega,zhz rfl,rfl,HS9⟩
   case round =>
    obtain ⟨i,hi,HKK,rfl,HG⟩:=hrel
    by_cases hin:i<n2
    ·have hl2:=HR2.out.len
     obtain ⟨b',off,rfl,hbl,hcl⟩:=(HR2.out.below HG.out.bl).at_ (by omega)
     obtain ⟨⟨gp,cs,ky,pk⟩,ha⟩:∃ a,L[i]?=some a:=⟨_,List.getElem?_eq_getElem (by omega)⟩
     have HKY:=zhz (HLK.out _ (List.mem_of_getElem? ha))
     have kr0:wr.cell? ⟨b',off+i*4,none⟩=some (.int .i64 gp):=hcl i _ ha 0 (by omega)
     have kr1:wr.cell? ⟨b',off+i*4+1,none⟩=some (.int .i64 cs):=hcl i _ ha 1 (by omega)
     have kr2:wr.cell? ⟨b',off+i*4+2,none⟩=some (.string ky):=hcl i _ ha 2 (by omega)
     have kr3:wr.cell? ⟨b',off+i*4+3,none⟩=some (.bool pk):=hcl i _ ha 3 (by omega)
     obtain ⟨y1,y2,ey1,kr,kw,ey2,bl2,kc2⟩:=box4C wr (.int .i64 gp) (.int .i64 cs) (.string ky) (.bool pk)
     obtain ⟨bx,hbx⟩:=zeq (wr.heap.size)
     rw [← hbx] at kc2
     have G2:=zhz (HG.out.keep bl2)
     have HBX:=zhz hbx
     have KC:=zhz kc2
     have t2:(i:Int)<(n2:Int):=by omega
     have HIN:=zhz hin
     clear hl2 hcl hbl bl2 kc2 hbx hin ha
     go_upto_region 13 with (fail)
     try rw [ey2]
     rw [← HBX.out]
     clear kr0 kr1 kr2 kr3 ey1 kr kw ey2
     obtain ⟨⟨cc,hsv⟩,hbl3⟩:=G2.out
     have SV:=zhz hsv
     have BL3:=zhz hbl3
     have HQ:=zhz (show okQ (rs.length:Int) (mkR 1 0 co ky 0) from by rw [HR0.out.2.1];exact zkQ (by decide) (by decide) (Or.inl rfl) HKY.out rfl HC.out.2)
     have CE:=zhz (fun wx=>zkM (op:=1) (ru:=0) (co:=co) (k:=0) (ky:=ky) (zcT (by rw [HR0.out.2.1];decide) HQ.out) HC.out.2 wx)
     have HX:=zhz (zl9 (c:=cc) (ck:=(i:Int)) (co:=co) (ky:=ky) (σ:=nevZ Ce i) HR0.out.1 HN0.out (by rw [HBU.out];exact HC.out.1))
     have HMB:=zhz (show 75*2097153*(i:Int)+75*2097153≤576460752303423488 by omega)
     have HIK:=zhz (show (i:Int)≤9223372036854775807 by omega)
     have CK:=zhz (fun (wq:World) (g na ca:Nat) (hna:(encZ (mkR 1 0 co ky 0)).length=na) (hb:Below y2.heap.size y2 wq) (hz:RdI wq .u8 (some ⟨g,0,none⟩) na ca (encZ (mkR 1 0 co ky 0))) (hg:y2.heap.size≤g)=>show Calls Tryz.prog 11 #[.pointer (some ⟨s,0,none⟩),.agg #[.int .i64 2,.int .i64 (i:Int),.int .i64 0,.slice (some ⟨g,0,none⟩) na ca,.int .i64 0,.slice none 0 0]] wq (fun e w'=>∃ v,e=.returned v∧SrB w' base s rs 660 Ns Ks (cc.next (i:Int)) [nevZ Ce (i+1)] [⟨[],0,frmZ (ansZ 1 3 0 0),true⟩,cZ,cZ] (75*2097153*(i:Int)+75*2097153)∧Fr (chF s Ns K0) wq w') from by
      refine (SV.out.ask2 HR0.out.2.2.1 (i:Int) HIK.out 0 HK.out rfl HQ.out HMB.out g na ca hna hb hz hg 0 _).mono ?_
      rintro e w' ⟨A4,c4,he,h1,_,h2⟩
      rw [HX.out.1,HX.out.2,zin] at h1
      exact ⟨_,he,h1,h2⟩)
     have kcx:=KC.out.rd
     clear hsv hbl3
     go_upto_region 14 with (first
      | (go_at_call 13;((with_reducible refine (CE.out _).mono ?_);rintro v w14 ⟨g14,n14,c14,rfl,l14,r14,hg14,b14⟩;have R14:=zhz (And.intro l14 (And.intro r14 hg14));have B14:=zhz b14;clear l14 r14 hg14 b14))
      | (go_at_call 11;((with_reducible refine (CK.out _ _ _ _ R14.out.1 B14.out R14.out.2.1 R14.out.2.2).mono ?_);rintro v w15 ⟨v15,rfl,h15,f15⟩;have H15:=zhz h15;have B15:=zhz ((SV.out.keep B14.out).below HK.out f15 HBS.out (zae BL3.out B14.out) (Nat.le_refl _));clear h15 f15)))
     clear CE CK kcx
     have CD:=zhz (show Calls Tryz.prog 11 #[.pointer (some ⟨s,0,none⟩),.agg #[.int .i64 3,.int .i64 (i:Int),.int .i64 0,.slice none 0 0,.int .i64 99,.slice none 0 0]] w15 (fun e w'=>∃ g,e=.returned (stepQ 0 0 (some ⟨g,0,none⟩) 22 22 none 0 0)∧Blk w' g 5 (obbyC (frmZ (ansZ 1 3 0 0)))∧SrB w' base s rs 660 Ns Ks ((cc.next (i:Int)).next (i:Int)) [nevZ Ce (i+1)] [⟨[],0,[],true⟩,cZ,cZ] (75*2097153*(i:Int)+75*2097153)∧Fr (chF s Ns K0) w15 w') from by
      refine (H15.out.drain2 (i:Int) 99 HIK.out 0 HK.out rfl 22 (by rw [za4,zaT]) (by decide) _ _).mono ?_
      rintro e w' ⟨g,h1,h2,h3,h4,_⟩
      exact ⟨g,h1,h2,h3,h4⟩)
     have hfd:=fun g w=>zku g 22 w
     go_upto_region 15 with (first
      | (go_at_call 11;((with_reducible refine CD.out.mono ?_);rintro e w16 ⟨g16,rfl,o16,h16,f16⟩;have B16:=zhz (H15.out.below HK.out f16 HBS.out B15.out (Nat.le_refl _));have H16:=zhz h16;have CR:=zhz (zeH (op:=1) (v:=3) (rem:=0) (ret:=0) o16 (Or.inl rfl) (by unfold ansP i64P;dsimp only;omega));clear o16 h16 f16))
      | (go_at_call 23;((with_reducible refine CR.out.mono ?_);rintro e w18 ⟨LA,LN,LC,rfl,b18⟩;obtain ⟨z1,z2,ez1,kr,kw,ez2,b19,k19⟩:=box12S w18 (.int .i64 1) (.int .i64 0) (.int .i64 3) (.int .i64 0) (.int .i64 0) (.int .i64 0) (.int .i64 0) (.int .i64 0) (.int .i64 0) (.int .i64 0) (.slice LA LN LC) (.int .i64 0);have K19:=zhz k19;have H19:=zhz ((H16.out.keep b18).keep b19);have B19:=zhz (zae (zae B16.out b18) b19);clear b18 b19 k19)))
     try rw [ez2]
     clear ez1 kr kw ez2 CR CD hfd
     have k19:=K19.out.rd
     have heq:∀ w,(Op.equalIn 10000 82 (.agg #[.int .i64 3,.int .i64 0,.int .i64 0]) (.agg #[.int .i64 3,.int .i64 0,.int .i64 0])).run Tryz.prog w=.ok true w:=fun w=>by rw [zea];simp
     have SE:=zhz (show NevS w z2 base s rs Ns Ks Ce (i+1) (75*2097153*(i:Int)+75*2097153) from ⟨⟨_,H19.out⟩,B19.out⟩)
     go_wp2
     go_roundg (n2 - (i+1))
     case measure=>have:=HKK.out;have:=HIN.out;omega
     case rel=>exact ⟨i+1,HIN.out,zhz rfl,by go_num,zhz (by rw [show 75*2097153*((i+1:Nat):Int)=75*2097153*(i:Int)+75*2097153 by omega];exact SE.out)⟩
    ·have hie:i=n2:=by omega
     subst hie
     obtain ⟨⟨cc,hsv⟩,hbl⟩:=HG.out
     obtain ⟨y1,y2,ey1,kr,kw,ey2,bl2,kc2⟩:=box5Z wr (.int .i64 0) (.int .i64 0) (.int .i64 (i:Int)) (.int .i64 0) (.int .i64 0)
     obtain ⟨wb,hwb⟩:=zeq (wr.heap.size)
     rw [← hwb] at kc2
     have SV:=zhz (hsv.keep bl2)
     have KW:=zhz kc2
     have HWB:=zhz (show (∀ b,chF s Ns K0 b→b≠wb)∧wb=wr.heap.size from ⟨fun b hb e=>by have:=hsv.ch_lt HK.out b hb;omega,hwb⟩)
     have BL2:=zhz (zae hbl bl2)
     have hq1:rightP (mkR 1 1 1 ⟨#[]⟩ 0) 256:=⟨⟨by decide,by decide,by decide⟩,Or.inl ⟨Or.inl rfl,by decide,rfl⟩⟩
     have HQ1:=zhz hq1
     have CE:=zhz (fun wx=>zkM (op:=1) (ru:=1) (co:=1) (k:=0) (ky:=⟨#[]⟩) hq1 (by decide) wx)
     have CK:=zhz (fun (wq:World) (g na ca:Nat) (hna:(encZ (mkR 1 1 1 ⟨#[]⟩ 0)).length=na) (hb:Below y2.heap.size y2 wq) (hz:RdI wq .u8 (some ⟨g,0,none⟩) na ca (encZ (mkR 1 1 1 ⟨#[]⟩ 0))) (hg:y2.heap.size≤g)=>show Calls Tryz.prog 11 #[.pointer (some ⟨s,0,none⟩),.agg #[.int .i64 2,.int .i64 0,.int .i64 0,.slice (some ⟨g,0,none⟩) na ca,.int .i64 0,.slice none 0 0]] wq (fun e w'=>∃ A4 c4,e=.returned (stepQ 0 6 none 0 0 A4 0 c4)∧SrB w' base s rs 660 Ns Ks (cc.next 0) [nevZ Ce i] [⟨[],9,frmZ (errZ 9),true⟩,cZ,cZ] (75*2097153*(i:Int)+na*2097153)∧Fr (chF s Ns K0) wq w') from by
      have hS:=SV.out.keep hb
      have h75:na≤75:=by rw [← hna];decide
      obtain ⟨k1,k2⟩:=hS.K 0 K0 HK.out
      have hac:=zjn (K:=K0) hS.hn (q:=mkR 1 1 1 ⟨#[]⟩ 0) HQ1.out (by rw [k2,HR0.out.2.1];decide) (o:=[]) (by rw [k1];decide) (ho0 cc 0 [nevZ Ce i])
      have g:=hS.chunk 0 0 (by decide) 0 (some ⟨g,0,none⟩) na ca _ (.slice none 0 0) HK.out rfl rfl (by omega) (by omega) hz (fun b off _ e=>Or.inr (fun k' hk' e'=>by
       injection e with e
       injection e with e
       have:=SV.out.ch_lt HK.out k' hk'
       omega))
      rw [hac] at g
      refine g.mono ?_
      rintro e w' ⟨A4,c4,he,h1,_,h2⟩
      exact ⟨A4,c4,he,h1,h2⟩)
     clear hsv hbl bl2 kc2 hq1 hwb
     go_upto_region 19 with (fail)
     try rw [ey2]
     rw [← HWB.out.2]
     clear ey1 kr kw ey2
     go_upto_region 20 with (first
      | (go_at_call 13;((with_reducible refine (CE.out _).mono ?_);rintro v w14 ⟨g14,n14,c14,rfl,l14,r14,hg14,b14⟩;have R14:=zhz (And.intro l14 (And.intro r14 hg14));have B14:=zhz b14;have K14:=zhz (KW.out.keep b14);clear l14 r14 hg14 b14))
      | (go_at_call 11;((with_reducible refine (CK.out _ _ _ _ R14.out.1 B14.out R14.out.2.1 R14.out.2.2).mono ?_);rintro v w15 ⟨A15,c15,rfl,h15,f15⟩;have B15:=zhz ((SV.out.keep B14.out).below HK.out f15 HBS.out (zae BL2.out B14.out) (Nat.le_refl _));have K15:=zhz (K14.out.fr f15 (fun e=>HWB.out.1 _ e rfl));obtain ⟨x1,x2,ex1,kr,kw,ex2,b16,k16⟩:=box4S w15 (.int .i64 0) (.int .i64 6) (.slice none 0 0) (.slice A15 0 c15);have H16:=zhz (h15.keep b16);have KW16:=zhz (K15.out.keep b16);have K16:=zhz k16;have B16:=zhz (zae B15.out b16);clear h15 f15 b16 k16)))
     try rw [ex2]
     clear ex1 kr kw ex2 CE CK
     obtain ⟨xb,hxb⟩:=zeq (w15.heap.size)
     rw [← hxb] at K16 ⊢
     clear hxb
     have N1:=zhz (show Below x2.heap.size x2 x2.drew from zaa (Below.refl _ _) 1)
     obtain ⟨wz,hwz⟩:=zeq (x2.drew)
     rw [← hwz] at N1
     have H17:=zhz (H16.out.keep N1.out)
     have KW17:=zhz (KW16.out.keep N1.out)
     have K17:=zhz (K16.out.keep N1.out)
     have B17:=zhz (zae B16.out N1.out)
     have heq:∀ w,(Op.equalIn 10000 54 (.agg #[.int .i64 0,.int .i64 0,.int .i64 (i:Int),.int .i64 0,.int .i64 0]) (.agg #[.int .i64 0,.int .i64 0,.int .i64 (i:Int),.int .i64 0,.int .i64 0])).run Tryz.prog w=.ok true w:=fun w=>by rw [zeY];simp
     have CRu:=zhz (fun wx (hb:Below wz.heap.size wz wx)=>show Calls Tryz.prog 15 #[.pointer (some ⟨s,0,none⟩),.int .i64 0] wx (fun e w'=>e=.returned (.pointer (some ⟨N0.l,0,none⟩))∧wx=w') from zeU (i:=0) (by omega) (zmx H17.out HN0.out) wx (H17.out.keep hb).at_.sv)
     have CT:=zhz (fun wx (hb:Below wz.heap.size wz wx)=>show Calls Tryz.prog 16 #[.pointer (some ⟨N0.l,0,none⟩)] wx (fun e w'=>e=.returned (.agg #[.int .i64 0,.int .i64 0,.int .i64 (i:Int),.int .i64 0,.int .i64 0])∧Below wx.heap.size wx w') from by
      have h:=zcr wx ((H17.out.keep hb).at_.J.at_ 0 N0 _ HN0.out rfl)
      rw [zls HPC.out] at h
      exact h)
     have CP:=zhz (fun wx (hb:Below wz.heap.size wz wx)=>show Calls Tryz.prog 24 #[.pointer (some ⟨N0.l,0,none⟩),.int .i64 9] wx (fun e w'=>∃ A c,e=.returned (.slice A 0 c)∧Below wx.heap.size wx w') from (zeu 9 (by omega) wx ((H17.out.keep hb).at_.J.at_ 0 N0 _ HN0.out rfl)).mono (fun e w' hh=>by
      obtain ⟨A,c,h1,_,h2⟩:=hh
      exact ⟨A,c,by rw [h1];show _=Ending.returned (Value.slice A 0 c);rw [show min (topN 9 N0.S.N.n) (nevZ Ce i).M.length=0 from Nat.min_zero _],h2⟩))
     have CC:=zhz (fun wx (hb:Below wz.heap.size wz wx)=>show Calls Tryz.prog 20 #[.pointer (some ⟨s,0,none⟩),.int .i64 0] wx (fun e w'=>e=.returned (.pointer (some ⟨K0.c,0,none⟩))∧wx=w') from zb5 (k:=0) H17.out.at_ (by omega) HK.out wx _ (H17.out.keep hb).at_.sv rfl)
     have CX:=zhz (fun wx (hb:Below wz.heap.size wz wx)=>show Calls Tryz.prog 25 #[.pointer (some ⟨K0.c,0,none⟩)] wx (fun e w'=>e=.returned (.int .i64 9)∧wx=w') from errx _ _ _ _ _ _ wx ((H17.out.keep hb).at_.K.at_ 0 K0 _ HK.out rfl).d)
     have ST:=zhz (fun wx (hb:Below wz.heap.size wz wx)=>show (∀ j,wx.cell? ⟨xb,j,none⟩=(#[.int .i64 0,.int .i64 6,.slice none 0 0,.slice A15 0 c15]:Array Value)[j]?)∧(∀ j,wx.cell? ⟨wb,j,none⟩=(#[.int .i64 0,.int .i64 0,.int .i64 (i:Int),.int .i64 0,.int .i64 0]:Array Value)[j]?) from ⟨(K17.out.keep hb).rd,(KW17.out.keep hb).rd⟩)
     refine wp_region_held_drew (S:=fun wx=>(∀ j,wx.cell? ⟨xb,j,none⟩=(#[.int .i64 0,.int .i64 6,.slice none 0 0,.slice A15 0 c15]:Array Value)[j]?)∧(∀ j,wx.cell? ⟨wb,j,none⟩=(#[.int .i64 0,.int .i64 0,.int .i64 (i:Int),.int .i64 0,.int .i64 0]:Array Value)[j]?)) (by kernel_rfl) (by rw [← hwz];exact ST.out _ (Below.refl _ _)) (fun hHeld=>?_)
     rw [← hwz] at hHeld ⊢
     clear hwz
     refine wR 0 ?_
     refine wR 1 ?_
     refine wR 2 ?_
     refine wR 3 ?_
     refine wR 4 ?_
     refine wR 7 ?_
     refine wC 5 fun K hK=>?_
     go_simp
     ((with_reducible refine (CRu.out _ (Below.refl _ _)).mono ?_);rintro v w21 ⟨rfl,rfl⟩)
     refine hK.out _ _ (ST.out _ (Below.refl _ _)) fun hHeld=>?_
     clear hK K
     try simp only [Act.put,List.setIfInBounds_toArray,List.set_cons_zero,List.set_cons_succ]
     refine wC 6 fun K hK=>?_
     go_simp
     ((with_reducible refine (CT.out _ (Below.refl _ _)).mono ?_);rintro v w21 ⟨rfl,b21⟩;have B21:=zhz b21;clear b21)
     refine hK.out _ _ (ST.out _ B21.out) fun hHeld=>?_
     clear hK K
     try simp only [Act.put,List.setIfInBounds_toArray,List.set_cons_zero,List.set_cons_succ]
     refine wR 8 ?_
     refine wR 9 ?_
     refine wR 10 ?_
     refine wR 11 ?_
     refine wC 12 fun K hK=>?_
     go_simp
     ((with_reducible refine (CRu.out _ B21.out).mono ?_);rintro v w22 ⟨rfl,rfl⟩)
     refine hK.out _ _ (ST.out _ B21.out) fun hHeld=>?_
     clear hK K
     try simp only [Act.put,List.setIfInBounds_toArray,List.set_cons_zero,List.set_cons_succ]
     refine wC 13 fun K hK=>?_
     go_simp
     ((with_reducible refine (CP.out _ B21.out).mono ?_);rintro v w23 ⟨A23,c23,rfl,b23⟩;have B23:=zhz (G.below_on B21.out b23);clear b23)
     refine hK.out _ _ (ST.out _ B23.out) fun hHeld=>?_
     clear hK K
     try simp only [Act.put,List.setIfInBounds_toArray,List.set_cons_zero,List.set_cons_succ]
     refine wR 14 ?_
     refine wR 15 ?_
     refine wR 16 ?_
     refine wR 17 ?_
     refine wR 18 ?_
     refine wC 19 fun K hK=>?_
     go_simp
     ((with_reducible refine (CC.out _ B23.out).mono ?_);rintro v w24 ⟨rfl,rfl⟩)
     refine hK.out _ _ (ST.out _ B23.out) fun hHeld=>?_
     clear hK K
     try simp only [Act.put,List.setIfInBounds_toArray,List.set_cons_zero,List.set_cons_succ]
     refine wR 20 ?_
     refine wR 21 ?_
     refine wC 22 fun K hK=>?_
     go_simp
     ((with_reducible refine (CX.out _ B23.out).mono ?_);rintro v w25 ⟨rfl,rfl⟩)
     refine hK.out _ _ (ST.out _ B23.out) fun hHeld=>?_
     clear hK K
     try simp only [Act.put,List.setIfInBounds_toArray,List.set_cons_zero,List.set_cons_succ]
     refine wR 23 ?_
     refine wR 24 ?_
     refine wR 25 ?_
     refine wpAnyH_done (by kernel_rfl) ?_ _
     clear hHeld
     go_wp2
     go_ret
     exact ⟨rfl,zae B17.out B23.out⟩
end Go.Proofs.YtambcbbekoehiabGreat
