import Derived.Test.YtannniobeanhlaaGreatHz
import Derived.Test.YtannniobeanhlaaGreatZSvW
import Derived.Test.YtannniobeanhlaaGreatZHa
import Derived.Deep.Cut
import Derived.Deep.CutRange
namespace Go.Proofs.YtannniobeanhlaaGreat
set_option linter.unusedSimpArgs false
set_option linter.unusedVariables false
set_option maxRecDepth 100000
set_option maxHeartbeats 9000000
open Go.ChangeShapes Go.WideShapes Go.ChangeAt Go.RowKit
theorem zgj {w:World} {g:Nat} {t:TypeId} (h:Blk w g t #[.int .u64 4]):RdI w .u64 (some ⟨g,0,none⟩) 1 1 [4] :=
 ⟨rfl,Nat.le_refl _,by unfold maxLen;omega,fun _=>⟨g,0,rfl,lt_of_block h,fun i hi=>by
  have h0:i=0:=by omega
  subst h0
  rw [Nat.zero_add,h.rd 0];rfl⟩,fun z hz=>by rw [List.mem_singleton.1 hz];decide⟩
theorem zln {w:World} {g:Nat} (h:Blk w g 82 #[.int .i64 0,.int .i64 0,.int .i64 0,.int .i64 0,.int .i64 0,.int .i64 0,.int .u32 0,.string ⟨#[]⟩,.int .i64 0,.slice none 0 0]) :
  w.ownsRow g 82 10 (.slice (some ⟨g,0,none⟩) 1 1) [dzE 0].length (csD [dzE 0]) :=
 ⟨rfl,Or.inr ⟨g,1,_,rfl,Nat.le_refl _,h,by decide,by unfold maxLen;decide,rfl,rfl⟩⟩
theorem zlS (w:World):∀ d ∈ [dzE 0],DeOK w d:=fun d hd=>zmr w d (by rw [List.mem_singleton.1 hd];exact List.mem_cons_self)
theorem RdDe.new_ne1 {w w6 wA:World} {A:Option Addr} {n c:Nat} {L:List DeZ} (a:RdDe wA A n c L) {v:Nat} (b:Below w6.heap.size w6 wA) (h:RdDe w A n c L) (hle:w.heap.size≤v) :
  ∀ d ∈ [dzE 0]++L,∀ b off,0<d.n→d.A=some ⟨b,off,none⟩→(Value.slice (some ⟨v,0,none⟩) 1 1).ownBlock≠some b:=by
 intro d hd b' off h0 hA e
 exact a.new_ne b h hle d (by rcases List.mem_append.1 hd with q | q;exact List.mem_append.2 (Or.inl (by rw [List.mem_singleton.1 q];exact List.mem_cons_self));exact List.mem_append.2 (Or.inr q)) b' off h0 hA e
structure ApL (W0 W w:World) (b1 s b2 t:Nat) (ps:List RuZ) (now m:Int) (hi:Nat) (v:Value) (ls:List DoV) (X:Nat→Prop) (x:CnS):Prop where
 sv:ApS w b1 s b2 t ps now m (fun b=>W.heap.size≤b∧b<hi∨X b) x
 ac:AcR W w v ls
 lo:W0.heap.size≤b1∧b1≤W.heap.size∧hi≤w.heap.size
 bl:Below W0.heap.size W0 w
 db:∀ b,(DB ls b∨v.ownBlock=some b)→W.heap.size≤b∧b<hi
 xb:∀ b,X b→hi≤b
 wh:W.heap.size≤hi
section
variable {W0 W w w':World} {b1 s b2 t hi:Nat} {ps:List RuZ} {now m:Int} {v:Value} {ls:List DoV} {X:Nat→Prop} {x:CnS}
theorem ApL.keep (h:ApL W0 W w b1 s b2 t ps now m hi v ls X x) (hb:Below w.heap.size w w'):ApL W0 W w' b1 s b2 t ps now m hi v ls X x :=
 ⟨h.sv.keep hb,h.ac.fr (F:=fun _=>False) (Fr.of_below hb) (fun _ hk=>hk.elim),⟨h.lo.1,h.lo.2.1,Nat.le_trans h.lo.2.2 hb.size⟩,h.bl.trans (hb.mono h.bl.size),h.db,h.xb,h.wh⟩
theorem ApL.box (h:ApL W0 W w b1 s b2 t ps now m hi v ls X x) (hb:Below w.heap.size w w') {bx:Nat} (hx:w.heap.size≤bx∧bx<w'.heap.size):ApL W0 W w' b1 s b2 t ps now m hi v ls (fun b=>X b∨b=bx) x:=by
 have hk:=h.keep hb
 refine ⟨h.sv.more hb (fun b hb'=>?_),hk.ac,hk.lo,hk.bl,hk.db,fun b hb'=>?_,h.wh⟩
 ·rcases hb' with q | q | q
  ·exact Or.inl (Or.inl q)
  ·exact Or.inl (Or.inr q)
  ·rw [q];exact Or.inr hx
 ·rcases hb' with q | q
  ·exact h.xb b q
  ·have:=h.lo;omega
theorem ApL.drop (h:ApL W0 W w b1 s b2 t ps now m hi v ls X x) {X':Nat→Prop} (hx:∀ b,X' b→X b):ApL W0 W w b1 s b2 t ps now m hi v ls X' x :=
 ⟨h.sv.more (Below.refl _ _) (fun b hb=>Or.inl (hb.imp id (hx b))),h.ac,h.lo,h.bl,h.db,fun b hb=>h.xb b (hx b hb),h.wh⟩
theorem ApL.mono (h:ApL W0 W w b1 s b2 t ps now m hi v ls X x) {m':Int} (hm:m≤m'∧m'≤576460752303423488):ApL W0 W w b1 s b2 t ps now m' hi v ls X x:=⟨h.sv.mono hm,h.ac,h.lo,h.bl,h.db,h.xb,h.wh⟩
theorem ApL.next (h:ApL W0 W w b1 s b2 t ps now m hi v ls X x) {now' m':Int} {x':CnS} (g:ApS w' b1 s b2 t ps now' m' (fun b=>W.heap.size≤b∧b<hi∨X b) x') (f:Fr (fun b=>b1≤b∧¬ (W.heap.size≤b∧b<hi∨X b)) w w'):ApL W0 W w' b1 s b2 t ps now' m' hi v ls X x' :=
 ⟨g,h.ac.fr2 f (fun b hb hF=>hF.2 (Or.inl (h.db b hb))),⟨h.lo.1,h.lo.2.1,Nat.le_trans h.lo.2.2 f.size⟩,h.bl.trans (f.below h.bl.size (fun b hb=>Nat.le_trans h.lo.1 hb.1)),h.db,h.xb,h.wh⟩
theorem ApL.start (h:ApS w b1 s b2 t ps now m (fun _=>False) x) (h0:W0.heap.size≤b1) (h1:b2≤w.heap.size) (hbl:Below W0.heap.size W0 w) (ha:AcR w w' v ls) (hb:Below w.heap.size w w'):ApL W0 w w' b1 s b2 t ps now m w'.heap.size v ls (fun _=>False) x:=by
 have hbb:b1≤b2:=h.bb
 refine ⟨h.more hb (fun b hb'=>?_),ha,⟨h0,Nat.le_trans hbb h1,Nat.le_refl _⟩,hbl.trans (hb.mono hbl.size),fun b hb'=>?_,fun _ hx=>hx.elim,hb.size⟩
 ·rcases hb' with q | q
  ·exact Or.inr q
  ·exact q.elim
 ·rcases hb' with q | q
  ·obtain ⟨a,ha',hq⟩:=q
   exact ⟨(ha.db b ⟨a,ha',hq⟩).1,(ha.hold a ha').lt b ⟨a,List.mem_singleton.2 rfl,hq⟩⟩
  ·exact ⟨ha.out.base_le b q,ha.out.lt b q⟩
theorem ApL.both (h:ApL W0 W w b1 s b2 t ps now m hi v ls X x) {a:DoV} (ha:a ∈ ls) (hk:a.k=0) (h4:a.kd≠4) (hck:now≤a.ck) (hm:m+500*2097153≤576460752303423488) :
  Calls Tryz.prog 20 #[.pointer (some ⟨s,0,none⟩),a.v] w fun e w1=>∃ (ev:Int) (nn:Nat) (A3:Option Addr) (n3 c3:Nat) (A4:Option Addr) (n4 c4:Nat),e=.returned (stepQ ev (nn:Int) A3 n3 c3 A4 n4 c4)∧Fr (fun b=>b1≤b∧¬ (W.heap.size≤b∧b<hi∨X b)) w w1 ∧
   Calls Tryz.prog 20 #[.pointer (some ⟨t,0,none⟩),a.v] w1 fun e2 w2=>∃ (B3:Option Addr) (d3:Nat) (B4:Option Addr) (d4:Nat),e2=.returned (stepQ ev (nn:Int) B3 n3 d3 B4 n4 d4)∧ApS w2 b1 s b2 t ps a.ck (m+500*2097153) (fun b=>W.heap.size≤b∧b<hi∨X b) x∧Fr (fun b=>b1≤b∧¬ (W.heap.size≤b∧b<hi∨X b)) w1 w2 ∧
    (∃ zo L,RdI w2 .u8 A3 n3 c3 zo∧RdI w2 .u8 B3 n3 d3 zo∧RdE w2 A4 n4 L∧RdE w2 B4 n4 L∧n4≤1000000):=by
 have hH:=h.ac.hold a ha
 obtain ⟨zs,sd,hA,hB⟩:=hH.doAt (D:=fun b=>W.heap.size≤b∧b<hi∨X b) (fun b hb=>Or.inl (h.db b (Or.inl (zcs ha hb))))
 exact h.sv.both hH.ok hk h4 hck hA hm
end
theorem serverapart_law (w:World) (A:Option Addr) (n c:Nat) (lps:List RuZ) (Ad:Option Addr) (nd cd:Nat) (L:List DeZ) (Aj:Option Addr) (nj cj:Nat) (zj:List Int) (hrp:RdRu w A n c lps) (hrd:RdDe w Ad nd cd L) (hjk:RdI w .u8 Aj nj cj zj) :
  Calls Tryz.prog 11 #[.slice A n c,.slice Ad nd cd,.slice Aj nj cj] w fun e w'=>e=.returned (.bool true)∧Below w.heap.size w w':=by
 have hmxd:=hrd.max
 unfold maxLen at hmxd
 have hcpd:=hrd.cap
 have HRP:=zhz hrp
 have HRD:=zhz hrd
 clear hrp hrd
 have HJK:=zhz hjk
 clear hjk
 go_enter Tryz.func11,Tryz.ntmps11
 go_upto_region 3 with (go_at_call 12;((refine (ziX _).mono ?_);rintro e w1 ⟨rfl,b1⟩;have B1:=zhz b1;clear b1))
 have CL:=zhz (zfI Ad nd cd L w1 (HRD.out.below B1.out))
 cases hlb:lightD L with
 | false =>
  rw [hlb] at CL
  go_wp2_with (go_at_call 13;((with_reducible refine CL.out.mono ?_);rintro e w2 ⟨rfl,b2⟩;have B2:=zhz (B1.out.trans (b2.mono B1.out.size));clear b2))
  go_ret
  exact ⟨rfl,B2.out⟩
 | true =>
 rw [hlb] at CL
 have HLD:=zhz (zh5 hlb)
 clear hlb
 by_cases hn2:(100:Int)<(nj:Int)
 ·have t20:decide ((100:Int)<(nj:Int))=true:=decide_eq_true hn2
  go_wp2_with (go_at_call 13;((with_reducible refine CL.out.mono ?_);rintro e w2 ⟨rfl,b2⟩;have B2:=zhz (B1.out.trans (b2.mono B1.out.size));clear b2))
  go_ret
  exact ⟨rfl,B2.out⟩
 have t20:decide ((100:Int)<(nj:Int))=false:=decide_eq_false hn2
 have HN2:=zhz hn2
 clear hn2
 go_upto_region 5 with (go_at_call 13;((with_reducible refine CL.out.mono ?_);rintro e w2 ⟨rfl,b2⟩;have B2:=zhz (show Below w.heap.size w w2 from B1.out.trans (b2.mono B1.out.size));clear b2))
 clear CL
 have CF:=zhz (zgr lps 660 A n c 0 rfl w2 (HRP.out.below B2.out))
 go_upto_region 6 with (go_at_call 14;((with_reducible refine CF.out.mono ?_);rintro e w3 ⟨A',m',c',rfl,r3,z3,b3⟩;obtain ⟨x1,x2,ex1,kr,kw,ex2,b4,k4⟩:=box4K w3 (.int .i64 4294967296) (.int .i64 3) (.int .i64 660) (.slice A' m' c');have B4:=zhz (show Below w.heap.size w x2 from (B2.out.trans (b3.mono B2.out.size)).trans (b4.mono (Nat.le_trans B2.out.size b3.size)));have R4:=zhz (r3.below b4);have Z4:=zhz z3;have K4:=zhz k4;clear r3 z3 b3 b4 k4))
 try rw [ex2]
 clear ex1 kr kw ex2 CF
 obtain ⟨cb,hcb⟩:=zeq (w3.heap.size)
 rw [← hcb] at K4 ⊢
 clear hcb
 have kc4:=K4.out.rd
 obtain ⟨w5,hw5,k5,b5,s5⟩:=zad x2 #[.int .u64 4] 69
 obtain ⟨sdb,hsdb⟩:=zeq (x2.heap.size)
 rw [← hsdb] at k5
 have B5:=zhz (show Below w.heap.size w w5 from B4.out.trans (b5.mono B4.out.size))
 have R5:=zhz (R4.out.below b5)
 have K5:=zhz (K4.out.keep b5)
 have HSB:=zhz hsdb
 have HNW:=zhz (show Calls Tryz.prog 15 #[.agg #[.int .i64 4294967296,.int .i64 3,.int .i64 660,.slice A' m' c'],.slice (some ⟨sdb,0,none⟩) 1 1] w5 (fun e w'=>∃ s,e=.returned (.tuple #[.pointer (some ⟨s,0,none⟩),.int .i64 0])∧NwS w' w5.heap.size s lps [4] 1∧Below w5.heap.size w5 w') from svnewN lps 660 A' m' c' (some ⟨sdb,0,none⟩) 1 1 [4] w5 R5.out Z4.out (by omega) (by omega) (zgj k5))
 clear k5 b5 s5 hsdb
 go_upto_region 7 with (first
  | (rw [← HSB.out];go_at_call 15;((with_reducible refine HNW.out.mono ?_);rintro e w6 ⟨s,rfl,h6,b6⟩;have B6:=zhz (show Below w.heap.size w w6 from B5.out.trans (b6.mono B5.out.size));have B56:=zhz b6;have H6:=zhz h6;clear h6 b6)))
 clear HNW kc4 hw5
 obtain ⟨base,hbase⟩:=zeq (w5.heap.size)
 rw [← hbase] at H6
 have HBS:=zhz (show w.heap.size≤base from by rw [hbase];exact B5.out.size)
 have R6:=zhz (R5.out.below B56.out)
 have HRB:=zhz (show ∀ b off,0<m'→A'=some ⟨b,off,none⟩→¬ base≤b from fun b off h0 e=>by obtain ⟨b',off',e',hlt,_⟩:=R5.out.at_ h0;rw [e] at e';injection e' with e';injection e' with e';rw [hbase];omega)
 have K6:=zhz (K5.out.keep B56.out)
 have HCB:=zhz (show cb<base from by rw [hbase];exact lt_of_block K5.out)
 clear hbase R5 K5 R4 K4
 have kc6:=K6.out.rd
 obtain ⟨w7,hw7,k7,b7,s7⟩:=zad w6 #[.int .u64 4] 69
 obtain ⟨sd2,hsd2⟩:=zeq (w6.heap.size)
 rw [← hsd2] at k7
 have B7:=zhz (show Below w.heap.size w w7 from B6.out.trans (b7.mono B6.out.size))
 have R7:=zhz (R6.out.below b7)
 have K7:=zhz (K6.out.keep b7)
 have H7:=zhz (H6.out.keep b7)
 have HSB2:=zhz hsd2
 have HNT:=zhz (show Calls Tryz.prog 15 #[.agg #[.int .i64 4294967296,.int .i64 3,.int .i64 660,.slice A' m' c'],.slice (some ⟨sd2,0,none⟩) 1 1] w7 (fun e w'=>∃ s,e=.returned (.tuple #[.pointer (some ⟨s,0,none⟩),.int .i64 0])∧NwS w' w7.heap.size s lps [4] 1∧Below w7.heap.size w7 w') from svnewN lps 660 A' m' c' (some ⟨sd2,0,none⟩) 1 1 [4] w7 R7.out Z4.out (by omega) (by omega) (zgj k7))
 have HBL:=zhz (show base≤w7.heap.size from Nat.le_trans (H6.out.lo.1) (Nat.le_trans (Nat.le_of_lt H6.out.lo.2) b7.size))
 clear k7 b7 s7 hsd2
 go_upto_region 8 with (first
  | (rw [← HSB2.out];go_at_call 15;((with_reducible refine HNT.out.mono ?_);rintro e wb ⟨t,rfl,h8,b8⟩;have BT6:=zhz (show Below w.heap.size w wb from B7.out.trans (b8.mono B7.out.size));have HT6:=zhz (ApS.start H7.out h8 b8 HBL.out);have RT6:=zhz (R7.out.below b8);have KT6:=zhz (K7.out.keep b8);have HB12:=zhz (show base≤w7.heap.size∧w7.heap.size≤wb.heap.size from ⟨HBL.out,b8.size⟩);clear h8 b8)))
 clear HNT kc6 hw7
 obtain ⟨b2,hb2⟩:=zeq (w7.heap.size)
 rw [← hb2] at HT6 HB12
 clear hb2
 have HJ8:=zhz (HJK.out.below BT6.out)
 go_upto_region 10 with (fail)
 go_cut [52] from 44 (fun s52 wx=>∃ bq:Bool,s52=.bool bq∧Hid (bq=false→∀ y r,zj=y :: r→y≠167)∧wx=wb)
 case first =>
  by_cases hj:(0:Int)<(nj:Int)
  ·obtain ⟨bj,oj,rfl,hbl,hcl⟩:=HJ8.out.at_ (by omega)
   have kj:wb.cell? ⟨bj,oj,none⟩=some (.int .u8 (zj.getD 0 0)):=by have:=hcl 0 (by omega);rwa [Nat.add_zero] at this
   obtain ⟨z0,hz0⟩:=zeq (zj.getD 0 0)
   rw [← hz0] at kj
   have HZ0:=zhz hz0
   clear hbl hcl hz0
   by_cases h167:z0=167
   ·subst h167
    go_wp2
    go_meet
    case rel=>exact ⟨true,rfl,zhz (fun h=>by cases h),rfl⟩
   ·have t167:(z0==167)=false:=by simp [h167]
    have H167:=zhz h167
    go_wp2
    go_meet
    case rel=>exact ⟨false,rfl,zhz (fun _ y r e=>by have h1:=HZ0.out;rw [e] at h1;have h2:z0=y:=h1;rw [← h2];exact H167.out),rfl⟩
  ·have hj0:nj=0:=by omega
   have HJ0:=zhz (show zj=[] from List.length_eq_zero_iff.1 (by rw [HJ8.out.len];exact hj0))
   clear hj0
   go_wp2
   go_meet
   case rel=>exact ⟨false,rfl,zhz (fun _ y r e=>by rw [HJ0.out] at e;cases e),rfl⟩
 case rest =>
 obtain ⟨bq,rfl,HBQ,hwc⟩:=hcut
 have hwc:=hwc.symm
 subst hwc
 go_upto_if 52 with (fail)
 go_cut [2] from 53 (fun s2 wx=>∃ (Aj:Option Addr) (mj cj:Nat) (yj:List Int),s2=.slice Aj mj cj∧Hid (RdI w .u8 Aj mj cj yj∧(∀ y r,yj=y :: r→y≠167)∧mj≤100)∧wx=wb)
 case first =>
  cases bq with
  | true =>
   go_wp2
   go_meet
   case rel=>exact ⟨none,0,0,[],rfl,zhz ⟨zbQ _ _,(fun y r e=>by cases e),Nat.zero_le _⟩,rfl⟩
  | false =>
   have HBR:=zhz (HBQ.out rfl)
   clear HBQ
   go_wp2
   go_meet
   case rel=>exact ⟨_,nj,cj,zj,rfl,zhz ⟨HJK.out,HBR.out,by have:=HN2.out;omega⟩,rfl⟩
 case rest =>
 obtain ⟨Jk,mj,ck0,yj,rfl,HJ,hwc⟩:=hcut
 have hwc:=hwc.symm
 subst hwc
 have N6:=zhz (show Below wb.heap.size wb wb.drew from zaa (Below.refl _ _) 1)
 have K7:=zhz (KT6.out.keep N6.out)
 obtain ⟨wA,hwA,kA,bA,sA⟩:=zad wb.drew #[.int .i64 0,.int .i64 0,.int .i64 0,.int .i64 0,.int .i64 0,.int .i64 0,.int .u32 0,.string ⟨#[]⟩,.int .i64 0,.slice none 0 0] 82
 have BA:=zhz (show Below wb.heap.size wb wA from zae N6.out bA)
 have OA:=zhz (zln kA)
 have KA:=zhz (K7.out.keep bA)
 have RDA:=zhz (HRD.out.below (show Below w.heap.size w wA from BT6.out.trans (BA.out.mono BT6.out.size)))
 have HLA:=zhz (show wb.drew.heap.size<wA.heap.size from by rw [sA];omega)
 have HDN:=zhz (RDA.out.new_ne1 BA.out HRD.out BT6.out.size)
 have kc7:=K7.out.rd
 have st:∀ j,wb.drew.cell? ⟨cb,j,none⟩=(#[.int .i64 4294967296,.int .i64 3,.int .i64 660,.slice A' m' c']:Array Value)[j]?:=K7.out.rd
 have HM1:=zhz (show 1≤m'∧m'≤8 from by have h1:=RT6.out.len;have h2:=Z4.out.2.1;omega)
 have CA:=zhz (fun (wx:World) (g8 c8:Nat) (r8:RdDe wx (some ⟨g8,0,none⟩) (1+nd) c8 ([dzE 0]++L))=>show Calls Tryz.prog 18 #[.slice (some ⟨g8,0,none⟩) (1+nd) c8,.int .i64 (m':Int)] wx (fun e w'=>∃ v ls,e=.returned v∧AcR wx w' v ls∧ls.length=1+nd∧Below wx.heap.size wx w') from zhe _ _ c8 _ m' HM1.out wx r8 (by rw [List.length_append];have:=HLD.out.1;show 1+L.length≤160;omega) (fun d hd=>by
  rcases List.mem_append.1 hd with q | q
  ·rw [List.mem_singleton.1 q];exact ⟨Nat.zero_le _,Nat.zero_le _⟩
  ·exact HLD.out.2 d q))
 clear kA bA sA
 go_upto_region 12 with (fail)
 refine wp_region_held_drew (S:=fun wx=>∀ j,wx.cell? ⟨cb,j,none⟩=(#[.int .i64 4294967296,.int .i64 3,.int .i64 660,.slice A' m' c']:Array Value)[j]?) (by kernel_rfl) st (fun hHeld=>?_)
 clear st
 refine wR 0 ?_
 refine wR 2 ?_
 refine wR 4 ?_
 refine wR 5 ?_
 refine wR 6 ?_
 refine wR 9 ?_
 refine wC 1 fun K hK=>?_
 go_simp
 skip
 refine hK.out _ _ KA.out.rd fun hHeld=>?_
 clear hK K
 try simp only [Act.put,List.setIfInBounds_toArray,List.set_cons_zero,List.set_cons_succ]
 refine wC 3 fun K hK=>?_
 refine zhd (by rfl) _ _ cd (by rfl) (by rfl) (by rfl) (M:=[dzE 0]) (L:=L) (base:=wb.drew.heap.size) (by decide) (by decide) OA.out (zlS _) RDA.out (by have h1:=HLD.out.1;have h2:=HRD.out.len;omega) (by have:=HLA.out;omega) HDN.out ?_;intro g8 c8 w8 r8 gr8;have G8:=zhz (fr_row gr8);have R8:=zhz (show RdDe w8 (some ⟨g8,0,none⟩) (1+nd) c8 ([dzE 0]++L) from r8);have B8:=zhz (show Below wb.heap.size wb w8 from BA.out.trans (G8.out.below BA.out.size (fun k hk=>by have e:some wb.heap.size=some k:=hk;injection e with e;omega)));have KB:=zhz (KT6.out.keep B8.out);clear r8 gr8
 refine hK.out _ _ KB.out.rd fun hHeld=>?_
 clear hK K
 try simp only [Act.put,List.setIfInBounds_toArray,List.set_cons_zero,List.set_cons_succ]
 refine wC 7 fun K hK=>?_
 go_simp
 ((with_reducible refine (CA.out w8 g8 c8 R8.out).mono ?_);rintro v w9 ⟨v9,ls,rfl,a9,l9,b9⟩;obtain ⟨A9,c9,hv9⟩:=a9.slice;have G9:=zhz (ApL.start (HT6.out.keep B8.out) HBS.out (Nat.le_trans HB12.out.2 B8.out.size) (BT6.out.trans (B8.out.mono BT6.out.size)) a9 b9);have L9:=zhz (And.intro l9 HLD.out.1);have KC:=zhz (KB.out.keep b9);have F9:=zhz (show Below wb.heap.size wb w9 from zae B8.out b9);subst hv9;clear a9 l9 b9)
 refine hK.out _ _ KC.out.rd fun hHeld=>?_
 clear hK K
 try simp only [Act.put,List.setIfInBounds_toArray,List.set_cons_zero,List.set_cons_succ]
 refine wR 8 ?_
 refine wpAnyH_done (by kernel_rfl) ?_ _
 clear hHeld CA hwA kc7
 go_wp2
 obtain ⟨hi,hhi⟩:=zeq (w9.heap.size)
 rw [← hhi] at G9
 clear hhi
 obtain ⟨nn,hnn⟩:=zeq (ls.length)
 have HNN:=zhz (show nn=ls.length∧nn≤152 from ⟨hnn,by have:=L9.out;have:=HRD.out.len;omega⟩)
 try rw [← hnn]
 rw [← hnn] at G9
 clear hnn
 go_loopg [62] nn (fun kk si wr=>∃ (i:Nat) (now:Int) (x:CnS),i≤nn∧Hid (kk=nn - i)∧si=.int .i64 (i:Int)∧Hid (ApL w w8 wr base s b2 t lps now (2000*2097153*(i:Int)) hi (.slice A9 nn c9) ls (fun _=>False) x)∧Hid (x.op=false∧x.out=[])∧Hid (∀ (j:Nat) a,i≤j→ls[j]?=some a→now≤a.ck))
 case atStart=>exact ⟨0,0,cZ,by omega,zhz rfl,rfl,G9,zhz ⟨rfl,rfl⟩,zhz (fun j a _ ha=>(G9.out.ac.hold a (List.mem_of_getElem? ha)).ck.1)⟩
 case round =>
  obtain ⟨i,now,x,hi',HKK,rfl,HG,HX,HNW⟩:=hrel
  by_cases hin:i<nn
  ·obtain ⟨g,cg,hvg,hg1,hg2,hcg⟩:=HG.out.ac.at_ (by have:=HNN.out;omega)
   injection hvg with hvA hvn hvc
   subst hvA
   clear hvn hvc
   obtain ⟨a,ha⟩:∃ a,ls[i]?=some a:=⟨_,List.getElem?_eq_getElem (by have:=HNN.out;omega)⟩
   have HAM:=zhz (List.mem_of_getElem? ha)
   have HAH:=zhz (HG.out.ac.hold a HAM.out)
   have HAS:=zhz (show ∀ (j:Nat) a',i+1≤j→ls[j]?=some a'→a.ck≤a'.ck from fun j a' hj ha'=>by
    obtain ⟨h1,e1⟩:=List.getElem?_eq_some_iff.1 ha
    obtain ⟨h2,e2⟩:=List.getElem?_eq_some_iff.1 ha'
    have:=List.pairwise_iff_getElem.1 HG.out.ac.so i j h1 h2 (by omega)
    rw [e1,e2] at this
    exact this)
   have HNA:=zhz (HNW.out i a (Nat.le_refl _) ha)
   have hca:=hcg i a ha
   obtain ⟨kd,ck,k,dA,na,ca,dn,sB,nb,cb'⟩:=a
   have kr0:wr.cell? ⟨g,i*6,none⟩=some (.int .i64 kd):=hca 0 (by omega)
   have kr1:wr.cell? ⟨g,i*6+1,none⟩=some (.int .i64 ck):=hca 1 (by omega)
   have kr2:wr.cell? ⟨g,i*6+2,none⟩=some (.int .i64 (k:Int)):=hca 2 (by omega)
   have kr3:wr.cell? ⟨g,i*6+3,none⟩=some (.slice dA na ca):=hca 3 (by omega)
   have kr4:wr.cell? ⟨g,i*6+4,none⟩=some (.int .i64 dn):=hca 4 (by omega)
   have kr5:wr.cell? ⟨g,i*6+5,none⟩=some (.slice sB nb cb'):=hca 5 (by omega)
   obtain ⟨x1,x2,ex1,kr,kw,ex2,bl2,kc2⟩:=box6E wr (.int .i64 kd) (.int .i64 ck) (.int .i64 (k:Int)) (.slice dA na ca) (.int .i64 dn) (.slice sB nb cb')
   obtain ⟨bx,hbx⟩:=zeq (wr.heap.size)
   rw [← hbx] at kc2
   have G2:=zhz (HG.out.box bl2 (bx:=bx) ⟨by omega,lt_of_block kc2⟩)
   have HBX:=zhz hbx
   have KC:=zhz kc2
   have BL2:=zhz bl2
   have HCK:=zhz (show now≤ck∧ck≤9223372036854775807 from ⟨HNA.out,by have:(0:Int)≤ck∧ck≤163680:=HAH.out.ck;omega⟩)
   have t2:(i:Int)<(nn:Int):=by omega
   have t3:(nn:Int)≤152:=by have:=HNN.out.2;omega
   have HIN:=zhz hin
   clear hcg hca ha bl2 kc2 hbx hg1 hg2 hin
   go_upto_region 15 with (fail)
   try rw [ex2]
   rw [← HBX.out]
   clear ex1 kr kw ex2 kr0 kr1 kr2 kr3 kr4 kr5
   have kx:=KC.out.rd
   have HM:=zhz (show 0≤2000*2097153*(i:Int)∧2000*2097153*(i:Int)+2000*2097153≤576460752303423488 from by have h1:=HNN.out.2;have h2:=HIN.out;omega)
   by_cases hk1:0<k
   ·have tk:(0:Int)<(k:Int):=by omega
    go_wp2
    go_roundg (nn - (i+1))
    case measure=>have:=HKK.out;have:=HIN.out;omega
    case rel=>exact ⟨i+1,now,x,HIN.out,zhz rfl,by go_num,zhz ((G2.out.mono (by have h1:=HNN.out.2;have h2:=HIN.out;omega)).drop (fun _ h=>h.elim)),HX,zhz (fun j a hj ha=>HNW.out j a (by omega) ha)⟩
   ·have tk:¬ (0:Int)<(k:Int):=by omega
    have HK0:=zhz (show k=0 by omega)
    clear hk1
    have CO:=zhz (G2.out.sv.open2 HX.out HCK.out (by have:=HM.out;omega))
    go_upto_region 17 with (go_at_call 20;((with_reducible refine CO.out.mono ?_);rintro e wd1 ⟨v1,rfl,g1,f1⟩;have G3:=zhz (G2.out.next g1 f1);have K3:=zhz (KC.out.fr f1 (fun h=>h.2 (Or.inr (Or.inr rfl))));clear g1 f1))
    clear CO kx
    have kx:=K3.out.rd
    have CJ:=zhz (G3.out.sv.junk2 (ck:=ck) ⟨Int.le_refl _,HCK.out.2⟩ (by have:=HM.out;omega) (na:=mj) (by have:=HJ.out.2.2;omega) (HJ.out.1.below G3.out.bl) (fun b off h0 e=>by obtain ⟨b',off',e',hlt,_⟩:=HJ.out.1.at_ h0;rw [e] at e';injection e' with e';injection e' with e';have:=HBS.out;omega) HJ.out.2.1)
    go_upto_region 18 with (go_at_call 20;((with_reducible refine CJ.out.mono ?_);rintro e wd2 ⟨v2,rfl,⟨y,g2,hy⟩,f2⟩;have G4:=zhz (G3.out.next g2 f2);have HY:=zhz hy;have K4:=zhz (K3.out.fr f2 (fun h=>h.2 (Or.inr (Or.inr rfl))));clear g2 f2 hy))
    clear CJ kx
    have kx:=K4.out.rd
    have CS:=zhz (G4.out.sv.shut2 HY.out (ck:=ck) ⟨Int.le_refl _,HCK.out.2⟩ (by have:=HM.out;omega))
    go_upto_region 19 with (go_at_call 20;((with_reducible refine CS.out.mono ?_);rintro e wd3 ⟨v3,rfl,⟨x5,g3,hx5⟩,f3⟩;have G5:=zhz (G4.out.next g3 f3);have HX5:=zhz hx5;have K5:=zhz (K4.out.fr f3 (fun h=>h.2 (Or.inr (Or.inr rfl))));clear g3 f3 hx5))
    clear CS kx
    have kx:=K5.out.rd
    by_cases h4:kd=4
    ·subst h4
     go_wp2
     go_roundg (nn - (i+1))
     case measure=>have:=HKK.out;have:=HIN.out;omega
     case rel=>exact ⟨i+1,ck,x5,HIN.out,zhz rfl,by go_num,zhz ((G5.out.mono (by have h1:=HM.out;omega)).drop (fun _ h=>h.elim)),HX5,zhz (fun j a hj ha=>HAS.out j a hj ha)⟩
    ·have t4:(kd==4)=false:=by simp [h4]
     have H4:=zhz h4
     clear h4
     go_upto_region 20 with (fail)
     clear kx t4
     have N0:=zhz (show Below wd3.heap.size wd3 wd3.drew from zaa (Below.refl _ _) 1)
     have G6:=zhz (G5.out.keep N0.out)
     have K6b:=zhz (K5.out.keep N0.out)
     have c1:=G6.out.both HAM.out HK0.out H4.out (Int.le_refl _) (by have:=HM.out;omega)
     dsimp only [DoV.v,actV,actC] at c1
     have C1:=zhz c1
     clear c1
     have st:=K6b.out.rd
     refine wp_region_held_drew (S:=fun wx=>∀ j,wx.cell? ⟨bx,j,none⟩=(#[.int .i64 kd,.int .i64 ck,.int .i64 (k:Int),.slice dA na ca,.int .i64 dn,.slice sB nb cb']:Array Value)[j]?) (by kernel_rfl) st (fun hHeld=>?_)
     clear st
     refine wR 0 ?_
     refine wR 1 ?_
     refine wR 3 ?_
     refine wR 4 ?_
     refine wC 2 fun K hK=>?_
     go_simp
     ((with_reducible refine C1.out.mono ?_);rintro v w20 ⟨ev,nx,A3,n3,c3,A4,n4,c4,rfl,f20,q20⟩;have Q20:=zhz q20;have K20:=zhz (K6b.out.fr f20 (fun h=>h.2 (Or.inr (Or.inr rfl))));have F20:=zhz f20;clear f20 q20)
     refine hK.out _ _ K20.out.rd fun hHeld=>?_
     clear hK K
     try simp only [Act.put,List.setIfInBounds_toArray,List.set_cons_zero,List.set_cons_succ]
     refine wC 5 fun K hK=>?_
     go_simp
     ((with_reducible refine Q20.out.mono ?_);rintro v w21 ⟨B3,d3,B4,d4,rfl,g21,f21,zo,Lv,r3,s3,r4,s4,h41⟩;have G21:=zhz (G6.out.next g21 (F20.out.trans f21));have K21:=zhz (K20.out.fr f21 (fun h=>h.2 (Or.inr (Or.inr rfl))));have SM:=zhz (zj8 ev (nx:Int) A3 B3 A4 B4 n3 n4 c3 d3 c4 d4 zo Lv w21 r3 s3 r4 s4 h41);clear g21 f21 r3 s3 r4 s4 h41)
     refine hK.out _ _ K21.out.rd fun hHeld=>?_
     clear hK K
     try simp only [Act.put,List.setIfInBounds_toArray,List.set_cons_zero,List.set_cons_succ]
     refine wC 6 fun K hK=>?_
     go_simp
     ((with_reducible refine SM.out.mono ?_);rintro v w22 ⟨rfl,b22⟩;have G22:=zhz (G21.out.keep b22);have K22:=zhz (K21.out.keep b22);clear b22)
     refine hK.out _ _ K22.out.rd fun hHeld=>?_
     clear hK K
     try simp only [Act.put,List.setIfInBounds_toArray,List.set_cons_zero,List.set_cons_succ]
     refine wR 7 ?_
     refine wpAnyH_done (by kernel_rfl) ?_ _
     clear hHeld C1
     go_wp2
     go_roundg (nn - (i+1))
     case measure=>have:=HKK.out;have:=HIN.out;omega
     case rel=>exact ⟨i+1,ck,x5,HIN.out,zhz rfl,by go_num,zhz ((G22.out.mono (by have h1:=HM.out;omega)).drop (fun _ h=>h.elim)),HX5,zhz (fun j a hj ha=>HAS.out j a hj ha)⟩
  ·have hie:i=nn:=by omega
   subst hie
   go_wp2
   go_ret
   exact ⟨rfl,HG.out.bl⟩
end Go.Proofs.YtannniobeanhlaaGreat
