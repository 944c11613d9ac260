import Derived.Test.YtannniobeanhlaaGreatZSvW
import Derived.Test.YtannniobeanhlaaGreatOrq
set_option linter.unusedSimpArgs false
set_option linter.unusedVariables false
set_option maxRecDepth 100000
set_option maxHeartbeats 9000000
namespace Go.Proofs.YtannniobeanhlaaGreat
open Go.ChangeShapes Go.WideShapes Go.ChangeAt Go.RowKit
theorem zjp:∀ (l:List Req) (q:Req),joinS (l++[q])=joinS l++encZ q:=fun l q=>by
 rw [zbf]
 show joinS l++(encZ q++[])=_
 rw [List.append_nil]
theorem zkq {rules:Int} {q:Req} (h:okQ rules q):(encZ q).length≤75:=by
 rw [zbo h.1]
 have:=zh6 h
 split
 ·omega
 ·split <;> omega
theorem zct {rules:Int} (hr:rules≤256):∀ l:List Req,(∀ q ∈ l,okQ rules q)→byt (joinS l)
 | [],_=>fun z hz=>by cases hz
 | q :: r,h=>fun z hz=>by
  have h1:=h q (by simp)
  rcases List.mem_append.1 (show z ∈ encZ q++joinS r from hz) with hz | hz
  ·exact zdv (zc9 h1.1 hr) h1.2.2 z hz
  ·exact zct hr r (fun p hp=>h p (by simp [hp])) z hz
theorem zcu {rules:Int}:∀ l:List Req,(∀ q ∈ l,okQ rules q)→(joinS l).length≤75*l.length
 | [],_=>Nat.zero_le _
 | q :: r,h=>by
  have h1:=zkq (h q (by simp))
  have h2:=zcu r (fun p hp=>h p (by simp [hp]))
  have e:(joinS (q :: r)).length=(encZ q).length+(joinS r).length:=List.length_append
  rw [e,List.length_cons]
  omega
theorem zhk {xs:List Int} (h:byt xs):∀ z ∈ xs,0≤z∧z≤255:=fun z hz=>by
 have:=h z hz
 omega
theorem zjH {w:World} {b:Nat} {t:TypeId} {a0 v0:Value} (h:Blk w b t #[a0]):∃ w',w.setCell ⟨b,0,none⟩ v0=w'∧Blk w' b t #[v0]∧Fr (fun k=>k=b) w w':=by
 have hl:=lt_of_block h
 refine ⟨_,rfl,?_,?_⟩
 ·rw [zac h]
  simp only [zs1,zs2]
  exact zab hl _
 ·rw [zac h]
  exact Fr.setObj (F:=fun k=>k=b) (Fr.refl _ w) rfl _
theorem servercuts_law (w:World) (A:Option Addr) (n c:Nat) (lps:List RuZ) (A2:Option Addr) (n2 c2:Nat) (l:List Req) (A3:Option Addr) (n3 c3:Nat) (cz:List Int) (hrp:RdRu w A n c lps) (hrq:RdRq w A2 n2 c2 l) (hok:∀ q ∈ l,okR q) (hrc:RdI w .i64 A3 n3 c3 cz) :
  Calls Tryz.prog 5 #[.slice A n c,.slice A2 n2 c2,.slice A3 n3 c3] w fun e w'=>e=.returned (.bool true)∧Below w.heap.size w w':=by
 have hmx2:=hrq.max
 have hmx3:=hrc.max
 unfold maxLen at hmx2 hmx3
 have hcp2:=hrq.cap
 have hcp3:=hrc.cap
 have HRP:=zhz hrp
 have HRQ:=zhz hrq
 have HOK:=zhz hok
 have HRC:=zhz hrc
 clear hrp hrq hok hrc
 go_enter Tryz.func5,Tryz.ntmps5
 go_upto_region 3 with (go_at_call 12;((refine (ziR _).mono ?_);rintro e w1 ⟨rfl,b1⟩;have B1:=zhz b1;clear b1))
 by_cases h30:(30:Int)<(n2:Int)
 ·go_wp2
  go_ret
  exact ⟨rfl,B1.out⟩
 by_cases h100:(100:Int)<(n3:Int)
 ·go_wp2
  go_ret
  exact ⟨rfl,B1.out⟩
 have HN2:=zhz (show n2≤30 by omega)
 have HN3:=zhz (show n3≤100 by omega)
 go_upto_region 5 with (fail)
 clear h30 h100
 have hn30:(n2:Int)≤30:=by have:=HN2.out;omega
 have CF:=zhz (zgj lps 660 A n c 0 rfl w1 (HRP.out.below B1.out))
 go_upto_region 6 with (go_at_call 14;((with_reducible refine CF.out.mono ?_);rintro e w3 ⟨A',m',c',rfl,r3,z3,b3⟩;obtain ⟨x1,x2,ex1,kr,kw,ex2,b4,k4⟩:=box4K w3 (.int .i64 4294967296) (.int .i64 3) (.int .i64 660) (.slice A' m' c');have B4:=zhz (zad (zad B1.out b3) b4);have R4:=zhz (r3.below b4);have Z4:=zhz z3;have K4:=zhz k4;clear r3 z3 b3 b4 k4))
 try rw [ex2]
 clear ex1 kr kw ex2 CF
 obtain ⟨cb,hcb⟩:=zeq (w3.heap.size)
 rw [← hcb] at K4 ⊢
 clear hcb
 have HM:=zhz (show (confR lps).length=m'∧m'≤8 from ⟨R4.out.len,by have h1:=R4.out.len;have h2:=Z4.out.2.1;omega⟩)
 go_upto_region 7 with (fail)
 obtain ⟨w5,hw5,k5,b5,s5⟩:=zae x2 #[.slice none 0 0] 40
 try rw [hw5]
 obtain ⟨bb,hbb⟩:=zeq (x2.heap.size)
 rw [← hbb] at k5 ⊢
 have K5:=zhz k5
 have B5:=zhz (show Below bb x2 w5 from by rw [hbb];exact b5)
 have HBB:=zhz (show bb=x2.heap.size∧bb<w5.heap.size from ⟨hbb,lt_of_block k5⟩)
 have HCB:=zhz (show cb<bb from by rw [hbb];exact lt_of_block K4.out)
 clear hw5 k5 b5 s5 hbb
 obtain ⟨bs,hbs⟩:=zeq (w5.heap.size)
 have HBS:=zhz (show bb<bs∧bs≤w5.heap.size from by rw [hbs];exact ⟨HBB.out.2,Nat.le_refl _⟩)
 clear hbs
 go_upto_region 8 with (fail)
 go_loopg [26] n2 (fun kk si wr=>∃ (j:Nat),j≤n2∧Hid (kk=n2 - j)∧si=.int .i64 (j:Int)∧Hid (Below bb x2 wr∧bs≤wr.heap.size)∧Hid (∃ v,Blk wr bb 40 #[v]∧Own wr bs v (joinS (l.take j)))∧Hid (∀ q ∈ l.take j,okQ ((confR lps).length:Int) q))
 case atStart=>exact ⟨0,by omega,zhz rfl,rfl,zhz ⟨B5.out,HBS.out.2⟩,zhz ⟨_,K5.out,zk8 _ _⟩,zhz (fun q hq=>by cases hq)⟩
 case round =>
  obtain ⟨j,hj,HKK,rfl,HB,HO,HQ⟩:=hrel
  obtain ⟨v0,hv0,ho0⟩:=HO.out
  have HV:=zhz hv0
  have HOW:=zhz ho0
  clear hv0 ho0 HO
  have HBX:=zhz (show Below x2.heap.size x2 wr from by have:=HB.out.1;rw [HBB.out.1] at this;exact this)
  have HBW:=zhz (zad B4.out HBX.out)
  have KC:=zhz (K4.out.keep HBX.out)
  by_cases hjn:j<n2
  ·have hl:=HRQ.out.len
   obtain ⟨b',off,rfl,hlt,hc⟩:=(HRQ.out.below HBW.out).at_ (by omega)
   obtain ⟨q,hq⟩:∃ q,l[j]?=some q:=⟨_,List.getElem?_eq_getElem (by omega)⟩
   obtain ⟨c0,c1,c2',c3',c4⟩:=hc j q hq
   have HTK:=zhz (show l.take (j+1)=l.take j++[q] from by
    obtain ⟨h1,h2⟩:=List.getElem?_eq_some_iff.1 hq
    rw [List.take_succ_eq_append_getElem h1,h2])
   have HQR:=zhz (HOK.out q (List.mem_of_getElem? hq))
   have HJN:=zhz hjn
   have hsz:((strOfNums q.key).size:Int)≤9223372036854775807:=by have:=HQR.out.2.1;unfold maxLen at this;omega
   have t2:(j:Int)<(n2:Int):=by omega
   clear hc hlt hq hl hjn
   obtain ⟨w6,hw6,k6,b6,s6⟩:=zae wr #[.int .i64 q.op,.int .i64 q.rule,.int .u32 q.cost,.string (strOfNums q.key),.int .i64 q.k] 76
   obtain ⟨qb,hqb⟩:=zeq (wr.heap.size)
   have HQB:=zhz hqb
   rw [← hqb] at k6
   have K6:=zhz k6
   have V6:=zhz (HV.out.keep b6)
   have O6:=zhz (HOW.out.below b6)
   have C6:=zhz (KC.out.keep b6)
   have B6:=zhz (show Below bb x2 w6∧bs≤w6.heap.size from ⟨HB.out.1.trans (b6.mono (by have:=lt_of_block HV.out;omega)),Nat.le_trans HB.out.2 b6.size⟩)
   have BW6:=zhz (zad HBW.out b6)
   clear k6 b6 s6 hqb
   go_upto_region 10 with (fail)
   try rw [hw6]
   rw [← HQB.out]
   clear hw6 c0 c1 c2' c3' c4
   have k6:=K6.out.rd
   have kc:=C6.out.rd
   by_cases hkey:(100:Int)<((strOfNums q.key).size:Int)
   ·have hund:undef=Value.tuple #[]:=rfl
    go_wp2
    go_ret
    exact ⟨rfl,BW6.out⟩
   by_cases hR:rightP q (m':Int)
   rotate_left 1
   ·have CR:=zhz (fun w=>(zcG q.op q.rule q.cost q.k (m':Int) (strOfNums q.key) w HQR.out.2.1).2 (by rw [HQR.out.mk];exact hR))
    clear hR
    go_wp2_with (go_at_call 27;((with_reducible refine (CR.out _).mono ?_);rintro e w7 ⟨rfl,b7⟩;have BW7:=zhz (zad BW6.out b7);clear b7))
    go_ret
    exact ⟨rfl,BW7.out⟩
   have HRT:=zhz (show okQ ((confR lps).length:Int) q from ⟨by rw [HM.out.1];exact hR,HQR.out.1,HQR.out.byt⟩)
   have CR:=zhz (fun w=>(zcG q.op q.rule q.cost q.k (m':Int) (strOfNums q.key) w HQR.out.2.1).1 (by rw [HQR.out.mk];exact hR))
   clear hR
   go_upto_region 12 with (go_at_call 27;((with_reducible refine (CR.out _).mono ?_);rintro e w7 ⟨rfl,b7⟩;have K7:=zhz (K6.out.keep b7);have V7:=zhz (V6.out.keep b7);have O7:=zhz (O6.out.below b7);have B7:=zhz (show Below bb x2 w7∧bs≤w7.heap.size from ⟨B6.out.1.trans (b7.mono (by have:=lt_of_block V6.out;omega)),Nat.le_trans B6.out.2 b7.size⟩);clear b7))
   clear CR hkey k6 kc hsz t2
   have HR256:=zhz (show rightP q 256 from zc9 HRT.out.1 (by have:=HM.out;omega))
   have CE:=zhz (fun w=>zgv q.op q.rule q.cost q.k (strOfNums q.key) w (by rw [HQR.out.mk];exact HR256.out) HQR.out.1)
   rw [HQR.out.mk] at CE
   have HE75:=zhz (show (joinS (l.take j)).length+(encZ q).length≤2250 from by
    have h1:=zcu _ HQ.out
    rw [List.length_take] at h1
    have h2:=zkq HRT.out
    have:=HN2.out
    have:=HJN.out
    omega)
   have HEB:=zhz (zhk (zdv HR256.out HQR.out.byt))
   have HEA:=zhz (zhk (fun z hz=>by rcases List.mem_append.1 hz with hz | hz;exact zct (by have:=HM.out;omega) _ HQ.out z hz;exact zdv HR256.out HQR.out.byt z hz:byt (joinS (l.take j)++encZ q)))
   have D7:=zhz (show Below w7.heap.size w7 w7.drew from zaa (Below.refl _ _) 1)
   obtain ⟨w8,hw8⟩:=zeq (w7.drew)
   have V8:=zhz (show Blk w8 bb 40 #[v0] from by rw [hw8];exact V7.out.keep D7.out)
   have K8:=zhz (show Blk w8 qb 76 #[.int .i64 q.op,.int .i64 q.rule,.int .u32 q.cost,.string (strOfNums q.key),.int .i64 q.k] from by rw [hw8];exact K7.out.keep D7.out)
   have O8:=zhz (show Own w8 bs v0 (joinS (l.take j)) from by rw [hw8];exact O7.out.below D7.out)
   have B8:=zhz (show Below bb x2 w8∧bs≤w8.heap.size from by rw [hw8];exact ⟨B7.out.1.trans (D7.out.mono (by have:=lt_of_block V7.out;omega)),Nat.le_trans B7.out.2 D7.out.size⟩)
   have st:=And.intro V8.out.rd K8.out.rd
   refine Ph.start [4] (Ph.pick [(fun w':World=>(∀ j,w'.cell? ⟨bb,j,none⟩=(#[v0]:Array Value)[j]?)∧(∀ j,w'.cell? ⟨qb,j,none⟩=(#[.int .i64 q.op,.int .i64 q.rule,.int .u32 q.cost,.string (strOfNums q.key),.int .i64 q.k]:Array Value)[j]?)),(fun _:World=>True)]) (by kernel_rfl) (Ph.pick0 (by rw [← hw8];exact st)) (fun hHeld hOrd=>?_)
   rw [← hw8] at hHeld ⊢
   clear hw8 D7
   obtain ⟨st1,st2⟩:=st
   refine Ph.pR 0 0 hOrd ?_;clear hOrd;intro hOrd
   refine Ph.pR 1 0 hOrd ?_;clear hOrd;intro hOrd
   refine Ph.pC 2 0 hOrd ?_;clear hOrd;intro K hK
   go_simp
   (go_at_call 28;((with_reducible refine (CE.out _).mono ?_);rintro e w9 ⟨v9,rfl,o9,b9⟩;obtain ⟨A9,c9,rfl,r9,_⟩:=o9.rd HEB.out;have R9:=zhz r9;have V9:=zhz (V8.out.keep b9);have K9:=zhz (K8.out.keep b9);have O9:=zhz (O8.out.below b9);have B9:=zhz (show Below bb x2 w9∧bs≤w9.heap.size from ⟨B8.out.1.trans (b9.mono (by have:=lt_of_block V8.out;omega)),Nat.le_trans B8.out.2 b9.size⟩);clear o9 b9 r9))
   refine hK.out _ _ (Ph.pick0 ⟨V9.out.rd,K9.out.rd⟩) fun hHeld hOrd=>?_
   clear hK K
   try simp only [Act.put,zs1,zs2,zs3] at hOrd ⊢
   refine Ph.pC 3 0 hOrd ?_;clear hOrd;intro K hK
   refine ziK (by rfl) _ _ c9 (by rfl) (by rfl) (by rfl) O9.out R9.out (by have:=HE75.out;omega) B9.out.2 ?_;intro v10 w10 o10 hg10;obtain ⟨A10,c10,hv10,_,_⟩:=o10.rd HEA.out;obtain ⟨n10,hn10⟩:=zeq ((joinS (l.take j)++encZ q).length);rw [← hn10] at hv10;clear hn10;subst hv10;have f10:=fr_row hg10;have O10:=zhz o10;have V10:=zhz (V9.out.fr f10 (fun e=>by have:=(O9.out.lt _ e).1;have:=HBS.out.1;omega));have K10:=zhz (K9.out.fr f10 (fun e=>by have:=(HOW.out.lt _ e).2;have:=HQB.out;omega));have B10:=zhz (show Below bb x2 w10∧bs≤w10.heap.size from ⟨B9.out.1.trans (f10.below (Nat.le_of_lt (lt_of_block V9.out)) (fun g hg=>by have:=(O9.out.lt g hg).1;have:=HBS.out.1;omega)),Nat.le_trans B9.out.2 f10.size⟩);clear o10 hg10 f10
   refine hK.out _ _ (Ph.pick0 ⟨V10.out.rd,K10.out.rd⟩) fun hHeld hOrd=>?_
   clear hK K
   try simp only [Act.put,zs1,zs2,zs3] at hOrd ⊢
   have v10r:=V10.out.rd
   have v10w:=V10.out.wr
   obtain ⟨w11,hw11,k11,f11⟩:=zjH (v0:=.slice A10 n10 c10) V10.out
   refine Ph.pC 4 1 hOrd ?_;clear hOrd;intro K hK
   go_simp
   (try rw [hw11])
   refine hK.out _ _ (Ph.pick1 trivial) fun hHeld hOrd=>?_
   clear hK K
   try simp only [Act.put,zs1,zs2,zs3] at hOrd ⊢
   refine Ph.done (by kernel_rfl) ?_ _
   clear hHeld hOrd v10r v10w st1 st2
   try rw [hw11]
   clear hw11
   have K11:=zhz k11
   have O11:=zhz (O10.out.fr f11 (fun g e h=>by have:=(O10.out.lt g e).1;have:=HBS.out.1;omega))
   have B11:=zhz (show Below bb x2 w11∧bs≤w11.heap.size from ⟨B10.out.1.trans (f11.below (Nat.le_of_lt (lt_of_block V10.out)) (fun k hk=>Nat.le_of_eq hk.symm)),Nat.le_trans B10.out.2 f11.size⟩)
   clear k11 f11
   go_wp2
   go_roundg (n2 - (j+1))
   case measure=>have:=HKK.out;have:=HJN.out;omega
   case rel=>exact ⟨j+1,HJN.out,zhz rfl,by go_num,B11,zhz ⟨_,K11.out,by rw [HTK.out,zjp];exact O11.out⟩,zhz (fun p hp=>by
    rw [HTK.out,List.mem_append] at hp
    rcases hp with hp | hp
    ·exact HQ.out p hp
    ·rw [List.mem_singleton] at hp
     subst hp
     exact HRT.out)⟩
  ·have hje:j=n2:=by omega
   subst hje
   have HTL:=zhz (show l.take j=l from by rw [← HRQ.out.len];exact List.take_length)
   have HQA:=zhz (show ∀ q ∈ l,okQ ((confR lps).length:Int) q from by have:=HQ.out;rw [HTL.out] at this;exact this)
   obtain ⟨Ab,cab,rfl,hrb,_⟩:=HOW.out.rd (zhk (zct (by have:=HM.out;omega) _ HQ.out))
   have HRB:=zhz (show RdI wr .u8 Ab (joinS (l.take j)).length cab (joinS l) from by have:=hrb;rw [HTL.out] at this ⊢;exact this)
   clear hrb
   obtain ⟨nl,hnl⟩:=zeq ((joinS (l.take j)).length)
   have HNL:=zhz (show nl≤2250 from by
    have h1:=zcu _ HQ.out
    have h2:=List.length_take_le j l
    have:=HN2.out
    omega)
   rw [← hnl] at HRB HV
   clear hnl
   have HR8:=zhz (R4.out.below HBX.out)
   have hcs:=zfL wr lps l cb bb A' m' c' Ab nl cab none 0 0 [] KC.out HR8.out Z4.out HV.out HRB.out HNL.out HQA.out (zjO _ _) (by omega)
   have HCS:=zhz hcs
   clear hcs
   have HCT:=zhz (fun (wx:World) (hb:Below wr.heap.size wr wx)=>zfL wx lps l cb bb A' m' c' Ab nl cab A3 n3 c3 cz (KC.out.keep hb) (HR8.out.below hb) Z4.out (HV.out.keep hb) (HRB.out.below hb) HNL.out HQA.out (HRC.out.below (zad HBW.out hb)) HN3.out)
   go_wp2_with (first
    | (go_at_call 29;((with_reducible refine HCS.out.mono ?_);rintro e w8 ⟨Ns1,d1,rfl,g1,g2,g3,g4,b8⟩;have G8:=zhz (And.intro g1 (And.intro g2 (And.intro g3 g4)));have B8:=zhz (show Below wr.heap.size wr w8 from b8);clear g1 g2 g3 g4 b8))
    | (go_at_call 29;((with_reducible refine (HCT.out _ B8.out).mono ?_);rintro e w9 ⟨Ns2,d2,rfl,g1,g2,g3,g4,b9⟩;have B9:=zhz (zad (zad HBW.out B8.out) b9);have HEQ:=(HoW.run (zlv g4 G8.out.2.2.2 g3 G8.out.2.2.1) l (show HoW (confR lps) (ho0 d2 7 (rsZ (confR lps))) (ho0 d1 7 (rsZ (confR lps))) from ⟨(show max d2.now 7=max d1.now 7 from by rw [g1,G8.out.1]),fun r hr=>by rw [zbQ (c:=(ho0 d2 7 (rsZ (confR lps))).c) g2,zbQ (c:=(ho0 d1 7 (rsZ (confR lps))).c) G8.out.2.1],rfl⟩)).1;rw [HEQ];clear HEQ g1 g2 g3 g4 b9)))
   go_ret
   exact ⟨by simp,B9.out⟩
end Go.Proofs.YtannniobeanhlaaGreat
