import Derived.Test.YtannniobeanhlaaGreatZApp
import Derived.Test.YtannniobeanhlaaGreatZKyMath
import Derived.Test.YtannniobeanhlaaGreatBits
import Derived.Deep.RegionHeld3
import Derived.StillTailTactics
import Derived.BigQuiet
import Derived.Deep.Cut
import Derived.Test.YtannniobeanhlaaGreatZHa
set_option linter.unusedSimpArgs false
set_option linter.unusedVariables false
set_option maxRecDepth 100000
set_option maxHeartbeats 9000000
namespace Go.Proofs.YtannniobeanhlaaGreat
section
open Go.ChangeShapes Go.WideShapes Go.ChangeAt Go.RowKit
theorem zdv:∀ (i:Nat) (x:Int),be (i+1) x=(x / 256 ^ i % 256) :: be i x
 | 0,x=>by simp [be]
 | i+1,x=>by
  rw [be,zdv i (x / 256),be,List.cons_append,Int.pow_succ,Int.mul_comm,Int.ediv_ediv_of_nonneg (by omega)]
theorem zeX:∀ (k n:Nat) (x:Int),(be (n+k) x).drop k=be n x
 | 0,_,_=>rfl
 | k+1,n,x=>by rw [← Nat.add_assoc,zdv,List.drop_succ_cons,zeX k n x]
def numAll (x:Int) (i:Nat):List Int:=List.replicate (8 - i) 0++be i x
theorem zbS (x:Int) (i:Nat) (h:i≤8):(numAll x i).length=8:=by unfold numAll;rw [List.length_append,List.length_replicate,zaq];omega
theorem zdc (x:Int) (i:Nat) (h:i<8):(numAll x i).set (7 - i) (x / 256 ^ i % 256)=numAll x (i+1):=by
 unfold numAll
 rw [zdv,show 8 - i=(7 - i)+1 by omega,show 8 - (i+1)=7 - i by omega]
 rw [List.set_append_left _ _ (by simp)]
 rw [List.replicate_succ']
 rw [List.set_append_right _ _ (by simp)]
 simp
theorem zb8 {w:World} {k:IntKind} {d off n c:Nat} {zs:List Int} (h:RdI w k (some ⟨d,off,none⟩) n c zs) {m:Nat} (hm:m≤n):RdI w k (some ⟨d,off+m,none⟩) (n - m) (c - m) (zs.drop m):=by
 have hl:=h.len
 have hc:=h.cap
 have hx:=h.max
 refine ⟨by rw [List.length_drop];omega,by omega,by omega,fun h0=>?_,fun z hz=>h.wf z (List.mem_of_mem_drop hz)⟩
 obtain ⟨b',off',e,hlt,hcs⟩:=h.at_ (by omega)
 injection e with e;injection e with e1 e2
 subst e1 e2
 exact ⟨d,off+m,rfl,hlt,fun i hi=>by rw [Nat.add_assoc,hcs (m+i) (by omega)];simp [List.getD]⟩
theorem zeG (ab d n:Nat) (hd:d+n=8) (hn:1≤n) (w:World) :
  (Instr.sliceAt 168 (.pointer (some ⟨ab,0,none⟩)) (some (.int .i64 (d:Int))) none none).run Tryz.prog w=.ok (.slice (some ⟨ab,d,none⟩) n n) w:=by
 have hlen:Tryz.prog.arrayLen 168=8:=by kernel_rfl
 have hel:(sizeOf (Tryz.prog.elem 168)).run Tryz.prog w=.ok 1 w:=by
  obtain ⟨i0,hi0,hz0,hz1,hz2⟩:=info_parts zb0
  have e:Tryz.prog.elem 168=5:=by kernel_rfl
  rw [e]
  simp [sizeOf,typeInfo,hi0,hz1]
 rw [run_sliceAt_array_l w 168 _ (by kernel_rfl) .i64 (d:Int) (by omega) (by rw [hlen];omega),hlen,hel]
 have e1:¬ 8=((d:Int)).toNat:=by omega
 simp [slicedAt,Result.andThen_ok,e1]
 have e2:¬ 8=d:=by omega
 refine ⟨?_,by omega⟩
 rw [if_neg e2]
 simp [Addr.add]
 omega
theorem zfn (B:Nat) (v:Value) (bs:List Int) (x:Int) (n:Nat) (hx:0≤x∧x<18446744073709551616) (hn:1≤n∧n≤8) (hm:bs.length≤1000000) (w:World) (ho:Own w B v bs) (hB:B≤w.heap.size) :
  Calls Tryz.prog 54 #[v,.int .u64 x,.int .i64 (n:Int)] w fun e w'=>∃ v',e=.returned v'∧Own w' B v' (bs++be n x)∧Fr (fun k=>B≤k) w w':=by
 have HO:=zhz ho
 have HBS:=zhz hB
 have HX:=zhz hx
 clear ho hB hx
 go_enter Tryz.func54,Tryz.ntmps54
 go_wp2
 obtain ⟨w1,hw1,hbk,hbl,hsz⟩:=zad w (byC (numAll x 0)) 168
 change Code.wp _ _ _ _ (w.alloc (.cells (byC (numAll x 0)) 168))
 rw [hw1]
 obtain ⟨ab,hab⟩:=zeq (w.heap.size)
 rw [← hab] at hbk ⊢
 have HAB:=zhz hab
 have B1:=zhz hbk
 have F1:=zhz hbl
 clear hw1 hbk hbl hsz hab
 go_loopg [9] 8 (fun k s9 wr=>∃ i:Nat,i≤8∧k=8 - i∧s9=.int .i64 (i:Int)∧Blk wr ab 168 (byC (numAll x i))∧Fr (fun k=>k=ab) w1 wr)
 case atStart=>exact ⟨0,by omega,by omega,rfl,B1.out,Fr.refl _ _⟩
 case round =>
  obtain ⟨i,hi,hkk,rfl,hb,hf⟩:=hrel
  have HK:=zhz hkk
  have HB:=zhz hb
  have HF:=zhz hf
  clear hkk hf
  by_cases hin:i<8
  ·obtain ⟨P,hP⟩:∃ P,P=(2:Int) ^ (8*(i:Int)).toNat:=⟨_,rfl⟩
   have e1:(2:Int) ^ (8*(i:Int)).toNat=P:=hP.symm
   have hP2:P=256 ^ i:=by rw [hP,show (8*(i:Int)).toNat=8*i by omega,Int.pow_mul];rfl
   obtain ⟨y,hy⟩:=zeq (x / P)
   have e2:x / P=y:=hy.symm
   have hy0:0≤y∧y<18446744073709551616:=by
    have hp:0<P:=by rw [hP2];exact Int.pow_pos (by decide)
    have hx:=HX.out
    rw [hy]
    exact ⟨Int.ediv_nonneg hx.1 (by omega),Int.lt_of_le_of_lt (Int.ediv_le_self _ hx.1) hx.2⟩
   obtain ⟨z,hz⟩:=zeq (y % 256)
   have e3:IntKind.u8.wrap y=z:=by rw [IntKind.wrap_u8,hz]
   have hxb:=HX.out
   have HS:=zhz (show (numAll x i).set (7 - i) z=numAll x (i+1) from by rw [hz,hy,hP2];exact zdc x i hin)
   have kw:=hb.wr
   have kr:=hb.rd
   have hsz:=zbS x i (by omega)
   have kc:(byC (numAll x i)).size=8:=by unfold byC;simp [hsz]
   obtain ⟨j,hj⟩:∃ j:Nat,(7:Int) - (i:Int)=(j:Int):=⟨7 - i,by omega⟩
   have hj7:j≤7:=by omega
   have HJ:=zhz hj
   have kx:wr.cell? ⟨ab,j,none⟩=some (.int .u8 ((numAll x i).getD j 0)):=by rw [kr];exact zdx _ _ (by omega)
   clear hP hP2 hy hz hb kr hsz kc
   go_wp2
   go_roundg (8 - (i+1))
   case measure=>have:=HK.out;omega
   case rel =>
    have hl:=lt_of_block HB.out
    have hj:=HJ.out
    have ej:j=7 - i:=by omega
    rw [zac HB.out,zdy,ej,HS.out]
    exact ⟨i+1,by omega,by omega,by go_num,zab hl _,HF.out.trans (Fr.setObj (F:=fun k=>k=ab) (Fr.refl _ _) rfl _)⟩
  ·have hie:i=8:=by omega
   subst hie
   obtain ⟨d,hd⟩:∃ d:Nat,(8:Int) - (n:Int)=(d:Int):=⟨8 - n,by omega⟩
   have hd8:d+n=8:=by omega
   have hsl:=zeG ab d n hd8 hn.1
   have HR:=zhz (show RdI wr .u8 (some ⟨ab,d,none⟩) n n (be n x) from by
    have h0:RdI wr .u8 (some ⟨ab,0,none⟩) 8 8 (be 8 x):=zbh hb (zaq 8 x) (by decide) (fun z hz=>zbK (zbL _ _ z hz))
    have h1:=zb8 h0 (m:=d) (by omega)
    rw [Nat.zero_add,show 8 - d=n by omega,show (8:Nat)=n+d by omega,zeX] at h1
    exact h1)
   have HO2:=zhz ((HO.out.below F1.out).fr HF.out (fun g hg=>by have:=(HO.out.lt g hg).2;have:=HAB.out;omega))
   clear hb
   go_wp2_with (at_builtin;refine zaF (by rfl) _ _ n (by rfl) (by rfl) (by rfl) HO2.out HR.out (by omega) (by have:=HBS.out;have:=F1.out.size;have:=HF.out.size;omega) ?_;intro v' w9 hown9 hgrow9;have HO9:=zhz hown9;have HG9:=zhz hgrow9;clear hown9 hgrow9)
   go_ret
   refine ⟨v',rfl,HO9.out,?_⟩
   refine (((Fr.of_below F1.out).trans (HF.out.mono (fun k hk=>?_))).trans ((fr_row HG9.out).mono (fun k hk=>?_)))
   ·have:=HBS.out;have:=HAB.out;omega
   ·exact (HO.out.lt k hk).1
theorem zkc (B:Nat) (v:Value) (bs:List Int) (x z:Int) (n:Nat) (hz:z=(n:Int)) (hx:0≤x∧x<18446744073709551616) (hn:1≤n∧n≤8) (hm:bs.length≤1000000) (w:World) (ho:Own w B v bs) (hB:B≤w.heap.size) :
  Calls Tryz.prog 54 #[v,.int .u64 x,.int .i64 z] w fun e w'=>∃ v',e=.returned v'∧Own w' B v' (bs++be n x)∧Fr (fun k=>B≤k) w w':=by
 subst hz
 exact zfn B v bs x n hx hn hm w ho hB
theorem ziK {w:World} {base g n:Nat} {xs:List Int} (h:Blk w g 5 (byC xs)) (hb:base≤g) (hl:xs.length=n) (hm:n≤maxLen):Own w base (.slice (some ⟨g,0,none⟩) n n) xs:=by
 subst hl
 refine ⟨by simp,.inr ⟨g,xs.length,byC xs,rfl,hb,h,Nat.le_refl _,hm,by simp [byC],?_⟩⟩
 simp only [byC,Nat.mul_one]
 exact List.take_of_length_le (by simp)
theorem zbs (sign:Int) (hs:0≤sign∧sign≤255) (A:Option Addr) (n c:Nat) (zs:List Int) (hn:n≤60000) (w:World) (hr:RdI w .u8 A n c zs) :
  Calls Tryz.prog 56 #[.int .u8 sign,.slice A n c] w fun e w'=>∃ v',e=.returned v'∧Own w' w.heap.size v' (sign :: 1 :: (be 2 (n:Int)++zs))∧Below w.heap.size w w':=by
 have hcp:=hr.cap
 have hmx:=hr.max
 unfold maxLen at hmx
 have HRI:=zhz hr
 have e1:IntKind.u64.wrap (n:Int)=(n:Int):=by rw [IntKind.wrap_u64];omega
 have HO0:=zhz (ziK (n:=2) (xs:=[sign,1]) (show Blk (w.alloc (.cells #[.int .u8 sign,.int .u8 1] 5)) w.heap.size 5 (byC [sign,1]) from heap_alloc_new w _) (Nat.le_refl _) rfl (by decide))
 have b1:=zhz ((Below.refl w.heap.size w).alloc (Nat.le_refl _) (.cells #[.int .u8 sign,.int .u8 1] 5))
 clear hr hs
 go_enter Tryz.func56,Tryz.ntmps56
 go_wp2_with (first
  | (go_at_call 54;((with_reducible refine (zkc w.heap.size _ [sign,1] (n:Int) 2 2 rfl (by omega) (by omega) (by simp) _ HO0.out (by simp)).mono ?_);rintro e w1 ⟨v1,rfl,o1,f1⟩;have HO1:=zhz o1;have HF1:=zhz (b1.out.trans (f1.below (by simp) (fun k hk=>hk)));clear o1 f1))
  | (at_builtin;refine zaF (by rfl) _ _ c (by rfl) (by rfl) (by rfl) HO1.out (HRI.out.below HF1.out) (by simp [zaq];omega) HF1.out.size ?_;intro v2 w2 hown2 hgrow2;have HO2:=zhz hown2;have HG2:=zhz hgrow2;clear hown2 hgrow2))
 go_ret
 refine ⟨v2,rfl,by simpa using HO2.out,HF1.out.trans ((fr_row HG2.out).below HF1.out.size (fun k hk=>(HO1.out.lt k hk).1))⟩
end
section
open Go.ChangeShapes Go.WideShapes Go.ChangeAt Go.RowKit
abbrev reqC (op rule cost:Int) (s:ByteArray) (k:Int):Array Value:=#[.int .i64 op,.int .i64 rule,.int .u32 cost,.string s,.int .i64 k]
abbrev reqV (op rule cost:Int) (s:ByteArray) (k:Int):Value:=.agg (reqC op rule cost s k)
def mkR (op rule cost:Int) (s:ByteArray) (k:Int):Req:=⟨op,rule,cost,numsC s,k⟩
end
section
open Go.ChangeShapes Go.WideShapes Go.ChangeAt Go.RowKit
theorem zki (n c:Nat) (hc:c<256) (h:n<72057594037927936):bits .or .u64 ((n:Int)*256) (c:Int)=((n*256+c:Nat):Int):=by
 have e:(n:Int)*256=((n*256:Nat):Int):=by omega
 rw [e,bits_or_u64_nat _ _ (by omega) (by omega)]
 have:=Nat.two_pow_add_eq_or_of_lt (i:=8) (b:=c) hc n
 rw [show (2:Nat) ^ 8=256 from rfl,Nat.mul_comm 256 n] at this
 rw [this]
def SrcAt (w:World) (b d:Nat) (q:List Int):Prop:=∃ A n c,Blk w b 40 #[.slice A n c]∧RdI w .u8 A n c q∧(0<n→∃ off,A=some ⟨d,off,none⟩)
theorem SrcAt.keep {W w:World} {b d:Nat} {q:List Int} (h:SrcAt W b d q) (hb:Below W.heap.size W w):SrcAt w b d q:=by
 obtain ⟨A,n,c,h1,h2,h3⟩:=h
 exact ⟨A,n,c,h1.keep hb,h2.below hb,h3⟩
theorem zk9 {W w:World} {F:Nat→Prop} {k:IntKind} {A:Option Addr} {n c d:Nat} {q:List Int} (h:RdI W k A n c q) (hA:0<n→∃ off,A=some ⟨d,off,none⟩) (hf:Fr F W w) (hd:¬ F d):RdI w k A n c q :=
 ⟨h.len,h.cap,h.max,fun hn=>by
  obtain ⟨b,off,e,hlt,hc⟩:=h.at_ hn
  obtain ⟨off',e'⟩:=hA hn
  have hbd:b=d:=by rw [e] at e';injection e' with e';injection e'
  exact ⟨b,off,e,Nat.lt_of_lt_of_le hlt hf.size,fun i hi=>by rw [hf.cell hlt (by rw [hbd];exact hd)];exact hc i hi⟩,h.wf⟩
theorem SrcAt.fr {W w:World} {F:Nat→Prop} {b d:Nat} {q:List Int} (h:SrcAt W b d q) (hf:Fr F W w) (hb:¬ F b) (hd:¬ F d):SrcAt w b d q:=by
 obtain ⟨A,n,c,h1,h2,h3⟩:=h
 exact ⟨A,n,c,h1.fr hf hb,zk9 h2 h3 hf hd,h3⟩
theorem SrcAt.byt {w:World} {b d:Nat} {q:List Int} (h:SrcAt w b d q):byt q:=by
 obtain ⟨A,n,c,h1,h2,h3⟩:=h
 exact fun z hz=>zfR (h2.wf z hz)
theorem zeC {w:World} {k:IntKind} {A:Option Addr} {c:Nat} (hc:c≤maxLen):RdI w k A 0 c []:=⟨rfl,Nat.zero_le _,hc,fun h=>absurd h (by omega),(fun z hz=>by cases hz)⟩
theorem zj9 (b d:Nat) (q:List Int) (nn:Nat) (hnn:nn≤8) (hq:nn≤q.length) (hn1:1≤nn) (w:World) (h:SrcAt w b d q) (hdb:d≠b) :
  Calls Tryz.prog 111 #[.int .i64 (nn:Int),.pointer (some ⟨b,0,none⟩)] w fun e w'=>e=.returned (.int .u64 (preZ q nn))∧SrcAt w' b d (q.drop nn)∧Fr (fun k=>k=b) w w':=by
 have HBY:=zhz h.byt
 obtain ⟨A,n,c,h1,h2,h3⟩:=h
 have hl:=h2.len
 have hcp:=h2.cap
 have hmx:=h2.max
 unfold maxLen at hmx
 have k1:=h1.rd
 have k0:=h1.wr
 obtain ⟨off,rfl⟩:=h3 (by omega)
 obtain ⟨d',off',e',hlt,hcs⟩:=h2.at_ (by omega)
 injection e' with e';injection e' with e1 e2
 subst e1 e2
 have H1:=zhz h1
 have H2:=zhz h2
 have HD:=zhz hdb
 have HCS:=zhz hcs
 have HL:=zhz hl
 have g1:(nn:Int)≤(c:Int):=by omega
 have g2:(nn:Int)≤(n:Int):=by omega
 have g3:(nn:Int)≤8:=by omega
 clear h1 h2 h3 hcs hdb hl
 go_enter Tryz.func111,Tryz.ntmps111
 go_wp2
 go_loopg [4,11] nn (fun k s4 s11 wr=>∃ i:Nat,i≤nn∧k=nn - i∧s11=.int .i64 (i:Int)∧s4=.int .u64 (preZ q i)∧wr=w)
 case atStart=>exact ⟨0,by omega,by omega,rfl,rfl,rfl⟩
 case round =>
  obtain ⟨i,hi,hkk,rfl,rfl,rfl⟩:=hrel
  have HK:=zhz hkk
  clear hkk
  by_cases hin:i<nn
  ·obtain ⟨x,hx⟩:∃ x:Nat,preZ q i=(x:Int):=⟨(preZ q i).toNat,by have:=(zeB HBY.out i).1;omega⟩
   have hxb:x<72057594037927936:=by
    have h1:=(zeB HBY.out i).2
    have h2:(256:Int) ^ i≤72057594037927936:=by
     match i,hin,hnn with
     | 0,_,_=>decide
     | 1,_,_=>decide
     | 2,_,_=>decide
     | 3,_,_=>decide
     | 4,_,_=>decide
     | 5,_,_=>decide
     | 6,_,_=>decide
     | 7,_,_=>decide
     | j+8,h,h'=>omega
    omega
   rw [hx]
   have ex:IntKind.u64.wrap ((x:Int)*256)=(x:Int)*256:=by rw [IntKind.wrap_u64];omega
   have hb:=zaT HBY.out i
   obtain ⟨cz,hcz⟩:∃ cz:Nat,q.getD i 0=(cz:Int):=⟨(q.getD i 0).toNat,by omega⟩
   have hc0:=HCS.out i (by omega)
   rw [hcz] at hc0
   have HEC:=zhz (show IntKind.u64.wrap (cz:Int)=(cz:Int) by rw [IntKind.wrap_u64];omega)
   have eo:=zki x cz (by omega) hxb
   obtain ⟨y,hy⟩:∃ y:Int,y=((x*256+cz:Nat):Int):=⟨_,rfl⟩
   rw [← hy] at eo
   have HY:=zhz (show preZ q (i+1)=y by rw [preZ,hx,hcz,hy];omega)
   have g4:(i:Int)<(nn:Int):=by omega
   clear hx hb hcz hy
   go_wp2
   go_roundg (nn - (i+1))
   case measure=>have:=HK.out;omega
   case rel=>exact ⟨i+1,by omega,by omega,by go_num,by rw [HY.out,HEC.out,eo],rfl⟩
  ·have hie:i=nn:=by omega
   subst hie
   by_cases hci:c=i
   ·subst hci
    have hnc:n=c:=by omega
    subst hnc
    go_wp2
    go_ret
    have hl:=lt_of_block H1.out
    rw [zac H1.out]
    refine ⟨rfl,⟨_,0,_,zab hl _,?_,fun h=>absurd h (by omega)⟩,Fr.setObj (F:=fun k=>k=b) (Fr.refl _ _) rfl _⟩
    rw [List.drop_eq_nil_of_le (by rw [HL.out];exact Nat.le_refl _)]
    exact zeC (by unfold maxLen;omega)
   ·go_wp2
    go_ret
    have hl:=lt_of_block H1.out
    rw [zac H1.out]
    refine ⟨rfl,⟨_,_,_,zab hl _,?_,fun _=>⟨_,rfl⟩⟩,Fr.setObj (F:=fun k=>k=b) (Fr.refl _ _) rfl _⟩
    have E:=zb8 H2.out (show i≤n by omega)
    exact zk9 E (fun _=>⟨_,rfl⟩) (Fr.setObj (F:=fun k=>k=b) (Fr.refl _ _) rfl _) HD.out
theorem zer (b d:Nat) (q q2:List Int) (X z:Int) (nn:Nat) (hz:z=(nn:Int)) (hnn:nn≤8) (hq:nn≤q.length) (hn1:1≤nn) (w:World) (h:SrcAt w b d q) (hdb:d≠b) (hX:preZ q nn=X) (hq2:q.drop nn=q2) :
  Calls Tryz.prog 111 #[.int .i64 z,.pointer (some ⟨b,0,none⟩)] w fun e w'=>e=.returned (.int .u64 X)∧SrcAt w' b d q2∧Fr (fun k=>k=b) w w':=by
 rw [← hX,← hq2,hz]
 exact zj9 b d q nn hnn hq hn1 w h hdb
end
section
open Go.ChangeShapes Go.WideShapes Go.ChangeAt Go.RowKit
def reqOf (q:Req):Value:=reqV q.op q.rule q.cost (strOfNums q.key) q.k
theorem pre1 (q:List Int):preZ q 1=q.getD 0 0:=by simp [preZ]
theorem zhh (A:Option Addr) (n c d:Nat) (q:List Int) (w:World) (hr:RdI w .u8 A n c q) (hd:0<n→∃ off,A=some ⟨d,off,none⟩) (hdw:d<w.heap.size) (s:Nat) (hs:w.heap.size=s) :
  Calls Tryz.prog 83 #[.slice A n c] w fun e w'=>e=.returned (.func (.func 111) #[] #[.pointer (some ⟨s,0,none⟩)])∧SrcAt w' s d q∧Below w.heap.size w w':=by
 subst hs
 have HR:=zhz hr
 have HD:=zhz hd
 clear hr hd
 go_enter Tryz.func83,Tryz.ntmps83
 go_wp2
 go_ret
 refine ⟨rfl,⟨A,n,c,heap_alloc_new w _,HR.out.below ((Below.refl _ _).alloc (Nat.le_refl _) _),HD.out⟩,(Below.refl _ _).alloc (Nat.le_refl _) _⟩
theorem zaw {w:World} {b:Nat} {t:TypeId} {a1 a2 a3 a4 a5 v1 v2 v3 v4 v5:Value} (h:Blk w b t #[a1,a2,a3,a4,a5]) :
  (((((w.setCell ⟨b,0,none⟩ v1).setCell ⟨b,1,none⟩ v2).setCell ⟨b,2,none⟩ v3).setCell ⟨b,3,none⟩ v4).setCell ⟨b,4,none⟩ v5)=setObj w b (.cells #[v1,v2,v3,v4,v5] t (0,0)):=by
 have hl:=lt_of_block h
 rw [zac h,zai hl,zai hl,zai hl,zai hl]
 rfl
theorem zdw {w:World} {b b' i:Nat} {t t':TypeId} {c c':Array Value} {v:Value} (h:Blk w b t c) (h':Blk w b' t' c') (hne:b≠b'):Blk (w.setCell ⟨b',i,none⟩ v) b t c:=by
 rw [zac h']
 exact (zah w hne _).trans h
theorem zeb {w:World} {b i:Nat} {t:TypeId} {c:Array Value} {v:Value} (h:Blk w b t c):Fr (fun k=>k=b) w (w.setCell ⟨b,i,none⟩ v):=by
 rw [zac h]
 exact Fr.setObj (F:=fun k=>k=b) (Fr.refl _ _) rfl _
theorem reqZ3 {z:List Int} (h:z.getD 3 0=2):reqZ z=⟨z.getD 4 0,z.getD 5 0,0,[],0⟩:=by unfold reqZ;simp only [h];rfl
theorem reqZ4 {z:List Int} (h:z.getD 3 0=3):reqZ z=⟨z.getD 4 0,z.getD 5 0,0,[],z.getD 6 0⟩:=by unfold reqZ;simp only [h];rfl
theorem reqZ7 {z:List Int} (h:7≤z.getD 3 0):reqZ z=⟨z.getD 4 0,z.getD 5 0,preZ (z.drop 6) 4,(z.take (4+(z.getD 3 0).toNat)).drop 11,0⟩:=by unfold reqZ;simp only;rw [if_pos h]
theorem zfv (A:Option Addr) (n c:Nat) (z:List Int) (w:World) (hr:RdI w .u8 A n c z) (hn:6≤n)
  (h:(z.getD 4 0=3∧z.getD 3 0=2)∨(z.getD 4 0=4∧z.getD 3 0=3∧7≤n)∨((z.getD 4 0=1∨z.getD 4 0=2)∧7≤z.getD 3 0∧z.getD 10 0=z.getD 3 0 - 7∧4+z.getD 3 0≤n)) :
  Calls Tryz.prog 168 #[.slice A n c] w fun e w'=>e=.returned (reqOf (reqZ z))∧Below w.heap.size w w':=by
 have hcp:=hr.cap
 have hmx:=hr.max
 unfold maxLen at hmx
 obtain ⟨d,off,rfl,hlt,hc⟩:=hr.at_ (by omega)
 have hl:=hr.len
 have hby:byt z:=fun x hx=>zfR (hr.wf x hx)
 have HR:=zhz hr
 have HL:=zhz hl
 have HBY:=zhz hby
 have HDL:=zhz hlt
 have b4:=zaT hby 4
 have b5:=zaT hby 5
 obtain ⟨op,hop⟩:=zeq (z.getD 4 0)
 obtain ⟨rule,hrule⟩:=zeq (z.getD 5 0)
 rw [← hop] at h b4
 rw [← hrule] at b5
 have HOP:=zhz hop
 have HRU:=zhz hrule
 have g1:(4:Int)≤(n:Int):=by omega
 have g2:(n:Int)≤(c:Int):=by omega
 have g3:¬ c=4:=by omega
 clear hr hc hl hby hop hrule hlt
 have HX:=zhz h
 clear h
 go_enter Tryz.func168,Tryz.ntmps168
 go_upto_region 1 with (fail)
 obtain ⟨w1,hw1,hbk,hbl,hsz1⟩:=zad w (reqC 0 0 0 ⟨#[]⟩ 0) 76
 change Code.wp _ _ _ _ (w.alloc (.cells (reqC 0 0 0 ⟨#[]⟩ 0) 76))
 rw [hw1]
 obtain ⟨b0,hb0⟩:=zeq (w.heap.size)
 rw [← hb0] at hbk hsz1 ⊢
 have HB0:=zhz hb0
 have BK:=zhz hbk
 have BL:=zhz hbl
 have S1:=zhz hsz1
 have R4:=zhz (show RdI w1 .u8 (some ⟨d,off+4,none⟩) (n - 4) (c - 4) (z.drop 4) from (zb8 HR.out (m:=4) (by omega)).below hbl)
 have HD1:=zhz (show d<w1.heap.size from Nat.lt_of_lt_of_le HDL.out hbl.size)
 clear hbk hbl hsz1 hw1 hb0
 have P4:=zhz (show preZ (z.drop 4) 1=op from by rw [pre1,HOP.out];simp [List.getD])
 have P5:=zhz (show preZ (z.drop 5) 1=rule from by rw [pre1,HRU.out];simp [List.getD])
 have D5:=zhz (show (z.drop 4).drop 1=z.drop 5 from by rw [List.drop_drop])
 have D6:=zhz (show (z.drop 5).drop 1=z.drop 6 from by rw [List.drop_drop])
 have e1:IntKind.i64.wrap op=op:=by rw [IntKind.wrap_i64];omega
 have e2:IntKind.i64.wrap rule=rule:=by rw [IntKind.wrap_i64];omega
 have HDN:=zhz (show d≠b0+1 from by have:=HD1.out;have:=S1.out;omega)
 go_upto_region 3 with (first
  | (go_at_call 83;((with_reducible refine (zhh _ _ _ d _ _ R4.out (fun _=>⟨_,rfl⟩) HD1.out (b0+1) S1.out).mono ?_);rintro e w2 ⟨rfl,s2,b2⟩;have S2:=zhz s2;have BK2:=zhz (BK.out.keep b2);have BL2:=zhz (BL.out.trans (b2.mono BL.out.size));clear s2 b2))
  | (go_at_call 111;((with_reducible refine (zer (b0+1) d (z.drop 4) (z.drop 5) op 1 1 rfl (by omega) (by rw [List.length_drop,HL.out];omega) (by omega) _ S2.out HDN.out P4.out D5.out).mono ?_);rintro e w3 ⟨rfl,s3,f3⟩;have S3:=zhz s3;have BK3:=zhz (BK2.out.fr f3 (by omega));have BL3:=zhz (BL2.out.trans (f3.below BL2.out.size (fun k hk=>by have:=HB0.out;omega)));clear s3 f3))
  | (go_at_call 111;((with_reducible refine (zer (b0+1) d (z.drop 5) (z.drop 6) rule 1 1 rfl (by omega) (by rw [List.length_drop,HL.out];omega) (by omega) _ S3.out HDN.out P5.out D6.out).mono ?_);rintro e w4 ⟨rfl,s4,f4⟩;have S4:=zhz s4;have BK4:=zhz (BK3.out.fr f4 (by omega));have BL4:=zhz (BL3.out.trans (f4.below BL3.out.size (fun k hk=>by have:=HB0.out;omega)));clear s4 f4)))
 obtain ⟨w5,hw5,hb5,hbl5,hsz5⟩:=zad w4 (reqC op rule 0 ⟨#[]⟩ 0) 76
 change Code.wp _ _ _ _ (w4.alloc (.cells (reqC op rule 0 ⟨#[]⟩ 0) 76))
 rw [hw5]
 obtain ⟨bq,hbq⟩:=zeq (w4.heap.size)
 rw [← hbq] at hb5 ⊢
 have BQ:=zhz hb5
 have BK5:=zhz (BK4.out.keep hbl5)
 have S5:=zhz (S4.out.keep hbl5)
 have BL5:=zhz (BL4.out.trans (hbl5.mono BL4.out.size))
 have NE1:=zhz (show b0+1<bq from by
  have h:=S4.out;obtain ⟨_,_,_,hh,_⟩:=h;have:=lt_of_block hh;omega)
 have HDQ:=zhz (show d≠bq from by have:=HD1.out;have:=S1.out;have:=NE1.out;omega)
 have k5:=hb5.rd
 have q5:=hb5.wr
 clear hw5 hb5 hbl5 hsz5 hbq
 rcases HX.out with ⟨h1,h2⟩ | ⟨h1,h2,h3⟩ | ⟨h1,h2,h3,h4⟩
 ·subst h1
  have HZ:=zhz h2
  clear h2 HX
  have k0:=BK5.out.rd
  have q0:=BK5.out.wr
  go_wp2
  rw [zaw BK5.out]
  refine bodyPost_ret (results_cell_row rfl _ _ b0 _ _ (0,0) _ rfl (zab (lt_of_block BK5.out) _) Tryz.underlying76 rfl (by kernel_rfl)) rfl ⟨?_,?_⟩
  ·rw [reqZ3 HZ.out,← HOP.out,← HRU.out];rfl
  ·exact BL5.out.trans ((Fr.setObj (F:=fun k=>k=b0) (Fr.refl _ _) rfl _).below BL5.out.size (fun k hk=>by have:=HB0.out;omega))
 ·subst h1
  have HZ:=zhz h2
  have b6:=zaT HBY.out 6
  obtain ⟨kk,hkk⟩:=zeq (z.getD 6 0)
  rw [← hkk] at b6
  have HK:=zhz hkk
  have e3:IntKind.i64.wrap kk=kk:=by rw [IntKind.wrap_i64];omega
  have P6:=zhz (show preZ (z.drop 6) 1=kk from by rw [pre1,hkk];simp [List.getD])
  have hn7:7≤n:=h3
  have k0:=BK5.out.rd
  clear h2 hkk HX h3
  go_upto_region 11 with (go_at_call 111;((with_reducible refine (zer (b0+1) d (z.drop 6) ((z.drop 6).drop 1) kk 1 1 rfl (by omega) (by rw [List.length_drop,HL.out];omega) (by omega) _ S5.out HDN.out P6.out rfl).mono ?_);rintro e w6 ⟨rfl,s6,f6⟩;have BK6:=zhz (BK5.out.fr f6 (by omega));have BQ6:=zhz (BQ.out.fr f6 (by have:=NE1.out;omega));have BL6:=zhz (BL5.out.trans (f6.below BL5.out.size (fun k hk=>by have:=HB0.out;omega)));have k6:=BQ6.out.rd;have q6:=BQ6.out.wr;clear s6 f6))
  have BK7:=zhz (zdw (i:=4) (v:=.int .i64 kk) BK6.out BQ6.out (by have:=NE1.out;omega))
  have BQ7:=zhz (show Blk (w6.setCell ⟨bq,4,none⟩ (.int .i64 kk)) bq 76 (reqC 4 rule 0 ⟨#[]⟩ kk) from by rw [zac BQ6.out];exact zab (lt_of_block BQ6.out) _)
  have BL7:=zhz (BL6.out.trans ((zeb (i:=4) (v:=.int .i64 kk) BQ6.out).below BL6.out.size (fun k hk=>by have:=HB0.out;have:=NE1.out;omega)))
  obtain ⟨w7,hw7⟩:=zeq (w6.setCell ⟨bq,4,none⟩ (.int .i64 kk))
  rw [← hw7] at BK7 BQ7 BL7 ⊢
  clear k6 q6 hw7
  have k7:=BQ7.out.rd
  have k8:=BK7.out.rd
  have k9:=BK7.out.wr
  go_wp2
  rw [zaw BK7.out]
  refine bodyPost_ret (results_cell_row rfl _ _ b0 _ _ (0,0) _ rfl (zab (lt_of_block BK7.out) _) Tryz.underlying76 rfl (by kernel_rfl)) rfl ⟨?_,?_⟩
  ·rw [reqZ4 HZ.out,← HOP.out,← HRU.out,← HK.out];rfl
  ·exact BL7.out.trans ((Fr.setObj (F:=fun k=>k=b0) (Fr.refl _ _) rfl _).below BL7.out.size (fun k hk=>by have:=HB0.out;omega))
 ·have HZ:=zhz h2
  obtain ⟨sz,hsz⟩:∃ sz:Nat,z.getD 10 0=(sz:Int):=⟨(z.getD 10 0).toNat,by omega⟩
  have hn11:11+sz≤n:=by omega
  have hsz8:sz≤255:=by have:=zaT HBY.out 10;omega
  have HSZ:=zhz (show 4+(z.getD 3 0).toNat=11+sz from by omega)
  obtain ⟨cost,hcost⟩:=zeq (preZ (z.drop 6) 4)
  have bc:=zeB (zdz HBY.out 6) 4
  have e256:(256:Int) ^ 4=4294967296:=rfl
  rw [e256,← hcost] at bc
  have HC:=zhz hcost
  have e3:IntKind.u32.wrap cost=cost:=by rw [IntKind.wrap_u32];omega
  have e4:IntKind.i64.wrap (sz:Int)=(sz:Int):=by rw [IntKind.wrap_i64];omega
  have P10:=zhz (show preZ (z.drop 10) 1=(sz:Int) from by rw [pre1,← hsz];simp [List.getD])
  have D10:=zhz (show (z.drop 6).drop 4=z.drop 10 from by rw [List.drop_drop])
  have t4:(op==4)=false:=by rcases h1 with rfl | rfl <;> rfl
  have t12:(op==1)=true∨((op==1)=false∧(op==2)=true):=by rcases h1 with rfl | rfl <;> simp
  have k0:=BK5.out.rd
  have gz1:(11:Int)+(sz:Int)≤(c:Int):=by omega
  have gz2:(sz:Int)≤255:=by omega
  have gz3:(11:Int)≤(11:Int)+(sz:Int):=by omega
  clear h2 h3 h4 hsz hcost e256 h1 HX
  rcases t12 with t1 | ⟨t1,t2⟩
  all_goals
    go_upto_region 9 with (go_at_call 111;((with_reducible refine (zer (b0+1) d (z.drop 6) (z.drop 10) cost 4 4 rfl (by omega) (by rw [List.length_drop,HL.out];omega) (by omega) _ S5.out HDN.out HC.out.symm D10.out).mono ?_);rintro e w6 ⟨rfl,s6,f6⟩;have S6:=zhz s6;have BK6:=zhz (BK5.out.fr f6 (by omega));have BQ6:=zhz (BQ.out.fr f6 (by have:=NE1.out;omega));have BL6:=zhz (BL5.out.trans (f6.below BL5.out.size (fun k hk=>by have:=HB0.out;omega)));have k6:=BQ6.out.rd;have q6:=BQ6.out.wr;clear s6 f6))
    have BK7:=zhz (zdw (i:=2) (v:=.int .u32 cost) BK6.out BQ6.out (by have:=NE1.out;omega))
    have BQ7:=zhz (show Blk (w6.setCell ⟨bq,2,none⟩ (.int .u32 cost)) bq 76 (reqC op rule cost ⟨#[]⟩ 0) from by rw [zac BQ6.out];exact zab (lt_of_block BQ6.out) _)
    have S7:=zhz (S6.out.fr (zeb (i:=2) (v:=.int .u32 cost) BQ6.out) (by have:=NE1.out;omega) HDQ.out)
    have BL7:=zhz (BL6.out.trans ((zeb (i:=2) (v:=.int .u32 cost) BQ6.out).below BL6.out.size (fun k hk=>by have:=HB0.out;have:=NE1.out;omega)))
    obtain ⟨w7,hw7⟩:=zeq (w6.setCell ⟨bq,2,none⟩ (.int .u32 cost))
    rw [← hw7] at BK7 BQ7 BL7 S7 ⊢
    clear k6 q6 hw7 k5 q5 k0
    go_upto_region 10 with (go_at_call 111;((with_reducible refine (zer (b0+1) d (z.drop 10) ((z.drop 10).drop 1) (sz:Int) 1 1 rfl (by omega) (by rw [List.length_drop,HL.out];omega) (by omega) _ S7.out HDN.out P10.out rfl).mono ?_);rintro e w8 ⟨rfl,s8,f8⟩;have BK8:=zhz (BK7.out.fr f8 (by omega));have BQ8:=zhz (BQ7.out.fr f8 (by have:=NE1.out;omega));have BL8:=zhz (BL7.out.trans (f8.below BL7.out.size (fun k hk=>by have:=HB0.out;omega)));have k8:=BQ8.out.rd;have q8:=BQ8.out.wr;clear s8 f8))
    obtain ⟨key,hkey⟩:=zeq (strOfNums ((z.take (11+sz)).drop 11))
    have HKEY:=zhz hkey
    have RZ:=HR.out.below (w':=w8) (BL8.out.mono (Nat.le_refl _))
    by_cases hc11:c=11
    ·have hs0:sz=0:=by omega
     have hcv:(convert 40 9 (.slice (some ⟨d,off,none⟩) 0 0)).run Tryz.prog w8=.ok (.string key) w8:=by
      rw [zdC (by rfl) (by rfl) (by rfl) (zeC (w:=w8) (k:=.u8) (A:=some ⟨d,off,none⟩) (c:=0) (by unfold maxLen;omega)),hkey,hs0]
      congr 3
      rw [List.drop_eq_nil_of_le (by rw [List.length_take];omega)]
     subst hs0
     subst hc11
     clear RZ hkey
     go_upto_region 11 with (fail)
     have BK9:=zhz (zdw (i:=3) (v:=.string key) BK8.out BQ8.out (by have:=NE1.out;omega))
     have BQ9:=zhz (show Blk (w8.setCell ⟨bq,3,none⟩ (.string key)) bq 76 (reqC op rule cost key 0) from by rw [zac BQ8.out];exact zab (lt_of_block BQ8.out) _)
     have BL9:=zhz (BL8.out.trans ((zeb (i:=3) (v:=.string key) BQ8.out).below BL8.out.size (fun k hk=>by have:=HB0.out;have:=NE1.out;omega)))
     obtain ⟨w9,hw9⟩:=zeq (w8.setCell ⟨bq,3,none⟩ (.string key))
     rw [← hw9] at BK9 BQ9 BL9 ⊢
     clear k8 q8 hw9 hcv
     have k9:=BQ9.out.rd
     have k10:=BK9.out.rd
     have k11:=BK9.out.wr
     go_wp2
     rw [zaw BK9.out]
     refine bodyPost_ret (results_cell_row rfl _ _ b0 _ _ (0,0) _ rfl (zab (lt_of_block BK9.out) _) Tryz.underlying76 rfl (by kernel_rfl)) rfl ⟨?_,?_⟩
     ·rw [reqZ7 HZ.out,← HOP.out,← HRU.out,← HC.out,HSZ.out,HKEY.out];rfl
     ·exact BL9.out.trans ((Fr.setObj (F:=fun k=>k=b0) (Fr.refl _ _) rfl _).below BL9.out.size (fun k hk=>by have:=HB0.out;omega))
    ·have hcv:(convert 40 9 (.slice (some ⟨d,off+11,none⟩) sz (c - 11))).run Tryz.prog w8=.ok (.string key) w8:=by
      have r1:=zb8 RZ (m:=11) (by omega)
      have r2:RdI w8 .u8 (some ⟨d,off+11,none⟩) sz (c - 11) ((z.take (11+sz)).drop 11):=by
       refine ⟨by rw [List.length_drop,List.length_take,HL.out];omega,by omega,by have:=r1.max;omega,fun h0=>?_,fun x hx=>HR.out.wf x (List.mem_of_mem_take (List.mem_of_mem_drop hx))⟩
       obtain ⟨b',off',e,hlt,hcs⟩:=r1.at_ (by omega)
       refine ⟨b',off',e,hlt,fun i hi=>?_⟩
       rw [hcs i (by omega)]
       simp [List.getD,List.getElem?_take,show 11+i<11+sz by omega]
      rw [zdC (by rfl) (by rfl) (by rfl) r2,hkey]
     clear RZ hkey
     go_upto_region 11 with (fail)
     have BK9:=zhz (zdw (i:=3) (v:=.string key) BK8.out BQ8.out (by have:=NE1.out;omega))
     have BQ9:=zhz (show Blk (w8.setCell ⟨bq,3,none⟩ (.string key)) bq 76 (reqC op rule cost key 0) from by rw [zac BQ8.out];exact zab (lt_of_block BQ8.out) _)
     have BL9:=zhz (BL8.out.trans ((zeb (i:=3) (v:=.string key) BQ8.out).below BL8.out.size (fun k hk=>by have:=HB0.out;have:=NE1.out;omega)))
     obtain ⟨w9,hw9⟩:=zeq (w8.setCell ⟨bq,3,none⟩ (.string key))
     rw [← hw9] at BK9 BQ9 BL9 ⊢
     clear k8 q8 hw9 hcv
     have k9:=BQ9.out.rd
     have k10:=BK9.out.rd
     have k11:=BK9.out.wr
     go_wp2
     rw [zaw BK9.out]
     refine bodyPost_ret (results_cell_row rfl _ _ b0 _ _ (0,0) _ rfl (zab (lt_of_block BK9.out) _) Tryz.underlying76 rfl (by kernel_rfl)) rfl ⟨?_,?_⟩
     ·rw [reqZ7 HZ.out,← HOP.out,← HRU.out,← HC.out,HSZ.out,HKEY.out];rfl
     ·exact BL9.out.trans ((Fr.setObj (F:=fun k=>k=b0) (Fr.refl _ _) rfl _).below BL9.out.size (fun k hk=>by have:=HB0.out;omega))
end
section
open Go.ChangeShapes Go.WideShapes Go.ChangeAt Go.RowKit
theorem zlI (n:Int) (w:World) (h:n=2∨n=3∨(7≤n∧n≤71)):Calls Tryz.prog 179 #[.int .i64 n] w fun e w'=>e=.returned (.bool true)∧w=w':=by
 rcases h with rfl | rfl | ⟨h1,h2⟩
 ·go_enter Tryz.func179,Tryz.ntmps179
  go_wp2
  go_ret
  exact ⟨rfl,rfl⟩
 ·go_enter Tryz.func179,Tryz.ntmps179
  go_wp2
  go_ret
  exact ⟨rfl,rfl⟩
 ·have t1:(n==2)=false:=by simp;omega
  have t2:(n==3)=false:=by simp;omega
  have t3:decide (7≤n)=true:=by simpa using h1
  have t4:decide (n≤71)=true:=by simpa using h2
  go_enter Tryz.func179,Tryz.ntmps179
  go_wp2
  go_ret
  exact ⟨rfl,rfl⟩
theorem zmw (n:Int) (w:World) (h:¬ (n=2∨n=3∨(7≤n∧n≤71))):Calls Tryz.prog 179 #[.int .i64 n] w fun e w'=>e=.returned (.bool false)∧w=w':=by
 have t1:(n==2)=false:=by simp;omega
 have t2:(n==3)=false:=by simp;omega
 by_cases h1:7≤n
 ·have t3:decide (7≤n)=true:=by simpa using h1
  have t4:decide (n≤71)=false:=by simp;omega
  clear h
  go_enter Tryz.func179,Tryz.ntmps179
  go_wp2
  go_ret
  exact ⟨rfl,rfl⟩
 ·have t3:decide (7≤n)=false:=by simpa using h1
  clear h
  go_enter Tryz.func179,Tryz.ntmps179
  go_wp2
  go_ret
  exact ⟨rfl,rfl⟩
def fitP (c n:Int):Prop:=(c=3∧n=2)∨(c=4∧n=3)∨((c=1∨c=2)∧n ≥ 7)
theorem zlz (c n:Int) (w:World) (h:fitP c n):Calls Tryz.prog 180 #[.int .u8 c,.int .i64 n] w fun e w'=>e=.returned (.bool true)∧w=w':=by
 rcases h with ⟨rfl,rfl⟩ | ⟨rfl,rfl⟩ | ⟨rfl | rfl,h2⟩
 all_goals
   try have t3:decide (7≤n)=true:=by simpa using h2
   go_enter Tryz.func180,Tryz.ntmps180
   go_wp2
   go_ret
   exact ⟨rfl,rfl⟩
theorem zmp (c n:Int) (w:World) (h:¬ fitP c n):Calls Tryz.prog 180 #[.int .u8 c,.int .i64 n] w fun e w'=>e=.returned (.bool false)∧w=w':=by
 unfold fitP at h
 by_cases h1:c=1
 ·subst h1
  have t3:decide (7≤n)=false:=by simp;omega
  clear h
  go_enter Tryz.func180,Tryz.ntmps180
  go_wp2
  go_ret
  exact ⟨rfl,rfl⟩
 by_cases h2:c=2
 ·subst h2
  have t3:decide (7≤n)=false:=by simp;omega
  clear h h1
  go_enter Tryz.func180,Tryz.ntmps180
  go_wp2
  go_ret
  exact ⟨rfl,rfl⟩
 by_cases h3:c=3
 ·subst h3
  have t3:(n==2)=false:=by simp;omega
  clear h h1 h2
  go_enter Tryz.func180,Tryz.ntmps180
  go_wp2
  go_ret
  exact ⟨rfl,rfl⟩
 by_cases h4:c=4
 ·subst h4
  have t3:(n==3)=false:=by simp;omega
  clear h h1 h2 h3
  go_enter Tryz.func180,Tryz.ntmps180
  go_wp2
  go_ret
  exact ⟨rfl,rfl⟩
 have t1:(c==1)=false:=by simpa using h1
 have t2:(c==2)=false:=by simpa using h2
 have t3:(c==3)=false:=by simpa using h3
 have t4:(c==4)=false:=by simpa using h4
 clear h h1 h2 h3 h4
 go_enter Tryz.func180,Tryz.ntmps180
 go_wp2
 go_ret
 exact ⟨rfl,rfl⟩
theorem zau {k:IntKind} {a b:Int} (h:a=b):Ending.returned (.int k a)=.returned (.int k b):=by rw [h]
theorem zh7 (A:Option Addr) (n c:Nat) (z:List Int) (rules:Int) (j:Nat) (hj:j<n) (w:World) (hr:RdI w .u8 A n c z) :
  Calls Tryz.prog 167 #[.slice A (j+1) c,.int .i64 rules] w fun e w'=>e=.returned (.int .i64 (fltZ z rules j))∧w=w':=by
 have hcp:=hr.cap
 have hmx:=hr.max
 unfold maxLen at hmx
 obtain ⟨b,off,rfl,_,hc⟩:=hr.at_ (by omega)
 have c0:=hc j hj
 have hb:0≤z.getD j 0∧z.getD j 0≤255:=zfR (hr.wf_at hj)
 have hb3:3<n→0≤z.getD 3 0∧z.getD 3 0≤255:=fun h=>zfR (hr.wf_at h)
 obtain ⟨x,hx⟩:=zeq (z.getD j 0)
 rw [← hx] at c0 hb
 have HX:=zhz hx
 have HC:=zhz hc
 have HB3:=zhz hb3
 have g1:(0:Int)≤(j:Int):=by omega
 have g2:(j:Int)<(n:Int):=by omega
 have g3:(n:Int)≤9223372036854775807:=by omega
 clear hr hc hx hb3
 by_cases hj0:j=0
 ·have e0:((j:Int)==0)=true:=by rw [hj0];rfl
  have e1:((j:Int)==1)=false:=by simp;omega
  have e2:((j:Int)==2)=false:=by simp;omega
  have e3:((j:Int)==3)=false:=by simp;omega
  have e4:((j:Int)==4)=false:=by simp;omega
  have e5:((j:Int)==5)=false:=by simp;omega
  have e10:((j:Int)==10)=false:=by simp;omega
  have HJ:=zhz hj0
  by_cases hy0:x=167
  ·have t1:(x != 167)=false:=by simpa using hy0
   have HY0:=zhz hy0
   clear hy0 hj0
   go_enter Tryz.func167,Tryz.ntmps167
   go_wp2
   go_ret
   refine ⟨zau ?_,rfl⟩
   have h1:=HX.out
   have h2:=HY0.out
   have h3:=HJ.out
   subst h3
   unfold fltZ
   simp only [← h1]
   simp;omega
  ·have t1:(x != 167)=true:=by simpa using hy0
   have HY0:=zhz hy0
   clear hy0 hj0
   go_enter Tryz.func167,Tryz.ntmps167
   go_wp2
   go_ret
   refine ⟨zau ?_,rfl⟩
   have h1:=HX.out
   have h2:=HY0.out
   have h3:=HJ.out
   subst h3
   unfold fltZ
   simp only [← h1]
   simp;omega
 by_cases hj0:j=1
 ·have e0:((j:Int)==0)=false:=by simp;omega
  have e1:((j:Int)==1)=true:=by rw [hj0];rfl
  have e2:((j:Int)==2)=false:=by simp;omega
  have e3:((j:Int)==3)=false:=by simp;omega
  have e4:((j:Int)==4)=false:=by simp;omega
  have e5:((j:Int)==5)=false:=by simp;omega
  have e10:((j:Int)==10)=false:=by simp;omega
  have HJ:=zhz hj0
  by_cases hy0:x=1
  ·have t1:(x != 1)=false:=by simpa using hy0
   have HY0:=zhz hy0
   clear hy0 hj0
   go_enter Tryz.func167,Tryz.ntmps167
   go_wp2
   go_ret
   refine ⟨zau ?_,rfl⟩
   have h1:=HX.out
   have h2:=HY0.out
   have h3:=HJ.out
   subst h3
   unfold fltZ
   simp only [← h1]
   simp;omega
  ·have t1:(x != 1)=true:=by simpa using hy0
   have HY0:=zhz hy0
   clear hy0 hj0
   go_enter Tryz.func167,Tryz.ntmps167
   go_wp2
   go_ret
   refine ⟨zau ?_,rfl⟩
   have h1:=HX.out
   have h2:=HY0.out
   have h3:=HJ.out
   subst h3
   unfold fltZ
   simp only [← h1]
   simp;omega
 by_cases hj0:j=2
 ·have e0:((j:Int)==0)=false:=by simp;omega
  have e1:((j:Int)==1)=false:=by simp;omega
  have e2:((j:Int)==2)=true:=by rw [hj0];rfl
  have e3:((j:Int)==3)=false:=by simp;omega
  have e4:((j:Int)==4)=false:=by simp;omega
  have e5:((j:Int)==5)=false:=by simp;omega
  have e10:((j:Int)==10)=false:=by simp;omega
  have HJ:=zhz hj0
  by_cases hy0:x=0
  ·have t1:(x != 0)=false:=by simpa using hy0
   have HY0:=zhz hy0
   clear hy0 hj0
   go_enter Tryz.func167,Tryz.ntmps167
   go_wp2
   go_ret
   refine ⟨zau ?_,rfl⟩
   have h1:=HX.out
   have h2:=HY0.out
   have h3:=HJ.out
   subst h3
   unfold fltZ
   simp only [← h1]
   simp;omega
  ·have t1:(x != 0)=true:=by simpa using hy0
   have HY0:=zhz hy0
   clear hy0 hj0
   go_enter Tryz.func167,Tryz.ntmps167
   go_wp2
   go_ret
   refine ⟨zau ?_,rfl⟩
   have h1:=HX.out
   have h2:=HY0.out
   have h3:=HJ.out
   subst h3
   unfold fltZ
   simp only [← h1]
   simp;omega
 by_cases hj0:j=3
 ·have e0:((j:Int)==0)=false:=by simp;omega
  have e1:((j:Int)==1)=false:=by simp;omega
  have e2:((j:Int)==2)=false:=by simp;omega
  have e3:((j:Int)==3)=true:=by rw [hj0];rfl
  have e4:((j:Int)==4)=false:=by simp;omega
  have e5:((j:Int)==5)=false:=by simp;omega
  have e10:((j:Int)==10)=false:=by simp;omega
  have HJ:=zhz hj0
  by_cases hy0:x=2∨x=3∨(7≤x∧x≤71)
  ·have CL:=zhz (fun w=>zlI x w hy0)
   have HY0:=zhz hy0
   clear hy0 hj0
   go_enter Tryz.func167,Tryz.ntmps167
   go_wp2_with (go_at_call 179;((with_reducible refine (CL.out _).mono ?_);rintro e w1 ⟨rfl,rfl⟩))
   go_ret
   refine ⟨zau ?_,rfl⟩
   have h1:=HX.out
   have h2:=HY0.out
   have h3:=HJ.out
   subst h3
   unfold fltZ
   simp only [← h1]
   simp;omega
  ·have CL:=zhz (fun w=>zmw x w hy0)
   have HY0:=zhz hy0
   clear hy0 hj0
   go_enter Tryz.func167,Tryz.ntmps167
   go_wp2_with (go_at_call 179;((with_reducible refine (CL.out _).mono ?_);rintro e w1 ⟨rfl,rfl⟩))
   go_ret
   refine ⟨zau ?_,rfl⟩
   have h1:=HX.out
   have h2:=HY0.out
   have h3:=HJ.out
   subst h3
   unfold fltZ
   simp only [← h1]
   simp;omega
 by_cases hj0:j=4
 ·have e0:((j:Int)==0)=false:=by simp;omega
  have e1:((j:Int)==1)=false:=by simp;omega
  have e2:((j:Int)==2)=false:=by simp;omega
  have e3:((j:Int)==3)=false:=by simp;omega
  have e4:((j:Int)==4)=true:=by rw [hj0];rfl
  have e5:((j:Int)==5)=false:=by simp;omega
  have e10:((j:Int)==10)=false:=by simp;omega
  obtain ⟨y,hy⟩:=zeq (z.getD 3 0)
  have c3:=HC.out 3 (by omega)
  have b3:=HB3.out (by omega)
  rw [← hy] at c3 b3
  have HY:=zhz hy
  have g4:(4:Int)≤(j:Int):=by omega
  have g5:4≤j:=by omega
  clear hy
  have HJ:=zhz hj0
  by_cases hy0:fitP x y
  ·have CL:=zhz (fun w=>zlz x y w hy0)
   have HY0:=zhz hy0
   clear hy0 hj0
   go_enter Tryz.func167,Tryz.ntmps167
   go_wp2_with (go_at_call 180;((with_reducible refine (CL.out _).mono ?_);rintro e w1 ⟨rfl,rfl⟩))
   go_ret
   refine ⟨zau ?_,rfl⟩
   have h1:=HX.out
   have h2:=HY0.out
   have h3:=HJ.out
   have h4:=HY.out
   subst h3
   unfold fltZ
   simp only [← h1,← h4]
   simp only [fitP] at h2
   simp;omega
  ·have CL:=zhz (fun w=>zmp x y w hy0)
   have HY0:=zhz hy0
   clear hy0 hj0
   go_enter Tryz.func167,Tryz.ntmps167
   go_wp2_with (go_at_call 180;((with_reducible refine (CL.out _).mono ?_);rintro e w1 ⟨rfl,rfl⟩))
   go_ret
   refine ⟨zau ?_,rfl⟩
   have h1:=HX.out
   have h2:=HY0.out
   have h3:=HJ.out
   have h4:=HY.out
   subst h3
   unfold fltZ
   simp only [← h1,← h4]
   simp only [fitP] at h2
   simp;omega
 by_cases hj0:j=5
 ·have e0:((j:Int)==0)=false:=by simp;omega
  have e1:((j:Int)==1)=false:=by simp;omega
  have e2:((j:Int)==2)=false:=by simp;omega
  have e3:((j:Int)==3)=false:=by simp;omega
  have e4:((j:Int)==4)=false:=by simp;omega
  have e5:((j:Int)==5)=true:=by rw [hj0];rfl
  have e10:((j:Int)==10)=false:=by simp;omega
  have HJ:=zhz hj0
  by_cases hy0:x<rules
  ·have t1:decide (rules≤x)=false:=by simp;omega
   have HY0:=zhz hy0
   clear hy0 hj0
   go_enter Tryz.func167,Tryz.ntmps167
   go_wp2
   go_ret
   refine ⟨zau ?_,rfl⟩
   have h1:=HX.out
   have h2:=HY0.out
   have h3:=HJ.out
   subst h3
   unfold fltZ
   simp only [← h1]
   simp;omega
  ·have t1:decide (rules≤x)=true:=by simp;omega
   have HY0:=zhz hy0
   clear hy0 hj0
   go_enter Tryz.func167,Tryz.ntmps167
   go_wp2
   go_ret
   refine ⟨zau ?_,rfl⟩
   have h1:=HX.out
   have h2:=HY0.out
   have h3:=HJ.out
   subst h3
   unfold fltZ
   simp only [← h1]
   simp;omega
 by_cases hj0:j=10
 ·have e0:((j:Int)==0)=false:=by simp;omega
  have e1:((j:Int)==1)=false:=by simp;omega
  have e2:((j:Int)==2)=false:=by simp;omega
  have e3:((j:Int)==3)=false:=by simp;omega
  have e4:((j:Int)==4)=false:=by simp;omega
  have e5:((j:Int)==5)=false:=by simp;omega
  have e10:((j:Int)==10)=true:=by rw [hj0];rfl
  obtain ⟨y,hy⟩:=zeq (z.getD 3 0)
  have c3:=HC.out 3 (by omega)
  have b3:=HB3.out (by omega)
  rw [← hy] at c3 b3
  have HY:=zhz hy
  have g4:(4:Int)≤(j:Int):=by omega
  have g5:4≤j:=by omega
  clear hy
  have HJ:=zhz hj0
  by_cases hy0:x=y - 7
  ·have t1:(x != y - 7)=false:=by simpa using hy0
   have HY0:=zhz hy0
   clear hy0 hj0
   go_enter Tryz.func167,Tryz.ntmps167
   go_wp2
   go_ret
   refine ⟨zau ?_,rfl⟩
   have h1:=HX.out
   have h2:=HY0.out
   have h3:=HJ.out
   have h4:=HY.out
   subst h3
   unfold fltZ
   simp only [← h1,← h4]
   simp;omega
  ·have t1:(x != y - 7)=true:=by simpa using hy0
   have HY0:=zhz hy0
   clear hy0 hj0
   go_enter Tryz.func167,Tryz.ntmps167
   go_wp2
   go_ret
   refine ⟨zau ?_,rfl⟩
   have h1:=HX.out
   have h2:=HY0.out
   have h3:=HJ.out
   have h4:=HY.out
   subst h3
   unfold fltZ
   simp only [← h1,← h4]
   simp;omega
 have e0:((j:Int)==0)=false:=by simp;omega
 have e1:((j:Int)==1)=false:=by simp;omega
 have e2:((j:Int)==2)=false:=by simp;omega
 have e3:((j:Int)==3)=false:=by simp;omega
 have e4:((j:Int)==4)=false:=by simp;omega
 have e5:((j:Int)==5)=false:=by simp;omega
 have e10:((j:Int)==10)=false:=by simp;omega
 have HF:=zhz (show fltZ z rules j=0 from by unfold fltZ;simp;omega)
 go_enter Tryz.func167,Tryz.ntmps167
 go_wp2
 go_ret
 exact ⟨zau HF.out.symm,rfl⟩
end
section
open Go.ChangeShapes Go.WideShapes Go.ChangeAt Go.RowKit
theorem zar {P:Program} {fn:Func} {p u1 u2:Tmp} {ty:TypeId} (h:fn.results=#[.cell p ty,.tmp u1,.tmp u2]) (tmps:Array Value) (w:World) (g:Nat) (t:TypeId) (cs:Array Value) (fr:Nat × Nat) (d:TypeDesc)
  (hp:tmps.getD p undef=.pointer (some ⟨g,0,none⟩)) (hg:w.heap[g]?=some (.cells cs t fr))
  (hu:P.underlying ty=some d) (hd:(match d with | .struct _ | .array _ _=>true | _=>false)=true) (hi:(P.info? ty).map (·.size)=some cs.size) :
  (results fn tmps).run P w=.ok (.tuple #[.agg cs,tmps.getD u1 undef,tmps.getD u2 undef]) w:=by
 have hp':tmps[p]?.getD undef=.pointer (some ⟨g,0,none⟩):=by simpa using hp
 simp [results,h,hp',asAddr,run_loadVar_row w g t ty cs fr d hg hu hd hi]
theorem zc0 {z:List Int} {rules:Int} {i:Nat} (h:cleanZ z rules i) (hf:fltZ z rules i=0) (hw:¬ wholeAt z i):cleanZ z rules (i+1):=fun t ht=>by
 rcases Nat.lt_succ_iff_lt_or_eq.1 ht with g | rfl
 ·exact h t g
 ·exact ⟨hf,hw⟩
def parsedV (r:Req × Int × Int):Value:=.tuple #[reqOf r.1,.int .i64 r.2.1,.int .i64 r.2.2]
theorem ziR {q:Req} {m e:Int} {r:Req × Int × Int} (h:r=(q,m,e)):parsedV r=.tuple #[reqOf q,.int .i64 m,.int .i64 e]:=by rw [h];rfl
theorem ziO (A:Option Addr) (n c:Nat) (z:List Int) (rules:Int) (w:World) (hr:RdI w .u8 A n c z) :
  Calls Tryz.prog 153 #[.slice A n c,.int .i64 rules] w fun e w'=>e=.returned (parsedV (parseZ z rules))∧Below w.heap.size w w':=by
 have hcp:=hr.cap
 have hmx:=hr.max
 have HL:=zhz hr.len
 unfold maxLen at hmx
 have HR:=zhz hr
 clear hr
 go_enter Tryz.func153,Tryz.ntmps153
 go_upto_region 1 with (fail)
 obtain ⟨w1,hw1,hbk,hbl,hsz1⟩:=zad w (reqC 0 0 0 ⟨#[]⟩ 0) 76
 change Code.wp _ _ _ _ (w.alloc (.cells (reqC 0 0 0 ⟨#[]⟩ 0) 76))
 rw [hw1]
 obtain ⟨b0,hb0⟩:=zeq (w.heap.size)
 rw [← hb0] at hbk ⊢
 have HB0:=zhz hb0
 have BK:=zhz hbk
 have BL:=zhz hbl
 clear hbk hbl hsz1 hw1 hb0
 go_wp2
 go_loopg [11] n (fun k s11 wr=>∃ i:Nat,i≤n∧k=n - i∧s11=.int .i64 (i:Int)∧cleanZ z rules i∧wr=w1)
 case atStart=>exact ⟨0,by omega,by omega,rfl,fun i hi=>absurd hi (by omega),rfl⟩
 case round =>
  obtain ⟨i,hi,hkk,rfl,hcl,rfl⟩:=hrel
  have HK:=zhz hkk
  have HCL:=zhz hcl
  have k0:=BK.out.wr
  have k1:=BK.out.rd
  clear hkk hcl
  by_cases hin:i<n
  ·have RZ:=HR.out.below BL.out
   obtain ⟨d,off,rfl,_,hc⟩:=RZ.at_ (by omega)
   obtain ⟨f,hf⟩:=zeq (fltZ z rules i)
   have CF:=zhz (zh7 _ n c z rules i hin wr RZ)
   rw [← hf] at CF
   have HF:=zhz hf
   have HC:=zhz hc
   have RZ1:=zhz RZ
   have g1:(i:Int)+1≤(c:Int):=by omega
   have g2:(i:Int)<(n:Int):=by omega
   clear hf hc RZ
   by_cases hf0:f=0
   ·have t0:(f != 0)=false:=by simpa using hf0
    by_cases hi3:3≤i
    ·have c3:=HC.out 3 (by omega)
     obtain ⟨y,hy⟩:=zeq (z.getD 3 0)
     have b3:0≤y∧y≤255:=by rw [hy];exact zfR (HR.out.wf_at (by omega))
     rw [← hy] at c3
     have HY:=zhz hy
     have t1:decide ((3:Int)≤(i:Int))=true:=by simp;omega
     have t2:decide (3≤i)=true:=by simpa using hi3
     have g3:(3:Int)≤(i:Int):=by omega
     have g4:(3:Int)<(n:Int):=by omega
     have HF0:=zhz hf0
     clear hy hf0
     by_cases hw:(i:Int)+1=4+y
     ·have t3:((i:Int)+1==4+y)=true:=by simpa using hw
      have HW:=zhz (show wholeAt z i from ⟨hi3,by rw [← HY.out];exact hw⟩)
      have hww:=zhI (show i<z.length by rw [HL.out];exact hin) HCL.out (by rw [← HF.out];exact HF0.out) HW.out
      rw [HL.out] at hww
      have CR:=zhz (zfv _ n c z wr RZ1.out hww.1 hww.2)
      obtain ⟨rq,hrq⟩:=zeq (reqZ z)
      rw [← hrq] at CR
      have HRQ:=zhz hrq
      have ew:IntKind.i64.wrap ((i:Int)+1)=(i:Int)+1:=by rw [IntKind.wrap_i64];omega
      unfold reqOf at CR
      clear hw hww hrq
      go_wp2_with (first
       | (go_at_call 167;((with_reducible refine CF.out.mono ?_);rintro e w2 ⟨rfl,rfl⟩))
       | (go_at_call 168;((with_reducible refine CR.out.mono ?_);rintro e w3 ⟨rfl,b3⟩;have BK3:=zhz (BK.out.keep b3);have B3:=zhz (BL.out.trans (b3.mono BL.out.size));have k3:=BK3.out.wr;have k4:=BK3.out.rd;clear b3)))
      rw [zaw BK3.out]
      refine bodyPost_ret (zar rfl _ _ b0 _ _ (0,0) _ rfl (zab (lt_of_block BK3.out) _) Tryz.underlying76 rfl (by kernel_rfl)) rfl ⟨?_,?_⟩
      ·rw [zcK i (by rw [HL.out];exact hin) HCL.out (by rw [← HF.out];exact HF0.out) HW.out,← HRQ.out];rfl
      ·exact B3.out.trans ((Fr.setObj (F:=fun k=>k=b0) (Fr.refl _ _) rfl _).below B3.out.size (fun k hk=>by have:=HB0.out;omega))
     ·have t3:((i:Int)+1==4+y)=false:=by simpa using hw
      have HW:=zhz (show ¬ wholeAt z i from fun h=>hw (by rw [HY.out];exact h.2))
      clear hw
      go_wp2_with (go_at_call 167;((with_reducible refine CF.out.mono ?_);rintro e w2 ⟨rfl,rfl⟩))
      go_roundg (n - (i+1))
      case measure=>have:=HK.out;omega
      case rel=>exact ⟨i+1,by omega,by omega,by go_num,zc0 HCL.out (by rw [← HF.out];exact HF0.out) HW.out,rfl⟩
    ·have t1:decide ((3:Int)≤(i:Int))=false:=by simp;omega
     have t2:decide (3≤i)=false:=by simpa using hi3
     have HF0:=zhz hf0
     clear hf0
     go_wp2_with (go_at_call 167;((with_reducible refine CF.out.mono ?_);rintro e w2 ⟨rfl,rfl⟩))
     go_roundg (n - (i+1))
     case measure=>have:=HK.out;omega
     case rel=>exact ⟨i+1,by omega,by omega,by go_num,zc0 HCL.out (by rw [← HF.out];exact HF0.out) (fun h=>hi3 h.1),rfl⟩
   ·have t0:(f != 0)=true:=by simpa using hf0
    have HF0:=zhz hf0
    clear hf0
    go_wp2_with (go_at_call 167;((with_reducible refine CF.out.mono ?_);rintro e w2 ⟨rfl,rfl⟩))
    rw [zaw BK.out]
    refine bodyPost_ret (zar rfl _ _ b0 _ _ (0,0) _ rfl (zab (lt_of_block BK.out) _) Tryz.underlying76 rfl (by kernel_rfl)) rfl ⟨?_,?_⟩
    ·rw [zcJ i (by rw [HL.out];exact hin) HCL.out (by rw [← HF.out];exact HF0.out),← HF.out];rfl
    ·exact BL.out.trans ((Fr.setObj (F:=fun k=>k=b0) (Fr.refl _ _) rfl _).below BL.out.size (fun k hk=>by have:=HB0.out;omega))
  ·have hie:i=n:=by omega
   subst hie
   go_wp2
   rw [zaw BK.out]
   refine bodyPost_ret (zar rfl _ _ b0 _ _ (0,0) _ rfl (zab (lt_of_block BK.out) _) Tryz.underlying76 rfl (by kernel_rfl)) rfl ⟨?_,?_⟩
   ·rw [zex (by rw [HL.out];exact HCL.out)];rfl
   ·exact BL.out.trans ((Fr.setObj (F:=fun k=>k=b0) (Fr.refl _ _) rfl _).below BL.out.size (fun k hk=>by have:=HB0.out;omega))
end
section
open Go.ChangeShapes Go.WideShapes Go.ChangeAt Go.RowKit
end
section
open Go.ChangeShapes Go.WideShapes Go.ChangeAt Go.RowKit
def fillN (n:Nat) (x:Int) (i:Nat):List Int:=List.replicate (n - i) 0++be i x
theorem zce (n:Nat) (x:Int) (i:Nat) (h:i≤n):(fillN n x i).length=n:=by unfold fillN;rw [List.length_append,List.length_replicate,zaq];omega
theorem zea (n:Nat) (x:Int) (i:Nat) (h:i<n):(fillN n x i).set (n - 1 - i) (x / 256 ^ i % 256)=fillN n x (i+1):=by
 unfold fillN
 rw [zdv,show n - i=(n - 1 - i)+1 by omega,show n - (i+1)=n - 1 - i by omega]
 rw [List.set_append_left _ _ (by simp)]
 rw [List.replicate_succ']
 rw [List.set_append_right _ _ (by simp)]
 simp
theorem zd9 (n:Nat) (x:Int):fillN n x n=be n x:=by unfold fillN;simp
theorem zlZ (B:Nat) (v:Value) (bs:List Int) (x:Int) (n:Nat) (hx:0≤x∧x<18446744073709551616) (hn:n≤8) (hm:bs.length≤1000000) (w:World) (ho:Own w B v bs) (hB:B≤w.heap.size) :
  Calls Tryz.prog 72 #[v,.int .i64 (n:Int),.int .u64 x] w fun e w'=>∃ v',e=.returned v'∧Own w' B v' (bs++be n x)∧Fr (fun k=>B≤k) w w':=by
 have HO:=zhz ho
 have HBS:=zhz hB
 have HX:=zhz hx
 obtain ⟨i0,hi,hz0,hz1,hz2⟩:=info_parts zb0
 have hmk:=za7 (P:=Tryz.prog) (t:=40) (e:=5) (by rfl) hi hz0 hz1 hz2 n (by omega)
 have hn1:(n:Int)≤8:=by omega
 clear ho hB hx hi hz0 hz1 hz2
 go_enter Tryz.func72,Tryz.ntmps72
 go_wp2
 obtain ⟨w1,hw1,hbk,hbl,hsz⟩:=zad w (byC (fillN n x 0)) 5
 have e0:noughts n=byC (fillN n x 0):=by unfold noughts byC fillN be;simp
 rw [e0,hw1]
 obtain ⟨ab,hab⟩:=zeq (w.heap.size)
 rw [← hab] at hbk ⊢
 have HAB:=zhz hab
 have B1:=zhz hbk
 have F1:=zhz hbl
 clear hw1 hbk hbl hsz hab e0 hmk
 go_loopg [2,8] n (fun k s2 s8 wr=>∃ i:Nat,i≤n∧k=n - i∧s2=.int .u64 (x / 256 ^ i)∧s8=.int .i64 ((n:Int) - 1 - (i:Int))∧Blk wr ab 5 (byC (fillN n x i))∧Fr (fun k=>k=ab) w1 wr)
 case atStart=>exact ⟨0,by omega,by omega,by simp,by first | rfl | go_num,B1.out,Fr.refl _ _⟩
 case round =>
  obtain ⟨i,hi,hkk,rfl,rfl,hb,hf⟩:=hrel
  have HK:=zhz hkk
  have HB:=zhz hb
  have HF:=zhz hf
  clear hkk hf
  by_cases hin:i<n
  ·obtain ⟨y,hy⟩:=zeq (x / 256 ^ i)
   have hy0:0≤y∧y<18446744073709551616:=by
    have hp:(0:Int)<256 ^ i:=Int.pow_pos (by decide)
    have hx:=HX.out
    rw [hy]
    exact ⟨Int.ediv_nonneg hx.1 (by omega),Int.lt_of_le_of_lt (Int.ediv_le_self _ hx.1) hx.2⟩
   rw [← hy]
   obtain ⟨z,hz⟩:∃ z,y % 256=z:=⟨_,rfl⟩
   have hz1:0≤z∧z≤255:=by omega
   have e3:IntKind.u8.wrap z=z:=by rw [IntKind.wrap_u8];omega
   have HS:=zhz (show (fillN n x i).set (n - 1 - i) z=fillN n x (i+1) from by rw [← hz,hy];exact zea n x i hin)
   have HY:=zhz (show x / 256 ^ (i+1)=y / 256 from by rw [hy,Int.pow_succ,Int.ediv_ediv_of_nonneg (Int.pow_nonneg (by decide))])
   have kw:=hb.wr
   have hsz:=zce n x i hi
   obtain ⟨j,hj⟩:∃ j:Nat,(n:Int) - 1 - (i:Int)=(j:Int):=⟨n - 1 - i,by omega⟩
   have hj7:j<n:=by omega
   have hj8:(j:Int)≤8:=by omega
   have HJ:=zhz hj
   have kx:wr.cell? ⟨ab,j,none⟩=some (.int .u8 ((fillN n x i).getD j 0)):=by rw [hb.rd];exact zdx _ _ (by omega)
   rw [hj]
   clear hy hb hsz hj
   go_wp2
   go_roundg (n - (i+1))
   case measure=>have:=HK.out;omega
   case rel =>
    have hl:=lt_of_block HB.out
    have hj:=HJ.out
    have ej:j=n - 1 - i:=by omega
    rw [zac HB.out,zdy,ej,HS.out]
    refine ⟨i+1,by omega,by omega,by rw [HY.out],?_,zab hl _,HF.out.trans (Fr.setObj (F:=fun k=>k=ab) (Fr.refl _ _) rfl _)⟩
    first | (congr 1;omega) | go_num
  ·have hie:i=n:=by omega
   subst hie
   have t:(i:Int) - 1 - (i:Int) = -1:=by omega
   rw [t]
   have HR:=zhz (show RdI wr .u8 (some ⟨ab,0,none⟩) i i (be i x) from by
    rw [zd9] at hb
    exact zbh hb (zaq i x) (by unfold maxLen;omega) (fun z hz=>zbK (zbL _ _ z hz)))
   have HO2:=zhz ((HO.out.below F1.out).fr HF.out (fun g hg=>by have:=(HO.out.lt g hg).2;have:=HAB.out;omega))
   clear hb t
   go_wp2_with (at_builtin;refine zaF (by rfl) _ _ i (by rfl) (by rfl) (by rfl) HO2.out HR.out (by omega) (by have:=HBS.out;have:=F1.out.size;have:=HF.out.size;omega) ?_;intro v' w9 hown9 hgrow9;have HO9:=zhz hown9;have HG9:=zhz hgrow9;clear hown9 hgrow9)
   go_ret
   refine ⟨v',rfl,HO9.out,?_⟩
   refine (((Fr.of_below F1.out).trans (HF.out.mono (fun k hk=>?_))).trans ((fr_row HG9.out).mono (fun k hk=>?_)))
   ·have:=HBS.out;have:=HAB.out;omega
   ·exact (HO.out.lt k hk).1
theorem zm3 (B:Nat) (v:Value) (bs:List Int) (x z:Int) (n:Nat) (hz:z=(n:Int)) (hx:0≤x∧x<18446744073709551616) (hn:n≤8) (hm:bs.length≤1000000) (w:World) (ho:Own w B v bs) (hB:B≤w.heap.size) :
  Calls Tryz.prog 72 #[v,.int .i64 z,.int .u64 x] w fun e w'=>∃ v',e=.returned v'∧Own w' B v' (bs++be n x)∧Fr (fun k=>B≤k) w w':=by
 subst hz
 exact zlZ B v bs x n hx hn hm w ho hB
theorem zfQ (w:World) (o:Obj) (c:Array Value) (t:TypeId):Blk ((w.alloc o).alloc (.cells c t)) (w.heap.size+1) t c:=by
 have h:=heap_alloc_new (w.alloc o) (.cells c t)
 rw [show (w.alloc o).heap.size=w.heap.size+1 by simp] at h
 exact h
theorem zb5 (w:World) (base n:Nat) (xs:List Int) (hb:base≤w.heap.size) (hl:xs.length=n) (hm:n≤maxLen):Own (w.alloc (.cells (byC xs) 5)) base (.slice (some ⟨w.heap.size,0,none⟩) n n) xs :=
 ziK (heap_alloc_new w _) hb hl hm
theorem zko {op rule cost k rules:Int} {s:ByteArray} (h:rightP (mkR op rule cost s k) rules):(0≤rule∧rule<rules∧rule≤255)∧(((op=1∨op=2)∧s.size≤64∧k=0)∨(op=3∧cost=0∧s=⟨#[]⟩∧k=0)∨(op=4∧cost=0∧s=⟨#[]⟩∧0≤k∧k≤255)):=by
 unfold rightP mkR at h
 simp only [zaC,zkd] at h
 refine ⟨h.1,?_⟩
 rcases h.2 with a | ⟨a,b,c,d⟩ | ⟨a,b,c,d⟩
 ·exact .inl a
 ·exact .inr (.inl ⟨a,b,size0 c,d⟩)
 ·exact .inr (.inr ⟨a,b,size0 c,d⟩)
end
section
open Go.ChangeShapes Go.WideShapes Go.ChangeAt Go.RowKit
def U8 (w:World) (k:Nat):Prop:=∃ c f,w.heap[k]?=some (.cells c 5 f)
def FrU (B:Nat) (w w':World):Prop:=Fr (fun k=>B≤k∧U8 w k) w w'
theorem FrU.fr {B:Nat} {w w':World} (h:FrU B w w'):Fr (fun k=>B≤k) w w':=h.mono (fun _ hk=>hk.1)
theorem FrU.size {B:Nat} {w w':World} (h:FrU B w w'):w.heap.size≤w'.heap.size:=Fr.size h
theorem FrU.refl (B:Nat) (w:World):FrU B w w:=Fr.refl _ _
theorem FrU.trans {B:Nat} {w w1 w2:World} (h:FrU B w w1) (g:FrU B w1 w2):FrU B w w2 :=
 ⟨g.os.trans h.os,g.tape.trans h.tape,g.output.trans h.output,Nat.le_trans h.size g.size,fun k hk hF=>by
  have e:=h.block k hk hF
  refine (g.block k (Nat.lt_of_lt_of_le hk h.size) (fun hG=>hF ⟨hG.1,?_⟩)).trans e
  obtain ⟨c,f,hc⟩:=hG.2
  exact ⟨c,f,by rw [← e];exact hc⟩⟩
theorem FrU.of_below {B:Nat} {w w':World} (h:Below w.heap.size w w'):FrU B w w':=Fr.of_below h
theorem FrU.alloc {B:Nat} {w:World} (_h:B≤w.heap.size) (o:Obj):FrU B w (w.alloc o):=(Fr.refl _ w).alloc o
theorem Own.u8 {w:World} {B:Nat} {v:Value} {xs:List Int} (h:Own w B v xs):∀ g,v.ownBlock=some g→B≤g∧U8 w g:=by
 intro g hg
 rcases h.2 with ⟨rfl,_⟩ | ⟨g',cap,cur,rfl,hb,hh,_⟩
 ·cases hg
 ·have:g'=g:=by simpa [Value.ownBlock] using hg
  subst this
  exact ⟨hb,cur,_,hh⟩
theorem FrU.row {B:Nat} {w w':World} {v:Value} {xs:List Int} (h:Own w B v xs) (hg:w.grownBy w' v.ownBlock):FrU B w w':=(fr_row hg).mono (fun k hk=>h.u8 k hk)
theorem FrU.blk {B d:Nat} {w w':World} {t:TypeId} {c:Array Value} (h:FrU B w w') (hb:Blk w d t c) (hd:d<B∨t≠5):Blk w' d t c:=by
 refine hb.fr h (fun hF=>?_)
 rcases hd with hd | hd
 ·have:=hF.1;omega
 ·obtain ⟨c',f,hc⟩:=hF.2
  rw [hb] at hc
  injection hc with hc
  injection hc with _ hc
  exact hd hc
theorem FrU.more {B B':Nat} {w w':World} (h:FrU B w w') (hB:B'≤B):FrU B' w w':=h.mono (fun k hk=>⟨Nat.le_trans hB hk.1,hk.2⟩)
theorem FrU.below {B:Nat} {w w':World} (h:FrU B w w') (hB:B≤w.heap.size):Below B w w':=h.fr.below hB (fun _ hk=>hk)
theorem zid {B ab:Nat} {w w1 wr w9:World} {v:Value} {bs:List Int} (_hB:B≤w.heap.size) (ho:Own w B v bs) (hab:ab=w.heap.size) (f1:Below w.heap.size w w1) (hf:Fr (fun k=>k=ab) w1 wr) (hg:wr.grownBy w9 v.ownBlock):FrU B w w9:=by
 have h1:Fr (fun _=>False) w wr:=Fr.drop_new (s:=ab) (((Fr.of_below (F:=fun k=>False∨k=ab) f1).trans (hf.mono (fun k hk=>Or.inr hk)))) (by omega)
 have h2:Own wr B v bs:=ho.fr h1 (fun _ _ h=>h)
 have h3:FrU B w wr:=h1.mono (fun _ h=>h.elim)
 exact h3.trans (FrU.row h2 hg)
theorem zka (B:Nat) (v:Value) (bs:List Int) (x:Int) (n:Nat) (hx:0≤x∧x<18446744073709551616) (hn:1≤n∧n≤8) (hm:bs.length≤1000000) (w:World) (ho:Own w B v bs) (hB:B≤w.heap.size) :
  Calls Tryz.prog 54 #[v,.int .u64 x,.int .i64 (n:Int)] w fun e w'=>∃ v',e=.returned v'∧Own w' B v' (bs++be n x)∧FrU B w w':=by
 have HO:=zhz ho
 have HBS:=zhz hB
 have HX:=zhz hx
 clear ho hB hx
 go_enter Tryz.func54,Tryz.ntmps54
 go_wp2
 obtain ⟨w1,hw1,hbk,hbl,hsz⟩:=zad w (byC (numAll x 0)) 168
 change Code.wp _ _ _ _ (w.alloc (.cells (byC (numAll x 0)) 168))
 rw [hw1]
 obtain ⟨ab,hab⟩:=zeq (w.heap.size)
 rw [← hab] at hbk ⊢
 have HAB:=zhz hab
 have B1:=zhz hbk
 have F1:=zhz hbl
 clear hw1 hbk hbl hsz hab
 go_loopg [9] 8 (fun k s9 wr=>∃ i:Nat,i≤8∧k=8 - i∧s9=.int .i64 (i:Int)∧Blk wr ab 168 (byC (numAll x i))∧Fr (fun k=>k=ab) w1 wr)
 case atStart=>exact ⟨0,by omega,by omega,rfl,B1.out,Fr.refl _ _⟩
 case round =>
  obtain ⟨i,hi,hkk,rfl,hb,hf⟩:=hrel
  have HK:=zhz hkk
  have HB:=zhz hb
  have HF:=zhz hf
  clear hkk hf
  by_cases hin:i<8
  ·obtain ⟨P,hP⟩:∃ P,P=(2:Int) ^ (8*(i:Int)).toNat:=⟨_,rfl⟩
   have e1:(2:Int) ^ (8*(i:Int)).toNat=P:=hP.symm
   have hP2:P=256 ^ i:=by rw [hP,show (8*(i:Int)).toNat=8*i by omega,Int.pow_mul];rfl
   obtain ⟨y,hy⟩:=zeq (x / P)
   have e2:x / P=y:=hy.symm
   have hy0:0≤y∧y<18446744073709551616:=by
    have hp:0<P:=by rw [hP2];exact Int.pow_pos (by decide)
    have hx:=HX.out
    rw [hy]
    exact ⟨Int.ediv_nonneg hx.1 (by omega),Int.lt_of_le_of_lt (Int.ediv_le_self _ hx.1) hx.2⟩
   obtain ⟨z,hz⟩:=zeq (y % 256)
   have e3:IntKind.u8.wrap y=z:=by rw [IntKind.wrap_u8,hz]
   have hxb:=HX.out
   have HS:=zhz (show (numAll x i).set (7 - i) z=numAll x (i+1) from by rw [hz,hy,hP2];exact zdc x i hin)
   have kw:=hb.wr
   have kr:=hb.rd
   have hsz:=zbS x i (by omega)
   have kc:(byC (numAll x i)).size=8:=by unfold byC;simp [hsz]
   obtain ⟨j,hj⟩:∃ j:Nat,(7:Int) - (i:Int)=(j:Int):=⟨7 - i,by omega⟩
   have hj7:j≤7:=by omega
   have HJ:=zhz hj
   have kx:wr.cell? ⟨ab,j,none⟩=some (.int .u8 ((numAll x i).getD j 0)):=by rw [kr];exact zdx _ _ (by omega)
   clear hP hP2 hy hz hb kr hsz kc
   go_wp2
   go_roundg (8 - (i+1))
   case measure=>have:=HK.out;omega
   case rel =>
    have hl:=lt_of_block HB.out
    have hj:=HJ.out
    have ej:j=7 - i:=by omega
    rw [zac HB.out,zdy,ej,HS.out]
    exact ⟨i+1,by omega,by omega,by go_num,zab hl _,HF.out.trans (Fr.setObj (F:=fun k=>k=ab) (Fr.refl _ _) rfl _)⟩
  ·have hie:i=8:=by omega
   subst hie
   obtain ⟨d,hd⟩:∃ d:Nat,(8:Int) - (n:Int)=(d:Int):=⟨8 - n,by omega⟩
   have hd8:d+n=8:=by omega
   have hsl:=zeG ab d n hd8 hn.1
   have HR:=zhz (show RdI wr .u8 (some ⟨ab,d,none⟩) n n (be n x) from by
    have h0:RdI wr .u8 (some ⟨ab,0,none⟩) 8 8 (be 8 x):=zbh hb (zaq 8 x) (by decide) (fun z hz=>zbK (zbL _ _ z hz))
    have h1:=zb8 h0 (m:=d) (by omega)
    rw [Nat.zero_add,show 8 - d=n by omega,show (8:Nat)=n+d by omega,zeX] at h1
    exact h1)
   have HO2:=zhz ((HO.out.below F1.out).fr HF.out (fun g hg=>by have:=(HO.out.lt g hg).2;have:=HAB.out;omega))
   clear hb
   go_wp2_with (at_builtin;refine zaF (by rfl) _ _ n (by rfl) (by rfl) (by rfl) HO2.out HR.out (by omega) (by have:=HBS.out;have:=F1.out.size;have:=HF.out.size;omega) ?_;intro v' w9 hown9 hgrow9;have HO9:=zhz hown9;have HG9:=zhz hgrow9;clear hown9 hgrow9)
   go_ret
   refine ⟨v',rfl,HO9.out,?_⟩
   exact zid HBS.out HO.out HAB.out F1.out HF.out HG9.out
theorem zlb (B:Nat) (v:Value) (bs:List Int) (s:ByteArray) (hs:s.size≤1000000) (hm:bs.length≤1000000) (w:World) (ho:Own w B v bs) (hB:B≤w.heap.size) :
  Calls Tryz.prog 55 #[v,.string s] w fun e w'=>∃ v',e=.returned v'∧Own w' B v' (bs++((s.size % 256:Nat):Int) :: numsC s)∧FrU B w w':=by
 have HO:=zhz ho
 have HBS:=zhz hB
 have e1:IntKind.u8.wrap (s.size:Int)=((s.size % 256:Nat):Int):=by rw [IntKind.wrap_u8];omega
 have NW:=zhz (heap_alloc_new w (.cells #[.int .u8 ((s.size % 256:Nat):Int)] 5))
 have HR:=zhz (show RdI (w.alloc (.cells #[.int .u8 ((s.size % 256:Nat):Int)] 5)) .u8 (some ⟨w.heap.size,0,none⟩) 1 1 [((s.size % 256:Nat):Int)] from zbh NW.out rfl (by decide) (by intro z hz;simp only [List.mem_singleton] at hz;rw [hz];exact zbK (by omega)))
 clear ho hB
 go_enter Tryz.func55,Tryz.ntmps55
 go_wp2_with (first
  | (at_builtin;refine zaF (by rfl) _ _ 1 (by rfl) (by rfl) (by rfl) (HO.out.below ((Below.refl _ _).alloc (Nat.le_refl _) _)) HR.out (by omega) (by have:=HBS.out;simp;omega) ?_;intro v1 w1 hown1 hgrow1;have HO1:=zhz hown1;have HG1:=zhz hgrow1;clear hown1 hgrow1)
  | (at_builtin;refine zcU (by rfl) _ _ (by rfl) (by rfl) s (by rfl) HO1.out (by simp;omega) (by have:=HBS.out;have:=HG1.out.size;simp at this;omega) ?_;intro v2 w2 hown2 hgrow2;have HO2:=zhz hown2;have HG2:=zhz hgrow2;clear hown2 hgrow2))
 go_ret
 refine ⟨v2,rfl,by simpa using HO2.out,?_⟩
 exact ((FrU.alloc (Nat.le_trans HBS.out (Nat.le_refl _)) _).trans (FrU.row (HO.out.below ((Below.refl _ _).alloc (Nat.le_refl _) _)) HG1.out)).trans (FrU.row HO1.out HG2.out)
theorem put_u (B:Nat) (v:Value) (bs:List Int) (x:Int) (n:Nat) (hx:0≤x∧x<18446744073709551616) (hn:n≤8) (hm:bs.length≤1000000) (w:World) (ho:Own w B v bs) (hB:B≤w.heap.size) :
  Calls Tryz.prog 72 #[v,.int .i64 (n:Int),.int .u64 x] w fun e w'=>∃ v',e=.returned v'∧Own w' B v' (bs++be n x)∧FrU B w w':=by
 have HO:=zhz ho
 have HBS:=zhz hB
 have HX:=zhz hx
 obtain ⟨i0,hi,hz0,hz1,hz2⟩:=info_parts zb0
 have hmk:=za7 (P:=Tryz.prog) (t:=40) (e:=5) (by rfl) hi hz0 hz1 hz2 n (by omega)
 have hn1:(n:Int)≤8:=by omega
 clear ho hB hx hi hz0 hz1 hz2
 go_enter Tryz.func72,Tryz.ntmps72
 go_wp2
 obtain ⟨w1,hw1,hbk,hbl,hsz⟩:=zad w (byC (fillN n x 0)) 5
 have e0:noughts n=byC (fillN n x 0):=by unfold noughts byC fillN be;simp
 rw [e0,hw1]
 obtain ⟨ab,hab⟩:=zeq (w.heap.size)
 rw [← hab] at hbk ⊢
 have HAB:=zhz hab
 have B1:=zhz hbk
 have F1:=zhz hbl
 clear hw1 hbk hbl hsz hab e0 hmk
 go_loopg [2,8] n (fun k s2 s8 wr=>∃ i:Nat,i≤n∧k=n - i∧s2=.int .u64 (x / 256 ^ i)∧s8=.int .i64 ((n:Int) - 1 - (i:Int))∧Blk wr ab 5 (byC (fillN n x i))∧Fr (fun k=>k=ab) w1 wr)
 case atStart=>exact ⟨0,by omega,by omega,by simp,by first | rfl | go_num,B1.out,Fr.refl _ _⟩
 case round =>
  obtain ⟨i,hi,hkk,rfl,rfl,hb,hf⟩:=hrel
  have HK:=zhz hkk
  have HB:=zhz hb
  have HF:=zhz hf
  clear hkk hf
  by_cases hin:i<n
  ·obtain ⟨y,hy⟩:=zeq (x / 256 ^ i)
   have hy0:0≤y∧y<18446744073709551616:=by
    have hp:(0:Int)<256 ^ i:=Int.pow_pos (by decide)
    have hx:=HX.out
    rw [hy]
    exact ⟨Int.ediv_nonneg hx.1 (by omega),Int.lt_of_le_of_lt (Int.ediv_le_self _ hx.1) hx.2⟩
   rw [← hy]
   obtain ⟨z,hz⟩:∃ z,y % 256=z:=⟨_,rfl⟩
   have hz1:0≤z∧z≤255:=by omega
   have e3:IntKind.u8.wrap z=z:=by rw [IntKind.wrap_u8];omega
   have HS:=zhz (show (fillN n x i).set (n - 1 - i) z=fillN n x (i+1) from by rw [← hz,hy];exact zea n x i hin)
   have HY:=zhz (show x / 256 ^ (i+1)=y / 256 from by rw [hy,Int.pow_succ,Int.ediv_ediv_of_nonneg (Int.pow_nonneg (by decide))])
   have kw:=hb.wr
   have hsz:=zce n x i hi
   obtain ⟨j,hj⟩:∃ j:Nat,(n:Int) - 1 - (i:Int)=(j:Int):=⟨n - 1 - i,by omega⟩
   have hj7:j<n:=by omega
   have hj8:(j:Int)≤8:=by omega
   have HJ:=zhz hj
   have kx:wr.cell? ⟨ab,j,none⟩=some (.int .u8 ((fillN n x i).getD j 0)):=by rw [hb.rd];exact zdx _ _ (by omega)
   rw [hj]
   clear hy hb hsz hj
   go_wp2
   go_roundg (n - (i+1))
   case measure=>have:=HK.out;omega
   case rel =>
    have hl:=lt_of_block HB.out
    have hj:=HJ.out
    have ej:j=n - 1 - i:=by omega
    rw [zac HB.out,zdy,ej,HS.out]
    refine ⟨i+1,by omega,by omega,by rw [HY.out],?_,zab hl _,HF.out.trans (Fr.setObj (F:=fun k=>k=ab) (Fr.refl _ _) rfl _)⟩
    first | (congr 1;omega) | go_num
  ·have hie:i=n:=by omega
   subst hie
   have t:(i:Int) - 1 - (i:Int) = -1:=by omega
   rw [t]
   have HR:=zhz (show RdI wr .u8 (some ⟨ab,0,none⟩) i i (be i x) from by
    rw [zd9] at hb
    exact zbh hb (zaq i x) (by unfold maxLen;omega) (fun z hz=>zbK (zbL _ _ z hz)))
   have HO2:=zhz ((HO.out.below F1.out).fr HF.out (fun g hg=>by have:=(HO.out.lt g hg).2;have:=HAB.out;omega))
   clear hb t
   go_wp2_with (at_builtin;refine zaF (by rfl) _ _ i (by rfl) (by rfl) (by rfl) HO2.out HR.out (by omega) (by have:=HBS.out;have:=F1.out.size;have:=HF.out.size;omega) ?_;intro v' w9 hown9 hgrow9;have HO9:=zhz hown9;have HG9:=zhz hgrow9;clear hown9 hgrow9)
   go_ret
   refine ⟨v',rfl,HO9.out,?_⟩
   exact zid HBS.out HO.out HAB.out F1.out HF.out HG9.out
theorem zkb (B:Nat) (v:Value) (bs:List Int) (x:Int) (hx:i64P x) (hm:bs.length≤1000000) (w:World) (ho:Own w B v bs) (hB:B≤w.heap.size) :
  Calls Tryz.prog 54 #[v,.int .u64 (IntKind.u64.wrap x),.int .i64 8] w fun e w'=>∃ v',e=.returned v'∧Own w' B v' (bs++be 8 x)∧FrU B w w':=by
 have h:=zka B v bs (IntKind.u64.wrap x) 8 (by rw [IntKind.wrap_u64];omega) (by omega) hm w ho hB
 rw [IntKind.wrap_u64,zln] at h
 rw [IntKind.wrap_u64]
 exact h
theorem zdR {w:World} {base:Nat} {v:Value} {zs:List Int} (h:Own w base v zs) (hb:byt zs) (n:Nat) (hn:zs.length=n) (h1:0<n):∃ g c,v=.slice (some ⟨g,0,none⟩) n c∧RdI w .u8 (some ⟨g,0,none⟩) n c zs∧base≤g∧g<w.heap.size:=by
 subst hn
 obtain ⟨A,c,rfl,hr,hA⟩:=h.rd hb
 obtain ⟨g,rfl,hg⟩:=hA h1
 obtain ⟨l1,l2⟩:=h.lt g hg
 exact ⟨g,c,rfl,hr,l1,l2⟩
def be8s:List Int→List Int
 | []=>[]
 | x :: l=>be 8 x++be8s l
theorem zfW:∀ l m,be8s (l++m)=be8s l++be8s m
 | [],_=>rfl
 | x :: l,m=>by rw [List.cons_append,be8s,be8s,zfW l m,List.append_assoc]
theorem zcu:∀ l,(be8s l).length=8*l.length
 | []=>rfl
 | x :: l=>by rw [be8s,List.length_append,zaq,zcu l,List.length_cons];omega
theorem zcH (B:Nat) (v:Value) (bs:List Int) (g n:Nat) (xs:List Int) (hxs:∀ x ∈ xs,i64P x) (hl:xs.length=n) (hm:bs.length+8*n≤900000) (w:World) (ho:Own w B v bs) (hB:B≤w.heap.size)
  (hg:Blk w g 2 (xs.map (Value.int .i64)).toArray) :
  Calls Tryz.prog 221 #[v,.slice (some ⟨g,0,none⟩) n n] w fun e w'=>∃ v',e=.returned v'∧Own w' B v' (bs++be8s xs)∧FrU B w w':=by
 have HO:=zhz ho
 have HBS:=zhz hB
 have HG:=zhz hg
 have HL:=zhz hl
 have HX:=zhz hxs
 have hnb:(n:Int)≤900000:=by omega
 clear ho hB hg hl hxs
 go_enter Tryz.func221,Tryz.ntmps221
 go_wp2
 go_loopg [0,9] n (fun k v s9 wr=>∃ i:Nat,i≤n∧k=n - i∧s9=.int .i64 (i:Int)∧Own wr B v (bs++be8s (xs.take i))∧FrU B w wr)
 case atStart=>exact ⟨0,by omega,by omega,rfl,by simpa [be8s] using HO.out,FrU.refl _ _⟩
 case round =>
  obtain ⟨i,hi,hkk,rfl,hown,hf⟩:=hrel
  have HK:=zhz hkk
  have HOW:=zhz hown
  have HF:=zhz hf
  clear hkk hown hf
  by_cases hin:i<n
  ·have hix:i<xs.length:=by rw [HL.out];exact hin
   obtain ⟨x,hx⟩:=zeq (xs[i])
   have HXI:=zhz (HX.out x (by rw [hx];exact List.getElem_mem hix))
   have HS:=zhz (show (bs++be8s (xs.take i))++be 8 x=bs++be8s (xs.take (i+1)) from by rw [List.take_succ_eq_append_getElem hix,zfW,← hx,List.append_assoc];simp [be8s])
   have hb:=(HF.out.blk HG.out (.inr (by decide))).rd i
   rw [List.getElem?_toArray,List.getElem?_map,zge hix,← hx] at hb
   simp only [Option.map_some] at hb
   clear hx
   have CN:=zhz (zkb B _ _ x HXI.out (by rw [List.length_append,zcu,List.length_take];omega) _ HOW.out (by have:=HBS.out;have:=HF.out.size;omega))
   go_wp2_with (go_at_call 54;((with_reducible refine CN.out.mono ?_);rintro e w4 ⟨v4,rfl,o4,f4⟩;have O4:=zhz o4;have F4:=zhz f4;clear o4 f4))
   go_roundg (n - (i+1))
   case measure=>have:=HK.out;omega
   case rel=>exact ⟨i+1,by omega,by omega,by go_num,by rw [← HS.out];exact O4.out,HF.out.trans F4.out⟩
  ·have hie:i=n:=by omega
   subst hie
   go_wp2
   go_ret
   refine ⟨_,rfl,?_,HF.out⟩
   have:=HOW.out
   rw [List.take_of_length_le (by rw [HL.out];exact Nat.le_refl _)] at this
   exact this
end
section
open Go.ChangeShapes Go.WideShapes Go.ChangeAt Go.RowKit
abbrev ansC (v rem ret:Int):Array Value:=#[.int .i64 v,.int .i64 rem,.int .i64 ret]
abbrev totC (a d b c wt:Int):Array Value:=#[.int .i64 a,.int .i64 d,.int .i64 b,.int .i64 c,.int .i64 wt]
theorem zcG {P:Int→Prop} {a b:Int} (ha:P a) (hb:P b):∀ x ∈ [a,b],P x:=by
 intro x hx
 simp only [List.mem_cons,List.not_mem_nil,or_false] at hx
 rcases hx with rfl | rfl <;> assumption
theorem zj5 {P:Int→Prop} {a b c d e:Int} (ha:P a) (hb:P b) (hc:P c) (hd:P d) (he:P e):∀ x ∈ [a,b,c,d,e],P x:=by
 intro x hx
 simp only [List.mem_cons,List.not_mem_nil,or_false] at hx
 rcases hx with rfl | rfl | rfl | rfl | rfl <;> assumption
theorem zdu:∀ l,byt (be8s l)
 | []=>by intro z hz;cases hz
 | x :: l=>zaO (zbL _ _) (zdu l)
theorem zkN (op v rem ret:Int):[128+op,v]++be8s [rem,ret]=ansZ op v rem ret:=by simp [be8s,ansZ]
theorem zlc (rule a d b c wt:Int):[131,rule]++be8s [a,d,b,c,wt]=totZ rule a d b c wt:=by simp [be8s,totZ]
theorem zbp (op v rem ret:Int):(ansZ op v rem ret).length=18:=by unfold ansZ;simp [zaq]
theorem zcb (rule a d b c wt:Int):(totZ rule a d b c wt).length=42:=by unfold totZ;simp [zaq]
theorem ans_byt {op v rem ret:Int} (ho:op=1∨op=2) (hv:1≤v∧v≤3):byt (ansZ op v rem ret):=by
 rw [← zkN]
 exact zaO (zcG (P:=fun z=>0≤z∧z≤255) (by omega) (by omega)) (zdu _)
theorem zfP {rule a d b c wt:Int} (hr:0≤rule∧rule≤255):byt (totZ rule a d b c wt):=by
 rw [← zlc]
 exact zaO (zcG (P:=fun z=>0≤z∧z≤255) (by omega) (by omega)) (zdu _)
theorem or128 (op:Int) (ho:op=1∨op=2):bits .or .u8 op 128=128+op:=by
 rcases ho with rfl | rfl <;> decide
theorem zcc (op v rem ret:Int) (ho:op=1∨op=2) (hv:1≤v∧v≤3) (h1:i64P rem) (h2:i64P ret) (w:World) :
  Calls Tryz.prog 211 #[.int .i64 op,.agg (ansC v rem ret)] w fun e w'=>∃ v',e=.returned v'∧Own w' w.heap.size v' (frmZ (ansZ op v rem ret))∧Below w.heap.size w w':=by
 have HZ:=zhz (zkN op v rem ret)
 have HBY:=zhz (ans_byt (rem:=rem) (ret:=ret) ho hv)
 obtain ⟨o,hoe⟩:=zeq (128+op)
 have eo:bits .or .u8 op 128=o:=by rw [hoe];exact or128 op ho
 have eop:IntKind.u8.wrap op=op:=by rw [IntKind.wrap_u8];omega
 have ev:IntKind.u8.wrap v=v:=by rw [IntKind.wrap_u8];omega
 rw [← hoe] at HZ
 have HI:=zhz (zcG (P:=i64P) h1 h2)
 clear hoe ho hv h1 h2
 go_enter Tryz.func211,Tryz.ntmps211
 go_upto_region 1 with (fail)
 obtain ⟨w1,hw1,hbk,hbl,hsz1⟩:=zad w (ansC v rem ret) 87
 change Code.wp _ _ _ _ (w.alloc (.cells (ansC v rem ret) 87))
 rw [hw1]
 obtain ⟨b0,hb0⟩:=zeq (w.heap.size)
 rw [← hb0] at hbk hsz1 ⊢
 have HB0:=zhz hb0
 have BL:=zhz hbl
 have SB:=zhz (show b0+1≤w1.heap.size from by rw [hsz1];exact Nat.le_refl _)
 have k1a:=(hbk.alloc (.cells #[.int .u8 o,.int .u8 v] 5)).rd
 have k0:=hbk.rd
 have CN:=zhz (show Calls Tryz.prog 221 #[.slice (some ⟨w1.heap.size,0,none⟩) 2 2,.slice (some ⟨w1.heap.size+1,0,none⟩) 2 2] ((w1.alloc (.cells #[.int .u8 o,.int .u8 v] 5)).alloc (.cells #[.int .i64 rem,.int .i64 ret] 2)) (fun e w'=>∃ v',e=.returned v'∧Own w' (b0+1) v' (ansZ op v rem ret)∧FrU (b0+1) ((w1.alloc (.cells #[.int .u8 o,.int .u8 v] 5)).alloc (.cells #[.int .i64 rem,.int .i64 ret] 2)) w') from by
  rw [← HZ.out]
  exact zcH (b0+1) _ [o,v] (w1.heap.size+1) 2 [rem,ret] HI.out rfl (by simp) _ ((zb5 w1 (b0+1) 2 [o,v] SB.out rfl (by unfold maxLen;omega)).below ((Below.refl _ _).alloc (Nat.le_refl _) (.cells #[.int .i64 rem,.int .i64 ret] 2))) (by have:=SB.out;simp;omega) (zfQ w1 (.cells #[.int .u8 o,.int .u8 v] 5) #[.int .i64 rem,.int .i64 ret] 2))
 have BL3:=zhz ((BL.out.alloc BL.out.size (.cells #[.int .u8 o,.int .u8 v] 5)).alloc (by have:=BL.out.size;simp;omega) (.cells #[.int .i64 rem,.int .i64 ret] 2))
 clear hbk hbl hsz1 hw1 hb0
 go_wp2_with (first
  | (go_at_call 221;((with_reducible refine CN.out.mono ?_);rintro e w4 ⟨v4,rfl,o4,f4⟩;obtain ⟨g4,c4,rfl,r4,_⟩:=zdR o4 HBY.out 18 (zbp _ _ _ _) (by omega);have R4:=zhz r4;have BL4:=zhz (BL3.out.trans ((f4.more (Nat.le_succ b0)).below (by have:=SB.out;simp;omega) |>.mono (by have:=HB0.out;omega)));clear o4 f4 r4))
  | (go_at_call 56;((with_reducible refine (zbs 168 (by omega) _ 18 _ _ (by omega) _ R4.out).mono ?_);rintro e w5 ⟨v5,rfl,o5,b5⟩;have O5:=zhz o5;have BL5:=zhz (BL4.out.trans (b5.mono BL4.out.size));clear o5 b5)))
 go_ret
 refine ⟨v5,rfl,?_,BL5.out⟩
 have:=O5.out.more (base':=w.heap.size) BL4.out.size
 unfold frmZ
 rw [zbp]
 exact this
theorem zeW (rule a d b c wt:Int) (hr:0≤rule∧rule≤255) (h1:i64P a) (h2:i64P d) (h3:i64P b) (h4:i64P c) (h5:i64P wt) (w:World) :
  Calls Tryz.prog 213 #[.int .i64 rule,.agg (totC a d b c wt)] w fun e w'=>∃ v',e=.returned v'∧Own w' w.heap.size v' (frmZ (totZ rule a d b c wt))∧Below w.heap.size w w':=by
 have HZ:=zhz (zlc rule a d b c wt)
 have HBY:=zhz (zfP (a:=a) (d:=d) (b:=b) (c:=c) (wt:=wt) hr)
 have eop:IntKind.u8.wrap rule=rule:=by rw [IntKind.wrap_u8];omega
 have HI:=zhz (zj5 (P:=i64P) h1 h2 h3 h4 h5)
 clear hr h1 h2 h3 h4 h5
 go_enter Tryz.func213,Tryz.ntmps213
 go_upto_region 1 with (fail)
 obtain ⟨w1,hw1,hbk,hbl,hsz1⟩:=zad w (totC a d b c wt) 84
 change Code.wp _ _ _ _ (w.alloc (.cells (totC a d b c wt) 84))
 rw [hw1]
 obtain ⟨b0,hb0⟩:=zeq (w.heap.size)
 rw [← hb0] at hbk hsz1 ⊢
 have HB0:=zhz hb0
 have BL:=zhz hbl
 have SB:=zhz (show b0+1≤w1.heap.size from by rw [hsz1];exact Nat.le_refl _)
 have k1a:=(hbk.alloc (.cells #[.int .u8 131,.int .u8 rule] 5)).rd
 have k0:=hbk.rd
 have CN:=zhz (show Calls Tryz.prog 221 #[.slice (some ⟨w1.heap.size,0,none⟩) 2 2,.slice (some ⟨w1.heap.size+1,0,none⟩) 5 5] ((w1.alloc (.cells #[.int .u8 131,.int .u8 rule] 5)).alloc (.cells #[.int .i64 a,.int .i64 d,.int .i64 b,.int .i64 c,.int .i64 wt] 2)) (fun e w'=>∃ v',e=.returned v'∧Own w' (b0+1) v' (totZ rule a d b c wt)∧FrU (b0+1) ((w1.alloc (.cells #[.int .u8 131,.int .u8 rule] 5)).alloc (.cells #[.int .i64 a,.int .i64 d,.int .i64 b,.int .i64 c,.int .i64 wt] 2)) w') from by
  rw [← HZ.out]
  exact zcH (b0+1) _ [131,rule] (w1.heap.size+1) 5 [a,d,b,c,wt] HI.out rfl (by simp) _ ((zb5 w1 (b0+1) 2 [131,rule] SB.out rfl (by unfold maxLen;omega)).below ((Below.refl _ _).alloc (Nat.le_refl _) (.cells #[.int .i64 a,.int .i64 d,.int .i64 b,.int .i64 c,.int .i64 wt] 2))) (by have:=SB.out;simp;omega) (zfQ w1 (.cells #[.int .u8 131,.int .u8 rule] 5) #[.int .i64 a,.int .i64 d,.int .i64 b,.int .i64 c,.int .i64 wt] 2))
 have BL3:=zhz ((BL.out.alloc BL.out.size (.cells #[.int .u8 131,.int .u8 rule] 5)).alloc (by have:=BL.out.size;simp;omega) (.cells #[.int .i64 a,.int .i64 d,.int .i64 b,.int .i64 c,.int .i64 wt] 2))
 clear hbk hbl hsz1 hw1 hb0
 go_wp2_with (first
  | (go_at_call 221;((with_reducible refine CN.out.mono ?_);rintro e w4 ⟨v4,rfl,o4,f4⟩;obtain ⟨g4,c4,rfl,r4,_⟩:=zdR o4 HBY.out 42 (zcb _ _ _ _ _ _) (by omega);have R4:=zhz r4;have BL4:=zhz (BL3.out.trans ((f4.more (Nat.le_succ b0)).below (by have:=SB.out;simp;omega) |>.mono (by have:=HB0.out;omega)));clear o4 f4 r4))
  | (go_at_call 56;((with_reducible refine (zbs 168 (by omega) _ 42 _ _ (by omega) _ R4.out).mono ?_);rintro e w5 ⟨v5,rfl,o5,b5⟩;have O5:=zhz o5;have BL5:=zhz (BL4.out.trans (b5.mono BL4.out.size));clear o5 b5)))
 go_ret
 refine ⟨v5,rfl,?_,BL5.out⟩
 have:=O5.out.more (base':=w.heap.size) BL4.out.size
 unfold frmZ
 rw [zcb]
 exact this
theorem zlw {e:Int} (h:0≤e∧e≤255):byt (errZ e):=zcG (P:=fun z=>0≤z∧z≤255) (by omega) h
theorem ze5 (x:Int) (h:0≤x∧x≤255) (w:World) :
  Calls Tryz.prog 131 #[.int .i64 x] w fun e w'=>∃ v',e=.returned v'∧Own w' w.heap.size v' (frmZ (errZ x))∧Below w.heap.size w w':=by
 have ex:IntKind.u8.wrap x=x:=by rw [IntKind.wrap_u8];omega
 have RL:=zhz (show RdI (w.alloc (.cells #[.int .u8 255,.int .u8 x] 5)) .u8 (some ⟨w.heap.size,0,none⟩) 2 2 [255,x] from zbh (heap_alloc_new w _) rfl (by unfold maxLen;omega) (fun z hz=>zbK (zlw h z hz)))
 have BL:=zhz ((Below.refl w.heap.size w).alloc (Nat.le_refl _) (.cells #[.int .u8 255,.int .u8 x] 5))
 clear h
 go_enter Tryz.func131,Tryz.ntmps131
 go_wp2_with (go_at_call 56;((with_reducible refine (zbs 168 (by omega) _ 2 _ _ (by omega) _ RL.out).mono ?_);rintro e w5 ⟨v5,rfl,o5,b5⟩;have O5:=zhz o5;have BL5:=zhz (BL.out.trans (b5.mono BL.out.size));clear o5 b5))
 go_ret
 refine ⟨v5,rfl,?_,BL5.out⟩
 exact O5.out.more (base':=w.heap.size) BL.out.size
end
section
open Go.ChangeShapes Go.WideShapes Go.ChangeAt Go.RowKit
end
section
open Go.ChangeShapes Go.WideShapes Go.ChangeAt Go.RowKit
theorem zfu (op rule cost k:Int) (s:ByteArray) (w:World) (h:rightP (mkR op rule cost s k) 256) (hc:0≤cost∧cost<4294967296) :
  Calls Tryz.prog 45 #[reqV op rule cost s k] w fun e w'=>∃ v,e=.returned v∧Own w' w.heap.size v (encZ (mkR op rule cost s k))∧Below w.heap.size w w':=by
 have H:=zhz h
 obtain ⟨hr,ho⟩:=zko h
 have hsz:s.size≤64:=by rcases ho with h | ⟨_,_,rfl,_⟩ | ⟨_,_,rfl,_⟩ <;> first | exact h.2.1 | decide
 have HRL:=zhz hr
 have er:IntKind.u8.wrap rule=rule:=by rw [IntKind.wrap_u8];omega
 clear hr
 rcases ho with ⟨h1,h2,h3⟩ | ⟨rfl,rfl,rfl,rfl⟩ | ⟨rfl,rfl,rfl,hk0,hk1⟩
 ·subst h3
  have H1:=zhz h1
  have eo:IntKind.u8.wrap op=op:=by rw [IntKind.wrap_u8];omega
  have ec:IntKind.u64.wrap cost=cost:=by rw [IntKind.wrap_u64];omega
  have es:IntKind.u8.wrap (s.size:Int)=(s.size:Int):=by rw [IntKind.wrap_u8];omega
  have en:IntKind.u8.wrap (7+(s.size:Int))=7+(s.size:Int):=by rw [IntKind.wrap_u8];omega
  have t4:(op==4)=false:=by rcases h1 with rfl | rfl <;> rfl
  have t3:op<3:=by omega
  have hsz1:(s.size:Int)≤64:=by omega
  clear h h1
  go_enter Tryz.func45,Tryz.ntmps45
  go_upto_region 1 with (fail)
  obtain ⟨w1,hw1,hbk,hbl,hsz1⟩:=zad w (reqC op rule cost s 0) 76
  change Code.wp _ _ _ _ (w.alloc (.cells (reqC op rule cost s 0) 76))
  rw [hw1]
  obtain ⟨b0,hb0⟩:=zeq (w.heap.size)
  rw [← hb0] at hbk hsz1 ⊢
  have HB0:=zhz hb0
  have BK:=zhz hbk
  have BL:=zhz hbl
  have k0:=hbk.rd
  have SB:=zhz (show b0+1≤w1.heap.size from by rw [hsz1];exact Nat.le_refl _)
  clear hbk hbl hsz1 hw1 hb0
  have k1a:=(BK.out.alloc (.cells #[.int .u8 167,.int .u8 1,.int .u8 0,.int .u8 (7+(s.size:Int)),.int .u8 op,.int .u8 rule] 5)).rd
  have OL:=zhz (show Own (w1.alloc (.cells #[.int .u8 167,.int .u8 1,.int .u8 0,.int .u8 (7+(s.size:Int)),.int .u8 op,.int .u8 rule] 5)) (b0+1) (.slice (some ⟨w1.heap.size,0,none⟩) 6 6) [167,1,0,7+(s.size:Int),op,rule] from zb5 w1 (b0+1) 6 [167,1,0,7+(s.size:Int),op,rule] SB.out rfl (by unfold maxLen;omega))
  have BL2:=zhz (BL.out.alloc BL.out.size (.cells #[.int .u8 167,.int .u8 1,.int .u8 0,.int .u8 (7+(s.size:Int)),.int .u8 op,.int .u8 rule] 5))
  have BK2:=zhz (BK.out.alloc (.cells #[.int .u8 167,.int .u8 1,.int .u8 0,.int .u8 (7+(s.size:Int)),.int .u8 op,.int .u8 rule] 5))
  have HZW:=zhz (show ∀ z ∈ [(s.size:Int)],(Lit.int .u8 z).wf=true from by intro z hz;apply zbK;simp only [List.mem_singleton] at hz;rw [hz];omega)
  have HENC:=zhz (show (([167,1,0,7+(s.size:Int),op,rule]++be 4 cost)++[(s.size:Int)])++numsC s=encZ (mkR op rule cost s 0) from by
   unfold encZ mkR
   simp only
   rw [if_pos t3,zaC]
   simp)
  go_wp2_with (first
   | (go_at_call 72;((with_reducible refine (zm3 (b0+1) _ [167,1,0,7+(s.size:Int),op,rule] cost 4 4 rfl (by omega) (by omega) (by simp) _ OL.out (by have:=SB.out;simp;omega)).mono ?_);rintro e w4 ⟨v4,rfl,o4,f4⟩;have O4:=zhz o4;have BK4:=zhz (BK2.out.fr f4 (by omega));have BL4:=zhz (BL2.out.trans (f4.below BL2.out.size (fun k hk=>by have:=HB0.out;omega)));have SB4:=zhz (show b0+1≤w4.heap.size from by have:=SB.out;have:=f4.size;simp at this;omega);have k4:=BK4.out.rd;have R5:=zhz (show RdI (w4.alloc (.cells #[.int .u8 (s.size:Int)] 5)) .u8 (some ⟨w4.heap.size,0,none⟩) 1 1 [(s.size:Int)] from zbh (heap_alloc_new w4 _) rfl (by unfold maxLen;omega) HZW.out);clear o4 f4))
   | (at_builtin;refine zaF (by rfl) _ _ 1 (by rfl) (by rfl) (by rfl) (O4.out.below ((Below.refl _ _).alloc (Nat.le_refl _) _)) R5.out (by simp [zaq]) (by have:=SB4.out;simp;omega) ?_;intro v5 w5 o5 hg5;have O5:=zhz o5;have FR5:=zhz ((fr_row hg5).mono (G:=fun k=>b0+1≤k) (fun g hg=>(O4.out.lt g hg).1));have BK5:=zhz ((BK4.out.alloc _).fr FR5.out (by omega));have BL5:=zhz ((BL4.out.alloc BL4.out.size _).trans (FR5.out.below (by have:=BL4.out.size;simp;omega) (fun k hk=>by have:=HB0.out;omega)));have SB5:=zhz (show b0+1≤w5.heap.size from by have:=SB4.out;have:=FR5.out.size;simp at this;omega);have k5:=BK5.out.rd;clear o5 hg5)
   | (at_builtin;refine zcU (by rfl) _ _ (by rfl) (by rfl) s (by rfl) O5.out (by simp [zaq];omega) SB5.out ?_;intro v6 w6 o6 hg6;have O6:=zhz o6;have FR6:=zhz ((fr_row hg6).mono (G:=fun k=>b0+1≤k) (fun g hg=>(O5.out.lt g hg).1));have BK6:=zhz (BK5.out.fr FR6.out (by omega));have BL6:=zhz (BL5.out.trans (FR6.out.below BL5.out.size (fun k hk=>by have:=HB0.out;omega)));have k6:=BK6.out.rd;clear o6 hg6))
  go_ret
  refine ⟨v6,rfl,?_,BL6.out⟩
  rw [← HENC.out]
  exact O6.out.more (by have:=HB0.out;omega)
 ·clear h
  go_enter Tryz.func45,Tryz.ntmps45
  go_upto_region 1 with (fail)
  obtain ⟨w1,hw1,hbk,hbl,hsz1⟩:=zad w (reqC 3 rule 0 ⟨#[]⟩ 0) 76
  change Code.wp _ _ _ _ (w.alloc (.cells (reqC 3 rule 0 ⟨#[]⟩ 0) 76))
  rw [hw1]
  obtain ⟨b0,hb0⟩:=zeq (w.heap.size)
  rw [← hb0] at hbk hsz1 ⊢
  have HB0:=zhz hb0
  have BL:=zhz hbl
  have k0:=hbk.rd
  have k1a:=(hbk.alloc (.cells #[.int .u8 167,.int .u8 1,.int .u8 0,.int .u8 2,.int .u8 3,.int .u8 rule] 5)).rd
  have SB:=zhz (show b0+1≤w1.heap.size from by rw [hsz1];exact Nat.le_refl _)
  clear hbk hbl hsz1 hw1 hb0
  go_wp2
  go_ret
  refine ⟨_,rfl,?_,BL.out.alloc BL.out.size _⟩
  exact zb5 w1 w.heap.size 6 [167,1,0,2,3,rule] BL.out.size rfl (by unfold maxLen;omega)
 ·have ek:IntKind.u8.wrap k=k:=by rw [IntKind.wrap_u8];omega
  have HKB:=zhz (And.intro hk0 hk1)
  clear h hk0 hk1
  go_enter Tryz.func45,Tryz.ntmps45
  go_upto_region 1 with (fail)
  obtain ⟨w1,hw1,hbk,hbl,hsz1⟩:=zad w (reqC 4 rule 0 ⟨#[]⟩ k) 76
  change Code.wp _ _ _ _ (w.alloc (.cells (reqC 4 rule 0 ⟨#[]⟩ k) 76))
  rw [hw1]
  obtain ⟨b0,hb0⟩:=zeq (w.heap.size)
  rw [← hb0] at hbk hsz1 ⊢
  have HB0:=zhz hb0
  have BL:=zhz hbl
  have k0:=hbk.rd
  have k1a:=(hbk.alloc (.cells #[.int .u8 167,.int .u8 1,.int .u8 0,.int .u8 3,.int .u8 4,.int .u8 rule] 5)).rd
  have SB:=zhz (show b0+1≤w1.heap.size from by rw [hsz1];exact Nat.le_refl _)
  clear hbk hbl hsz1 hw1 hb0
  have HKW:=zhz (show ∀ z ∈ [k],(Lit.int .u8 z).wf=true from by have:=HKB.out;intro z hz;apply zbK;simp at hz;omega)
  have OL:=zhz (show Own (w1.alloc (.cells #[.int .u8 167,.int .u8 1,.int .u8 0,.int .u8 3,.int .u8 4,.int .u8 rule] 5)) (b0+1) (.slice (some ⟨w1.heap.size,0,none⟩) 6 6) [167,1,0,3,4,rule] from zb5 w1 (b0+1) 6 [167,1,0,3,4,rule] SB.out rfl (by unfold maxLen;omega))
  have R3:=zhz (show RdI ((w1.alloc (.cells #[.int .u8 167,.int .u8 1,.int .u8 0,.int .u8 3,.int .u8 4,.int .u8 rule] 5)).alloc (.cells #[.int .u8 k] 5)) .u8 (some ⟨w1.heap.size+1,0,none⟩) 1 1 [k] from zbh (zfQ w1 _ _ _) rfl (by unfold maxLen;omega) HKW.out)
  go_wp2_with (at_builtin;refine zaF (by rfl) _ _ 1 (by rfl) (by rfl) (by rfl) (OL.out.below ((Below.refl _ _).alloc (Nat.le_refl _) _)) R3.out (by simp) (by have:=SB.out;simp;omega) ?_;intro v4 w4 o4 hg4;have O4:=zhz o4;have BL5:=zhz (((BL.out.alloc BL.out.size _).alloc (by have:=BL.out.size;simp;omega) _).trans ((fr_row hg4).below (by have:=BL.out.size;simp;omega) (fun g hg=>by have:=(OL.out.lt g hg).1;have:=HB0.out;omega)));clear o4 hg4)
  go_ret
  refine ⟨v4,rfl,?_,BL5.out⟩
  exact O4.out.more (by have:=HB0.out;omega)
end
end Go.Proofs.YtannniobeanhlaaGreat
