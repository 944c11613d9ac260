import Derived.Test.YtannniobeanhlaaGreatZKy
import Derived.Test.YtannniobeanhlaaGreatHashR
import Derived.Test.YtannniobeanhlaaGreatZMap
import Derived.Test.YtannniobeanhlaaGreatZArSum
set_option linter.unusedSimpArgs false
set_option linter.unusedVariables false
set_option maxRecDepth 100000
set_option maxHeartbeats 9000000
namespace Go.Proofs.YtannniobeanhlaaGreat
open Go.ChangeShapes Go.WideShapes Go.ChangeAt Go.RowKit
abbrev natC (k:IntKind) (l:List Nat):Array Value:=(l.map fun x:Nat=>Value.int k (x:Int)).toArray
theorem za2 (k:IntKind) (l:List Nat) (i:Nat) (h:i<l.length):(natC k l)[i]?=some (.int k ((l.getD i 0:Nat):Int)):=by
 unfold natC
 rw [List.getElem?_toArray,List.getElem?_map,zge h]
 simp [List.getD,h]
theorem zdN (k:IntKind) (l:List Nat) (i v:Nat):(natC k l).setIfInBounds i (.int k (v:Int))=natC k (l.set i v):=by
 unfold natC;simp only [List.map_set,zs1]
theorem zbQ (l:List Nat) (i v:Nat) (hi:i<l.length):(fun j=>(l.set i v).getD j 0)=Ix.upN (fun j=>l.getD j 0) i v:=by
 funext j
 simp only [Ix.upN,List.getD,List.getElem?_set]
 by_cases h:i=j
 ·subst h;simp [hi]
 ·rw [if_neg h,if_neg (fun e=>h e.symm)]
theorem Calls.hold {S:World→Prop} {f:Nat} {args:Array Value} {v:Value} {w:World} (hS:∀ b,Below w.heap.size w b→S b)
  (c:Calls Tryz.prog f args w fun e w'=>e=.returned v∧Below w.heap.size w w'):Calls Tryz.prog f args w fun e w'=>e=.returned v∧S w' :=
 c.mono (fun _ _ hh=>⟨hh.1,hS _ hh.2⟩)
theorem zae {W0 w w':World} (h:Below W0.heap.size W0 w) (b:Below w.heap.size w w'):Below W0.heap.size W0 w':=h.trans (b.mono h.size)
abbrev ixC (b X A B g m:Nat):Array Value:=#[.pointer (some ⟨b,0,none⟩),.int .u64 (X:Int),.int .u64 (A:Int),.int .u64 (B:Int),.slice (some ⟨g,0,none⟩) m m]
structure IxMem (w:World) (x b X A B g gb gs gf n m:Nat) (fl:List Nat) (K:Nat→Option ByteArray) (L:List Nat):Prop where
 hx:Blk w x 222 (ixC b X A B g m)
 hg:Blk w g 74 (natC .u32 L)
 len:L.length=m
 sz:m=2*n+1
 ks:KeysIn w b gb gs gf n fl K
 lX:X<2305843009213693951
 lA:A<2305843009213693951
 lB:B<2305843009213693951
 ne:x≠g∧x≠b∧x≠gb∧x≠gs∧x≠gf∧g≠b∧g≠gb∧g≠gs∧g≠gf
def ixH (X A B m:Nat) (s:ByteArray):Nat:=plc (Ha.hof X A B s.data.toList) (m:Int)
theorem zmr (X A B:Nat) {m:Nat} (hm:1≤m) (s:ByteArray):ixH X A B m s<m:=by
 have:=zk7 (Ha.hof X A B s.data.toList) (n:=(m:Int)) (by omega)
 rw [Int.toNat_natCast] at this
 exact this
theorem IxMem.keep {W w:World} {x b X A B g gb gs gf n m:Nat} {fl:List Nat} {K:Nat→Option ByteArray} {L:List Nat} (h:IxMem W x b X A B g gb gs gf n m fl K L) (hb:Below W.heap.size W w):IxMem w x b X A B g gb gs gf n m fl K L :=
 ⟨h.hx.keep hb,h.hg.keep hb,h.len,h.sz,h.ks.keep hb,h.lX,h.lA,h.lB,h.ne⟩
theorem zii (X A B:Nat) (hX:X<2305843009213693951) (hA:A<2305843009213693951) (hB:B<2305843009213693951) (s:ByteArray) (hs:s.size≤maxLen) (m:Nat) (hm:m≤131073) (w:World) :
  Calls Tryz.prog 147 #[.agg #[.int .u64 X,.int .u64 A,.int .u64 B],.string s,.int .i64 (m:Int)] w fun e w'=>e=.returned (.int .i64 (ixH X A B m s:Nat))∧Below w.heap.size w w' :=
 zcY X A B hX hA hB s hs (m:Int) (by omega) w
section
variable {x b X A B g gb gs gf n m:Nat} {fl:List Nat} {K:Nat→Option ByteArray} {L:List Nat}
theorem zbD (p:Nat) (w:World) (h:IxMem w x b X A B g gb gs gf n m fl K L) (hp:p<m):Calls Tryz.prog 149 #[.pointer (some ⟨x,0,none⟩),.int .i64 (p:Int)] w fun e w'=>e=.returned (.int .i64 (Ix.nxt m p:Nat))∧w=w':=by
 have k:=h.hx.rd
 have hn:=h.ks.pl.2.1
 have hm:=h.sz
 have t1:(p:Int)≤131073:=by omega
 obtain ⟨r,hr⟩:=zeq (Ix.nxt m p)
 have hor:=Ix.nxt_or m p
 rw [← hr] at hor ⊢
 clear h hn hm hr
 rcases hor with ⟨h1,h2⟩ | ⟨h1,h2⟩
 ·subst h2
  have t2:((p:Int)+1==(m:Int))=true:=beq_iff_eq.2 (by omega)
  have t3:(p:Int)+1=(m:Int):=by omega
  clear h1 hp t3
  go_enter Tryz.func149,Tryz.ntmps149
  go_wp2
  go_ret
  exact ⟨rfl,rfl⟩
 ·subst h2
  have t2:((p:Int)+1==(m:Int))=false:=beq_eq_false_iff_ne.2 (by omega)
  clear h1 hp
  go_enter Tryz.func149,Tryz.ntmps149
  go_wp2
  go_ret
  exact ⟨zau (by omega),rfl⟩
theorem zc3 (p q:Nat) (w:World) (h:IxMem w x b X A B g gb gs gf n m fl K L) (hp:p<m) (hq:q<m):Calls Tryz.prog 268 #[.pointer (some ⟨x,0,none⟩),.int .i64 (p:Int),.int .i64 (q:Int)] w fun e w'=>e=.returned (.int .i64 (Ix.dst m p q:Nat))∧w=w':=by
 have k:=h.hx.rd
 have hn:=h.ks.pl.2.1
 have hm:=h.sz
 have t1:(p:Int)≤131073:=by omega
 have t2:(q:Int)≤131073:=by omega
 have t3:(m:Int)≤131073:=by omega
 obtain ⟨r,hr⟩:=zeq (Ix.dst m p q)
 have hor:=Ix.dst_or m p q
 rw [← hr] at hor ⊢
 clear h hn hm hr
 rcases hor with ⟨h1,h2⟩ | ⟨h1,h2⟩
 ·have t4:decide (q<p)=true:=by simpa using h1
  have HR:=zhz (show (q:Int)+(m:Int) - (p:Int)=(r:Int) by omega)
  clear h2
  go_enter Tryz.func268,Tryz.ntmps268
  go_wp2
  go_ret
  exact ⟨zau HR.out,rfl⟩
 ·have t4:decide (q<p)=false:=by rw [zdn];omega
  have HR:=zhz (show (q:Int) - (p:Int)=(r:Int) by omega)
  clear h2
  go_enter Tryz.func268,Tryz.ntmps268
  go_wp2
  go_ret
  exact ⟨zau HR.out,rfl⟩
theorem zg1 (p i:Nat) (s:ByteArray) (w:World) (h:IxMem w x b X A B g gb gs gf n m fl K L) (hp:p<m) (hT:L.getD p 0=i+1) (hk:K i=some s):Calls Tryz.prog 269 #[.pointer (some ⟨x,0,none⟩),.int .i64 (p:Int)] w fun e w'=>e=.returned (.int .i64 (ixH X A B m s:Nat))∧Below w.heap.size w w':=by
 have k:=h.hx.rd
 have hn:=h.ks.pl.2.1
 have hm:=h.sz
 have hi:=(h.ks.pl.1.lt (i:=i) (by rw [hk];rfl)).1
 have hs:=h.ks.pl.2.2 i s hk
 obtain ⟨v,hv⟩:=zeq (i+1)
 have k2:w.cell? ⟨g,p,none⟩=some (.int .u32 (v:Int)):=by rw [zag h.hg,za2 _ _ _ (by rw [h.len];exact hp),hT,hv]
 have CK:=zhz (fun wx (hx:Below w.heap.size w wx)=>zdK i s wx (h.ks.keep hx) hi hk)
 have CB:=zhz (fun wx=>zii X A B h.lX h.lA h.lB s (by unfold maxLen;omega) m (by omega) wx)
 have HH:=zhz h
 have t1:(p:Int)<(m:Int):=by omega
 have t2:(m:Int)≤131073:=by omega
 have t3:(i:Int)≤65536:=by omega
 have e1:IntKind.i64.wrap (v:Int)=(v:Int):=by rw [IntKind.wrap_i64];omega
 have e3:IntKind.i64.wrap ((v:Int) - 1)=(i:Int):=by rw [IntKind.wrap_i64];omega
 clear h hn hm hi hs hT hk hp hv
 go_enter Tryz.func269,Tryz.ntmps269
 go_upto_region 1 with (fail)
 have y1:∀ j,w.drew.cell? ⟨x,j,none⟩=(ixC b X A B g m)[j]?:=(Blk.drew HH.out.hx).rd
 have y2:w.drew.cell? ⟨g,p,none⟩=some (.int .u32 (v:Int)):=k2
 have y3:Below w.heap.size w w.drew:=zaa (Below.refl _ _) 1
 have GK:=zhz (fun (wx:World) (hx:Below w.heap.size w wx)=>Calls.hold (S:=fun w'=>(∀ j,w'.cell? ⟨x,j,none⟩=(ixC b X A B g m)[j]?)∧w'.cell? ⟨g,p,none⟩=some (.int .u32 (v:Int))∧Below w.heap.size w w') (fun wb hb=>⟨(HH.out.hx.keep (zae hx hb)).rd,((zae hx hb).cell (zaL k2)).trans k2,zae hx hb⟩) (CK.out wx hx))
 go_region_held3 (fun w'=>(∀ j,w'.cell? ⟨x,j,none⟩=(ixC b X A B g m)[j]?)∧w'.cell? ⟨g,p,none⟩=some (.int .u32 (v:Int))∧Below w.heap.size w w') (first | (refine ⟨?_,?_,?_⟩ <;> assumption) | go_keep)
   ((go_at_call 112;((with_reducible refine (GK.out _ (by assumption)).mono ?_);rintro e w1 ⟨rfl,z0,z1,z2⟩)))
 clear GK y1 y2 y3
 go_upto_region 2 with (fail)
 have Z2:=zhz z2
 have y1:∀ j,w1.drew.cell? ⟨x,j,none⟩=(ixC b X A B g m)[j]?:=z0
 have y3:Below w.heap.size w w1.drew:=zaa z2 1
 clear z0 z1 z2
 have GB:=zhz (fun (wx:World) (hx:Below w.heap.size w wx)=>Calls.hold (S:=fun w'=>(∀ j,w'.cell? ⟨x,j,none⟩=(ixC b X A B g m)[j]?)∧Below w.heap.size w w') (fun wb hb=>⟨(HH.out.hx.keep (zae hx hb)).rd,zae hx hb⟩) (CB.out wx))
 go_region_held3 (fun w'=>(∀ j,w'.cell? ⟨x,j,none⟩=(ixC b X A B g m)[j]?)∧Below w.heap.size w w') (first | (refine ⟨?_,?_⟩ <;> assumption) | go_keep)
   ((go_at_call 147;((with_reducible refine (GB.out _ (by assumption)).mono ?_);rintro e w2 ⟨rfl,z0,z2⟩)))
 clear GB y1 y3
 go_wp2
 go_ret
 exact ⟨rfl,z2⟩
end
theorem zmM {s t:ByteArray} (h:t≠s):(t.toList==s.toList)=false :=
 beq_eq_false_iff_ne.2 (fun e=>h (ByteArray.ext (Array.toList_inj.1 (by rw [ByteArray.toList_eq,ByteArray.toList_eq] at e;exact e))))
theorem zih {K:Nat→Option ByteArray} {n i:Nat} {s t:ByteArray} (hk:K i=some t) (h:t≠s):isB K n (i:Int) s=false:=by
 unfold isB;simp only [Int.toNat_natCast,hk,zmM h,Bool.and_false]
theorem zjZ {K:Nat→Option ByteArray} {n i:Nat} {s:ByteArray} (hk:K i=some s) (h:i<n):isB K n (i:Int) s=true:=by
 unfold isB;simp [hk,h]
def SeekP (w:World) (m:Nat) (f:ByteArray→Nat) (K:Nat→Option ByteArray) (L:List Nat) (s:ByteArray) (e:Ending) (w':World):Prop :=
 ∃ (p:Nat) (b:Bool),e=.returned (.tuple #[.int .i64 (p:Int),.bool b])∧p<m∧(b=true→∃ i,L.getD p 0=i+1∧K i=some s)∧(b=false→L.getD p 0=0∧Ix.Far m f K (fun q=>L.getD q 0) s (Ix.dst m (f s) p))∧Below w.heap.size w w'
section
variable {x b X A B g gb gs gf n m:Nat} {fl:List Nat} {K:Nat→Option ByteArray} {L:List Nat}
theorem zc5 (s:ByteArray) (hs:s.size≤maxLen) (w:World) (h:IxMem w x b X A B g gb gs gf n m fl K L) (t:Ix.Tab m n (ixH X A B m) K (fun q=>L.getD q 0)) :
  Calls Tryz.prog 113 #[.pointer (some ⟨x,0,none⟩),.string s] w (SeekP w m (ixH X A B m) K L s):=by
 have k:=h.hx.rd
 have hn:=h.ks.pl.2.1
 have hm:=h.sz
 have CB:=zhz (fun wx=>zii X A B h.lX h.lA h.lB s hs m (by omega) wx)
 have HH:=zhz h
 have TT:=zhz t
 have HM:=zhz hm
 have t2:(m:Int)≤131073:=by omega
 obtain ⟨f0,hf0⟩:=zeq (ixH X A B m s)
 have hfl:=t.home s
 rw [← hf0] at CB hfl
 have HF:=zhz hf0
 clear h hm t hs hf0 hn
 go_enter Tryz.func113,Tryz.ntmps113
 go_upto_region 3 with (fail)
 have y1:∀ j,w.drew.cell? ⟨x,j,none⟩=(ixC b X A B g m)[j]?:=(Blk.drew HH.out.hx).rd
 have y3:Below w.heap.size w w.drew:=zaa (Below.refl _ _) 1
 have GB:=zhz (fun (wx:World) (hx:Below w.heap.size w wx)=>Calls.hold (S:=fun w'=>(∀ j,w'.cell? ⟨x,j,none⟩=(ixC b X A B g m)[j]?)∧Below w.heap.size w w') (fun wb hb=>⟨(HH.out.hx.keep (zae hx hb)).rd,zae hx hb⟩) (CB.out wx))
 go_region_held3 (fun w'=>(∀ j,w'.cell? ⟨x,j,none⟩=(ixC b X A B g m)[j]?)∧Below w.heap.size w w') (first | (refine ⟨?_,?_⟩ <;> assumption) | go_keep)
   ((go_at_call 147;((with_reducible refine (GB.out _ (by assumption)).mono ?_);rintro e w2 ⟨rfl,z0,z2⟩)))
 clear GB y1 y3 k
 have k:=z0
 have Z2:=zhz z2
 clear z2
 go_wp2
 clear k z0
 go_loopg [6,25] m (fun k sa si wr=>∃ p d:Nat,sa=.int .i64 (p:Int)∧si=.int .i64 (d:Int)∧p<m∧Hid (d=Ix.dst m (ixH X A B m s) p)∧k=m - d∧Hid (Ix.Far m (ixH X A B m) K (fun q=>L.getD q 0) s d)∧Below w.heap.size w wr)
 case atStart=>exact ⟨f0,0,rfl,rfl,hfl,zhz (by rw [← HF.out,Ix.dst_self]),by omega,zhz (Ix.far_zero _ _ _ _ _),Z2.out⟩
 case round =>
  obtain ⟨p,d,rfl,rfl,hp,HD,hkk,FR,hb⟩:=hrel
  have hdm:=Ix.far_more TT.out FR.out
  have HB:=zhz hb
  have HR:=zhz (HH.out.keep hb)
  have HK:=zhz hkk
  clear hb hkk
  have k:=HR.out.hx.rd
  have t1:(d:Int)<(m:Int):=by omega
  have t3:(p:Int)<(m:Int):=by omega
  have t4:decide (d<m)=true:=by simpa using hdm
  obtain ⟨v,hv⟩:=zeq (L.getD p 0)
  have k2:wr.cell? ⟨g,p,none⟩=some (.int .u32 (v:Int)):=by rw [zag HR.out.hg,za2 _ _ _ (by rw [HR.out.len];exact hp),hv]
  by_cases hv0:v=0
  ·have k3:wr.cell? ⟨g,p,none⟩=some (.int .u32 0):=by rw [k2,hv0];rfl
   have HV:=zhz (hv.symm.trans hv0)
   clear k2 hv hv0
   go_wp2
   go_ret2
   exact ⟨p,false,rfl,hp,(fun e=>by cases e),(fun _=>⟨HV.out,by rw [← HD.out];exact FR.out⟩),HB.out⟩
  ·have hok:=TT.out.ok p hp (by show L.getD p 0≠0;rw [← hv];exact hv0)
   obtain ⟨s',hk',_⟩:=hok
   have hk':K (L.getD p 0 - 1)=some s':=hk'
   obtain ⟨i,hi⟩:∃ i,v=i+1:=⟨v - 1,by omega⟩
   rw [← hv,show v - 1=i by omega] at hk'
   have hin:=TT.out.lt i s' hk'
   have hn:=HR.out.ks.pl.2.1
   have t5:((v:Int)==0)=false:=beq_eq_false_iff_ne.2 (by omega)
   have e1:IntKind.i64.wrap (v:Int)=(v:Int):=by rw [IntKind.wrap_i64];omega
   have e3:IntKind.i64.wrap ((v:Int) - 1)=(i:Int):=by rw [IntKind.wrap_i64];omega
   have HV:=zhz (And.intro hv hi)
   have HI:=zhz hin
   have HK':=zhz hk'
   have y1:∀ j,wr.drew.cell? ⟨x,j,none⟩=(ixC b X A B g m)[j]?:=(Blk.drew HR.out.hx).rd
   have y2:wr.drew.cell? ⟨g,p,none⟩=some (.int .u32 (v:Int)):=k2
   have y3:Below wr.heap.size wr wr.drew:=zaa (Below.refl _ _) 1
   by_cases hss:s'=s
   ·have CI:=zhz (fun wx (hx:Below wr.heap.size wr wx)=>show Calls Tryz.prog 148 #[.pointer (some ⟨b,0,none⟩),.int .i64 (i:Int),.string s] wx (fun e w'=>e=.returned (.bool true)∧Below wx.heap.size wx w') from by
     have:=zk1 (i:Int) s wx (HR.out.ks.keep hx)
     rwa [zjZ (by rw [HK'.out,hss]) HI.out] at this)
    have GK:=zhz (fun (wx:World) (hx:Below wr.heap.size wr wx)=>Calls.hold (S:=fun w'=>(∀ j,w'.cell? ⟨x,j,none⟩=(ixC b X A B g m)[j]?)∧w'.cell? ⟨g,p,none⟩=some (.int .u32 (v:Int))∧Below wr.heap.size wr w') (fun wb hb=>⟨(HR.out.hx.keep (zae hx hb)).rd,((zae hx hb).cell (zaL k2)).trans k2,zae hx hb⟩) (CI.out wx hx))
    have HSS:=zhz hss
    clear hv hi hin hn hk' hss hv0
    go_upto_region 8 with (fail)
    clear k
    go_region_held3 (fun w'=>(∀ j,w'.cell? ⟨x,j,none⟩=(ixC b X A B g m)[j]?)∧w'.cell? ⟨g,p,none⟩=some (.int .u32 (v:Int))∧Below wr.heap.size wr w') (first | (refine ⟨?_,?_,?_⟩ <;> assumption) | go_keep)
      ((go_at_call 148;((with_reducible refine (GK.out _ (by assumption)).mono ?_);rintro e w1 ⟨rfl,z0,z1,z2⟩)))
    clear GK y1 y2 y3
    go_wp2
    go_ret2
    exact ⟨p,true,rfl,hp,(fun _=>⟨i,by rw [← HV.out.1,HV.out.2],by rw [HK'.out,HSS.out]⟩),(fun e=>by cases e),zae HB.out z2⟩
   ·have CI:=zhz (fun wx (hx:Below wr.heap.size wr wx)=>show Calls Tryz.prog 148 #[.pointer (some ⟨b,0,none⟩),.int .i64 (i:Int),.string s] wx (fun e w'=>e=.returned (.bool false)∧Below wx.heap.size wx w') from by
     have:=zk1 (i:Int) s wx (HR.out.ks.keep hx)
     rwa [zih HK'.out hss] at this)
    have GK:=zhz (fun (wx:World) (hx:Below wr.heap.size wr wx)=>Calls.hold (S:=fun w'=>(∀ j,w'.cell? ⟨x,j,none⟩=(ixC b X A B g m)[j]?)∧w'.cell? ⟨g,p,none⟩=some (.int .u32 (v:Int))∧Below wr.heap.size wr w') (fun wb hb=>⟨(HR.out.hx.keep (zae hx hb)).rd,((zae hx hb).cell (zaL k2)).trans k2,zae hx hb⟩) (CI.out wx hx))
    have fs:=Ix.far_step TT.out hp (s:=s) (by rw [← HD.out];exact FR.out) (show L.getD p 0≠0 by omega) (by
     show K (L.getD p 0 - 1)≠some s
     rw [← hv,show v - 1=i by omega,hk']
     intro e;injection e with e;exact hss e)
    rw [← HD.out] at fs
    have hdm2:=Ix.far_more TT.out fs
    have dn:=Ix.dst_nxt (m:=m) (a:=ixH X A B m s) (b:=p) (TT.out.home s) hp (by rw [← HD.out];exact hdm2)
    rw [← HD.out] at dn
    have FS:=zhz (And.intro fs dn)
    have CA:=zhz (fun wx (hx:Below wr.heap.size wr wx)=>zbD p wx (HR.out.keep hx) hp)
    have HNX:=zhz (Ix.nxt_lt hp)
    obtain ⟨nx,hnx⟩:=zeq (Ix.nxt m p)
    rw [← hnx] at CA FS HNX
    clear hv hi hin hn hk' hss hv0 fs dn hnx
    go_upto_region 8 with (fail)
    clear k
    go_region_held3 (fun w'=>(∀ j,w'.cell? ⟨x,j,none⟩=(ixC b X A B g m)[j]?)∧w'.cell? ⟨g,p,none⟩=some (.int .u32 (v:Int))∧Below wr.heap.size wr w') (first | (refine ⟨?_,?_,?_⟩ <;> assumption) | go_keep)
      ((go_at_call 148;((with_reducible refine (GK.out _ (by assumption)).mono ?_);rintro e w1 ⟨rfl,z0,z1,z2⟩)))
    clear GK y1 y2 y3
    go_wp2_with (go_at_call 149;((with_reducible refine (CA.out _ z2).mono ?_);rintro e w3 ⟨rfl,rfl⟩))
    go_roundg (m - (d+1))
    case measure=>have:=HK.out;omega
    case rel=>exact ⟨nx,d+1,rfl,by go_num,HNX.out,zhz FS.out.2.symm,by omega,zhz FS.out.1,zae HB.out z2⟩
theorem zb2 (i:Nat) (s:ByteArray) (hs:s.size≤maxLen) (hk:K i=some s) (w:World) (h:IxMem w x b X A B g gb gs gf n m fl K L) (t:Ix.Tab m n (ixH X A B m) K (fun q=>L.getD q 0)) :
  Calls Tryz.prog 113 #[.pointer (some ⟨x,0,none⟩),.string s] w fun e w'=>∃ p:Nat,e=.returned (.tuple #[.int .i64 (p:Int),.bool true])∧p<m∧L.getD p 0=i+1∧Below w.heap.size w w':=by
 refine (zc5 s hs w h t).mono ?_
 rintro e w' ⟨p,b,he,hp,h1,h2,hb⟩
 cases b with
 | true =>
  obtain ⟨j,hj,hkj⟩:=h1 rfl
  have:=t.key j i s hkj hk
  subst this
  exact ⟨p,he,hp,hj,hb⟩
 | false=>exact absurd hk (Ix.far_none t hp (h2 rfl).2 (h2 rfl).1 i)
theorem zbR (s:ByteArray) (hs:s.size≤maxLen) (hk:∀ i,K i≠some s) (w:World) (h:IxMem w x b X A B g gb gs gf n m fl K L) (t:Ix.Tab m n (ixH X A B m) K (fun q=>L.getD q 0)) :
  Calls Tryz.prog 113 #[.pointer (some ⟨x,0,none⟩),.string s] w fun e w'=>∃ p:Nat,e=.returned (.tuple #[.int .i64 (p:Int),.bool false])∧(p<m∧L.getD p 0=0∧Ix.Far m (ixH X A B m) K (fun q=>L.getD q 0) s (Ix.dst m (ixH X A B m s) p))∧Below w.heap.size w w':=by
 refine (zc5 s hs w h t).mono ?_
 rintro e w' ⟨p,b,he,hp,h1,h2,hb⟩
 cases b with
 | true =>
  obtain ⟨j,_,hkj⟩:=h1 rfl
  exact absurd hkj (hk j)
 | false=>exact ⟨p,he,⟨hp,(h2 rfl).1,(h2 rfl).2⟩,hb⟩
end
section
variable {x b X A B g gb gs gf n m:Nat} {fl:List Nat} {K:Nat→Option ByteArray} {L:List Nat}
theorem IxMem.set {w:World} (h:IxMem w x b X A B g gb gs gf n m fl K L) (L':List Nat) (hl:L'.length=m):IxMem (setObj w g (.cells (natC .u32 L') 74 (0,0))) x b X A B g gb gs gf n m fl K L':=by
 have ne:=h.ne
 have hlt:=lt_of_block h.hg
 refine ⟨(zah w ne.1 _).trans h.hx,zab hlt _,hl,h.sz,?_,h.lX,h.lA,h.lB,ne⟩
 obtain ⟨bs,ss,fs,k⟩:=h.ks
 exact ⟨bs,ss,fs,(zah w (Ne.symm ne.2.2.2.2.2.1) _).trans k.hb,(zah w (Ne.symm ne.2.2.2.2.2.2.1) _).trans k.hgb,(zah w (Ne.symm ne.2.2.2.2.2.2.2.1) _).trans k.hgs,(zah w (Ne.symm ne.2.2.2.2.2.2.2.2) _).trans k.hgf,k.lb,k.ls,k.lf,k.vs,k.vf,k.vb,k.pl,k.n1,k.ne⟩
theorem IxMem.drewN {w:World} (h:IxMem w x b X A B g gb gs gf n m fl K L) (d:Nat):IxMem (w.drewN d) x b X A B g gb gs gf n m fl K L:=h.keep (zaa (Below.refl _ _) d)
theorem zep (k:IntKind) (l:List Nat) (i:Nat):(natC k l).setIfInBounds i (.int k 0)=natC k (l.set i 0):=zdN k l i 0
theorem ze8 (i p:Nat) (s:ByteArray) (w:World) (h:IxMem w x b X A B g gb gs gf n m fl K L) (t:Ix.Tab m n (ixH X A B m) K (fun q=>L.getD q 0)) (hp:p<m) (hT:L.getD p 0=i+1) (hk:K i=some s) :
  Calls Tryz.prog 265 #[.pointer (some ⟨x,0,none⟩),.int .i64 (p:Int)] w fun e w'=>e=.returned (.tuple #[])∧∃ L',IxMem w' x b X A B g gb gs gf n m fl K L'∧Ix.Tab m n (ixH X A B m) (fun j=>if j=i then none else K j) (fun q=>L'.getD q 0)∧Fr (fun k=>k=g) w w':=by
 have hn:=h.ks.pl.2.1
 have hm:=h.sz
 have hin:=t.lt i s hk
 have t2:(m:Int)≤131073:=by omega
 have t3:(p:Int)<(m:Int):=by omega
 have k:=h.hx.rd
 have k2:w.cell? ⟨g,p,none⟩=some (.int .u32 ((L.getD p 0:Nat):Int)):=by rw [zag h.hg,za2 _ _ _ (by rw [h.len];exact hp)]
 have k0:=h.hg.wr
 have j0:=Ix.jab_new t hp hT
 rw [← zbQ L p 0 (by rw [h.len];exact hp)] at j0
 have HH:=zhz h
 have J0:=zhz j0
 have HIN:=zhz (show 1≤n by omega)
 clear h j0 t hk hT hin hn hm
 go_enter Tryz.func265,Tryz.ntmps265
 go_wp2
 go_step3
 go_wp2
 go_step3
 go_wp2
 rw [zac HH.out.hg,zep]
 have hmem:=HH.out.set (L.set p 0) (by rw [List.length_set];exact HH.out.len)
 have hfr:Fr (fun k=>k=g) w (setObj w g (.cells (natC .u32 (L.set p 0)) 74 (0,0))):=Fr.setObj (F:=fun k=>k=g) (Fr.refl _ _) rfl _
 generalize (setObj w g (.cells (natC .u32 (L.set p 0)) 74 (0,0)))=w1 at hmem hfr ⊢
 have M1:=zhz hmem
 have F1:=zhz hfr
 obtain ⟨z,hz1,hz2,hz3⟩:=Ix.jab_free J0.out HIN.out
 have Z0:=zhz (And.intro hz2 (And.intro hz1 hz3))
 clear hmem hfr hz1 hz2 hz3 k k0 k2
 go_loopg [1] (Ix.dst m p z) (fun k s1 wr=>∃ (h:Nat) (L1:List Nat),s1=.int .i64 (h:Int)∧Hid (IxMem wr x b X A B g gb gs gf n m fl K L1)∧Hid (Ix.Jab m n (ixH X A B m) (fun j=>if j=i then none else K j) (fun q=>L1.getD q 0) h)∧Hid (z≠h∧z<m∧L1.getD z 0=0)∧Hid (k=Ix.dst m h z)∧Hid (Fr (fun k=>k=g) w wr))
 case atStart=>exact ⟨p,L.set p 0,rfl,M1,J0,Z0,zhz rfl,F1⟩
 case round =>
  obtain ⟨h,L1,rfl,MO,JO,ZO,GO,FO⟩:=hrel
  clear M1 F1 J0 Z0
  obtain ⟨wo,hwo⟩:∃ wo:World,wo=wr:=⟨_,rfl⟩
  rw [← hwo] at MO FO ⊢
  clear hwo
  have hh:=JO.out.hl
  have CA:=zhz (fun wx (hx:Below wo.heap.size wo wx)=>zbD h wx (MO.out.keep hx) hh)
  have dn:=Ix.dst_nxt (m:=m) (a:=h) (b:=h) hh hh (by rw [Ix.dst_self];have:=MO.out.sz;have:=HIN.out;omega)
  rw [Ix.dst_self] at dn
  obtain ⟨nx,hnx⟩:=zeq (Ix.nxt m h)
  have hnl:=Ix.nxt_lt hh
  rw [← hnx] at CA dn hnl
  have NX:=zhz (And.intro dn hnl)
  clear dn hnl hnx
  go_wp2_with (go_at_call 149;((with_reducible refine (CA.out _ (Below.refl _ _)).mono ?_);rintro e w3 ⟨rfl,rfl⟩))
  go_loopg [1,4] (m - 1) (fun k s1 s4 wr=>∃ q:Nat,s1=.int .i64 (h:Int)∧s4=.int .i64 (q:Int)∧q<m∧Hid (q≠h∧Ix.Past m (ixH X A B m) (fun j=>if j=i then none else K j) (fun q=>L1.getD q 0) h (Ix.dst m h q)∧Ix.dst m h q≤Ix.dst m h z∧k=m - Ix.dst m h q)∧Hid (Below wo.heap.size wo wr))
  case atStart =>
   refine ⟨nx,rfl,rfl,NX.out.2,zhz ⟨fun e=>?_,?_,?_,?_⟩,zhz (Below.refl _ _)⟩
   ·have:=NX.out.1;rw [e,Ix.dst_self] at this;omega
   ·rw [NX.out.1];exact Ix.past_one _ _ _ _ _
   ·rw [NX.out.1]
    have h1:=Ix.dst_or m h z
    have h2:=ZO.out
    omega
   ·rw [NX.out.1]
  case round =>
   obtain ⟨q,rfl,rfl,hq,QI,BI⟩:=hrel
   have MI:=zhz (MO.out.keep BI.out)
   obtain ⟨v,hv⟩:=zeq (L1.getD q 0)
   have k:=MI.out.hx.rd
   have k2:wr.cell? ⟨g,q,none⟩=some (.int .u32 (v:Int)):=by rw [zag MI.out.hg,za2 _ _ _ (by rw [MI.out.len];exact hq),hv]
   have t3:(q:Int)<(m:Int):=by omega
   by_cases hv0:v=0
   ·have k3:wr.cell? ⟨g,q,none⟩=some (.int .u32 0):=by rw [k2,hv0];rfl
    have HV:=zhz (hv.symm.trans hv0)
    clear k2 hv hv0
    go_wp2
    rw [Exit.noGoto_ret]
    (try simp only [Exit.inBlock,Exit.then])
    refine bodyPost_ret (results_none rfl _ _ _) rfl ⟨rfl,L1,MI.out,?_,FO.out.trans (Fr.of_below BI.out)⟩
    exact Ix.jab_end JO.out hq QI.out.1 QI.out.2.1 HV.out
   ·obtain ⟨s',hk',hw'⟩:=JO.out.ok q hq (by show L1.getD q 0≠0;rw [← hv];exact hv0)
    have hk1:(if L1.getD q 0 - 1=i then none else K (L1.getD q 0 - 1))=some s':=hk'
    obtain ⟨r,hr⟩:∃ r,v=r+1:=⟨v - 1,by omega⟩
    rw [← hv,show v - 1=r by omega] at hk1
    have hri:r≠i:=fun e=>by rw [if_pos e] at hk1;cases hk1
    rw [if_neg hri] at hk1
    have CH:=zhz (fun wx (hx:Below wr.heap.size wr wx)=>zg1 q r s' wx (MI.out.keep hx) hq (by rw [← hv,hr]) hk1)
    obtain ⟨f1,hf1⟩:=zeq (ixH X A B m s')
    have hfl:=JO.out.home s'
    have CD1:=zhz (fun wx (hx:Below wr.heap.size wr wx)=>zc3 f1 q wx (MI.out.keep hx) (by rw [hf1];exact hfl) hq)
    have CD2:=zhz (fun wx (hx:Below wr.heap.size wr wx)=>zc3 h q wx (MI.out.keep hx) JO.out.hl hq)
    rw [← hf1] at CH
    obtain ⟨d1,hd1⟩:=zeq (Ix.dst m f1 q)
    obtain ⟨d2,hd2⟩:=zeq (Ix.dst m h q)
    rw [← hd1] at CD1
    rw [← hd2] at CD2
    have t5:((v:Int) != 0)=true:=by rw [bne_iff_ne];omega
    have HX:=zhz (And.intro hv (And.intro hk' (And.intro hf1 (And.intro hd1 hd2))))
    have HV0:=zhz hv0
    have JH:=zhz JO.out.hl
    have CC:=zhz (fun wx (hx:Below wr.heap.size wr wx)=>show (∀ j,wx.cell? ⟨x,j,none⟩=(ixC b X A B g m)[j]?)∧wx.cell? ⟨g,q,none⟩=some (.int .u32 (v:Int)) from ⟨(MI.out.keep hx).hx.rd,(hx.cell (zaL k2)).trans k2⟩)
    clear hv hk' hw' hr hk1 hri hfl hf1 hd1 hd2 hv0
    by_cases hle:d2≤d1
    ·have t6:decide (d2≤d1)=true:=by simpa using hle
     go_upto_region 5 with (first
      | (go_at_call 269;((with_reducible refine (CH.out _ (Below.refl _ _)).mono ?_);rintro e w4 ⟨rfl,b4⟩;have B4:=zhz b4;clear b4))
      | (go_at_call 268;first | ((with_reducible refine (CD1.out _ B4.out).mono ?_);rintro e w5 ⟨rfl,rfl⟩) | ((with_reducible refine (CD2.out _ B4.out).mono ?_);rintro e w5 ⟨rfl,rfl⟩)))
     have M4:=zhz (MI.out.keep B4.out)
     have k:=M4.out.hx.rd
     have kq:w4.cell? ⟨g,q,none⟩=some (.int .u32 (v:Int)):=(CC.out _ B4.out).2
     have kh:w4.cell? ⟨g,h,none⟩=some (.int .u32 0):=by rw [zag M4.out.hg,za2 _ _ _ (by rw [M4.out.len];exact JH.out),JO.out.h0];rfl
     have k0:=M4.out.hg.wr
     have n1:x≠g:=M4.out.ne.1
     have n2:g≠x:=Ne.symm n1
     have n3:h≠q:=Ne.symm QI.out.1
     have t8:(h:Int)<(m:Int):=by have:=JH.out;omega
     go_region
     have hlt4:=lt_of_block M4.out.hg
     rw [zac M4.out.hg,zdN,zai hlt4,zep]
     have hll:((L1.set h v).set q 0).length=m:=by rw [List.length_set,List.length_set];exact M4.out.len
     have M5:=zhz ((M4.out.set ((L1.set h v).set q 0) hll).drewN 1)
     have F5:=zhz (show Fr (fun k=>k=g) w (setObj w4 g (.cells (natC .u32 ((L1.set h v).set q 0)) 74 (0,0))).drew from Fr.drew (Fr.setObj (F:=fun k=>k=g) (FO.out.trans (Fr.of_below (zae BI.out B4.out))) rfl _))
     have M5:=zhz (show IxMem (setObj w4 g (.cells (natC .u32 ((L1.set h v).set q 0)) 74 (0,0))).drew x b X A B g gb gs gf n m fl K ((L1.set h v).set q 0) from M5.out)
     generalize (setObj w4 g (.cells (natC .u32 ((L1.set h v).set q 0)) 74 (0,0))).drew=w5 at M5 F5 ⊢
     have HLL:=zhz hll
     clear k kq kh k0 n1 n2 n3 t8 hll hlt4 k2
     go_wp2
     have hx:=HX.out
     have hg:(fun r=>((L1.set h v).set q 0).getD r 0)=Ix.upN (Ix.upN (fun r=>L1.getD r 0) h v) q 0:=by
      rw [zbQ _ _ _ (by rw [List.length_set,MO.out.len];exact hq),zbQ _ _ _ (by rw [MO.out.len];exact JH.out)]
     have hzq:z≠q:=fun e=>HV0.out (by rw [hx.1,← e];exact ZO.out.2.2)
     go_roundg (Ix.dst m q z)
     case measure =>
      rw [GO.out]
      have a1:=Ix.dst_or m h z
      have a2:=Ix.dst_or m h q
      have a3:=Ix.dst_or m q z
      have a4:=QI.out.2.2.1
      have a5:=JH.out
      have a6:=ZO.out.2.1
      have a7:=QI.out.1
      omega
     case rel =>
      refine ⟨q,(L1.set h v).set q 0,rfl,M5,zhz ?_,zhz ⟨hzq,ZO.out.2.1,?_⟩,zhz rfl,F5⟩
      ·rw [hg,hx.1]
       exact Ix.jab_move JO.out hq (by show L1.getD q 0≠0;rw [← hx.1];exact HV0.out) hx.2.1 (by rw [← hx.2.2.2.2,← hx.2.2.1,← hx.2.2.2.1];exact hle)
      ·have:=congrFun hg z
       rw [this]
       unfold Ix.upN
       rw [if_neg hzq,if_neg ZO.out.1]
       exact ZO.out.2.2
    ·have t6:decide (d2≤d1)=false:=by rw [zdn];exact hle
     have CA2:=zhz (fun wx (hx:Below wr.heap.size wr wx)=>zbD q wx (MI.out.keep hx) hq)
     have hqz:Ix.dst m h q<Ix.dst m h z:=by
      have h1:=QI.out.2.2.1
      have h2:Ix.dst m h q≠Ix.dst m h z:=fun e=>HV0.out (by rw [HX.out.1,Ix.dst_inj JH.out hq ZO.out.2.1 e];exact ZO.out.2.2)
      omega
     have hzl:=Ix.dst_lt JH.out ZO.out.2.1
     have dn:=Ix.dst_nxt JH.out hq (show Ix.dst m h q+1<m by omega)
     obtain ⟨ny,hny⟩:=zeq (Ix.nxt m q)
     have hnl:=Ix.nxt_lt hq
     rw [← hny] at CA2 dn hnl
     have NY:=zhz (And.intro dn (And.intro hnl (And.intro hqz hzl)))
     have HLE:=zhz hle
     clear dn hnl hqz hzl hny hle
     go_wp2_with (first
      | (go_at_call 269;((with_reducible refine (CH.out _ (Below.refl _ _)).mono ?_);rintro e w4 ⟨rfl,b4⟩;have B4:=zhz b4;clear b4))
      | (go_at_call 149;((with_reducible refine (CA2.out _ B4.out).mono ?_);rintro e w6 ⟨rfl,rfl⟩))
      | (go_at_call 268;first | ((with_reducible refine (CD1.out _ B4.out).mono ?_);rintro e w5 ⟨rfl,rfl⟩) | ((with_reducible refine (CD2.out _ B4.out).mono ?_);rintro e w5 ⟨rfl,rfl⟩)))
     have hx:=HX.out
     have hqi:=QI.out
     have hny:=NY.out
     go_roundg (m - Ix.dst m h ny)
     case measure=>omega
     case rel =>
      refine ⟨ny,rfl,rfl,hny.2.1,zhz ⟨fun e=>?_,?_,by omega,rfl⟩,zhz (zae BI.out B4.out)⟩
      ·have h1:=hny.1;rw [e,Ix.dst_self] at h1;omega
      ·rw [hny.1]
       exact Ix.past_step JO.out hq hqi.2.1 (by show L1.getD q 0≠0;rw [← hx.1];exact HV0.out) hx.2.1 (by rw [← hx.2.2.2.2,← hx.2.2.1,← hx.2.2.2.1];have:=HLE.out;omega)
end
structure IxN where
 x:Nat
 b:Nat
 X:Nat
 A:Nat
 B:Nat
 g:Nat
 gb:Nat
 gs:Nat
 gf:Nat
 n:Nat
def IxN.h (N:IxN):ByteArray→Nat:=ixH N.X N.A N.B (2*N.n+1)
def IxN.F (N:IxN) (k:Nat):Prop:=k=N.g∨kyF N.b N.gb N.gs N.gf k
def IdxIn (w:World) (N:IxN) (fl:List Nat) (K:Nat→Option ByteArray):Prop :=
 ∃ L,IxMem w N.x N.b N.X N.A N.B N.g N.gb N.gs N.gf N.n (2*N.n+1) fl K L∧Ix.Tab (2*N.n+1) N.n N.h K (fun q=>L.getD q 0)
theorem IdxIn.keep {W w:World} {N:IxN} {fl:List Nat} {K:Nat→Option ByteArray} (h:IdxIn W N fl K) (hb:Below W.heap.size W w):IdxIn w N fl K:=by
 obtain ⟨L,hm,ht⟩:=h
 exact ⟨L,hm.keep hb,ht⟩
theorem IdxIn.ks {w:World} {N:IxN} {fl:List Nat} {K:Nat→Option ByteArray} (h:IdxIn w N fl K):KeysIn w N.b N.gb N.gs N.gf N.n fl K:=by
 obtain ⟨L,hm,ht⟩:=h;exact hm.ks
theorem IdxIn.lt {w:World} {N:IxN} {fl:List Nat} {K:Nat→Option ByteArray} (h:IdxIn w N fl K):∀ k,(N.F k∨k=N.x)→k<w.heap.size:=by
 obtain ⟨L,hm,ht⟩:=h
 have h1:=hm.ks.lt
 have h2:=lt_of_block hm.hg
 have h3:=lt_of_block hm.hx
 rintro k ((hk | hk | hk | hk | hk) | hk) <;> omega
theorem KeysIn.fr {W w:World} {b gb gs gf n:Nat} {fl:List Nat} {K:Nat→Option ByteArray} {F:Nat→Prop} (h:KeysIn W b gb gs gf n fl K) (hf:Fr F W w) (h1:¬ F b) (h2:¬ F gb) (h3:¬ F gs) (h4:¬ F gf):KeysIn w b gb gs gf n fl K:=by
 obtain ⟨bs,ss,fs,h⟩:=h
 exact ⟨bs,ss,fs,h.hb.fr hf h1,h.hgb.fr hf h2,h.hgs.fr hf h3,h.hgf.fr hf h4,h.lb,h.ls,h.lf,h.vs,h.vf,h.vb,h.pl,h.n1,h.ne⟩
theorem IdxIn.fr {W w:World} {N:IxN} {fl:List Nat} {K:Nat→Option ByteArray} {F:Nat→Prop} (h:IdxIn W N fl K) (hf:Fr F W w) (h1:∀ k,(N.F k∨k=N.x)→¬ F k):IdxIn w N fl K:=by
 obtain ⟨L,hm,ht⟩:=h
 exact ⟨L,⟨hm.hx.fr hf (h1 _ (Or.inr rfl)),hm.hg.fr hf (h1 _ (Or.inl (Or.inl rfl))),hm.len,hm.sz,hm.ks.fr hf (h1 _ (Or.inl (Or.inr (Or.inl rfl)))) (h1 _ (Or.inl (Or.inr (Or.inr (Or.inl rfl))))) (h1 _ (Or.inl (Or.inr (Or.inr (Or.inr (Or.inl rfl)))))) (h1 _ (Or.inl (Or.inr (Or.inr (Or.inr (Or.inr rfl)))))),hm.lX,hm.lA,hm.lB,hm.ne⟩,ht⟩
section
variable {N:IxN} {fl:List Nat} {K:Nat→Option ByteArray}
theorem zg0 (i:Nat) (s:ByteArray) (hs:s.size≤maxLen) (w:World) (h:IdxIn w N fl K) (hk:K i=some s) :
  Calls Tryz.prog 89 #[.pointer (some ⟨N.x,0,none⟩),.string s] w fun e w'=>e=.returned (.int .i64 (i:Int))∧Below w.heap.size w w':=by
 obtain ⟨L,h,t⟩:=h
 have C1:=zhz (zb2 i s hs hk w h t)
 have hn:=h.ks.pl.2.1
 have hi:=t.lt i s hk
 obtain ⟨m,hm⟩:=zeq (2*N.n+1)
 rw [← hm] at h C1
 have HH:=zhz h
 have t0:(m:Int)≤131073:=by omega
 have t1:(i:Int)≤65536:=by omega
 clear h t hs hk hn hi hm
 go_enter Tryz.func89,Tryz.ntmps89
 go_wp2_with (fail)
 refine C1.out.mono ?_
 rintro e w1 ⟨p,rfl,hp,hT,hb⟩
 obtain ⟨v,hv⟩:=zeq (i+1)
 have M1:=zhz (HH.out.keep hb)
 have k:=M1.out.hx.rd
 have k2:w1.cell? ⟨N.g,p,none⟩=some (.int .u32 (v:Int)):=by rw [zag M1.out.hg,za2 _ _ _ (by rw [M1.out.len];exact hp),hT,hv]
 have t3:(p:Int)<(m:Int):=by omega
 have e1:IntKind.i64.wrap (v:Int)=(v:Int):=by rw [IntKind.wrap_i64];omega
 have e2:(v:Int) - 1=(i:Int):=by omega
 have t4:(v:Int)≤65537:=by omega
 clear hT hv
 go_wp2
 go_ret
 exact ⟨rfl,hb⟩
theorem zij (s:ByteArray) (hs:s.size≤maxLen) (w:World) (h:IdxIn w N fl K) (hk:∀ i,K i≠some s) :
  Calls Tryz.prog 89 #[.pointer (some ⟨N.x,0,none⟩),.string s] w fun e w'=>e=.returned (.int .i64 (-1))∧Below w.heap.size w w':=by
 obtain ⟨L,h,t⟩:=h
 have C1:=zhz (zbR s hs hk w h t)
 clear h t hs hk
 go_enter Tryz.func89,Tryz.ntmps89
 go_wp2_with (fail)
 refine C1.out.mono ?_
 rintro e w1 ⟨p,rfl,hp,hb⟩
 clear hp
 go_wp2
 go_ret
 exact ⟨rfl,hb⟩
theorem zil (i:Nat) (s:ByteArray) (hs:s.size≤maxLen) (w:World) (h:IdxIn w N fl K) (hk:K i=some s) :
  Calls Tryz.prog 248 #[.pointer (some ⟨N.x,0,none⟩),.string s] w fun e w'=>e=.returned (.int .i64 (-1))∧Below w.heap.size w w':=by
 obtain ⟨L,h,t⟩:=h
 have C1:=zhz (zb2 i s hs hk w h t)
 clear h t hs hk
 go_enter Tryz.func248,Tryz.ntmps248
 go_wp2_with (fail)
 refine C1.out.mono ?_
 rintro e w1 ⟨p,rfl,hp,hT,hb⟩
 clear hp hT
 go_wp2
 go_ret
 exact ⟨rfl,hb⟩
theorem zc4 (s:ByteArray) (hs:s.size≤maxLen) (w:World) (h:IdxIn w N fl K) (hk:∀ i,K i≠some s) (hf:64<s.size∨fl=[]) :
  Calls Tryz.prog 248 #[.pointer (some ⟨N.x,0,none⟩),.string s] w fun e w'=>e=.returned (.int .i64 (-1))∧Below w.heap.size w w':=by
 obtain ⟨L,h,t⟩:=h
 have C1:=zhz (zbR s hs hk w h t)
 have C2:=zhz (fun wx (hx:Below w.heap.size w wx)=>zmD s wx (h.ks.keep hx) hf)
 have HH:=zhz h
 clear h t hs hk hf
 go_enter Tryz.func248,Tryz.ntmps248
 go_wp2_with (fail)
 refine C1.out.mono ?_
 rintro e w1 ⟨p,rfl,hp,hb⟩
 have k:=(HH.out.keep hb).hx.rd
 have t3:decide ((p:Int)<0)=false:=by rw [zdn];omega
 clear hp
 go_wp2_with (go_at_call 261;((with_reducible refine (C2.out _ hb).mono ?_);rintro e w3 ⟨rfl,rfl⟩))
 go_ret
 exact ⟨rfl,hb⟩
theorem zim (i:Nat) (s:ByteArray) (w:World) (h:IdxIn w N (fl++[i]) K) (hk:∀ i,K i≠some s) (hs:s.size≤64) :
  Calls Tryz.prog 248 #[.pointer (some ⟨N.x,0,none⟩),.string s] w fun e w'=>e=.returned (.int .i64 (i:Int))∧IdxIn w' N fl (fun j=>if j=i then some s else K j)∧Fr N.F w w':=by
 obtain ⟨L,h,t⟩:=h
 have C1:=zhz (zbR s (by unfold maxLen;omega) hk w h t)
 have C2:=zhz (fun wx (hx:Below w.heap.size w wx)=>zl0 i s wx (h.ks.keep hx) hs)
 have hfr:=h.ks.pl.1.free (i:=i) (by simp)
 have hn:=h.ks.pl.2.1
 obtain ⟨m,hm⟩:=zeq (2*N.n+1)
 have t0:(m:Int)≤131073:=by omega
 have HI:=zhz hfr
 have hh:N.h=ixH N.X N.A N.B m:=by unfold IxN.h;rw [hm]
 rw [← hm] at h t C1
 rw [hh] at t
 have HH:=zhz h
 have TT:=zhz t
 have HM:=zhz (And.intro hm hh)
 have t1:(i:Int)≤65536:=by omega
 clear h t hk hs hfr hn hm hh
 go_enter Tryz.func248,Tryz.ntmps248
 go_wp2_with (fail)
 refine C1.out.mono ?_
 rintro e w1 ⟨p,rfl,⟨hp,hT,hfar⟩,hb⟩
 have k:=(HH.out.keep hb).hx.rd
 have t3:decide ((p:Int)<0)=false:=by rw [zdn];omega
 have FA:=zhz (And.intro hT hfar)
 have B1:=zhz hb
 have HP:=zhz hp
 have t5:(p:Int)<(m:Int):=by omega
 clear hT hfar hb hp
 go_upto_region 6 with (go_at_call 261;((with_reducible refine (C2.out _ B1.out).mono ?_);rintro e w3 ⟨rfl,hk3,hf3⟩;have K3:=zhz hk3;have F3:=zhz hf3;clear hk3 hf3))
 have ne:=HH.out.ne
 have M1:=HH.out.keep B1.out
 have M3:IxMem w3 N.x N.b N.X N.A N.B N.g N.gb N.gs N.gf N.n m fl (fun j=>if j=i then some s else K j) L :=
  ⟨M1.hx.fr F3.out (by rintro (e | e | e | e) <;> omega),M1.hg.fr F3.out (by rintro (e | e | e | e) <;> omega),M1.len,M1.sz,K3.out,M1.lX,M1.lA,M1.lB,ne⟩
 have MM:=zhz M3
 clear k M1 M3 ne
 have k:=MM.out.hx.rd
 have k2:w3.cell? ⟨N.g,p,none⟩=some (.int .u32 0):=by rw [zag MM.out.hg,za2 _ _ _ (by rw [MM.out.len];exact HP.out),FA.out.1];rfl
 have k0:=MM.out.hg.wr
 obtain ⟨v,hv⟩:=zeq (i+1)
 have e1:(i:Int)+1=(v:Int):=by omega
 have e2:IntKind.u32.wrap (v:Int)=(v:Int):=by rw [IntKind.wrap_u32];omega
 have HV:=zhz hv
 clear hv
 go_wp2
 go_ret
 have hll:(L.set p v).length=m:=by rw [List.length_set];exact MM.out.len
 rw [zac MM.out.hg,zdN]
 refine ⟨rfl,⟨L.set p v,?_,?_⟩,?_⟩
 ·rw [← HM.out.1];exact MM.out.set _ hll
 ·rw [zbQ _ _ _ (by rw [MM.out.len];exact HP.out),HV.out,← HM.out.1,HM.out.2]
  exact Ix.tab_put TT.out HP.out FA.out.2 FA.out.1 HI.out.1 HI.out.2
 ·exact Fr.setObj (F:=N.F) (((Fr.of_below B1.out).trans F3.out).mono (fun k hk=>Or.inr hk)) (Or.inl rfl) _
theorem ze9 (s:ByteArray) (hs:s.size≤maxLen) (w:World) (h:IdxIn w N fl K) (hk:∀ i,K i≠some s) :
  Calls Tryz.prog 260 #[.pointer (some ⟨N.x,0,none⟩),.string s] w fun e w'=>e=.returned (.int .i64 (-1))∧Below w.heap.size w w':=by
 obtain ⟨L,h,t⟩:=h
 have C1:=zhz (zbR s hs hk w h t)
 clear h t hs hk
 go_enter Tryz.func260,Tryz.ntmps260
 go_wp2_with (fail)
 refine C1.out.mono ?_
 rintro e w1 ⟨p,rfl,hp,hb⟩
 clear hp
 go_wp2
 go_ret
 exact ⟨rfl,hb⟩
theorem zef (i:Nat) (s:ByteArray) (hs:s.size≤maxLen) (w:World) (h:IdxIn w N fl K) (hk:K i=some s) :
  Calls Tryz.prog 260 #[.pointer (some ⟨N.x,0,none⟩),.string s] w fun e w'=>e=.returned (.int .i64 (i:Int))∧IdxIn w' N (fl++[i]) (fun j=>if j=i then none else K j)∧Fr N.F w w':=by
 obtain ⟨L,h,t⟩:=h
 have C1:=zhz (zb2 i s hs hk w h t)
 have hn:=h.ks.pl.2.1
 have hi:=t.lt i s hk
 have t1:(i:Int)≤65536:=by omega
 obtain ⟨m,hm⟩:=zeq (2*N.n+1)
 have t0:(m:Int)≤131073:=by omega
 have hh:N.h=ixH N.X N.A N.B m:=by unfold IxN.h;rw [hm]
 rw [← hm] at h t C1
 rw [hh] at t
 have HH:=zhz h
 have TT:=zhz t
 have HM:=zhz (And.intro hm hh)
 have HK:=zhz hk
 clear h t hs hk hn hi hm hh
 go_enter Tryz.func260,Tryz.ntmps260
 go_wp2_with (fail)
 refine C1.out.mono ?_
 rintro e w1 ⟨p,rfl,hp,hT,hb⟩
 obtain ⟨v,hv⟩:=zeq (i+1)
 have M1:=zhz (HH.out.keep hb)
 have k:=M1.out.hx.rd
 have k2:w1.cell? ⟨N.g,p,none⟩=some (.int .u32 (v:Int)):=by rw [zag M1.out.hg,za2 _ _ _ (by rw [M1.out.len];exact hp),hT,hv]
 have t3:(p:Int)<(m:Int):=by omega
 have e1:IntKind.i64.wrap (v:Int)=(v:Int):=by rw [IntKind.wrap_i64];omega
 have e2:(v:Int) - 1=(i:Int):=by omega
 have t4:(v:Int)≤65537:=by omega
 have CE:=zhz (ze8 i p s w1 M1.out TT.out hp hT HK.out)
 have B1:=zhz hb
 clear hT hv hb hp
 go_upto_region 6 with (go_at_call 265;((with_reducible refine CE.out.mono ?_);rintro e w2 ⟨rfl,L',hm2,ht2,hf2⟩;have M2:=zhz hm2;have T2:=zhz ht2;have F2:=zhz hf2;clear hm2 ht2 hf2))
 clear k k2
 have k:=M2.out.hx.rd
 have CF:=zhz (zjQ i w2 M2.out.ks (by rw [HK.out];rfl))
 go_wp2_with (go_at_call 266;((with_reducible refine CF.out.mono ?_);rintro e w3 ⟨rfl,hk3,hf3⟩;have K3:=zhz hk3;have F3:=zhz hf3;clear hk3 hf3))
 go_ret
 have ne:=HH.out.ne
 have M3:=M2.out
 refine ⟨rfl,⟨L',?_,?_⟩,?_⟩
 ·rw [← HM.out.1]
  exact ⟨M3.hx.fr F3.out (by rintro (e | e | e | e) <;> omega),M3.hg.fr F3.out (by rintro (e | e | e | e) <;> omega),M3.len,M3.sz,K3.out,M3.lX,M3.lA,M3.lB,ne⟩
 ·rw [← HM.out.1,HM.out.2];exact T2.out
 ·exact (((Fr.of_below B1.out).trans (F2.out.mono (fun k hk=>Or.inl hk)))).trans (F3.out.mono (fun k hk=>Or.inr hk))
end
/-! #### none -/
theorem zg2 (n:Nat) (hn:n≤65536) (w:World):Calls Tryz.prog 150 #[.int .i64 (n:Int)] w fun e w'=>e=.returned (.int .i64 ((2*n+1:Nat):Int))∧w=w':=by
 have t1:(n:Int)≤65536:=by omega
 go_enter Tryz.func150,Tryz.ntmps150
 go_wp2
 go_ret
 exact ⟨zau (by omega),rfl⟩
theorem zgY {W1:World} {rb:Nat} {t:TypeId} {C:Array Value} (h:Blk W1 rb t C) (o:Obj):(∀ j,(W1.alloc o).drew.cell? ⟨rb,j,none⟩=C[j]?)∧Below W1.heap.size W1 (W1.alloc o).drew :=
 ⟨((h.alloc o).drew).rd,zaa ((Below.refl _ _).alloc (Nat.le_refl _) _) 1⟩
theorem ze7 {W1:World} {rb:Nat} {t:TypeId} {C:Array Value} (h:Blk W1 rb t C) (o o':Obj):(∀ j,((W1.alloc o).alloc o').drew.cell? ⟨rb,j,none⟩=C[j]?)∧Below W1.heap.size W1 ((W1.alloc o).alloc o').drew :=
 ⟨(((h.alloc o).alloc o').drew).rd,zaa (((Below.refl _ _).alloc (Nat.le_refl _) _).alloc (by simp) _) 1⟩
theorem zjY:(Tryz.prog.info? 74).map (fun i=>(i.zero,i.size,i.bytes))=some (some (.int .u32 0),1,4):=by kernel_rfl
theorem ziC (k:IntKind) (n:Nat):numC k (List.replicate n 0)=natC k (List.replicate n 0):=by simp [numC,natC]
theorem zik (X A B:Nat) (hX:X<2305843009213693951) (hA:A<2305843009213693951) (hB:B<2305843009213693951) (b gb gs gf n:Nat) (fl:List Nat) (w:World) (h:KeysIn w b gb gs gf n fl (fun _=>none)) :
  Calls Tryz.prog 119 #[.pointer (some ⟨b,0,none⟩),.agg #[.int .u64 X,.int .u64 A,.int .u64 B]] w fun e w'=>∃ x g,e=.returned (.pointer (some ⟨x,0,none⟩))∧IdxIn w' ⟨x,b,X,A,B,g,gb,gs,gf,n⟩ fl (fun _=>none)∧Below w.heap.size w w'∧w.heap.size≤x∧w.heap.size≤g:=by
 have hn:=h.pl.2.1
 obtain ⟨m,hm⟩:=zeq (2*n+1)
 obtain ⟨i0,hi,hz0,hz1,hz2⟩:=info_parts zjY
 have hmk:=zcq (P:=Tryz.prog) (t:=211) (e:=74) Tryz.underlying211 hi hz0 hz1 hz2 m (by omega) (by omega)
 have t0:(m:Int)≤131073:=by omega
 have CS:=zhz (fun w=>zg2 n hn w)
 rw [← hm] at CS
 have HH:=zhz h
 have HM:=zhz (And.intro hm hn)
 clear hi hz0 hz1 hz2 h hn hm
 go_enter Tryz.func119,Tryz.ntmps119
 go_upto_region 3 with (fail)
 obtain ⟨w1,hw1,hbk,hbl,hsz⟩:=zad w #[.int .u64 (X:Int),.int .u64 (A:Int),.int .u64 (B:Int)] 192
 rw [hw1]
 have CL:=zhz (fun wx (hx:Below w1.heap.size w1 wx)=>zb3 wx ((HH.out.keep hbl).keep hx))
 obtain ⟨rb,hrb⟩:=zeq (w.heap.size)
 rw [← hrb] at hbk ⊢
 have k:=hbk.rd
 have HB:=zhz hbl
 have HS:=zhz (And.intro hsz hrb)
 have BK:=zhz hbk
 clear hbk hbl hsz hw1 hrb
 have y1:∀ j,w1.drew.cell? ⟨rb,j,none⟩=(#[.int .u64 (X:Int),.int .u64 (A:Int),.int .u64 (B:Int)]:Array Value)[j]?:=k
 have y2:Below w1.heap.size w1 w1.drew:=zaa (Below.refl _ _) 1
 clear k
 go_region_held3 (fun w'=>(∀ j,w'.cell? ⟨rb,j,none⟩=(#[.int .u64 (X:Int),.int .u64 (A:Int),.int .u64 (B:Int)]:Array Value)[j]?)∧Below w1.heap.size w1 w') (first | (refine ⟨?_,?_⟩ <;> assumption) | exact zgY BK.out _ | exact ze7 BK.out _ _)
   (first
    | (go_at_call 85;((with_reducible refine (CL.out _ (by assumption)).mono ?_);rintro e w2 ⟨rfl,rfl⟩))
    | (go_at_call 150;((with_reducible refine (CS.out _).mono ?_);rintro e w3 ⟨rfl,rfl⟩)))
 go_wp2
 go_ret
 obtain ⟨w2,hw2,b2k,b2l,s2⟩:=zad w1 (numC .u32 (List.replicate m 0)) 74
 rw [hw2]
 obtain ⟨w3,hw3,b3k,b3l,s3⟩:=zad w2 (ixC b X A B w1.heap.size m) 222
 refine ⟨w1.heap.size+1,w1.heap.size,rfl,?_⟩
 have e3:w2.alloc (.cells #[.pointer (some ⟨b,0,none⟩),.int .u64 (X:Int),.int .u64 (A:Int),.int .u64 (B:Int),.slice (some ⟨w1.heap.size,0,none⟩) m m] 222)=w3:=hw3
 rw [e3]
 have hlt:=HH.out.lt
 have hs:=HS.out
 have bb:=HB.out
 have bs:=bb.size
 have l1:=zae (zae bb b2l) b3l
 have l2:Below w.heap.size w w3.drew:=zaa l1 1
 have hm:=HM.out.1
 refine ⟨⟨List.replicate m 0,⟨?_,?_,?_,rfl,HH.out.keep l2,hX,hA,hB,?_⟩,?_⟩,l2,by omega,by omega⟩
 ·rw [s2] at b3k
  rw [← hm]
  exact b3k
 ·have:=b2k.keep b3l
  rw [ziC] at this
  exact this
 ·rw [List.length_replicate];exact hm
 ·show (w1.heap.size+1≠w1.heap.size∧w1.heap.size+1≠b∧w1.heap.size+1≠gb∧w1.heap.size+1≠gs∧w1.heap.size+1≠gf∧w1.heap.size≠b∧w1.heap.size≠gb∧w1.heap.size≠gs∧w1.heap.size≠gf)
  omega
 ·have e:(fun q=>(List.replicate m 0).getD q 0)=fun _=>0:=by
   funext q
   simp only [List.getD]
   by_cases hq:q<m
   ·simp [hq]
   ·simp [hq]
  rw [e]
  exact Ix.tab_new n _ (fun s=>zmr X A B (by omega) s)
def posN (n:Nat) (K:Nat→Option ByteArray) (s:ByteArray):Option Nat:=(List.range n).find? (fun i=>decide (K i=some s))
theorem zax {n:Nat} {K:Nat→Option ByteArray} {s:ByteArray} {i:Nat} (h:posN n K s=some i):i<n∧K i=some s:=by
 unfold posN at h
 have h1:=List.find?_some h
 have h2:=List.mem_of_find?_eq_some h
 exact ⟨List.mem_range.1 h2,of_decide_eq_true h1⟩
theorem zbl {n:Nat} {K:Nat→Option ByteArray} {s:ByteArray} (h:posN n K s=none) (i:Nat) (hi:i<n):K i≠some s:=by
 unfold posN at h
 rw [List.find?_eq_none] at h
 exact fun e=>h i (List.mem_range.2 hi) (decide_eq_true e)
theorem zlU {n:Nat} {K:Nat→Option ByteArray} {s:ByteArray} {i:Nat} (hi:i<n) (h:K i=some s) (hu:∀ i j s,K i=some s→K j=some s→i=j):posN n K s=some i:=by
 cases hp:posN n K s with
 | none=>exact absurd h (zbl hp i hi)
 | some j=>rw [hu j i s (zax hp).2 h]
theorem zlV {n:Nat} {K:Nat→Option ByteArray} {s:ByteArray} (h:∀ i,i<n→K i≠some s):posN n K s=none:=by
 cases hp:posN n K s with
 | none=>rfl
 | some j=>exact absurd (zax hp).2 (h j (zax hp).1)
def plZ:Option Nat→Int
 | some i=>(i:Int)
 | none => -1
structure KSt where
 fl:List Nat
 K:Nat→Option ByteArray
def KSt.put (n:Nat) (σ:KSt) (s:ByteArray):KSt × Option Nat :=
 match posN n σ.K s with
 | some _=>(σ,none)
 | none=>if 64<s.size then (σ,none) else
  match σ.fl.getLast? with
  | none=>(σ,none)
  | some i=>(⟨σ.fl.dropLast,fun j=>if j=i then some s else σ.K j⟩,some i)
def KSt.del (n:Nat) (σ:KSt) (s:ByteArray):KSt × Option Nat :=
 match posN n σ.K s with
 | some i=>(⟨σ.fl++[i],fun j=>if j=i then none else σ.K j⟩,some i)
 | none=>(σ,none)
def kNew (n:Nat):KSt:=⟨(List.range n).reverse,fun _=>none⟩
abbrev IdxAt (w:World) (N:IxN) (σ:KSt):Prop:=IdxIn w N σ.fl σ.K
theorem IdxIn.uni {w:World} {N:IxN} {fl:List Nat} {K:Nat→Option ByteArray} (h:IdxIn w N fl K):(∀ i j s,K i=some s→K j=some s→i=j)∧(∀ i s,K i=some s→i<N.n∧s.size≤64)∧N.n≤65536∧Places N.n fl K:=by
 obtain ⟨L,hm,ht⟩:=h
 exact ⟨ht.key,fun i s hi=>⟨ht.lt i s hi,hm.ks.pl.2.2 i s hi⟩,hm.ks.pl.2.1,hm.ks.pl.1⟩
theorem IdxIn.no {w:World} {N:IxN} {fl:List Nat} {K:Nat→Option ByteArray} (h:IdxIn w N fl K) {s:ByteArray} (hp:posN N.n K s=none) (i:Nat):K i≠some s:=fun e=>zbl hp i (h.uni.2.1 i s e).1 e
section
variable {N:IxN} {σ:KSt}
theorem zb1 (s:ByteArray) (hs:s.size≤maxLen) (w:World) (h:IdxAt w N σ) :
  Calls Tryz.prog 89 #[.pointer (some ⟨N.x,0,none⟩),.string s] w fun e w'=>e=.returned (.int .i64 (plZ (posN N.n σ.K s)))∧Below w.heap.size w w':=by
 cases hp:posN N.n σ.K s with
 | some i=>exact zg0 i s hs w h (zax hp).2
 | none=>exact zij s hs w h (h.no hp)
theorem zcE (s:ByteArray) (hs:s.size≤maxLen) (w:World) (h:IdxAt w N σ) :
  Calls Tryz.prog 248 #[.pointer (some ⟨N.x,0,none⟩),.string s] w fun e w'=>e=.returned (.int .i64 (plZ (σ.put N.n s).2))∧IdxAt w' N (σ.put N.n s).1∧Fr N.F w w':=by
 unfold KSt.put
 cases hp:posN N.n σ.K s with
 | some i=>exact (zil i s hs w h (zax hp).2).mono (fun e w' hh=>⟨hh.1,h.keep hh.2,Fr.of_below hh.2⟩)
 | none =>
  by_cases h64:64<s.size
  ·simp only [if_pos h64]
   exact (zc4 s hs w h (h.no hp) (Or.inl h64)).mono (fun e w' hh=>⟨hh.1,h.keep hh.2,Fr.of_below hh.2⟩)
  ·simp only [if_neg h64]
   cases hl:σ.fl.getLast? with
   | none=>exact (zc4 s hs w h (h.no hp) (Or.inr (List.getLast?_eq_none_iff.1 hl))).mono (fun e w' hh=>⟨hh.1,h.keep hh.2,Fr.of_below hh.2⟩)
   | some i =>
    have hfl:σ.fl=σ.fl.dropLast++[i]:=by
     obtain ⟨l,hl'⟩:=List.getLast?_eq_some_iff.1 hl
     rw [hl'];simp
    have h':IdxIn w N (σ.fl.dropLast++[i]) σ.K:=by rw [← hfl];exact h
    exact zim i s w h' (h.no hp) (by omega)
theorem zcf (s:ByteArray) (hs:s.size≤maxLen) (w:World) (h:IdxAt w N σ) :
  Calls Tryz.prog 260 #[.pointer (some ⟨N.x,0,none⟩),.string s] w fun e w'=>e=.returned (.int .i64 (plZ (σ.del N.n s).2))∧IdxAt w' N (σ.del N.n s).1∧Fr N.F w w':=by
 unfold KSt.del
 cases hp:posN N.n σ.K s with
 | some i=>exact zef i s hs w h (zax hp).2
 | none=>exact (ze9 s hs w h (h.no hp)).mono (fun e w' hh=>⟨hh.1,h.keep hh.2,Fr.of_below hh.2⟩)
theorem KSt.put_lt (w:World) (h:IdxAt w N σ) (s:ByteArray) {i:Nat} (hi:(σ.put N.n s).2=some i):i<N.n:=by
 unfold KSt.put at hi
 have hu:=h.uni.2.2.2
 split at hi
 ·cases hi
 ·split at hi
  ·cases hi
  ·split at hi
   ·cases hi
   ·rename_i j hj
    have hij:j=i:=Option.some.inj hi
    obtain ⟨l,hl⟩:=List.getLast?_eq_some_iff.1 hj
    exact (hu.free (i:=i) (by rw [hl];simp [hij])).1
theorem KSt.del_lt (n:Nat) (s:ByteArray) {i:Nat} (hi:(σ.del n s).2=some i):i<n:=by
 unfold KSt.del at hi
 split at hi
 ·rename_i j hj
  have hij:j=i:=Option.some.inj hi
  rw [← hij];exact (zax hj).1
 ·cases hi
theorem zgc (X A B:Nat) (hX:X<2305843009213693951) (hA:A<2305843009213693951) (hB:B<2305843009213693951) (b gb gs gf n:Nat) (w:World) (h:KeysIn w b gb gs gf n (kNew n).fl (fun _=>none)) :
  Calls Tryz.prog 119 #[.pointer (some ⟨b,0,none⟩),.agg #[.int .u64 X,.int .u64 A,.int .u64 B]] w fun e w'=>∃ x g,e=.returned (.pointer (some ⟨x,0,none⟩))∧IdxAt w' ⟨x,b,X,A,B,g,gb,gs,gf,n⟩ (kNew n)∧Below w.heap.size w w'∧w.heap.size≤x∧w.heap.size≤g :=
 zik X A B hX hA hB b gb gs gf n _ w h
end
def KM (n:Nat) (K:Nat→Option ByteArray):ByteArray→Option Value:=fun s=>(posN n K s).map fun i:Nat=>.int .i64 (i:Int)
abbrev Cel:=Int × Int × Int × Int
def encC (c:Cel):List Value:=[.int .i64 c.1,.int .i64 c.2.1,.int .i64 c.2.2.1,.int .i64 c.2.2.2]
theorem zaH (c:Cel):(encC c).length=4:=rfl
abbrev celV (c:Cel):Value:=.agg #[.int .i64 c.1,.int .i64 c.2.1,.int .i64 c.2.2.1,.int .i64 c.2.2.2]
structure PlN where
 p:Nat
 cb:Nat
 N:IxN
def PlN.F (Q:PlN) (k:Nat):Prop:=Q.N.F k∨k=Q.cb
def PlN.all (Q:PlN) (k:Nat):Prop:=Q.F k∨k=Q.N.x∨k=Q.p
abbrev poolC (Q:PlN):Array Value:=#[.pointer (some ⟨Q.N.b,0,none⟩),.pointer (some ⟨Q.N.x,0,none⟩),.slice (some ⟨Q.cb,0,none⟩) Q.N.n Q.N.n]
structure PlAt (w:World) (Q:PlN) (σ:KSt) (C:List Cel):Prop where
 hp:Blk w Q.p 173 (poolC Q)
 hc:Blk w Q.cb 105 (rws encC C).toArray
 len:C.length=Q.N.n
 ix:IdxAt w Q.N σ
 n1:Q.N.n≤1024
 ne:Q.p≠Q.cb∧(∀ k,Q.N.F k∨k=Q.N.x→k≠Q.cb∧k≠Q.p)
theorem PlAt.keep {W w:World} {Q:PlN} {σ:KSt} {C:List Cel} (h:PlAt W Q σ C) (hb:Below W.heap.size W w):PlAt w Q σ C:=⟨h.hp.keep hb,h.hc.keep hb,h.len,h.ix.keep hb,h.n1,h.ne⟩
theorem PlAt.fr {W w:World} {Q:PlN} {σ:KSt} {C:List Cel} {F:Nat→Prop} (h:PlAt W Q σ C) (hf:Fr F W w) (hF:∀ k,Q.all k→¬ F k):PlAt w Q σ C :=
 ⟨h.hp.fr hf (hF _ (Or.inr (Or.inr rfl))),h.hc.fr hf (hF _ (Or.inl (Or.inr rfl))),h.len,h.ix.fr hf (fun k hk=>hF k (by rcases hk with hk | hk;exact Or.inl (Or.inl hk);exact Or.inr (Or.inl hk))),h.n1,h.ne⟩
theorem PlAt.lt {w:World} {Q:PlN} {σ:KSt} {C:List Cel} (h:PlAt w Q σ C):∀ k,Q.all k→k<w.heap.size:=by
 rintro k ((hk | hk) | hk | hk)
 ·exact h.ix.lt k (Or.inl hk)
 ·rw [hk];exact lt_of_block h.hc
 ·exact h.ix.lt k (Or.inr hk)
 ·rw [hk];exact lt_of_block h.hp
def plP (Q:PlN):Option Nat→Value
 | some i=>.pointer (some ⟨Q.cb,i*4,none⟩)
 | none=>.pointer none
def plSet (C:List Cel) (c:Cel):Option Nat→List Cel
 | some i=>C.set i c
 | none=>C
section
variable {Q:PlN} {σ:KSt} {C:List Cel}
theorem PlAt.cell {w:World} (h:PlAt w Q σ C) {i:Nat} {c:Cel} (hi:C[i]?=some c):w.cell? ⟨Q.cb,i*4,none⟩=some (.int .i64 c.1)∧w.cell? ⟨Q.cb,i*4+1,none⟩=some (.int .i64 c.2.1)∧w.cell? ⟨Q.cb,i*4+2,none⟩=some (.int .i64 c.2.2.1)∧w.cell? ⟨Q.cb,i*4+3,none⟩=some (.int .i64 c.2.2.2) :=
 ⟨zas zaH h.hc hi (j:=0) (by omega),zas zaH h.hc hi (j:=1) (by omega),zas zaH h.hc hi (j:=2) (by omega),zas zaH h.hc hi (j:=3) (by omega)⟩
theorem zbv (s:ByteArray) (hs:s.size≤maxLen) (w:World) (h:PlAt w Q σ C) :
  Calls Tryz.prog 62 #[.pointer (some ⟨Q.p,0,none⟩),.string s] w fun e w'=>e=.returned (plP Q (posN Q.N.n σ.K s))∧Below w.heap.size w w':=by
 have CF:=zhz (zb1 s hs w h.ix)
 have HH:=zhz h
 have k:=h.hp.rd
 have hn:=h.n1
 have t0:(Q.N.n:Int)≤1024:=by omega
 cases hp:posN Q.N.n σ.K s with
 | none =>
  rw [hp] at CF
  clear hp h hn
  go_enter Tryz.func62,Tryz.ntmps62
  go_wp2_with (go_at_call 89;refine (show Calls Tryz.prog 89 #[.pointer (some ⟨Q.N.x,0,none⟩),.string s] w (fun e w'=>e=.returned (.int .i64 (-1))∧Below w.heap.size w w') from CF.out).mono ?_;rintro e w1 ⟨rfl,b1⟩;have B1:=zhz b1;clear b1)
  go_ret
  exact ⟨rfl,B1.out⟩
 | some i =>
  rw [hp] at CF
  have hi:i<Q.N.n:=(zax hp).1
  have t1:(i:Int)<(Q.N.n:Int):=by omega
  have t2:decide ((i:Int)<0)=false:=by rw [zdn];omega
  clear hp h hn
  go_enter Tryz.func62,Tryz.ntmps62
  go_wp2_with (go_at_call 89;refine (show Calls Tryz.prog 89 #[.pointer (some ⟨Q.N.x,0,none⟩),.string s] w (fun e w'=>e=.returned (.int .i64 (i:Int))∧Below w.heap.size w w') from CF.out).mono ?_;rintro e w1 ⟨rfl,b1⟩;have B1:=zhz b1;have k:=(HH.out.hp.keep b1).rd;clear b1)
  go_ret
  exact ⟨by unfold plP;rfl,B1.out⟩
theorem zez (s:ByteArray) (hs:s.size≤maxLen) (c:Cel) (w:World) (h:PlAt w Q σ C) :
  Calls Tryz.prog 234 #[.pointer (some ⟨Q.p,0,none⟩),.string s,celV c] w fun e w'=>e=.returned (plP Q (σ.put Q.N.n s).2)∧PlAt w' Q (σ.put Q.N.n s).1 (plSet C c (σ.put Q.N.n s).2)∧Fr Q.F w w':=by
 obtain ⟨w1,hw1,k1,l1,s1⟩:=zad w #[.int .i64 c.1,.int .i64 c.2.1,.int .i64 c.2.2.1,.int .i64 c.2.2.2] 105
 obtain ⟨bx,hbx⟩:=zeq (w.heap.size)
 have CP:=zhz (zcE s hs w1 (h.ix.keep l1))
 have HH:=zhz (h.keep l1)
 have k:=HH.out.hp.rd
 have hn:=h.n1
 have hlt:=h.lt
 have t0:(Q.N.n:Int)≤1024:=by omega
 rw [← hbx] at k1
 have HX:=zhz (show ∀ k,Q.all k→k≠bx from fun k hk e=>by have:=hlt k hk;omega)
 have KX:=zhz k1
 have L1:=zhz l1
 have HB:=zhz hbx
 have hlt1:∀ i,(σ.put Q.N.n s).2=some i→i<Q.N.n:=fun i hi=>KSt.put_lt w h.ix s hi
 obtain ⟨r,hr⟩:=zeq (σ.put Q.N.n s)
 rw [← hr] at CP hlt1 ⊢
 clear h hn hlt k1 l1 s1 hr
 obtain ⟨σ',o⟩:=r
 go_enter Tryz.func234,Tryz.ntmps234
 go_upto_region 1 with (fail)
 rw [← HB.out]
 clear hw1 hbx
 cases o with
 | none =>
  clear hlt1
  go_wp2_with (go_at_call 248;refine (show Calls Tryz.prog 248 #[.pointer (some ⟨Q.N.x,0,none⟩),.string s] w1 (fun e w'=>e=.returned (.int .i64 (-1))∧IdxAt w' Q.N σ'∧Fr Q.N.F w1 w') from CP.out).mono ?_;rintro e w2 ⟨rfl,i2,f2⟩;have I2:=zhz i2;have F2:=zhz f2;clear i2 f2)
  go_ret
  have hh:=HH.out
  exact ⟨rfl,⟨hh.hp.fr F2.out (fun hF=>(hh.ne.2 _ (Or.inl hF)).2 rfl),hh.hc.fr F2.out (fun hF=>(hh.ne.2 _ (Or.inl hF)).1 rfl),hh.len,I2.out,hh.n1,hh.ne⟩,(Fr.of_below L1.out).trans (F2.out.mono (fun k hk=>Or.inl hk))⟩
 | some i =>
  have hi:=hlt1 i rfl
  have t1:(i:Int)<(Q.N.n:Int):=by omega
  have t2:decide ((i:Int)<0)=false:=by rw [zdn];omega
  clear hlt1
  have HI:=zhz hi
  go_upto_region 6 with (go_at_call 248;refine (show Calls Tryz.prog 248 #[.pointer (some ⟨Q.N.x,0,none⟩),.string s] w1 (fun e w'=>e=.returned (.int .i64 (i:Int))∧IdxAt w' Q.N σ'∧Fr Q.N.F w1 w') from CP.out).mono ?_;rintro e w2 ⟨rfl,i2,f2⟩;have I2:=zhz i2;have F2:=zhz f2;clear i2 f2)
  have hh:=HH.out
  have M2:=zhz (show PlAt w2 Q σ' C from ⟨hh.hp.fr F2.out (fun hF=>(hh.ne.2 _ (Or.inl hF)).2 rfl),hh.hc.fr F2.out (fun hF=>(hh.ne.2 _ (Or.inl hF)).1 rfl),hh.len,I2.out,hh.n1,hh.ne⟩)
  have kx:=(KX.out.fr F2.out (fun hF=>HX.out _ (Or.inl (Or.inl hF)) rfl)).rd
  have hil:i<C.length:=by rw [hh.len];exact hi
  obtain ⟨c0,hc0⟩:∃ c0,C[i]?=some c0:=⟨_,zge hil⟩
  have kc:=M2.out.cell hc0
  obtain ⟨kc0,kc1,kc2,kc3⟩:=kc
  clear k hh
  have k:=M2.out.hp.rd
  have kw:=M2.out.hc.wr
  have n1:bx≠Q.cb:=fun e=>HX.out Q.cb (Or.inl (Or.inr rfl)) e.symm
  have n2:Q.p≠Q.cb:=M2.out.ne.1
  go_region
  all_goals
    rw [zhm zaH M2.out.hc hil c rfl]
    have hlc:=lt_of_block M2.out.hc
    have F3:=zhz (show Fr Q.F w (setObj w2 Q.cb (.cells (rws encC (C.set i c)).toArray 105 (0,0))).drew from Fr.drew (Fr.setObj (F:=Q.F) ((Fr.of_below L1.out).trans (F2.out.mono (fun k hk=>Or.inl hk))) (Or.inr rfl) _))
    have M3:=zhz (show PlAt (setObj w2 Q.cb (.cells (rws encC (C.set i c)).toArray 105 (0,0))).drew Q σ' (C.set i c) from by
     have hf:Fr (fun k=>k=Q.cb) w2 (setObj w2 Q.cb (.cells (rws encC (C.set i c)).toArray 105 (0,0))).drew:=Fr.drew (Fr.setObj (F:=fun k=>k=Q.cb) (Fr.refl _ _) rfl _)
     exact ⟨M2.out.hp.fr hf n2,Blk.drew (zab hlc _),by rw [List.length_set];exact M2.out.len,M2.out.ix.fr hf (fun k hk e=>(M2.out.ne.2 k hk).1 e),M2.out.n1,M2.out.ne⟩)
    generalize (setObj w2 Q.cb (.cells (rws encC (C.set i c)).toArray 105 (0,0))).drew=w3 at M3 F3 ⊢
    clear kc0 kc1 kc2 kc3 k kw kx n1 n2 hlc
    have k:=M3.out.hp.rd
    go_wp2
    go_ret
    exact ⟨rfl,M3.out,F3.out⟩
def remV (C:List Cel):Option Nat→Value
 | some i=>.tuple #[celV (C.getD i (0,0,0,0)),.bool true]
 | none=>.tuple #[celV (0,0,0,0),.bool false]
theorem zeA (s:ByteArray) (hs:s.size≤maxLen) (w:World) (h:PlAt w Q σ C) :
  Calls Tryz.prog 251 #[.pointer (some ⟨Q.p,0,none⟩),.string s] w fun e w'=>e=.returned (remV C (σ.del Q.N.n s).2)∧PlAt w' Q (σ.del Q.N.n s).1 C∧Fr Q.F w w':=by
 obtain ⟨w1,hw1,k1,l1,s1⟩:=zad w #[.int .i64 0,.int .i64 0,.int .i64 0,.int .i64 0] 105
 obtain ⟨bx,hbx⟩:=zeq (w.heap.size)
 have CP:=zhz (zcf s hs w1 (h.ix.keep l1))
 have HH:=zhz (h.keep l1)
 have k:=HH.out.hp.rd
 have hn:=h.n1
 have hlt:=h.lt
 have t0:(Q.N.n:Int)≤1024:=by omega
 rw [← hbx] at k1
 have HX:=zhz (show ∀ k,Q.all k→k≠bx from fun k hk e=>by have:=hlt k hk;omega)
 have KX:=zhz k1
 have L1:=zhz l1
 have HB:=zhz hbx
 have hlt1:∀ i,(σ.del Q.N.n s).2=some i→i<Q.N.n:=fun i hi=>KSt.del_lt Q.N.n s hi
 obtain ⟨r,hr⟩:=zeq (σ.del Q.N.n s)
 rw [← hr] at CP hlt1 ⊢
 clear h hn hlt k1 l1 s1 hr
 obtain ⟨σ',o⟩:=r
 go_enter Tryz.func251,Tryz.ntmps251
 go_upto_region 1 with (fail)
 rw [← HB.out]
 clear hw1 hbx
 cases o with
 | none =>
  clear hlt1
  go_upto_region 5 with (go_at_call 260;refine (show Calls Tryz.prog 260 #[.pointer (some ⟨Q.N.x,0,none⟩),.string s] w1 (fun e w'=>e=.returned (.int .i64 (-1))∧IdxAt w' Q.N σ'∧Fr Q.N.F w1 w') from CP.out).mono ?_;rintro e w2 ⟨rfl,i2,f2⟩;have I2:=zhz i2;have F2:=zhz f2;clear i2 f2)
  have kx:=KX.out.fr F2.out (fun hF=>HX.out _ (Or.inl (Or.inl hF)) rfl)
  have HKX:=zhz kx
  have kr:=kx.rd
  have kw:=kx.wr
  clear kx
  go_wp2
  rw [zaj HKX.out]
  refine bodyPost_ret (zak rfl _ _ bx _ _ (0,0) _ rfl (zab (lt_of_block HKX.out) _) Tryz.underlying105 rfl (by kernel_rfl)) rfl ?_
  have hh:=HH.out
  have m2:PlAt w2 Q σ' C:=⟨hh.hp.fr F2.out (fun hF=>(hh.ne.2 _ (Or.inl hF)).2 rfl),hh.hc.fr F2.out (fun hF=>(hh.ne.2 _ (Or.inl hF)).1 rfl),hh.len,I2.out,hh.n1,hh.ne⟩
  have hf:Fr Q.F w (setObj w2 bx (.cells #[.int .i64 0,.int .i64 0,.int .i64 0,.int .i64 0] 105 (0,0))):=Fr.drop_new (F:=Q.F) (s:=bx) (Fr.setObj (F:=fun k=>Q.F k∨k=bx) ((Fr.of_below L1.out).trans (F2.out.mono (fun k hk=>Or.inl (Or.inl hk)))) (Or.inr rfl) _) (by have:=HB.out;omega)
  exact ⟨rfl,m2.fr (Fr.setObj (F:=fun k=>k=bx) (Fr.refl _ _) rfl _) (fun k hk e=>HX.out k hk e),hf⟩
 | some i =>
  have hi:=hlt1 i rfl
  have t1:(i:Int)<(Q.N.n:Int):=by omega
  have t2:decide ((i:Int)<0)=false:=by rw [zdn];omega
  clear hlt1
  have HI:=zhz hi
  go_upto_region 6 with (go_at_call 260;refine (show Calls Tryz.prog 260 #[.pointer (some ⟨Q.N.x,0,none⟩),.string s] w1 (fun e w'=>e=.returned (.int .i64 (i:Int))∧IdxAt w' Q.N σ'∧Fr Q.N.F w1 w') from CP.out).mono ?_;rintro e w2 ⟨rfl,i2,f2⟩;have I2:=zhz i2;have F2:=zhz f2;clear i2 f2)
  have hh:=HH.out
  have M2:=zhz (show PlAt w2 Q σ' C from ⟨hh.hp.fr F2.out (fun hF=>(hh.ne.2 _ (Or.inl hF)).2 rfl),hh.hc.fr F2.out (fun hF=>(hh.ne.2 _ (Or.inl hF)).1 rfl),hh.len,I2.out,hh.n1,hh.ne⟩)
  have kx:=KX.out.fr F2.out (fun hF=>HX.out _ (Or.inl (Or.inl hF)) rfl)
  have HKX:=zhz kx
  have hil:i<C.length:=by rw [hh.len];exact hi
  obtain ⟨c0,hc0⟩:∃ c0,C[i]?=some c0:=⟨_,zge hil⟩
  have hcD:C.getD i (0,0,0,0)=c0:=by rw [List.getD_eq_getElem?_getD,hc0];rfl
  obtain ⟨kc0,kc1,kc2,kc3⟩:=M2.out.cell hc0
  have HC:=zhz hcD
  clear k hh hc0 hil hcD
  have k:=M2.out.hp.rd
  have kr:=kx.rd
  have kw:=kx.wr
  clear kx
  go_wp2
  rw [zaj HKX.out]
  refine bodyPost_ret (zak rfl _ _ bx _ _ (0,0) _ rfl (zab (lt_of_block HKX.out) _) Tryz.underlying105 rfl (by kernel_rfl)) rfl ?_
  have hf:Fr Q.F w (setObj w2 bx (.cells #[.int .i64 c0.1,.int .i64 c0.2.1,.int .i64 c0.2.2.1,.int .i64 c0.2.2.2] 105 (0,0))):=Fr.drop_new (F:=Q.F) (s:=bx) (Fr.setObj (F:=fun k=>Q.F k∨k=bx) ((Fr.of_below L1.out).trans (F2.out.mono (fun k hk=>Or.inl (Or.inl hk)))) (Or.inr rfl) _) (by have:=HB.out;omega)
  exact ⟨by show _=Ending.returned (.tuple #[celV (C.getD i (0,0,0,0)),.bool true]);rw [HC.out];rfl,M2.out.fr (Fr.setObj (F:=fun k=>k=bx) (Fr.refl _ _) rfl _) (fun k hk e=>HX.out k hk e),hf⟩
theorem ziU (w:World) (h:PlAt w Q σ C):Calls Tryz.prog 57 #[.pointer (some ⟨Q.p,0,none⟩)] w fun e w'=>e=.returned (.int .i64 ((Q.N.n - σ.fl.length:Nat):Int))∧Below w.heap.size w w':=by
 have CU:=zhz (zgI w h.ix.ks)
 have k:=h.hp.rd
 clear h
 go_enter Tryz.func57,Tryz.ntmps57
 go_wp2_with (go_at_call 82;((with_reducible refine CU.out.mono ?_);rintro e w1 ⟨rfl,b1⟩;have B1:=zhz b1;clear b1))
 go_ret
 exact ⟨rfl,B1.out⟩
theorem zdf (w:World) (h:PlAt w Q σ C):Calls Tryz.prog 231 #[.pointer (some ⟨Q.p,0,none⟩)] w fun e w'=>e=.returned (.bool (decide (((Q.N.n - σ.fl.length:Nat):Int)=(Q.N.n:Int))))∧Below w.heap.size w w':=by
 have CU:=zhz (fun wx (hx:Below w.heap.size w wx)=>show Calls Tryz.prog 82 #[.pointer (some ⟨Q.N.b,0,none⟩)] wx (fun e w'=>e=.returned (.int .i64 ((Q.N.n - σ.fl.length:Nat):Int))∧(∀ (i:Nat),w'.cell? { block:=Q.p,off:=i }=(poolC Q)[i]?)∧Below w.heap.size w w') from (zgI wx (h.ix.keep hx).ks).mono (fun e w' hh=>⟨hh.1,(h.hp.keep (zae hx hh.2)).rd,zae hx hh.2⟩))
 have CL:=zhz (fun wx (hx:Below w.heap.size w wx)=>zb3 wx (h.ix.keep hx).ks)
 have k:=h.hp.rd
 clear h
 go_enter Tryz.func231,Tryz.ntmps231
 go_upto_region 1 with (fail)
 have y2:Below w.heap.size w w.drew:=zaa (Below.refl _ _) 1
 have k2:∀ (i:Nat),w.drew.cell? { block:=Q.p,off:=i }=(poolC Q)[i]?:=k
 go_region_held3 (fun w'=>(∀ (i:Nat),w'.cell? { block:=Q.p,off:=i }=(poolC Q)[i]?)∧Below w.heap.size w w') (refine ⟨?_,?_⟩ <;> assumption)
   (first
    | (go_at_call 82;((with_reducible refine (CU.out _ (by assumption)).mono ?_);rintro e w2 ⟨rfl,z1,z2⟩))
    | (go_at_call 85;((with_reducible refine (CL.out _ (by assumption)).mono ?_);rintro e w3 ⟨rfl,rfl⟩)))
 go_wp2
 go_ret
 first | exact ⟨rfl,by assumption⟩ | (refine ⟨?_,by assumption⟩;trace_state;rfl)
theorem za9 {W0 W1:World} {rb:Nat} {C:Array Value} (h:∀ j,W1.cell? ⟨rb,j,none⟩=C[j]?) (hb:Below W0.heap.size W0 W1) (hr:rb<W0.heap.size) (o:Obj):(∀ j,(W1.alloc o).cell? ⟨rb,j,none⟩=C[j]?)∧Below W0.heap.size W0 (W1.alloc o) :=
 ⟨fun j=>by rw [← h j];exact (Fr.alloc (F:=fun _=>False) (Fr.refl _ _) o).cell (by have:=hb.size;omega) (fun h=>h),hb.alloc hb.size o⟩
theorem zjV:(Tryz.prog.info? 105).map (fun i=>(i.zero,i.size,i.bytes))=some (some (.agg #[.int .i64 0,.int .i64 0,.int .i64 0,.int .i64 0]),4,32):=by kernel_rfl
theorem ziV (X A B:Nat) (hX:X<2305843009213693951) (hA:A<2305843009213693951) (hB:B<2305843009213693951) (n:Nat) (h1:1≤n) (hn:n≤1024) (w:World) :
  Calls Tryz.prog 92 #[.int .i64 (n:Int),.agg #[.int .u64 X,.int .u64 A,.int .u64 B]] w fun e w'=>∃ Q:PlN,e=.returned (.pointer (some ⟨Q.p,0,none⟩))∧PlAt w' Q (kNew n) (List.replicate n (0,0,0,0))∧Q.N.n=n∧(∀ k,Q.all k→w.heap.size≤k)∧Below w.heap.size w w':=by
 obtain ⟨i0,hi,hz0,hz1,hz2⟩:=info_parts zjV
 have hmk:=zgh zaH (by omega) (0,0,0,0) (P:=Tryz.prog) (t:=171) (e:=105) rfl Tryz.underlying171 hi hz0 hz1 hz2 n (by omega) (by omega)
 have CK:=zhz (fun w=>ziD n (by omega) w)
 have t1:decide ((n:Int)<1)=false:=by rw [zdn];omega
 have t2:decide ((1024:Int)<(n:Int))=false:=by rw [zdn];omega
 have t0:(n:Int)≤1024:=by omega
 have HN:=zhz (And.intro h1 hn)
 clear hi hz0 hz1 hz2 h1 hn
 go_enter Tryz.func92,Tryz.ntmps92
 go_upto_region 1 with (fail)
 obtain ⟨w1,hw1,hbk,hbl,hsz⟩:=zad w #[.int .u64 (X:Int),.int .u64 (A:Int),.int .u64 (B:Int)] 192
 rw [hw1]
 obtain ⟨rb,hrb⟩:=zeq (w.heap.size)
 rw [← hrb] at hbk ⊢
 have BK:=zhz hbk
 have HB:=zhz hbl
 have HS:=zhz (And.intro hsz hrb)
 clear hbk hbl hsz hw1 hrb
 go_upto_region 4 with (go_at_call 118;((with_reducible refine (CK.out _).mono ?_);rintro e w2 ⟨sb,sgb,sgs,sgf,rfl,hk,bk,hb⟩;have KK:=zhz hk;have HBB:=zhz hb;have K2:=zhz (BK.out.keep bk);have HB2:=zhz (zae HB.out bk);have HZ:=zhz bk.size;clear hk bk hb))
 have k:∀ j,w2.drew.cell? ⟨rb,j,none⟩=(#[.int .u64 (X:Int),.int .u64 (A:Int),.int .u64 (B:Int)]:Array Value)[j]?:=K2.out.drew.rd
 have y2:Below w2.heap.size w2 w2.drew:=zaa (Below.refl _ _) 1
 have RL:=zhz (lt_of_block K2.out)
 have CI:=zhz (fun wx (hx:Below w2.heap.size w2 wx)=>show Calls Tryz.prog 119 #[.pointer (some ⟨sb,0,none⟩),.agg #[.int .u64 X,.int .u64 A,.int .u64 B]] wx (fun e w'=>∃ x g,e=.returned (.pointer (some ⟨x,0,none⟩))∧IdxAt w' ⟨x,sb,X,A,B,g,sgb,sgs,sgf,n⟩ (kNew n)∧(∀ j,w'.cell? ⟨rb,j,none⟩=(#[.int .u64 (X:Int),.int .u64 (A:Int),.int .u64 (B:Int)]:Array Value)[j]?)∧Below w2.heap.size w2 w'∧Below wx.heap.size wx w'∧wx.heap.size≤x∧wx.heap.size≤g) from (zgc X A B hX hA hB sb sgb sgs sgf n wx (KK.out.keep hx)).mono (fun e w' ⟨x,g,he,hi,hb,hx1,hg1⟩=>⟨x,g,he,hi,((K2.out.keep hx).keep hb).rd,zae hx hb,hb,hx1,hg1⟩))
 go_region_held3 (fun w'=>(∀ j,w'.cell? ⟨rb,j,none⟩=(#[.int .u64 (X:Int),.int .u64 (A:Int),.int .u64 (B:Int)]:Array Value)[j]?)∧Below w2.heap.size w2 w') (first | (refine ⟨?_,?_⟩ <;> assumption) | exact za9 (by assumption) (by assumption) RL.out _ | exact za9 (za9 (by assumption) (by assumption) RL.out _).1 (za9 (by assumption) (by assumption) RL.out _).2 RL.out _)
   ((go_at_call 119;((with_reducible refine (CI.out _ (by first | assumption | exact And.right (by assumption))).mono ?_);rintro e w3 ⟨x,g,rfl,hi,z1,z2,z3,z4,z5⟩;have I3:=zhz hi;have B3:=zhz z3;have X3:=zhz (And.intro z4 z5);clear hi z3 z4 z5)))
 all_goals
   go_wp2
   go_ret
 all_goals
   have hn:=HN.out
   have hkl:=KK.out.lt
   have hbb:=HBB.out
   have hx:=X3.out
   have hil:=I3.out.lt
   have l1:=hil x (Or.inr rfl)
   have l2:=hil g (Or.inl (Or.inl rfl))
   have l3:=z2.size
   have l4:=HZ.out
   have l5:=HS.out
   have l6:=HB.out.size
   have l7:w2.drew.heap.size=w2.heap.size:=rfl
 ·obtain ⟨w4,hw4,k4,b4,s4⟩:=zad w3 (rws encC (List.replicate n (0,0,0,0))).toArray 105
  rw [hw4]
  obtain ⟨w5,hw5,k5,b5,s5⟩:=zad w4 #[.pointer (some ⟨sb,0,none⟩),.pointer (some ⟨x,0,none⟩),.slice (some ⟨w3.heap.size,0,none⟩) n n] 173
  rw [hw5]
  rw [s4] at k5
  have bb:=zae (zae (zae HB2.out z2) b4) b5
  refine ⟨⟨w3.heap.size+1,w3.heap.size,⟨x,sb,X,A,B,g,sgb,sgs,sgf,n⟩⟩,rfl,⟨k5,k4.keep b5,by rw [List.length_replicate],(I3.out.keep b4).keep b5,hn.2,by simp only;omega,?_⟩,rfl,?_,bb⟩
  ·rintro k ((hk | hk | hk | hk | hk) | hk) <;> simp only at hk ⊢ <;> omega
  ·rintro k (((hk | hk | hk | hk | hk) | hk) | hk | hk) <;> simp only at hk ⊢ <;> omega
 ·obtain ⟨w5,hw5,k5,b5,s5⟩:=zad w3 #[.pointer (some ⟨sb,0,none⟩),.pointer (some ⟨x,0,none⟩),.slice (some ⟨w2.heap.size,0,none⟩) n n] 173
  rw [hw5]
  have k4:Blk w3 w2.heap.size 105 (rws encC (List.replicate n (0,0,0,0))).toArray:=by
   obtain ⟨w4,hw4,k4,b4,s4⟩:=zad w2 (rws encC (List.replicate n (0,0,0,0))).toArray 105
   have b3:=B3.out
   rw [hw4] at b3
   exact k4.drew.keep b3
  have l8:(w2.alloc (Obj.cells (rws encC (List.replicate n (0,0,0,0))).toArray 105)).drew.heap.size=w2.heap.size+1:=by
   show (w2.heap.push _).size=_
   simp
  rw [l8] at hx
  have bb:=zae (zae HB2.out z2) b5
  refine ⟨⟨w3.heap.size,w2.heap.size,⟨x,sb,X,A,B,g,sgb,sgs,sgf,n⟩⟩,rfl,⟨k5,k4.keep b5,by rw [List.length_replicate],I3.out.keep b5,hn.2,by simp only;omega,?_⟩,rfl,?_,bb⟩
  ·rintro k ((hk | hk | hk | hk | hk) | hk) <;> simp only at hk ⊢ <;> omega
  ·rintro k (((hk | hk | hk | hk | hk) | hk) | hk | hk) <;> simp only at hk ⊢ <;> omega
end
section
open Ar (inR)
structure SlN where
 b:Nat
 g:Nat
 k:Nat
 W:Nat
 X:Nat→Nat
 A:Nat→Nat
 B:Nat→Nat
def SlN.P (N:SlN) (j:Nat) (s:ByteArray):Nat:=plc (Ha.hof (N.X j) (N.A j) (N.B j) s.data.toList) (N.W:Int)
structure SlC (N:SlN) (C:Array Value):Prop where
 sz:C.size=28
 m:C[24]?=some (.slice none 0 0)
 d:C[25]?=some (.int .i64 (N.k:Int))
 w:C[26]?=some (.int .i64 (N.W:Int))
 c:C[27]?=some (.slice (some ⟨N.g,0,none⟩) (N.k*N.W) (N.k*N.W))
 r:∀ j,j<N.k→C[j*3]?=some (.int .u64 (N.X j))∧C[j*3+1]?=some (.int .u64 (N.A j))∧C[j*3+2]?=some (.int .u64 (N.B j))
structure SlAt (w:World) (N:SlN) (f:Nat→Nat→Int):Prop where
 hb:∃ C,Blk w N.b 266 C∧SlC N C
 hg:Blk w N.g 2 (numC .i64 (Sk.tab f N.k N.W))
 ne:N.b≠N.g
 bd:(1≤N.k∧N.k≤8)∧1≤N.W∧8*(N.k*N.W)≤2147483647
 lt:∀ j,j<N.k→N.X j<2305843009213693951∧N.A j<2305843009213693951∧N.B j<2305843009213693951
 ok:Sk.okC f
section
variable {w w':World} {N:SlN} {f:Nat→Nat→Int}
theorem SlAt.keep {W:World} (h:SlAt W N f) (hb:Below W.heap.size W w):SlAt w N f:=by
 obtain ⟨C,h1,h2⟩:=h.hb
 exact ⟨⟨C,h1.keep hb,h2⟩,h.hg.keep hb,h.ne,h.bd,h.lt,h.ok⟩
theorem SlAt.fr {W:World} {F:Nat→Prop} (h:SlAt W N f) (hf:Fr F W w) (h1:¬ F N.b) (h2:¬ F N.g):SlAt w N f:=by
 obtain ⟨C,c1,c2⟩:=h.hb
 exact ⟨⟨C,c1.fr hf h1,c2⟩,h.hg.fr hf h2,h.ne,h.bd,h.lt,h.ok⟩
theorem SlAt.cells (h:SlAt w N f):w.cell? ⟨N.b,24,none⟩=some (.slice none 0 0)∧w.cell? ⟨N.b,25,none⟩=some (.int .i64 (N.k:Int))∧w.cell? ⟨N.b,26,none⟩=some (.int .i64 (N.W:Int))∧w.cell? ⟨N.b,27,none⟩=some (.slice (some ⟨N.g,0,none⟩) (N.k*N.W) (N.k*N.W)):=by
 obtain ⟨C,h1,h2⟩:=h.hb
 exact ⟨by rw [zag h1];exact h2.m,by rw [zag h1];exact h2.d,by rw [zag h1];exact h2.w,by rw [zag h1];exact h2.c⟩
theorem SlAt.row (h:SlAt w N f) {j:Nat} (hj:j<N.k):w.cell? ⟨N.b,j*3,none⟩=some (.int .u64 (N.X j))∧w.cell? ⟨N.b,j*3+1,none⟩=some (.int .u64 (N.A j))∧w.cell? ⟨N.b,j*3+2,none⟩=some (.int .u64 (N.B j)):=by
 obtain ⟨C,h1,h2⟩:=h.hb
 have:=h2.r j hj
 exact ⟨by rw [zag h1];exact this.1,by rw [zag h1];exact this.2.1,by rw [zag h1];exact this.2.2⟩
theorem SlN.P_lt (N:SlN) (hW:1≤N.W) (j:Nat) (s:ByteArray):N.P j s<N.W:=by
 have:=zk7 (Ha.hof (N.X j) (N.A j) (N.B j) s.data.toList) (n:=(N.W:Int)) (by omega)
 rw [Int.toNat_natCast] at this
 exact this
theorem SlAt.count (h:SlAt w N f) {j p:Nat} (hj:j<N.k) (hp:p<N.W):w.cell? ⟨N.g,j*N.W+p,none⟩=some (.int .i64 (f j p)):=by
 rw [zag h.hg,List.getElem?_toArray,List.getElem?_map,Sk.tab_get hj hp];rfl
theorem zeV {w:World} {b:Nat} {t:TypeId} {a0 a1 a2:Value} (hb:Blk w b t #[a0,a1,a2]) (x y z:Value) :
  ((w.setCell ⟨b,0,none⟩ x).setCell ⟨b,1,none⟩ y).setCell ⟨b,2,none⟩ z=setObj w b (.cells #[x,y,z] t (0,0)):=by
 have hl:=lt_of_block hb
 rw [zac hb,zai hl,zai hl]
 simp only [zs1,zs2,zs3]
theorem zkB (j:Nat) (w:World) (h:SlAt w N f) (hj:j<N.k) :
  Calls Tryz.prog 267 #[.pointer (some ⟨N.b,0,none⟩),.int .i64 (j:Int)] w fun e w'=>e=.returned (.agg #[.int .u64 (N.X j),.int .u64 (N.A j),.int .u64 (N.B j)])∧Below w.heap.size w w':=by
 obtain ⟨w1,hw1,k1,l1,s1⟩:=zad w #[.int .u64 0,.int .u64 0,.int .u64 0] 192
 obtain ⟨bx,hbx⟩:=zeq (w.heap.size)
 rw [← hbx] at k1
 obtain ⟨r0,r1,r2⟩:=(h.keep l1).row hj
 have KX:=zhz k1
 have L1:=zhz l1
 have HB:=zhz hbx
 have kr:=k1.rd
 have kw:=k1.wr
 have hj8:(j:Int)<8:=by have:=h.bd.1.2;omega
 have t1:decide ((j:Int)<8)=true:=by rw [decide_eq_true_iff];omega
 have n1:N.b≠bx:=fun e=>by obtain ⟨C,c1,_⟩:=h.hb;have:=lt_of_block c1;omega
 clear h hj k1 l1 s1
 go_enter Tryz.func267,Tryz.ntmps267
 go_upto_region 1 with (fail)
 rw [← HB.out]
 clear hw1 hbx
 go_wp2
 rw [zeV KX.out]
 refine bodyPost_ret (results_cell_row rfl _ _ bx _ _ (0,0) _ rfl (zab (lt_of_block KX.out) _) Tryz.underlying192 rfl (by kernel_rfl)) rfl ⟨rfl,L1.out.trans ((Fr.setObj (F:=fun k=>k=bx) (Fr.refl _ _) rfl _).below L1.out.size (fun k hk=>by have:=HB.out;omega))⟩
theorem zjd (j:Nat) (s:ByteArray) (hs:s.size≤maxLen) (w:World) (h:SlAt w N f) (hj:j<N.k) :
  Calls Tryz.prog 263 #[.pointer (some ⟨N.b,0,none⟩),.int .i64 (j:Int),.string s] w fun e w'=>e=.returned (.int .i64 ((j*N.W+N.P j s:Nat):Int))∧Below w.heap.size w w':=by
 have CR:=zhz (fun wx (hb:Below w.heap.size w wx)=>(zkB j wx (h.keep hb) hj).mono (fun e w' hh=>show e=_∧w'.cell? ⟨N.b,26,none⟩=some (.int .i64 (N.W:Int))∧Below w.heap.size w w' from ⟨hh.1,(h.keep (hb.trans (hh.2.mono hb.size))).cells.2.2.1,hb.trans (hh.2.mono hb.size)⟩))
 have hl:=h.lt j hj
 have hbd:=h.bd
 have CB:=zhz (fun wx (hb:Below w.heap.size w wx)=>(zcY (N.X j) (N.A j) (N.B j) hl.1 hl.2.1 hl.2.2 s hs (N.W:Int) (by have:N.W≤N.k*N.W:=Nat.le_mul_of_pos_left _ (by omega);omega) wx).mono (fun e w' hh=>show e=.returned (.int .i64 (N.P j s:Nat))∧w'.cell? ⟨N.b,26,none⟩=some (.int .i64 (N.W:Int))∧Below w.heap.size w w' from ⟨hh.1,(h.keep (hb.trans (hh.2.mono hb.size))).cells.2.2.1,hb.trans (hh.2.mono hb.size)⟩))
 have hpl:=N.P_lt hbd.2.1 j s
 have hat:=Sk.at_lt hj hpl
 obtain ⟨m,hm⟩:=zeq (j*N.W)
 obtain ⟨p,hp⟩:=zeq (N.P j s)
 rw [← hm,← hp] at hat ⊢
 rw [← hp] at CB
 have e1:(j:Int)*(N.W:Int)=(m:Int):=by rw [hm,Int.natCast_mul]
 have e2:IntKind.i64.wrap (m:Int)=(m:Int):=by rw [IntKind.wrap_i64];omega
 have e3:IntKind.i64.wrap ((m:Int)+(p:Int))=((m+p:Nat):Int):=by rw [IntKind.wrap_i64];omega
 have e4:((m+p:Nat):Int)=(m:Int)+(p:Int):=by omega
 rw [e4] at e3 ⊢
 have k2:w.drew.cell? ⟨N.b,26,none⟩=some (.int .i64 (N.W:Int)):=h.cells.2.2.1
 have y2:Below w.heap.size w w.drew:=zaa (Below.refl _ _) 1
 clear h hj hl hbd hpl hat hm hp e4
 go_enter Tryz.func263,Tryz.ntmps263
 go_upto_region 1 with (fail)
 go_region_held3 (fun w'=>w'.cell? ⟨N.b,26,none⟩=some (.int .i64 (N.W:Int))) (assumption)
   (first
    | (go_at_call 267;((with_reducible refine (CR.out _ (by assumption)).mono ?_);rintro e wa ⟨rfl,z1,b1⟩))
    | (go_at_call 147;((with_reducible refine (CB.out _ (by assumption)).mono ?_);rintro e wb ⟨rfl,z2,b2⟩)))
 go_wp2
 go_ret
 exact ⟨rfl,b2⟩
theorem zdm (j:Nat) (s:ByteArray) (hs:s.size≤maxLen) (w:World) (h:SlAt w N f) (hj:j<N.k) :
  Calls Tryz.prog 264 #[.pointer (some ⟨N.b,0,none⟩),.int .i64 (j:Int),.string s] w fun e w'=>e=.returned (.int .i64 (f j (N.P j s)))∧Below w.heap.size w w':=by
 have hbd:=h.bd
 have hpl:=N.P_lt hbd.2.1 j s
 have hat:=Sk.at_lt hj hpl
 have hc:=fun (wx:World) (hb:Below w.heap.size w wx)=>(h.keep hb).count hj hpl
 have CA:=zhz (fun wx (hb:Below w.heap.size w wx)=>zjd j s hs wx (h.keep hb) hj)
 obtain ⟨q,hq⟩:=zeq (j*N.W+N.P j s)
 obtain ⟨m,hm⟩:=zeq (N.k*N.W)
 obtain ⟨v,hv⟩:=zeq (f j (N.P j s))
 rw [← hq] at CA hat
 rw [← hm] at hat
 simp only [← hq,← hv] at hc
 rw [← hv]
 have SB:=zhz (fun wx (hb:Below w.heap.size w wx)=>show wx.cell? ⟨N.b,27,none⟩=some (.slice (some ⟨N.g,0,none⟩) m m)∧wx.cell? ⟨N.g,q,none⟩=some (.int .i64 v) from ⟨by rw [hm];exact (h.keep hb).cells.2.2.2,hc wx hb⟩)
 have kd:=h.cells.2.1
 have t1:(j:Int)<(N.k:Int):=by omega
 have t2:(q:Int)<(m:Int):=by omega
 have t3:decide ((j:Int)<0)=false:=by rw [zdn];omega
 have t4:decide ((N.k:Int)≤(j:Int))=false:=by rw [zdn];omega
 have y2:Below w.heap.size w w.drew:=zaa (Below.refl _ _) 1
 have k2:=SB.out _ y2
 clear h hj hbd hpl hat hc hq hm hv
 go_enter Tryz.func264,Tryz.ntmps264
 go_upto_region 3 with (fail)
 go_region_held3 (fun w'=>w'.cell? ⟨N.b,27,none⟩=some (.slice (some ⟨N.g,0,none⟩) m m)∧w'.cell? ⟨N.g,q,none⟩=some (.int .i64 v)) (first | assumption | exact SB.out _ b1)
   (first
    | (go_at_call 263;((with_reducible refine (CA.out _ y2).mono ?_);rintro e wa ⟨rfl,b0⟩;have b1:=y2.trans (b0.mono y2.size))))
 go_wp2
 go_ret
 exact ⟨rfl,b1⟩
theorem zkx (z:Int) (j:Nat) (hz:z=(j:Int)) (s:ByteArray) (hs:s.size≤maxLen) (w:World) (h:SlAt w N f) (hj:j<N.k) :
  Calls Tryz.prog 264 #[.pointer (some ⟨N.b,0,none⟩),.int .i64 z,.string s] w fun e w'=>e=.returned (.int .i64 (f j (N.P j s)))∧Below w.heap.size w w':=by
 rw [hz];exact zdm j s hs w h hj
theorem zdo (s:ByteArray) (hs:s.size≤maxLen) (w:World) (h:SlAt w N f) :
  Calls Tryz.prog 259 #[.pointer (some ⟨N.b,0,none⟩),.string s] w fun e w'=>e=.returned (.int .i64 (Sk.leastR f N.P s (N.k - 1)))∧Below w.heap.size w w':=by
 have hbd:=h.bd
 have C0:=zhz (fun wx (hb:Below w.heap.size w wx)=>zkx 0 0 rfl s hs wx (h.keep hb) (by omega))
 have CC:=zhz (fun (j:Nat) (hj:j<N.k) wx (hb:Below w.heap.size w wx)=>zdm j s hs wx (h.keep hb) hj)
 have HH:=zhz h
 have HK:=zhz hbd.1
 have hk8:(N.k:Int)≤8:=by omega
 clear h hbd
 go_enter Tryz.func259,Tryz.ntmps259
 go_wp2_with (go_at_call 264;((with_reducible refine (C0.out _ (Below.refl _ _)).mono ?_);rintro e w1 ⟨rfl,b1⟩;have B1:=zhz b1;clear b1))
 go_loopg [5,6] (N.k - 1) (fun kk sl sr wr=>∃ r:Nat,r<N.k∧Hid (kk=N.k - 1 - r)∧sl=.int .i64 (Sk.leastR f N.P s r)∧sr=.int .i64 ((r:Int)+1)∧Hid (Below w.heap.size w wr))
 case atStart=>exact ⟨0,by have:=HK.out;omega,zhz rfl,rfl,rfl,B1⟩
 case round =>
  obtain ⟨r,hr,HKK,rfl,rfl,HB⟩:=hrel
  have kd:=(HH.out.keep HB.out).cells.2.1
  by_cases hlt:r+1<N.k
  ·have c1:=CC.out (r+1) hlt wr HB.out
   rw [show ((r+1:Nat):Int)=(r:Int)+1 by omega] at c1
   have CR:=zhz c1
   have hmin:min (Sk.leastR f N.P s r) (f (r+1) (N.P (r+1) s))=Sk.leastR f N.P s (r+1):=rfl
   obtain ⟨lv,hlv⟩:=zeq (Sk.leastR f N.P s r)
   obtain ⟨cv,hcv⟩:=zeq (f (r+1) (N.P (r+1) s))
   obtain ⟨nv,hnv⟩:=zeq (Sk.leastR f N.P s (r+1))
   rw [← hlv,← hcv,← hnv] at hmin
   rw [← hcv] at CR
   rw [← hlv]
   have t1:(r:Int)+1<(N.k:Int):=by omega
   have e1:IntKind.i64.wrap ((r:Int)+1+1)=((r:Int)+1)+1:=by rw [IntKind.wrap_i64];omega
   have HN:=zhz (And.intro hnv hlt)
   clear c1 hlv hcv hnv hlt
   go_wp2_with (go_at_call 264;((with_reducible refine CR.out.mono ?_);rintro e w2 ⟨rfl,b2⟩;have B2:=zhz (HB.out.trans (b2.mono HB.out.size));clear b2))
   go_roundg (N.k - 1 - (r+1))
   case measure=>have:=HKK.out;have:=HN.out.2;omega
   case rel=>exact ⟨r+1,HN.out.2,zhz rfl,by rw [HN.out.1],by go_num,B2⟩
  ·have hrk:r=N.k - 1:=by omega
   have t1:decide ((r:Int)+1<(N.k:Int))=false:=by rw [zdn];omega
   have t2:¬ ((r:Int)+1<(N.k:Int)):=by omega
   have HR:=zhz hrk
   clear hrk hlt
   go_wp2
   go_ret
   exact ⟨by show Ending.returned (.int .i64 (Sk.leastR f N.P s r))=_;rw [HR.out],HB.out⟩
theorem SlAt.put {g:Nat→Nat→Int} (h:SlAt w N f) (hg:Sk.okC g):SlAt (setObj w N.g (.cells (numC .i64 (Sk.tab g N.k N.W)) 2 (0,0))) N g:=by
 have hf:Fr (fun k=>k=N.g) w (setObj w N.g (.cells (numC .i64 (Sk.tab g N.k N.W)) 2 (0,0))):=Fr.setObj (F:=fun k=>k=N.g) (Fr.refl _ w) rfl _
 obtain ⟨C,c1,c2⟩:=h.hb
 exact ⟨⟨C,c1.fr hf h.ne,c2⟩,zab (lt_of_block h.hg) _,h.ne,h.bd,h.lt,hg⟩
theorem zgC (s:ByteArray) (hs:s.size≤maxLen) (c:Int) (hc : -9223372036854775808≤c∧c≤9223372036854775807) (w:World) (h:SlAt w N f) :
  Calls Tryz.prog 256 #[.pointer (some ⟨N.b,0,none⟩),.string s,.int .i64 c] w fun e w'=>e=.returned (.tuple #[])∧SlAt w' N (Sk.add f N.P N.k s c)∧Fr (fun k=>k=N.g) w w':=by
 by_cases hc1:c<1
 ·have e:Sk.add f N.P N.k s c=f:=by unfold Sk.add;rw [if_pos hc1]
  rw [e]
  have t1:decide (c<1)=true:=by rw [decide_eq_true_iff];exact hc1
  have HH:=zhz h
  clear h e
  go_enter Tryz.func256,Tryz.ntmps256
  go_wp2
  exact bodyPost_ret (results_none rfl _ _ _) rfl ⟨rfl,HH.out,Fr.refl _ _⟩
 have t1:decide (c<1)=false:=by rw [zdn];exact hc1
 have hl:=h.ok.least N.P s (N.k - 1)
 have CL:=zhz (zdo s hs w h)
 have hcp:=Sk.clamp_pos hl (c:=c) (by omega)
 obtain ⟨lv,hlv⟩:=zeq (Sk.leastR f N.P s (N.k - 1))
 rw [← hlv] at CL hl hcp
 have CS:=zhz (fun w=>zaS lv c (by unfold inR;omega) (by unfold inR;omega) w)
 obtain ⟨fl,hfl⟩:=zeq (clamp (lv+c))
 rw [← hfl] at CS hcp
 have e:Sk.add f N.P N.k s c=Sk.raise f N.P s fl N.k:=by unfold Sk.add;rw [if_neg hc1,hfl,hlv]
 rw [e]
 have hbd:=h.bd
 have HH:=zhz h
 have HK:=zhz (And.intro hbd (show 0≤fl∧fl≤9223372036854775807 by omega))
 have hk8:(N.k:Int)≤8:=by omega
 clear h hbd hl hlv hfl hcp e hc1
 go_enter Tryz.func256,Tryz.ntmps256
 go_upto_region 2 with (first
  | (go_at_call 259;((with_reducible refine CL.out.mono ?_);rintro e w1 ⟨rfl,b1⟩;have B1:=zhz b1;have H1:=zhz (HH.out.keep b1);clear b1))
  | (go_at_call 61;((with_reducible refine (CS.out _).mono ?_);rintro e w2 hh;(try obtain ⟨rfl,rfl⟩:=hh))))
 have kd:=H1.out.cells.2.1
 clear CL CS HH
 go_wp2
 go_loopg [24] N.k (fun kk si wr=>∃ r:Nat,r≤N.k∧Hid (kk=N.k - r)∧si=.int .i64 (r:Int)∧Hid (SlAt wr N (Sk.raise f N.P s fl r))∧Hid (Fr (fun k=>k=N.g) w wr))
 case atStart=>exact ⟨0,by omega,zhz rfl,rfl,zhz (by rw [Sk.raise_zero];exact H1.out),zhz (Fr.of_below B1.out)⟩
 case round =>
  obtain ⟨r,hr,HKK,rfl,HS,HF⟩:=hrel
  clear kd
  by_cases hlt:r<N.k
  ·have hpl:=N.P_lt HK.out.1.2.1 r s
   have hat:=Sk.at_lt hlt hpl
   have CA:=zhz (zjd r s hs wr HS.out hlt)
   have hcc:=fun (wx:World) (hb:Below wr.heap.size wr wx)=>(HS.out.keep hb).count hlt hpl
   have h27:=fun (wx:World) (hb:Below wr.heap.size wr wx)=>(HS.out.keep hb).cells.2.2.2
   rw [Sk.raise_at] at hcc
   have hok:=HS.out.ok r (N.P r s)
   rw [Sk.raise_at] at hok
   obtain ⟨q,hq⟩:=zeq (r*N.W+N.P r s)
   obtain ⟨m,hm⟩:=zeq (N.k*N.W)
   obtain ⟨v,hv⟩:=zeq (f r (N.P r s))
   obtain ⟨mx,hmx⟩:=zeq (max v fl)
   have hset:(Sk.tab (Sk.raise f N.P s fl r) N.k N.W).set q mx=Sk.tab (Sk.raise f N.P s fl (r+1)) N.k N.W:=by
    rw [hq,Sk.tab_set hlt hpl,hmx,hv,Sk.raise_up]
   rw [← hq] at CA hat
   rw [← hm] at hat
   simp only [← hq,← hv] at hcc
   rw [← hm] at h27
   rw [← hv] at hok
   have SB:=zhz (fun wx (hb:Below wr.heap.size wr wx)=>show wx.cell? ⟨N.b,27,none⟩=some (.slice (some ⟨N.g,0,none⟩) m m)∧wx.cell? ⟨N.g,q,none⟩=some (.int .i64 v) from ⟨h27 wx hb,hcc wx hb⟩)
   have HC:=zhz (And.intro hset (And.intro hlt (show Sk.okC (Sk.raise f N.P s fl (r+1)) from by
    have:=HS.out.ok
    intro j p
    have h1:=congrFun (congrFun (Sk.raise_up f N.P s fl r) j) p
    rw [← h1]
    split
    ·rw [← hv];have:=HK.out.2;omega
    ·exact this j p)))
   have hmax:max v fl=mx:=hmx.symm
   have hmax2:(if v<fl then fl else v)=mx:=by rw [hmx];split <;> omega
   have t2:(r:Int)<(N.k:Int):=by omega
   have t3:(q:Int)<(m:Int):=by omega
   clear hpl hat hcc h27 hok hq hm hv hmx hset
   go_upto_region 6 with (go_at_call 263;((with_reducible refine CA.out.mono ?_);rintro e w3 ⟨rfl,b3⟩;have B3:=zhz b3;clear b3))
   obtain ⟨k27,kq⟩:=SB.out _ B3.out
   have kgw:=(HS.out.keep B3.out).hg.wr
   go_region
   rw [zac (HS.out.keep B3.out).hg,zbu,HC.out.1]
   have S4:=zhz ((HS.out.keep B3.out).put HC.out.2.2)
   have F4:=zhz (Fr.setObj (HF.out.trans (Fr.of_below B3.out:Fr (fun k=>k=N.g) wr w3)) rfl (.cells (numC .i64 (Sk.tab (Sk.raise f N.P s fl (r+1)) N.k N.W)) 2 (0,0)))
   generalize (setObj w3 N.g (.cells (numC .i64 (Sk.tab (Sk.raise f N.P s fl (r+1)) N.k N.W)) 2 (0,0)))=w5 at S4 F4 ⊢
   have D5:=zhz (show Below w5.heap.size w5 w5.drew from zaa (Below.refl _ _) 1)
   generalize w5.drew=w6 at D5 ⊢
   go_wp2
   go_roundg (N.k - (r+1))
   case measure=>have:=HKK.out;have:=HC.out.2.1;omega
   case rel=>exact ⟨r+1,HC.out.2.1,zhz rfl,by go_num,zhz (S4.out.keep D5.out),zhz (F4.out.trans (Fr.of_below D5.out))⟩
  ·have hrk:r=N.k:=by omega
   have t2:¬ ((r:Int)<(N.k:Int)):=by omega
   have HR:=zhz hrk
   clear hrk hlt
   go_wp2
   go_end0
   have hs:=HS.out
   rw [HR.out] at hs
   exact ⟨rfl,hs,HF.out⟩
theorem zdr:∀ (l m:List Int) (o:Nat) (pre:List Int),pre.length=o→l.length=m.length→splice (pre++l) o m=pre++m
 | [],[],o,pre,_,_=>by unfold splice;rfl
 | a :: l,b :: m,o,pre,hp,hl=>by
  have ih:=zdr l m (o+1) (pre++[b]) (by simp [hp]) (by simpa using hl)
  unfold splice
  rw [show (pre++a :: l).set o b=(pre++[b])++l by
   rw [List.set_append_right _ _ (by omega),hp,Nat.sub_self];simp]
  rw [ih];simp
 | [],_ :: _,_,_,_,h=>by simp at h
 | _ :: _,[],_,_,_,h=>by simp at h
theorem zhn (w:World) (h:SlAt w N f) :
  Calls Tryz.prog 255 #[.pointer (some ⟨N.b,0,none⟩)] w fun e w'=>e=.returned (.tuple #[])∧SlAt w' N (fun _ _=>0)∧Fr (fun k=>k=N.g) w w':=by
 obtain ⟨m,hm⟩:=zeq (N.k*N.W)
 have hm1:0<m:=by rw [hm];exact Nat.mul_pos (by have:=h.bd.1.1;omega) (by have:=h.bd.2.1;omega)
 have hcl:(Builtin.clear_ #[94] 0 #[.slice (some ⟨N.g,0,none⟩) m m]).run Tryz.prog w=.ok (.tuple #[]) (setObj w N.g (.cells (numC .i64 (Sk.tab (fun _ _=>0) N.k N.W)) 2 (0,0))):=by
  have:=Lib.run_clear_slice (P:=Tryz.prog) w 94 2 0 (.int .i64 0) Tryz.underlying94 (fun w=>by kernel_rfl) rfl rfl N.g 0 m m hm1
    (fun j hj=>by rw [Nat.zero_add,zag h.hg,List.getElem?_toArray,List.getElem?_map,zge (by rw [Sk.tab_len];omega)];rfl) (fun j _=>zcm h.hg)
  rw [this]
  congr 1
  have e:=zci (w:=w) (b:=N.g) (t:=2) .i64 (List.replicate m 0) (Sk.tab f N.k N.W) 0 h.hg
  rw [List.map_replicate] at e
  rw [e]
  have e2:=zdr (Sk.tab f N.k N.W) (List.replicate m 0) 0 [] rfl (by rw [Sk.tab_len,List.length_replicate,hm])
  rw [List.nil_append,List.nil_append] at e2
  rw [e2,Sk.tab_zero,hm]
 have k27:=h.cells.2.2.2
 rw [← hm] at k27
 have HP:=zhz (h.put (g:=fun _ _=>0) (fun _ _=>by show (0:Int)≤0∧(0:Int)≤9223372036854775807;omega))
 clear h hm
 go_enter Tryz.func255,Tryz.ntmps255
 go_wp2
 go_end0
 exact ⟨rfl,HP.out,Fr.setObj (F:=fun k=>k=N.g) (Fr.refl _ _) rfl _⟩
end
end
def dA (_a b _c:Nat):Nat:=b % 2305843009213693950+1
end Go.Proofs.YtannniobeanhlaaGreat
