import Derived.Test.YtannniobeanhlaaGreatByt
import Derived.Test.YtannniobeanhlaaGreatZKyMath
import Derived.Deep.RegionHeld3
import Derived.StillTailTactics
import Derived.BigQuiet
import Derived.Deep.Cut
set_option linter.unusedSimpArgs false
set_option linter.unusedVariables false
set_option maxRecDepth 100000
set_option maxHeartbeats 9000000
namespace Go.Proofs.YtannniobeanhlaaGreat
open Go.ChangeShapes Go.WideShapes Go.ChangeAt Go.RowKit
abbrev bufC (g size first m:Nat):Array Value:=#[.slice (some ⟨g,0,none⟩) size size,.int .i64 (first:Int),.int .i64 (m:Int)]
abbrev obbyC (arr:List Int):Array Value:=(arr.map (Value.int .u8)).toArray
theorem zes (arr:List Int) (i:Nat) (h:i<arr.length):(obbyC arr)[i]?=some (.int .u8 (arr.getD i 0)):=by
 unfold obbyC
 rw [List.getElem?_toArray,List.getElem?_map,zge h]
 simp [List.getD,h]
def BufAt (w:World) (b g size:Nat) (q:List Int):Prop :=
 ∃ (first:Nat) (arr:List Int),Blk w b 167 (bufC g size first q.length)∧Blk w g 5 (obbyC arr)∧Ring arr size first q∧b≠g∧size≤65536
theorem BufAt.keep {W w:World} {b g size:Nat} {q:List Int} (h:BufAt W b g size q) (hb:Below W.heap.size W w):BufAt w b g size q:=by
 obtain ⟨first,arr,h1,h2,h3⟩:=h
 exact ⟨first,arr,h1.keep hb,h2.keep hb,h3⟩
theorem BufAt.fr {W w:World} {F:Nat→Prop} {b g size:Nat} {q:List Int} (h:BufAt W b g size q) (hf:Fr F W w) (h1:¬ F b) (h2:¬ F g):BufAt w b g size q:=by
 obtain ⟨first,arr,k1,k2,k3⟩:=h
 exact ⟨first,arr,k1.fr hf h1,k2.fr hf h2,k3⟩
theorem BufAt.lt {w:World} {b g size:Nat} {q:List Int} (h:BufAt w b g size q):b<w.heap.size∧g<w.heap.size:=by
 obtain ⟨first,arr,h1,h2,h3⟩:=h
 exact ⟨lt_of_block h1,lt_of_block h2⟩
theorem BufAt.le {w:World} {b g size:Nat} {q:List Int} (h:BufAt w b g size q):q.length≤size∧1≤size∧size≤65536:=by
 obtain ⟨first,arr,h1,h2,h3,h4⟩:=h
 exact ⟨h3.2.2.1,by have:=h3.2.1;omega,h4.2⟩
theorem obinfo5:(Tryz.prog.info? 5).map (fun i=>(i.zero,i.size,i.bytes))=some (some (.int .u8 0),1,1):=by kernel_rfl
theorem ziE (n:Nat) (h1':1≤n) (h2':n≤65536) (w:World):Calls Tryz.prog 63 #[.int .i64 (n:Int)] w fun e w'=>e=.returned (.pointer (some ⟨w.heap.size+1,0,none⟩))∧BufAt w' (w.heap.size+1) w.heap.size n []∧Below w.heap.size w w':=by
 have t1:decide ((n:Int)<1)=false:=by simp;omega
 have t2:decide ((65536:Int)<(n:Int))=false:=by simp;omega
 have t3:(n:Int)≤65536:=by omega
 obtain ⟨i0,hi,hz0,hz1,hz2⟩:=info_parts obinfo5
 have hmk:=za7 (P:=Tryz.prog) (t:=40) (e:=5) Tryz.underlying40 hi hz0 hz1 hz2 n (by omega)
 clear hi hz0 hz1 hz2
 go_enter Tryz.func63,Tryz.ntmps63
 go_wp2
 go_ret
 refine ⟨rfl,?_,?_⟩
 ·have e0:(w.alloc (.cells (noughts n) 5)).heap.size=w.heap.size+1:=by simp
  have h1:=heap_alloc_new (w.alloc (.cells (noughts n) 5)) (.cells #[.slice (some ⟨w.heap.size,0,none⟩) n n,.int .i64 0,.int .i64 0] 167)
  rw [e0] at h1
  have h2:Blk (w.alloc (.cells (noughts n) 5)) w.heap.size 5 (noughts n):=heap_alloc_new w _
  exact ⟨0,List.replicate n 0,h1,h2.alloc _,zkp n h1',by omega,h2'⟩
 ·exact ((Below.refl _ _).alloc (Nat.le_refl _) _).alloc (by simp) _
theorem zet (b g size:Nat) (q:List Int) (w:World) (h:BufAt w b g size q):Calls Tryz.prog 53 #[.pointer (some ⟨b,0,none⟩)] w fun e w'=>e=.returned (.int .i64 (q.length:Int))∧w=w':=by
 obtain ⟨first,arr,h1,_⟩:=h
 have k:=h1.rd
 clear h1
 go_enter Tryz.func53,Tryz.ntmps53
 go_wp2
 go_ret
 exact ⟨rfl,rfl⟩
theorem zdd (b g size:Nat) (q:List Int) (w:World) (h:BufAt w b g size q):Calls Tryz.prog 152 #[.pointer (some ⟨b,0,none⟩)] w fun e w'=>e=.returned (.int .i64 (((size - q.length:Nat)):Int))∧Below w.heap.size w w':=by
 have hle:=h.le
 obtain ⟨first,arr,h1,_⟩:=h
 have k:=h1.rd
 have k2:=(Blk.drew h1).rd
 have e0:(size:Int) - (q.length:Int)=((size - q.length:Nat):Int):=by omega
 have e1:IntKind.i64.wrap ((size:Int) - (q.length:Int))=((size - q.length:Nat):Int):=by rw [IntKind.wrap_i64];omega
 have t1:(size:Int)≤65536:=by omega
 have t2:(q.length:Int)≤65536:=by omega
 clear h1 hle
 go_enter Tryz.func152,Tryz.ntmps152
 go_wp2
 go_quiet (fail)
 go_wp2
 go_ret
 exact ⟨rfl,zaa (Below.refl _ _) _⟩
theorem zfo (b g size:Nat) (q:List Int) (w:World) (h:BufAt w b g size q):Calls Tryz.prog 99 #[.pointer (some ⟨b,0,none⟩)] w fun e w'=>e=.returned (.tuple #[])∧BufAt w' b g size []∧Fr (fun k=>k=b∨k=g) w w':=by
 obtain ⟨first,arr,h1,h2,h3,h4,h5⟩:=h
 have k:=h1.rd
 have k2:=h1.wr
 have HH:=zhz (And.intro h1 h2)
 clear h1 h2
 go_enter Tryz.func99,Tryz.ntmps99
 go_wp2
 go_end0
 obtain ⟨h1,h2⟩:=HH.out
 have hlt:=lt_of_block h1
 rw [zac h1,zai hlt]
 refine ⟨rfl,⟨0,arr,zab hlt _,?_,zhj h3,h4,h5⟩,Fr.setObj (Fr.refl _ _) (Or.inl rfl) _⟩
 exact (zah w (Ne.symm h4) _).trans h2
theorem zev (a s:Nat) (hs:0<s):((a:Int)).tmod (s:Int)=((a % s:Nat):Int):=by rw [Int.tmod_eq_emod_of_nonneg (by omega)];rfl
theorem zeu (b g size:Nat) (q:List Int) (A:Option Addr) (n c:Nat) (zs:List Int) (w:World) (h:BufAt w b g size q) (hr:RdI w .u8 A n c zs) (hn:q.length+n≤size) (hne:∀ bs off,0<n→A=some ⟨bs,off,none⟩→bs≠b∧bs≠g) :
  Calls Tryz.prog 130 #[.pointer (some ⟨b,0,none⟩),.slice A n c] w fun e w'=>e=.returned (.bool true)∧BufAt w' b g size (q++zs)∧Fr (fun k=>k=b∨k=g) w w':=by
 have hle:=h.le
 have c1:=zdd b g size q w h
 have t1:decide (((size - q.length:Nat):Int)<(n:Int))=false:=by simp;omega
 have t2:decide (size - q.length<n)=false:=by simp;omega
 have hm:=hr.max
 have hc:=hr.cap
 unfold maxLen at hm
 have C1:=zhz c1
 have HB:=zhz h
 have HR:=zhz hr
 have HNE:=zhz hne
 have hlen:=hr.len
 have HL:=zhz hlen
 clear c1 h hr hne hlen
 go_enter Tryz.func130,Tryz.ntmps130
 go_wp2_with (go_at_call 152;((with_reducible refine C1.out.mono ?_);rintro e w1 ⟨rfl,b1⟩;have B1:=zhz b1;clear b1))
 go_loopg [14] n (fun k si wr=>∃ i:Nat,i≤n∧k=n - i∧si=.int .i64 (i:Int)∧BufAt wr b g size (q++zs.take i)∧Fr (fun k=>k=b∨k=g) w1 wr)
 case atStart=>exact ⟨0,by omega,by omega,rfl,by rw [List.take_zero,List.append_nil];exact HB.out.keep B1.out,Fr.refl _ _⟩
 case round =>
  obtain ⟨i,hi,hkk,rfl,hb,hf⟩:=hrel
  have HK:=zhz hkk
  have HF:=zhz hf
  clear hkk hf
  by_cases hin:i<n
  ·obtain ⟨bs,off,rfl,hlt,hcs⟩:=HR.out.at_ (by omega)
   obtain ⟨ne1,ne2⟩:=HNE.out bs off (by omega) rfl
   have F0:=(Fr.of_below (F:=fun k=>k=b∨k=g) B1.out).trans HF.out
   have q0:wr.cell? ⟨bs,off+i,none⟩=some (.int .u8 (zs.getD i 0)):=(F0.cell hlt (by simp [ne1,ne2])).trans (hcs i hin)
   obtain ⟨first,arr,h1,h2,h3,h4,h5⟩:=hb
   have hgm:(q++zs.take i).length=q.length+i:=by rw [List.length_append,List.length_take,HL.out];omega
   have hput:=zkq h3 (by rw [hgm];omega) (zs.getD i 0)
   rw [hgm] at h1 hput
   obtain ⟨m,hmm⟩:=zeq (q.length+i)
   rw [← hmm] at h1 hput
   obtain ⟨ix,hix⟩:=zeq ((first+m) % size)
   rw [← hix] at hput
   have hixl:ix<size:=by rw [hix];exact Nat.mod_lt _ (by omega)
   have e1:IntKind.i64.wrap ((first:Int)+(m:Int))=((first+m:Nat):Int):=by rw [IntKind.wrap_i64];have:=h3.2.1;omega
   have e2:(((first+m:Nat):Int)).tmod (size:Int)=(ix:Int):=by rw [zev _ _ (by omega),hix]
   obtain ⟨fm,hfm⟩:=zeq (first+m)
   rw [← hfm] at e1 e2
   obtain ⟨cz,hcz⟩:=zeq (zs.getD i 0)
   rw [← hcz] at q0 hput
   have hla:arr.length=size:=h3.1
   have e3:(fm:Int) % (size:Int)=(ix:Int):=by rw [hfm,hix];rfl
   have hs0:¬ (size:Int)=0:=by omega
   have hs1:¬ size=0:=by omega
   have e4:IntKind.i64.wrap (ix:Int)=(ix:Int):=by rw [IntKind.wrap_i64];omega
   have g1:(0:Int)≤(ix:Int):=by omega
   have g2:(ix:Int)<(size:Int):=by omega
   have k1:=h1.rd
   have k2:wr.cell? ⟨g,ix,none⟩=some (.int .u8 (arr.getD ix 0)):=by rw [zag h2];simp [List.getD,show ix<arr.length by omega]
   have k3:=h2.wr
   have hfirst:(first:Int)≤65536:=by have:=h3.2.1;omega
   have hmi:(m:Int)≤65536:=by omega
   have hsz:(size:Int)≤65536:=by omega
   have NE:=zhz h4
   have H1:=zhz h1
   have H2:=zhz h2
   have HP:=zhz hput
   have HX:=zhz (show q++zs.take (i+1)=q++zs.take i++[cz] by rw [List.append_assoc,List.take_add_one];congr 2;rw [hcz,zge (by have:=HL.out;omega)];simp [List.getD,show i<zs.length by have:=HL.out;omega])
   have HM:=zhz hmm
   have HG:=zhz hgm
   clear h1 h2 h3 h4 hput hix hfm hcs F0 hla hcz hmm hgm
   go_upto_region 6 with (fail)
   have k1:∀ i,wr.drew.cell? ⟨b,i,none⟩=_:=(Blk.drew H1.out).rd
   have k2:wr.drew.cell? ⟨g,ix,none⟩=some (.int .u8 (arr.getD ix 0)):=k2
   have k3:∀ i,wr.drew.frozen? ⟨g,i,none⟩=false:=k3
   go_region_held3 (fun w'=>(∀ i,w'.cell? ⟨b,i,none⟩=(bufC g size first m)[i]?)) (first | assumption | (intro j;exact (World.cell?_setCell_other wr _ _ _ (by simp;exact fun e=>absurd e.symm NE.out)).trans (k1 j)))
     (fail)
   have so:=zac (i:=ix) H2.out (.int .u8 cz)
   rw [so]
   have hlt2:=lt_of_block H2.out
   have x1:Blk (setObj wr g (.cells ((obbyC arr).setIfInBounds ix (.int .u8 cz)) 5 (0,0))).drew b _ _:=(zah wr NE.out _).trans H1.out
   have x2:Blk (setObj wr g (.cells ((obbyC arr).setIfInBounds ix (.int .u8 cz)) 5 (0,0))).drew g _ _:=zab hlt2 _
   have x3:Fr (fun k=>k=b∨k=g) wr (setObj wr g (.cells ((obbyC arr).setIfInBounds ix (.int .u8 cz)) 5 (0,0))).drew:=(Fr.setObj (F:=fun k=>k=b∨k=g) (Fr.refl _ _) (Or.inr rfl) _).drew
   clear so k1 k2 k3
   generalize (setObj wr g (.cells ((obbyC arr).setIfInBounds ix (.int .u8 cz)) 5 (0,0))).drew=wx at x1 x2 x3 ⊢
   have k1:=x1.rd
   have k2:=x1.wr
   have X1:=zhz x1
   have X2:=zhz x2
   have X3:=zhz x3
   clear x1 x2 x3
   go_wp2
   go_roundg (n - (i+1))
   case measure=>have:=HK.out;omega
   case rel =>
    have hlb:=lt_of_block X1.out
    rw [zac X1.out]
    refine ⟨i+1,by omega,by omega,by go_num,⟨first,arr.set ix cz,?_,?_,?_,NE.out,h5⟩,HF.out.trans (X3.out.trans (Fr.setObj (F:=fun k=>k=b∨k=g) (Fr.refl _ _) (Or.inl rfl) _))⟩
    ·have:=zab hlb (.cells ((bufC g size first m).setIfInBounds 2 (.int .i64 ((m:Int)+1))) 167 (0,0))
     have el:((m:Int)+1)=(((q++zs.take (i+1)).length:Nat):Int):=by rw [HX.out,List.length_append,HG.out];simp;have:=HM.out;omega
     rw [el] at this ⊢
     exact this
    ·refine (zah wx (Ne.symm NE.out) _).trans ?_
     have eb:obbyC (arr.set ix cz)=(obbyC arr).setIfInBounds ix (.int .u8 cz):=by unfold obbyC;simp [List.map_set]
     rw [eb];exact X2.out
    ·rw [HX.out];exact HP.out
  ·have hie:i=n:=by omega
   subst hie
   go_wp2
   go_ret
   rw [List.take_of_length_le (by have:=HL.out;omega)] at hb
   exact ⟨rfl,hb,(Fr.of_below (F:=fun k=>k=b∨k=g) B1.out).trans HF.out⟩
def Took (w:World) (b g size:Nat) (q:List Int) (m:Nat) (e:Ending) (w':World):Prop :=
 ∃ s,e=.returned (.slice (some ⟨s,0,none⟩) m m)∧Blk w' s 5 (obbyC (q.take m))∧BufAt w' b g size (q.drop m)∧Fr (fun k=>k=b∨k=g) w w'∧w.heap.size≤s∧s≠b∧s≠g
theorem zkg (b g size:Nat) (q:List Int) (n:Int) (m:Nat) (w:World) (h:BufAt w b g size q) (hm:1≤m∧m≤q.length) (hn:n=(m:Int)∨(q.length:Int)<n∧m=q.length) :
  Calls Tryz.prog 100 #[.pointer (some ⟨b,0,none⟩),.int .i64 n] w (Took w b g size q m):=by
 have hle:=h.le
 have c1:=zet b g size q w h
 obtain ⟨i0,hi,hz0,hz1,hz2⟩:=info_parts obinfo5
 have hmk:=za7 (P:=Tryz.prog) (t:=40) (e:=5) Tryz.underlying40 hi hz0 hz1 hz2 m (by omega)
 clear hi hz0 hz1 hz2
 have hcase:(((q.length:Int)<n)=False∧(0<n)=True∧n=(m:Int))∨(((q.length:Int)<n)=True∧q.length=m):=by
  rcases hn with rfl | ⟨h1,h2⟩
  ·exact Or.inl ⟨eq_false (by omega),eq_true (by omega),rfl⟩
  ·exact Or.inr ⟨eq_true h1,h2.symm⟩
 have HLE:=zhz hle
 have HM:=zhz hm
 have HB:=zhz h
 have hmi:(m:Int)≤65536:=by omega
 have hm0:(0:Int)<(m:Int):=by omega
 have hm1:0<m:=by omega
 rcases hcase with ⟨t1,t2,rfl⟩ | ⟨t1,t2⟩
 all_goals
   obtain ⟨ql,hql⟩:=zeq (q.length)
   rw [← hql] at c1 t1
   first | (have t3:m=ql:=(hql.trans t2).symm;subst t3;clear t2) | skip
   have C1:=zhz c1
   have HQ:=zhz hql
   clear c1 h hle hm hn hql
   go_enter Tryz.func100,Tryz.ntmps100
   go_wp2_with (go_at_call 53;((with_reducible refine C1.out.mono ?_);rintro e w1 ⟨rfl,rfl⟩))
   obtain ⟨wy,ey,ns,by_,sy⟩:=zad w (noughts m) 5
   rw [ey]
   have HS:=zhz (show w.heap.size≤w.heap.size from Nat.le_refl _)
   have NB:=zhz (show w.heap.size≠b∧w.heap.size≠g by have:=HB.out.lt;omega)
   generalize hsw:w.heap.size=s at HS NB ns ⊢
   have HSW:=zhz hsw
   have HY:=zhz (And.intro ns (HB.out.keep by_))
   have FY:=zhz (Fr.of_below (F:=fun k=>(k=b∨k=g)∨k=s) by_)
   clear ey ns by_ sy hsw
   go_loopg [16] m (fun k si wr=>∃ i:Nat,i≤m∧k=m - i∧si=.int .i64 (i:Int)∧BufAt wr b g size (q.drop i)∧Blk wr s 5 (obbyC (q.take i++List.replicate (m - i) 0))∧Fr (fun k=>(k=b∨k=g)∨k=s) wy wr)
   case atStart=>exact ⟨0,by omega,by omega,rfl,HY.out.2,HY.out.1,Fr.refl _ _⟩
   case round =>
    obtain ⟨i,hi,hkk,rfl,hb,hbl,hf⟩:=hrel
    have HK:=zhz hkk
    have HF:=zhz hf
    clear hkk hf
    by_cases hin:i<m
    ·have hiq:i<q.length:=by have:=HM.out;omega
     obtain ⟨cz,hcz⟩:=zeq (q[i])
     have hdrop:q.drop i=cz :: q.drop (i+1):=by rw [hcz];exact List.drop_eq_getElem_cons hiq
     obtain ⟨first,arr,h1,h2,h3,h4,h5⟩:=hb
     rw [hdrop] at h1 h3
     obtain ⟨hc0,h3'⟩:=zi5 h3
     obtain ⟨ml,hml⟩:=zeq ((q.drop (i+1)).length)
     have hl1:(cz :: q.drop (i+1)).length=ml+1:=by rw [List.length_cons,hml]
     rw [hl1] at h1
     have hla:arr.length=size:=h3.1
     have hfs:first<size:=h3.2.1
     obtain ⟨fx,hfx⟩:=zeq ((first+1) % size)
     rw [← hfx] at h3'
     have hfxl:fx<size:=by rw [hfx];exact Nat.mod_lt _ (by omega)
     have e1:IntKind.i64.wrap ((first:Int)+1)=((first+1:Nat):Int):=by rw [IntKind.wrap_i64];have:=HLE.out;omega
     have e2:(((first+1:Nat):Int)).tmod (size:Int)=(fx:Int):=by rw [zev _ _ (by omega),hfx]
     obtain ⟨fm,hfm⟩:=zeq (first+1)
     rw [← hfm] at e1 e2
     have e3:(fm:Int) % (size:Int)=(fx:Int):=by rw [hfm,hfx];rfl
     have e4:IntKind.i64.wrap (fx:Int)=(fx:Int):=by rw [IntKind.wrap_i64];have:=HLE.out;omega
     have hs0:¬ (size:Int)=0:=by omega
     have hs1:¬ size=0:=by omega
     have g1:(0:Int)≤(first:Int):=by omega
     have g2:(first:Int)<(size:Int):=by omega
     have g3:(0:Int)≤(i:Int):=by omega
     have g4:(i:Int)<(m:Int):=by omega
     have g5:(size:Int)≤65536:=by have:=HLE.out;omega
     have g6:((ml:Int))≤65536:=by have:=HLE.out;rw [hml,List.length_drop];omega
     have k1:∀ i,wr.drew.cell? ⟨b,i,none⟩=_:=(Blk.drew h1).rd
     have k2:wr.drew.cell? ⟨g,first,none⟩=some (.int .u8 cz):=by
      rw [zag (Blk.drew h2),← hc0];exact zes _ _ (by omega)
     have hnl:i<(q.take i++List.replicate (m - i) 0).length:=by rw [List.length_append,List.length_take,List.length_replicate];omega
     have k4:wr.drew.cell? ⟨s,i,none⟩=some (.int .u8 ((q.take i++List.replicate (m - i) 0).getD i 0)):=by
      rw [zag (Blk.drew hbl)];exact zes _ _ hnl
     have k3:∀ i,wr.drew.frozen? ⟨s,i,none⟩=false:=(Blk.drew hbl).wr
     have NE:=zhz h4
     have H1:=zhz h1
     have H2:=zhz h2
     have H4:=zhz hbl
     have HP:=zhz h3'
     have HX:=zhz (show (q.take i++List.replicate (m - i) 0).set i cz=q.take (i+1)++List.replicate (m - (i+1)) 0 by
      rw [hcz];exact zhd q i m hin hiq)
     have HML:=zhz hml
     clear h1 h2 h3 h3' h4 hfx hfm hla hcz hml hbl hdrop hc0 hl1 hfs hfxl hiq hnl
     go_upto_region 6 with (fail)
     go_region_held3 (fun w'=>(∀ i,w'.cell? ⟨b,i,none⟩=(bufC g size first (ml+1))[i]?)∧w'.cell? ⟨g,first,none⟩=some (.int .u8 cz)) (first | (refine ⟨?_,?_⟩ <;> assumption) | (exact ⟨fun j=>(zjf wr _ (Ne.symm NB.out.1)).trans (k1 j),(zjf wr _ (Ne.symm NB.out.2)).trans k2⟩))
       (fail)
     have so:=zac (i:=i) H4.out (.int .u8 cz)
     rw [so]
     have hlt4:=lt_of_block H4.out
     have x1:Blk (setObj wr s (.cells ((obbyC (q.take i++List.replicate (m - i) 0)).setIfInBounds i (.int .u8 cz)) 5 (0,0))).drew b _ _:=(zah wr (Ne.symm NB.out.1) _).trans H1.out
     have x2:Blk (setObj wr s (.cells ((obbyC (q.take i++List.replicate (m - i) 0)).setIfInBounds i (.int .u8 cz)) 5 (0,0))).drew g _ _:=(zah wr (Ne.symm NB.out.2) _).trans H2.out
     have x4:Blk (setObj wr s (.cells ((obbyC (q.take i++List.replicate (m - i) 0)).setIfInBounds i (.int .u8 cz)) 5 (0,0))).drew s _ _:=zab hlt4 _
     have x3:Fr (fun k=>(k=b∨k=g)∨k=s) wr (setObj wr s (.cells ((obbyC (q.take i++List.replicate (m - i) 0)).setIfInBounds i (.int .u8 cz)) 5 (0,0))).drew:=(Fr.setObj (F:=fun k=>(k=b∨k=g)∨k=s) (Fr.refl _ _) (Or.inr rfl) _).drew
     have eb:(obbyC (q.take i++List.replicate (m - i) 0)).setIfInBounds i (.int .u8 cz)=obbyC (q.take (i+1)++List.replicate (m - (i+1)) 0):=by rw [← HX.out];unfold obbyC;simp only [List.map_set,zs1]
     clear so k1 k2 k3 k4
     generalize (setObj wr s (.cells ((obbyC (q.take i++List.replicate (m - i) 0)).setIfInBounds i (.int .u8 cz)) 5 (0,0))).drew=wx at x1 x2 x3 x4 ⊢
     rw [eb] at x4
     have k1:=x1.rd
     have k2:=x1.wr
     have X1:=zhz x1
     have X2:=zhz x2
     have X3:=zhz x3
     have X4:=zhz x4
     clear x1 x2 x3 x4 eb
     go_upto_region 7 with (fail)
     go_still_tail 14,(by kernel_rfl)
     change wpList _ _ _ _ _ wx.drew
     go_upto_region 8 with (fail)
     have hltb:=lt_of_block X1.out
     rw [zac X1.out]
     have z1:Blk (setObj wx b (.cells ((bufC g size first (ml+1)).setIfInBounds 1 (.int .i64 (fx:Int))) 167 (0,0))).drew b 167 (bufC g size fx (ml+1)):=zab hltb _
     have z2:Blk (setObj wx b (.cells ((bufC g size first (ml+1)).setIfInBounds 1 (.int .i64 (fx:Int))) 167 (0,0))).drew g _ _:=(zah wx (Ne.symm NE.out) _).trans X2.out
     have z4:Blk (setObj wx b (.cells ((bufC g size first (ml+1)).setIfInBounds 1 (.int .i64 (fx:Int))) 167 (0,0))).drew s _ _:=(zah wx NB.out.1 _).trans X4.out
     have z3:Fr (fun k=>(k=b∨k=g)∨k=s) wx (setObj wx b (.cells ((bufC g size first (ml+1)).setIfInBounds 1 (.int .i64 (fx:Int))) 167 (0,0))).drew:=(Fr.setObj (F:=fun k=>(k=b∨k=g)∨k=s) (Fr.refl _ _) (Or.inl (Or.inl rfl)) _).drew
     clear k1 k2
     generalize (setObj wx b (.cells ((bufC g size first (ml+1)).setIfInBounds 1 (.int .i64 (fx:Int))) 167 (0,0))).drew=wz at z1 z2 z3 z4 ⊢
     have k1:=z1.rd
     have k2:=z1.wr
     have Z1:=zhz z1
     have Z2:=zhz z2
     have Z3:=zhz z3
     have Z4:=zhz z4
     clear z1 z2 z3 z4
     go_wp2
     go_roundg (m - (i+1))
     case measure=>have:=HK.out;omega
     case rel =>
      have hlb:=lt_of_block Z1.out
      rw [zac Z1.out]
      refine ⟨i+1,by omega,by omega,by go_num,⟨fx,arr,?_,(zah wz (Ne.symm NE.out) _).trans Z2.out,HP.out,NE.out,h5⟩,(zah wz NB.out.1 _).trans Z4.out,HF.out.trans (X3.out.trans (Z3.out.trans (Fr.setObj (F:=fun k=>(k=b∨k=g)∨k=s) (Fr.refl _ _) (Or.inl (Or.inl rfl)) _)))⟩
      have:=zab hlb (.cells ((bufC g size fx (ml+1)).setIfInBounds 2 (.int .i64 (ml:Int))) 167 (0,0))
      rw [← HML.out]
      first | exact this | simpa using this
    ·have hie:i=m:=by omega
     subst hie
     go_wp2
     go_ret
     rw [Nat.sub_self,List.replicate_zero,List.append_nil] at hbl
     exact ⟨s,rfl,hbl,hb,Fr.drop_new (FY.out.trans HF.out) (by rw [HSW.out];exact Nat.le_refl _),by rw [HSW.out];exact Nat.le_refl _,NB.out.1,NB.out.2⟩
theorem zkf (b g size:Nat) (q:List Int) (n:Int) (w:World) (h:BufAt w b g size q) (hn:n≤0∨q=[]) :
  Calls Tryz.prog 100 #[.pointer (some ⟨b,0,none⟩),.int .i64 n] w (Took w b g size q 0):=by
 have hle:=h.le
 have c1:=zet b g size q w h
 obtain ⟨i0,hi,hz0,hz1,hz2⟩:=info_parts obinfo5
 have hmk:∀ w,(Instr.makeSlice 40 (.int .i64 0) (.int .i64 0)).run Tryz.prog w=.ok (.slice (some ⟨w.heap.size,0,none⟩) 0 0) (w.alloc (.cells (noughts 0) 5)):=za7 (P:=Tryz.prog) (t:=40) (e:=5) Tryz.underlying40 hi hz0 hz1 hz2 0 (by omega)
 clear hi hz0 hz1 hz2
 have HB:=zhz h
 have fin:∀ w' s,w.heap.size=s→w'=w.alloc (.cells (noughts 0) 5)→Took w b g size q 0 (.returned (.slice (some ⟨s,0,none⟩) 0 0)) w':=by
  rintro w' s rfl rfl
  have:=HB.out.lt
  exact ⟨_,rfl,heap_alloc_new w _,HB.out.keep ((Below.refl _ _).alloc (Nat.le_refl _) _),Fr.of_below ((Below.refl _ _).alloc (Nat.le_refl _) _),Nat.le_refl _,by omega,by omega⟩
 have FIN:=zhz fin
 have hcase:(((q.length:Int)<n)=False∧(0<n)=False)∨(((q.length:Int)<n)=True∧q.length=0):=by
  rcases hn with h1 | rfl
  ·exact Or.inl ⟨eq_false (by omega),eq_false (by omega)⟩
  ·rcases Int.lt_or_le 0 n with h2 | h2
   ·exact Or.inr ⟨eq_true (by simpa using h2),rfl⟩
   ·exact Or.inl ⟨eq_false (by simp;omega),eq_false (by omega)⟩
 obtain ⟨ql,hql⟩:=zeq (q.length)
 rw [← hql] at c1 hcase
 clear h hn hle fin hql
 rcases hcase with ⟨t1,t2⟩ | ⟨t1,rfl⟩
 ·have C1:=zhz c1
  clear c1
  go_enter Tryz.func100,Tryz.ntmps100
  go_wp2_with (go_at_call 53;((with_reducible refine C1.out.mono ?_);rintro e w1 ⟨rfl,rfl⟩))
  refine wp_loop_rounds 1 ?_
  rw [rounds_succ]
  go_wp2
  go_ret
  exact FIN.out _ _ rfl rfl
 ·have t1':((0:Int)<n)=True:=t1
  have c1':Calls Tryz.prog 53 #[.pointer (some ⟨b,0,none⟩)] w fun e w'=>e=.returned (.int .i64 0)∧w=w':=c1
  have C1:=zhz c1'
  clear c1 t1 c1'
  go_enter Tryz.func100,Tryz.ntmps100
  go_wp2_with (go_at_call 53;((with_reducible refine C1.out.mono ?_);rintro e w1 ⟨rfl,rfl⟩))
  refine wp_loop_rounds 1 ?_
  rw [rounds_succ]
  go_wp2
  go_ret
  exact FIN.out _ _ rfl rfl
theorem zhe (b g size:Nat) (q:List Int) (n:Int) (m:Nat) (w:World) (h:BufAt w b g size q) (hm:(m:Int)=max 0 (min n (q.length:Int))) :
  Calls Tryz.prog 100 #[.pointer (some ⟨b,0,none⟩),.int .i64 n] w (Took w b g size q m):=by
 rcases Nat.eq_zero_or_pos m with h0 | h0
 ·subst h0
  refine zkf b g size q n w h ?_
  rcases Int.lt_or_le 0 n with h1 | h1
  ·exact Or.inr (List.length_eq_zero_iff.1 (by omega))
  ·exact Or.inl h1
 ·exact zkg b g size q n m w h (by omega) (by omega)
end Go.Proofs.YtannniobeanhlaaGreat
