import Derived.Test.YtannniobeanhlaaGreatZPlA
import Derived.Test.YtannniobeanhlaaGreatZCellB
set_option linter.unusedSimpArgs false
set_option linter.unusedVariables false
set_option maxRecDepth 100000
set_option maxHeartbeats 9000000
namespace Go.Proofs.YtannniobeanhlaaGreat
open Go.ChangeShapes Go.WideShapes Go.ChangeAt Go.RowKit
section
open Go.Shelf
open Ar (inR)
attribute [local go_sem] Oper.semAt_some
def idleG (F S W t:Int):Bool:=!(decide (t<clamp (S+W))) && decide (F≤IntKind.i64.wrap (t - W))
theorem zjU (F S C D U W B L t:Int) (hS:inR S) (hW:inR W) (w:World) :
  Calls Tryz.prog 258 #[cv F S C D,pv U W B L,.int .i64 t] w fun e w'=>e=.returned (.bool (idleG F S W t))∧Below w.heap.size w w':=by
 have C4:=zhz (fun w=>zbX F S C D U W B L t hS hW w)
 obtain ⟨y,hy⟩:=zeq (decide (t<clamp (S+W)))
 obtain ⟨s,hs⟩:=zeq (IntKind.i64.wrap (t - W))
 obtain ⟨z,hz⟩:=zeq (decide (F≤s))
 have e3:decide (F≤s)=z:=hz.symm
 have e1:IntKind.i64.wrap (t - W)=s:=hs.symm
 rw [← hy] at C4
 have e:idleG F S W t=(!y && z):=by unfold idleG;rw [hz,hy,hs]
 rw [e]
 clear e hs hS hW hy hz
 cases y
 all_goals
   go_enter Tryz.func258,Tryz.ntmps258
   go_upto_region 1 with (fail)
   obtain ⟨w2,ew,n1,n2,bw⟩:=zhG w #[.int .i64 F,.int .i64 S,.int .i64 C,.int .i64 D] #[.int .i64 U,.int .i64 W,.int .i64 B,.int .i64 L] 105 138
   rw [ew]
   have n1:Blk w2 w.heap.size 105 #[.int .i64 F,.int .i64 S,.int .i64 C,.int .i64 D]:=n1
   have n2:Blk w2 (w.heap.size+1) 138 #[.int .i64 U,.int .i64 W,.int .i64 B,.int .i64 L]:=n2
   have Q2:=zhz (And.intro n1 n2)
   have B2:=zhz bw
   have r1:=n1.rd
   have r2:=n2.rd
   clear ew n1 n2 bw
   go_wp2_with (go_at_call 241;((with_reducible refine (C4.out _).mono ?_);rintro e w3 ⟨rfl,b3⟩;have r3:=(Q2.out.1.keep b3).rd;have r4:=(Q2.out.2.keep b3).rd;have B3:=zhz (zao B2.out b3);clear b3))
   go_ret
   exact ⟨rfl,B3.out⟩
def plIdle (l:List (ByteArray × Cel)) (W t:Int):Option (ByteArray × Cel):=l.find? fun x=>idleG x.2.1 x.2.2.1 W t
theorem zlS {K:Nat→Option ByteArray} {C:List Cel} {n:Nat} {s:ByteArray} {c:Cel} (h:(s,c) ∈ plL K C n) (hn:n≤C.length:=by assumption):c ∈ C:=by
 unfold plL at h
 rw [List.mem_filterMap] at h
 obtain ⟨i,hi,he⟩:=h
 have hi:i<C.length:=by have:=List.mem_range.1 hi;omega
 cases hk:K i with
 | none=>rw [hk] at he;cases he
 | some t =>
  rw [hk,List.getD_eq_getElem?_getD,zge hi] at he
  have:C[i]=c:=by simpa using (congrArg (fun o=>o.map Prod.snd) he)
  rw [← this];exact List.getElem_mem hi
theorem zdg (Q:PlN) (σ:KSt) (C:List Cel) (U W B L t:Int) (hW:inR W) (w:World) (h:PlAt w Q σ C) (hC:∀ x ∈ C,inR x.2.1) :
  Calls Tryz.prog 239 #[.pointer (some ⟨Q.p,0,none⟩),pv U W B L,.int .i64 t] w fun e w' =>
   (∃ x,plIdle (plL σ.K C Q.N.n) W t=some x∧e=.returned (.tuple #[.string x.1,.bool true])∨plIdle (plL σ.K C Q.N.n) W t=none∧e=.returned (.tuple #[.string ⟨#[]⟩,.bool false]))∧Below w.heap.size w w':=by
 refine callsM Tryz.func239 rfl ?_
 simp only [Tryz.ntmps239,List.size_toArray,List.length_cons,List.length_nil,Nat.reduceAdd,Nat.reduceSub,Array.replicate_succ,Array.replicate_zero,List.push_toArray,List.append_toArray,List.nil_append,List.cons_append]
 go_wp2
 obtain ⟨w4,e4,m1,m2,m3,m4,bw⟩:=zaE w #[.int .i64 U,.int .i64 W,.int .i64 B,.int .i64 L] #[.int .i64 t] #[.string ⟨#[]⟩] #[.bool false] 138 2 9 4
 rw [e4]
 have hsz:w4.heap.size=w.heap.size+1+1+1+1:=by rw [← e4];simp
 have P4:=h.keep bw
 clear e4
 obtain ⟨r3,hr3⟩:=zeq (w.heap.size+1+1+1)
 obtain ⟨r2,hr2⟩:=zeq (w.heap.size+1+1)
 obtain ⟨r1,hr1⟩:=zeq (w.heap.size+1)
 obtain ⟨r0,hr0⟩:=zeq (w.heap.size)
 rw [← hr3] at m4 ⊢
 rw [← hr2] at m3 ⊢
 rw [← hr1] at m2 ⊢
 rw [← hr0] at m1 ⊢
 have n23:r2≠r3:=by omega
 have n32:r3≠r2:=by omega
 have HR:=zhz (And.intro hr0 (And.intro hr1 (And.intro hr2 hr3)))
 clear hr0 hr1 hr2 hr3
 refine (wpIn_wide (n:=0)).1 (zi2 (gf:=257) (fb:=#[.pointer (some ⟨Q.p,0,none⟩)]) rfl (enters_of Tryz.func257 (by kernel_rfl) rfl) (zey Q σ C w4 P4) (Below.refl _ _) (fun _=>rfl) KeepB.trans (fun _ _ h=>KeepB.turn h)
   (fun pre W'=>(∀ x ∈ pre,idleG x.2.1 x.2.2.1 W t=false)∧PlAt W' Q σ C∧Blk W' r0 138 #[.int .i64 U,.int .i64 W,.int .i64 B,.int .i64 L]∧Blk W' r1 2 #[.int .i64 t]∧Blk W' r2 9 #[.string ⟨#[]⟩]∧Blk W' r3 4 #[.bool false]∧Below w.heap.size w W')
   (fun c pre W'=>c=.ret∧∃ pre' x,pre=pre'++[x]∧(∀ x ∈ pre',idleG x.2.1 x.2.2.1 W t=false)∧idleG x.2.1 x.2.2.1 W t=true∧Blk W' r2 9 #[.string x.1]∧Blk W' r3 4 #[.bool true]∧Below w.heap.size w W')
   ?hI ?hIx ?h0 ?round ?done ?stop)
 case hI=>exact fun s X Y hs hT=>⟨hs.1,KeepB.pl (KeepB.turn hT) hs.2.1,hs.2.2.1.turn hT,hs.2.2.2.1.turn hT,hs.2.2.2.2.1.turn hT,hs.2.2.2.2.2.1.turn hT,hT.below hs.2.2.2.2.2.2 (by omega)⟩
 case hIx =>
  rintro c s X Y ⟨rfl,pre',x,h1,h2,h3,h4,h5,h6⟩ hT
  exact ⟨rfl,pre',x,h1,h2,h3,h4.turn hT,h5.turn hT,hT.below h6 (by omega)⟩
 case h0=>exact ⟨fun x hx=>by simp at hx,P4,m1,m2,m3,m4,bw⟩
 case round =>
  rintro l pre ⟨s,c⟩ X K hl hpx ⟨hno,hP,k0,k1,k2,k3,hB⟩ hK
  obtain ⟨w1,hw1,kc1,l1,s1⟩:=zad X #[.int .i64 0,.int .i64 0,.int .i64 0,.int .i64 0] 105
  have hset:=zaj (v0:=.int .i64 c.1) (v1:=.int .i64 c.2.1) (v2:=.int .i64 c.2.2.1) (v3:=.int .i64 c.2.2.2) kc1
  obtain ⟨w2,hw2⟩:=zeq (setObj w1 X.heap.size (.cells #[.int .i64 c.1,.int .i64 c.2.1,.int .i64 c.2.2.1,.int .i64 c.2.2.2] 105 (0,0)))
  rw [← hw2] at hset
  have kc2:Blk w2 X.heap.size 105 #[.int .i64 c.1,.int .i64 c.2.1,.int .i64 c.2.2.1,.int .i64 c.2.2.2]:=by rw [hw2];exact zab (lt_of_block kc1) _
  have b2:Below X.heap.size X w2:=by
   rw [hw2];exact l1.trans ((Fr.setObj (F:=fun k=>k=X.heap.size) (Fr.refl _ _) rfl _).below l1.size (fun k hk=>by omega))
  have kw:=kc1.wr
  have kr:=kc1.rd
  have HW:=zhz (And.intro hset (And.intro b2 kc2))
  have HI:=zhz (And.intro hno (And.intro (hP.keep b2) (And.intro (k0.keep b2) (And.intro (k1.keep b2) (And.intro (k2.keep b2) (And.intro (k3.keep b2) (zae hB b2)))))))
  have HK:=zhz hK
  have HL:=zhz hpx
  have HC:=zhz (And.intro (show inR c.2.1 from hC c (by
   have h1:(s,c) ∈ plL σ.K C Q.N.n:=hpx.subset (by simp)
   exact zlS h1 (by rw [h.len];exact Nat.le_refl _))) hW)
  clear hset hw2 kc2 b2 hno hP k0 k1 k2 k3 hB hK hpx kc1 l1 s1 m1 m2 m3 m4 bw hC
  gi_wp2
  rw [HW.out.1]
  refine HK.out _ _ (zat HW.out.2.1) (KeepB.below HW.out.2.1) ?_
  clear kw kr hw1
  intro W2 hT
  have k0:=(HI.out.2.2.1.turn hT)
  have k1:=(HI.out.2.2.2.1.turn hT)
  have k2:=(HI.out.2.2.2.2.1.turn hT)
  have k3:=(HI.out.2.2.2.2.2.1.turn hT)
  have kc:=(HW.out.2.2.turn hT)
  have K23:=zhz (And.intro k2 k3)
  have z0:=k0.rd
  have z1:=k1.rd
  have zc:=kc.rd
  have HT:=zhz hT
  clear hT k0 k1 k2 k3 kc
  have CI:=zhz (fun wx=>zjU c.1 c.2.1 c.2.2.1 c.2.2.2 U W B L t HC.out.1 HC.out.2 wx)
  cases hid:idleG c.1 c.2.1 W t with
  | true =>
   rw [hid] at CI
   have HD:=zhz hid
   clear hid
   gi_wp2
   refine ⟨trivial,rfl,(CallsIn.inRound l (callsIn_wide.2 (CI.out W2))).mono ?_⟩
   rintro e w3 ⟨rfl,b3⟩
   have q2:=K23.out.1.keep b3
   have q3:=K23.out.2.keep b3
   have v2:=q2.rd
   have v3:=q3.rd
   have u2:=q2.wr
   have u3:=q3.wr
   have Q23:=zhz (And.intro q2 q3)
   have B3:=zhz b3
   clear q2 q3 b3 z0 z1 zc
   gi_wp2
   rw [zac Q23.out.1]
   have q3':Blk (setObj w3 r2 (.cells #[.string s] 9 (0,0))) r3 4 #[.bool false]:=Q23.out.2.fr (Fr.setObj (F:=fun k=>k=r2) (Fr.refl _ w3) rfl (.cells #[.string s] 9 (0,0))) n32
   have e1:(#[Value.string ⟨#[]⟩]:Array Value).setIfInBounds 0 (.string s)=#[.string s]:=rfl
   rw [e1,zac q3']
   have e2:(#[Value.bool false]:Array Value).setIfInBounds 0 (.bool true)=#[.bool true]:=rfl
   rw [e2]
   have f1:Fr (fun k=>k=r2∨k=r3) w3 (setObj (setObj w3 r2 (.cells #[.string s] 9 (0,0))) r3 (.cells #[.bool true] 4 (0,0))):=Fr.setObj (Fr.setObj (Fr.refl _ _) (Or.inl rfl) _) (Or.inr rfl) _
   have hr:=HR.out
   have hT:=HT.out
   refine ⟨(zat B3.out).trans (za1 f1 (fun k o hk hB=>by omega)),rfl,pre,(s,c),rfl,HI.out.1,HD.out,?_,zab (lt_of_block q3') _,(zae (hT.below HI.out.2.2.2.2.2.2 (by omega)) B3.out).trans (f1.below (by have:=(hT.below HI.out.2.2.2.2.2.2 (by omega)).size;have:=B3.out.size;omega) (fun k hk=>by omega))⟩
   exact (show Blk _ r2 _ _ from zab (lt_of_block Q23.out.1) _).fr (Fr.setObj (F:=fun k=>k=r3) (Fr.refl _ _) rfl _) n23
  | false =>
   rw [hid] at CI
   gi_wp2
   refine ⟨trivial,rfl,(CallsIn.inRound l (callsIn_wide.2 (CI.out W2))).mono ?_⟩
   rintro e w3 ⟨rfl,b3⟩
   have HB3:=zhz b3
   have HD:=zhz hid
   clear b3 hid
   gi_wp2
   have b3:=HB3.out
   have hT:=HT.out
   exact ⟨zat b3,KeepB.below b3,⟨fun x hx=>by
    rcases List.mem_append.1 hx with hx | hx
    ·exact HI.out.1 x hx
    ·have:x=(s,c):=by simpa using hx
     rw [this];exact HD.out,(KeepB.pl (KeepB.turn hT) HI.out.2.1).keep b3,(HI.out.2.2.1.turn hT).keep b3,(HI.out.2.2.2.1.turn hT).keep b3,(HI.out.2.2.2.2.1.turn hT).keep b3,(HI.out.2.2.2.2.2.1.turn hT).keep b3,zae (hT.below HI.out.2.2.2.2.2.2 (by omega)) b3⟩⟩
 case done =>
  rintro D X hD ⟨hno,hP,k0,k1,k2,k3,hB⟩ hd
  have HX:=zhz (And.intro hno (And.intro hB (And.intro k2 k3)))
  have HD:=zhz (And.intro hD hd)
  have v2:=k2.rd
  have v3:=k3.rd
  have u2:=k2.wr
  have u3:=k3.wr
  clear hno hP k0 k1 k2 k3 hB hd hD m1 m2 m3 m4 bw hC
  go_wp2
  have hr:=HR.out
  have hx:=HX.out
  have hd:=HD.out
  have q3':Blk (setObj X r2 (.cells #[.string ⟨#[]⟩] 9 (0,0))) r3 4 #[.bool false]:=hx.2.2.2.fr (Fr.setObj (F:=fun k=>k=r2) (Fr.refl _ X) rfl (.cells #[.string ⟨#[]⟩] 9 (0,0))) n32
  have e1:(#[Value.string ⟨#[]⟩]:Array Value).setIfInBounds 0 (.string ⟨#[]⟩)=#[.string ⟨#[]⟩]:=rfl
  have e2:(#[Value.bool false]:Array Value).setIfInBounds 0 (.bool false)=#[.bool false]:=rfl
  rw [zac hx.2.2.1,e1,zac q3',e2]
  have f1:Fr (fun k=>k=r2∨k=r3) X (setObj (setObj X r2 (.cells #[.string ⟨#[]⟩] 9 (0,0))) r3 (.cells #[.bool false] 4 (0,0))):=Fr.setObj (Fr.setObj (Fr.refl _ _) (Or.inl rfl) _) (Or.inr rfl) _
  have q3:Blk (setObj (setObj X r2 (.cells #[.string ⟨#[]⟩] 9 (0,0))) r3 (.cells #[.bool false] 4 (0,0))) r3 4 #[.bool false]:=zab (lt_of_block q3') _
  have q2:Blk (setObj (setObj X r2 (.cells #[.string ⟨#[]⟩] 9 (0,0))) r3 (.cells #[.bool false] 4 (0,0))) r2 9 #[.string ⟨#[]⟩]:=(show Blk _ r2 _ _ from zab (lt_of_block hx.2.2.1) _).fr (Fr.setObj (F:=fun k=>k=r3) (Fr.refl _ _) rfl _) n23
  have hd2:=(f1.block D (Array.getElem?_eq_some_iff.1 hd.2).1 (by omega)).trans hd.2
  have bl:=hx.2.1.trans (f1.below hx.2.1.size (fun k hk=>by omega))
  generalize (setObj (setObj X r2 (.cells #[.string ⟨#[]⟩] 9 (0,0))) r3 (.cells #[.bool false] 4 (0,0)))=Y at q2 q3 hd2 bl ⊢
  have hT:=Turn.putObj Y w4.heap.size D (.deferred none) hd.1 hd2 rfl
  refine za6 rfl hd2 (zch rfl _ _ r2 r3 rfl ((q2.turn hT).rd 0) rfl ((q3.turn hT).rd 0) Tryz.underlying9 rfl Tryz.underlying4 rfl) ⟨⟨(⟨#[]⟩,(0,0,0,0)),.inr ⟨?_,rfl⟩⟩,hT.below bl (by omega)⟩
  unfold plIdle
  rw [List.find?_eq_none]
  intro x hx'
  rw [hx.1 x hx']
  decide
 case stop =>
  rintro D c pre X hD hpre ⟨rfl,pre',x,h1,h2,h3,h4,h5,h6⟩ hd
  refine wpIn_ret ?_
  have hr:=HR.out
  have hT:=Turn.putObj X w4.heap.size D (.deferred none) hD hd rfl
  refine za6 rfl hd (zch rfl _ _ r2 r3 rfl ((h4.turn hT).rd 0) rfl ((h5.turn hT).rd 0) Tryz.underlying9 rfl Tryz.underlying4 rfl) ⟨⟨x,.inl ⟨?_,rfl⟩⟩,hT.below h6 (by omega)⟩
  obtain ⟨t,ht⟩:=hpre
  unfold plIdle
  rw [← ht,h1,List.append_assoc,List.find?_append,List.find?_eq_none.2 (fun y hy=>by rw [h2 y hy];decide)]
  simp [h3]
end
end Go.Proofs.YtannniobeanhlaaGreat
