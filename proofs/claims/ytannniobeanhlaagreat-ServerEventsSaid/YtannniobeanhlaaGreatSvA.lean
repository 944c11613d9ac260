import Derived.Test.YtannniobeanhlaaGreatZGen
import Derived.Deep.RegionHeld3
import Derived.BigQuiet
import Derived.Deep.CutRange
set_option linter.unusedSimpArgs false
set_option linter.unusedVariables false
set_option maxRecDepth 100000
set_option maxHeartbeats 9000000
namespace Go.Proofs.YtannniobeanhlaaGreat
open Go.ChangeShapes Go.WideShapes Go.ChangeAt Go.RowKit
section
variable {P:Program} {fn:Func} {R:Ending→World→Prop}
theorem zbE {t1 t2:Array Value} (h:results fn t1=results fn t2):∀ (ds:List Deferred) (u:FrameMode) (w:World),Leaves P fn t1 R ds u w→Leaves P fn t2 R ds u w
 | [],.returning,w,⟨v,hr,hR⟩=>⟨v,by rw [← h];exact hr,hR⟩
 | [],.panicking _,_,hR=>hR
 | [],.run,_,hf=>hf
 | d :: ds,u,w,⟨hu,fv,cap,f,args,ht,hi,hc⟩=>⟨hu,fv,cap,f,args,ht,hi,hc.mono (fun e u' w' he=>by
   cases e with
   | returned _=>exact zbE h ds _ _ he
   | panicked _=>exact zbE h ds _ _ he
   | outgrown=>exact he)⟩
theorem zfw {p:Tmp} {ty:TypeId} (h:fn.results=#[.cell p ty]) (tmps:Array Value) {d:Tmp} (v:Value) (hd:d≠p):results fn (tmps.setIfInBounds d v)=results fn tmps:=by
 have e:(tmps.setIfInBounds d v)[p]?=tmps[p]?:=by rw [Array.getElem?_setIfInBounds_ne hd]
 simp [results,h,e]
theorem putD {p:Tmp} {ty:TypeId} (h:fn.results=#[.cell p ty]) {d:Option Tmp} {v:Value} (hd:d≠some p):∀ c a w,bodyPostD P fn R (.panic c) (a.put d v) w→bodyPostD P fn R (.panic c) a w:=by
 intro c a w hh
 cases d with
 | none=>exact hh
 | some d=>exact zbE (zfw h a.tmps v (fun e=>hd (by rw [e]))) _ _ _ hh
end
structure SvC where
 now:Int
 first:Int
 rd:Bool
 rs:Bool
 out:Int
 many:Int
 R:List Value
 J:List Value
 K:List Value
 ac:Bool
 nt:Value
def SvC.l (c:SvC):List Value:=[.int .i64 c.now,.int .i64 c.first,.bool c.rd,.bool c.rs,.int .i64 c.out,.int .i64 c.many]++(c.R++(c.J++(c.K++[.bool c.ac,c.nt])))
structure Sv (w:World) (s:Nat) (c:SvC):Prop where
 hb:Blk w s 59 c.l.toArray
 hR:c.R.length=72
 hJ:c.J.length=8
 hK:c.K.length=16
section
variable {w w' W:World} {s:Nat} {c c':SvC}
theorem Sv.keep (h:Sv w s c) (hb:Below w.heap.size w w'):Sv w' s c:=⟨h.hb.keep hb,h.hR,h.hJ,h.hK⟩
theorem Sv.fr {F:Nat→Prop} (h:Sv w s c) (hf:Fr F w w') (hF:¬ F s):Sv w' s c:=⟨h.hb.fr hf hF,h.hR,h.hJ,h.hK⟩
theorem Sv.lt (h:Sv w s c):s<w.heap.size:=lt_of_block h.hb
theorem Sv.len (h:Sv w s c):c.l.length=104:=by unfold SvC.l;simp [h.hR,h.hJ,h.hK]
theorem Sv.rd' (h:Sv w s c) (i:Nat):w.cell? ⟨s,i,none⟩=c.l[i]?:=by rw [h.hb.rd i,List.getElem?_toArray]
theorem Sv.wr (h:Sv w s c):∀ i,w.frozen? ⟨s,i,none⟩=false:=h.hb.wr
theorem Sv.c0 (h:Sv w s c):w.cell? ⟨s,0,none⟩=some (.int .i64 c.now):=(h.rd' 0).trans rfl
theorem Sv.c1 (h:Sv w s c):w.cell? ⟨s,1,none⟩=some (.int .i64 c.first):=(h.rd' 1).trans rfl
theorem Sv.c2 (h:Sv w s c):w.cell? ⟨s,2,none⟩=some (.bool c.rd):=(h.rd' 2).trans rfl
theorem Sv.c3 (h:Sv w s c):w.cell? ⟨s,3,none⟩=some (.bool c.rs):=(h.rd' 3).trans rfl
theorem Sv.c4 (h:Sv w s c):w.cell? ⟨s,4,none⟩=some (.int .i64 c.out):=(h.rd' 4).trans rfl
theorem Sv.c5 (h:Sv w s c):w.cell? ⟨s,5,none⟩=some (.int .i64 c.many):=(h.rd' 5).trans rfl
theorem zm9 (h:c.R.length=72) {j:Nat} (hj:j<72):c.l[6+j]?=c.R[j]?:=by
 unfold SvC.l
 rw [List.getElem?_append_right (by simp),show 6+j - List.length [Value.int .i64 c.now,.int .i64 c.first,.bool c.rd,.bool c.rs,.int .i64 c.out,.int .i64 c.many]=j by simp,List.getElem?_append_left (by omega)]
theorem zm7 (h:c.R.length=72) (hJ:c.J.length=8) {j:Nat} (hj:j<8):c.l[78+j]?=c.J[j]?:=by
 unfold SvC.l
 rw [List.getElem?_append_right (by simp;omega),show 78+j - List.length [Value.int .i64 c.now,.int .i64 c.first,.bool c.rd,.bool c.rs,.int .i64 c.out,.int .i64 c.many]=72+j by simp;omega,List.getElem?_append_right (by omega),show 72+j - c.R.length=j by omega,List.getElem?_append_left (by omega)]
theorem zm8 (h:c.R.length=72) (hJ:c.J.length=8) (hK:c.K.length=16) {j:Nat} (hj:j<16):c.l[86+j]?=c.K[j]?:=by
 unfold SvC.l
 rw [List.getElem?_append_right (by simp;omega),show 86+j - List.length [Value.int .i64 c.now,.int .i64 c.first,.bool c.rd,.bool c.rs,.int .i64 c.out,.int .i64 c.many]=80+j by simp;omega,List.getElem?_append_right (by omega),show 80+j - c.R.length=8+j by omega,List.getElem?_append_right (by omega),show 8+j - c.J.length=j by omega,List.getElem?_append_left (by omega)]
theorem zmO (h:c.R.length=72) (hJ:c.J.length=8) (hK:c.K.length=16) (j:Nat):c.l[102+j]?=[Value.bool c.ac,c.nt][j]?:=by
 unfold SvC.l
 rw [List.getElem?_append_right (by simp;omega),show 102+j - List.length [Value.int .i64 c.now,.int .i64 c.first,.bool c.rd,.bool c.rs,.int .i64 c.out,.int .i64 c.many]=96+j by simp;omega,List.getElem?_append_right (by omega),show 96+j - c.R.length=24+j by omega,List.getElem?_append_right (by omega),show 24+j - c.J.length=16+j by omega,List.getElem?_append_right (by omega),show 16+j - c.K.length=j by omega]
theorem Sv.cR (h:Sv w s c) {j:Nat} (hj:j<72):w.cell? ⟨s,6+j,none⟩=c.R[j]?:=(h.rd' _).trans (zm9 h.hR hj)
theorem Sv.cJ (h:Sv w s c) {j:Nat} (hj:j<8):w.cell? ⟨s,78+j,none⟩=c.J[j]?:=(h.rd' _).trans (zm7 h.hR h.hJ hj)
theorem Sv.cK (h:Sv w s c) {j:Nat} (hj:j<16):w.cell? ⟨s,86+j,none⟩=c.K[j]?:=(h.rd' _).trans (zm8 h.hR h.hJ h.hK hj)
theorem Sv.cA (h:Sv w s c):w.cell? ⟨s,102,none⟩=some (.bool c.ac):=(h.rd' _).trans (zmO h.hR h.hJ h.hK 0)
theorem Sv.cN (h:Sv w s c):w.cell? ⟨s,103,none⟩=some c.nt:=(h.rd' _).trans (zmO h.hR h.hJ h.hK 1)
theorem Sv.set (h:Sv w s c) (i:Nat) (v:Value) (hl:c.l.set i v=c'.l) (hR:c'.R.length=72) (hJ:c'.J.length=8) (hK:c'.K.length=16):∃ w',w.setCell ⟨s,i,none⟩ v=w'∧Sv w' s c'∧Fr (fun k=>k=s) w w':=by
 have hb:=lt_of_block h.hb
 have hk:w.setCell ⟨s,i,none⟩ v=setObj w s (.cells c'.l.toArray 59 (0,0)):=by
  rw [zac h.hb,zs1,hl]
 exact ⟨_,hk,⟨zab hb _,hR,hJ,hK⟩,Fr.setObj (F:=fun k=>k=s) (Fr.refl _ _) rfl _⟩
theorem Sv.setNow (h:Sv w s c) (v:Int):∃ w',w.setCell ⟨s,0,none⟩ (.int .i64 v)=w'∧Sv w' s { c with now:=v }∧Fr (fun k=>k=s) w w':=h.set (c':={ c with now:=v }) _ _ rfl h.hR h.hJ h.hK
theorem Sv.setFirst (h:Sv w s c) (v:Int):∃ w',w.setCell ⟨s,1,none⟩ (.int .i64 v)=w'∧Sv w' s { c with first:=v }∧Fr (fun k=>k=s) w w':=h.set (c':={ c with first:=v }) _ _ rfl h.hR h.hJ h.hK
theorem Sv.setRd (h:Sv w s c) (v:Bool):∃ w',w.setCell ⟨s,2,none⟩ (.bool v)=w'∧Sv w' s { c with rd:=v }∧Fr (fun k=>k=s) w w':=h.set (c':={ c with rd:=v }) _ _ rfl h.hR h.hJ h.hK
theorem Sv.setRs (h:Sv w s c) (v:Bool):∃ w',w.setCell ⟨s,3,none⟩ (.bool v)=w'∧Sv w' s { c with rs:=v }∧Fr (fun k=>k=s) w w':=h.set (c':={ c with rs:=v }) _ _ rfl h.hR h.hJ h.hK
theorem zaP {α:Type} (a b:List α) (i:Nat) (v:α):(a++b).set (a.length+i) v=a++b.set i v:=by
 induction a with
 | nil=>simp
 | cons x a ih=>rw [List.cons_append,List.length_cons,show a.length+1+i=(a.length+i)+1 by omega,zs3,ih];rfl
theorem Sv.setJ (h:Sv w s c) {j:Nat} (hj:j<8) (v:Value):∃ w',w.setCell ⟨s,78+j,none⟩ v=w'∧Sv w' s { c with J:=c.J.set j v }∧Fr (fun k=>k=s) w w':=by
 refine h.set (c':={ c with J:=c.J.set j v }) _ _ ?_ h.hR (by rw [List.length_set];exact h.hJ) h.hK
 unfold SvC.l
 rw [show 78+j=List.length [Value.int .i64 c.now,.int .i64 c.first,.bool c.rd,.bool c.rs,.int .i64 c.out,.int .i64 c.many]+(72+j) by simp;omega,zaP,show 72+j=c.R.length+j by rw [h.hR],zaP,List.set_append_left _ _ (by rw [h.hJ];exact hj)]
theorem Sv.setK (h:Sv w s c) {j:Nat} (hj:j<16) (v:Value):∃ w',w.setCell ⟨s,86+j,none⟩ v=w'∧Sv w' s { c with K:=c.K.set j v }∧Fr (fun k=>k=s) w w':=by
 refine h.set (c':={ c with K:=c.K.set j v }) _ _ ?_ h.hR h.hJ (by rw [List.length_set];exact h.hK)
 unfold SvC.l
 rw [show 86+j=List.length [Value.int .i64 c.now,.int .i64 c.first,.bool c.rd,.bool c.rs,.int .i64 c.out,.int .i64 c.many]+(80+j) by simp;omega,zaP,show 80+j=c.R.length+(8+j) by rw [h.hR];omega,zaP,show 8+j=c.J.length+j by rw [h.hJ],zaP,List.set_append_left _ _ (by rw [h.hK];exact hj)]
theorem Sv.setAc (h:Sv w s c) (v:Bool):∃ w',w.setCell ⟨s,102,none⟩ (.bool v)=w'∧Sv w' s { c with ac:=v }∧Fr (fun k=>k=s) w w':=by
 refine h.set (c':={ c with ac:=v }) _ _ ?_ h.hR h.hJ h.hK
 unfold SvC.l
 rw [show 102=List.length [Value.int .i64 c.now,.int .i64 c.first,.bool c.rd,.bool c.rs,.int .i64 c.out,.int .i64 c.many]+96 by simp,zaP,show 96=c.R.length+24 by rw [h.hR],zaP,show 24=c.J.length+16 by rw [h.hJ],zaP,show 16=c.K.length+0 by rw [h.hK],zaP]
 rfl
theorem Sv.setNt (h:Sv w s c) (v:Value):∃ w',w.setCell ⟨s,103,none⟩ v=w'∧Sv w' s { c with nt:=v }∧Fr (fun k=>k=s) w w':=by
 refine h.set (c':={ c with nt:=v }) _ _ ?_ h.hR h.hJ h.hK
 unfold SvC.l
 rw [show 103=List.length [Value.int .i64 c.now,.int .i64 c.first,.bool c.rd,.bool c.rs,.int .i64 c.out,.int .i64 c.many]+97 by simp,zaP,show 97=c.R.length+25 by rw [h.hR],zaP,show 25=c.J.length+17 by rw [h.hJ],zaP,show 17=c.K.length+1 by rw [h.hK],zaP]
 rfl
def SvC.read (c:SvC) (r:Int):SvC:={ c with now:=max c.now r,first:=if c.rd then c.first else max c.now r,rd:=true }
theorem zby (r:Int) (w:World) (h:Sv w s c) :
  Calls Tryz.prog 48 #[.pointer (some ⟨s,0,none⟩),.int .i64 r] w fun e w'=>e=.returned (.int .i64 (max c.now r))∧Sv w' s (c.read r)∧Fr (fun k=>k=s) w w':=by
 obtain ⟨mx,hmx⟩:=zeq (max c.now r)
 have m1:(if c.now<r then r else c.now)=mx:=by split <;> omega
 have m2:(if r<c.now then c.now else r)=mx:=by split <;> omega
 have m3:(if c.now≤r then r else c.now)=mx:=by split <;> omega
 have m4:(if r≤c.now then c.now else r)=mx:=by split <;> omega
 obtain ⟨w1,e1,h1,f1⟩:=h.setNow mx
 have H1:=zhz (And.intro h1 f1)
 have k0:=h.c0
 have kw:=h.wr
 have kw1:=h1.wr
 have k10:=h1.c0
 have k11:=h1.c1
 have k12:=h1.c2
 dsimp only at k10 k11 k12
 obtain ⟨w2,e2,h2,f2⟩:=h1.setFirst mx
 obtain ⟨w3,e3,h3,f3⟩:=h2.setRd true
 have H3:=zhz (And.intro h3 (f1.trans (f2.trans f3)))
 have kw2:=h2.wr
 have k22:=h2.c2
 have k30:=h3.c0
 dsimp only at k22 k30
 cases hr:c.rd with
 | true =>
  have hrd:c.read r={ c with now:=mx }:=by unfold SvC.read;rw [hr,← hmx];cases c;simp at hr ⊢;try exact hr
  rw [hrd,← hmx]
  rw [hr] at k12
  clear h h1 h2 h3 f1 f2 f3 e2 e3 kw2 k22 k30 hrd H3 hr hmx
  go_enter Tryz.func48,Tryz.ntmps48
  go_wp2
  go_ret
  exact ⟨rfl,H1.out⟩
 | false =>
  have hrd:c.read r={ c with now:=mx,first:=mx,rd:=true }:=by unfold SvC.read;rw [hr,← hmx];rfl
  rw [hrd,← hmx]
  rw [hr] at k12 k22
  clear h h1 h2 h3 f1 f2 f3 hrd hr hmx
  go_enter Tryz.func48,Tryz.ntmps48
  go_wp2
  go_ret
  exact ⟨rfl,H3.out⟩
theorem zcS (w:World) (h:Sv w s c):Calls Tryz.prog 22 #[.pointer (some ⟨s,0,none⟩)] w fun e w'=>e=.returned (.int .i64 c.now)∧w=w':=by
 have k0:=h.c0
 clear h
 go_enter Tryz.func22,Tryz.ntmps22
 go_wp2
 go_ret
 exact ⟨rfl,rfl⟩
end
end Go.Proofs.YtannniobeanhlaaGreat
