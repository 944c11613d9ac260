import Derived.Test.YtambcbbekoehiaaGreatZGen
import Derived.Deep.RegionHeld3
import Derived.BigQuiet
import Derived.Deep.CutRange
import Derived.Test.YtambcbbekoehiaaGreatZHa
set_option linter.unusedSimpArgs false
set_option linter.unusedVariables false
set_option maxRecDepth 100000
set_option maxHeartbeats 9000000
namespace Go.Proofs.YtambcbbekoehiaaGreat
open Go.ChangeShapes Go.WideShapes Go.ChangeAt Go.RowKit
section
variable {P:Program} {fn:Func} {R:Ending→World→Prop}
theorem zbA {t1 t2:Array Value} (h:results fn t1=results fn t2):∀ (ds:List Deferred) (u:FrameMode) (w:World),Leaves P fn t1 R ds u w→Leaves P fn t2 R ds u w
 | [],.returning,w,⟨v,hr,hR⟩=>⟨v,by rw [← h];exact hr,hR⟩
 | [],.panicking _,_,hR=>hR
 | [],.run,_,hf=>hf
 | d :: ds,u,w,⟨hu,fv,cap,f,args,ht,hi,hc⟩=>⟨hu,fv,cap,f,args,ht,hi,hc.mono (fun e u' w' he=>by
   cases e with
   | returned _=>exact zbA h ds _ _ he
   | panicked _=>exact zbA h ds _ _ he
   | outgrown=>exact he)⟩
theorem zfv {p:Tmp} {ty:TypeId} (h:fn.results=#[.cell p ty]) (tmps:Array Value) {d:Tmp} (v:Value) (hd:d≠p):results fn (tmps.setIfInBounds d v)=results fn tmps:=by
 have e:(tmps.setIfInBounds d v)[p]?=tmps[p]?:=by rw [Array.getElem?_setIfInBounds_ne hd]
 simp [results,h,e]
theorem putD {p:Tmp} {ty:TypeId} (h:fn.results=#[.cell p ty]) {d:Option Tmp} {v:Value} (hd:d≠some p):∀ c a w,bodyPostD P fn R (.panic c) (a.put d v) w→bodyPostD P fn R (.panic c) a w:=by
 intro c a w hh
 cases d with
 | none=>exact hh
 | some d=>exact zbA (zfv h a.tmps v (fun e=>hd (by rw [e]))) _ _ _ hh
end
structure SvC where
 now:Int
 first:Int
 rd:Bool
 rs:Bool
 out:Int
 many:Int
 R:List Value
 J:List Value
 K:List Value
 ac:Bool
 nt:Value
def SvC.l (c:SvC):List Value:=[.int .i64 c.now,.int .i64 c.first,.bool c.rd,.bool c.rs,.int .i64 c.out,.int .i64 c.many]++(c.R++(c.J++(c.K++[.bool c.ac,c.nt])))
structure Sv (w:World) (s:Nat) (c:SvC):Prop where
 hb:Blk w s 113 c.l.toArray
 hR:c.R.length=72
 hJ:c.J.length=8
 hK:c.K.length=16
section
variable {w w' W:World} {s:Nat} {c c':SvC}
theorem Sv.keep (h:Sv w s c) (hb:Below w.heap.size w w'):Sv w' s c:=⟨h.hb.keep hb,h.hR,h.hJ,h.hK⟩
theorem Sv.fr {F:Nat→Prop} (h:Sv w s c) (hf:Fr F w w') (hF:¬ F s):Sv w' s c:=⟨h.hb.fr hf hF,h.hR,h.hJ,h.hK⟩
theorem Sv.lt (h:Sv w s c):s<w.heap.size:=lt_of_block h.hb
theorem Sv.len (h:Sv w s c):c.l.length=104:=by unfold SvC.l;simp [h.hR,h.hJ,h.hK]
theorem Sv.rd' (h:Sv w s c) (i:Nat):w.cell? ⟨s,i,none⟩=c.l[i]?:=by rw [h.hb.rd i,List.getElem?_toArray]
theorem Sv.wr (h:Sv w s c):∀ i,w.frozen? ⟨s,i,none⟩=false:=h.hb.wr
theorem Sv.c0 (h:Sv w s c):w.cell? ⟨s,0,none⟩=some (.int .i64 c.now):=(h.rd' 0).trans rfl
theorem Sv.c1 (h:Sv w s c):w.cell? ⟨s,1,none⟩=some (.int .i64 c.first):=(h.rd' 1).trans rfl
theorem Sv.c2 (h:Sv w s c):w.cell? ⟨s,2,none⟩=some (.bool c.rd):=(h.rd' 2).trans rfl
theorem Sv.c3 (h:Sv w s c):w.cell? ⟨s,3,none⟩=some (.bool c.rs):=(h.rd' 3).trans rfl
theorem Sv.c4 (h:Sv w s c):w.cell? ⟨s,4,none⟩=some (.int .i64 c.out):=(h.rd' 4).trans rfl
theorem Sv.c5 (h:Sv w s c):w.cell? ⟨s,5,none⟩=some (.int .i64 c.many):=(h.rd' 5).trans rfl
theorem zmJ (h:c.R.length=72) {j:Nat} (hj:j<72):c.l[6+j]?=c.R[j]?:=by
 unfold SvC.l
 rw [List.getElem?_append_right (by simp),show 6+j - List.length [Value.int .i64 c.now,.int .i64 c.first,.bool c.rd,.bool c.rs,.int .i64 c.out,.int .i64 c.many]=j by simp,List.getElem?_append_left (by omega)]
theorem zmH (h:c.R.length=72) (hJ:c.J.length=8) {j:Nat} (hj:j<8):c.l[78+j]?=c.J[j]?:=by
 unfold SvC.l
 rw [List.getElem?_append_right (by simp;omega),show 78+j - List.length [Value.int .i64 c.now,.int .i64 c.first,.bool c.rd,.bool c.rs,.int .i64 c.out,.int .i64 c.many]=72+j by simp;omega,List.getElem?_append_right (by omega),show 72+j - c.R.length=j by omega,List.getElem?_append_left (by omega)]
theorem zmI (h:c.R.length=72) (hJ:c.J.length=8) (hK:c.K.length=16) {j:Nat} (hj:j<16):c.l[86+j]?=c.K[j]?:=by
 unfold SvC.l
 rw [List.getElem?_append_right (by simp;omega),show 86+j - List.length [Value.int .i64 c.now,.int .i64 c.first,.bool c.rd,.bool c.rs,.int .i64 c.out,.int .i64 c.many]=80+j by simp;omega,List.getElem?_append_right (by omega),show 80+j - c.R.length=8+j by omega,List.getElem?_append_right (by omega),show 8+j - c.J.length=j by omega,List.getElem?_append_left (by omega)]
theorem zmv (h:c.R.length=72) (hJ:c.J.length=8) (hK:c.K.length=16) (j:Nat):c.l[102+j]?=[Value.bool c.ac,c.nt][j]?:=by
 unfold SvC.l
 rw [List.getElem?_append_right (by simp;omega),show 102+j - List.length [Value.int .i64 c.now,.int .i64 c.first,.bool c.rd,.bool c.rs,.int .i64 c.out,.int .i64 c.many]=96+j by simp;omega,List.getElem?_append_right (by omega),show 96+j - c.R.length=24+j by omega,List.getElem?_append_right (by omega),show 24+j - c.J.length=16+j by omega,List.getElem?_append_right (by omega),show 16+j - c.K.length=j by omega]
theorem Sv.cR (h:Sv w s c) {j:Nat} (hj:j<72):w.cell? ⟨s,6+j,none⟩=c.R[j]?:=(h.rd' _).trans (zmJ h.hR hj)
theorem Sv.cJ (h:Sv w s c) {j:Nat} (hj:j<8):w.cell? ⟨s,78+j,none⟩=c.J[j]?:=(h.rd' _).trans (zmH h.hR h.hJ hj)
theorem Sv.cK (h:Sv w s c) {j:Nat} (hj:j<16):w.cell? ⟨s,86+j,none⟩=c.K[j]?:=(h.rd' _).trans (zmI h.hR h.hJ h.hK hj)
theorem Sv.cA (h:Sv w s c):w.cell? ⟨s,102,none⟩=some (.bool c.ac):=(h.rd' _).trans (zmv h.hR h.hJ h.hK 0)
theorem Sv.cN (h:Sv w s c):w.cell? ⟨s,103,none⟩=some c.nt:=(h.rd' _).trans (zmv h.hR h.hJ h.hK 1)
theorem Sv.set (h:Sv w s c) (i:Nat) (v:Value) (hl:c.l.set i v=c'.l) (hR:c'.R.length=72) (hJ:c'.J.length=8) (hK:c'.K.length=16):∃ w',w.setCell ⟨s,i,none⟩ v=w'∧Sv w' s c'∧Fr (fun k=>k=s) w w':=by
 have hb:=lt_of_block h.hb
 have hk:w.setCell ⟨s,i,none⟩ v=setObj w s (.cells c'.l.toArray 113 (0,0)):=by
  rw [zac h.hb,zs1,hl]
 exact ⟨_,hk,⟨zab hb _,hR,hJ,hK⟩,Fr.setObj (F:=fun k=>k=s) (Fr.refl _ _) rfl _⟩
theorem Sv.setNow (h:Sv w s c) (v:Int):∃ w',w.setCell ⟨s,0,none⟩ (.int .i64 v)=w'∧Sv w' s { c with now:=v }∧Fr (fun k=>k=s) w w':=h.set (c':={ c with now:=v }) _ _ rfl h.hR h.hJ h.hK
theorem Sv.setFirst (h:Sv w s c) (v:Int):∃ w',w.setCell ⟨s,1,none⟩ (.int .i64 v)=w'∧Sv w' s { c with first:=v }∧Fr (fun k=>k=s) w w':=h.set (c':={ c with first:=v }) _ _ rfl h.hR h.hJ h.hK
theorem Sv.setRd (h:Sv w s c) (v:Bool):∃ w',w.setCell ⟨s,2,none⟩ (.bool v)=w'∧Sv w' s { c with rd:=v }∧Fr (fun k=>k=s) w w':=h.set (c':={ c with rd:=v }) _ _ rfl h.hR h.hJ h.hK
theorem zaS {α:Type} (a b:List α) (i:Nat) (v:α):(a++b).set (a.length+i) v=a++b.set i v:=by
 induction a with
 | nil=>simp
 | cons x a ih=>rw [List.cons_append,List.length_cons,show a.length+1+i=(a.length+i)+1 by omega,zs3,ih];rfl
theorem Sv.setJ (h:Sv w s c) {j:Nat} (hj:j<8) (v:Value):∃ w',w.setCell ⟨s,78+j,none⟩ v=w'∧Sv w' s { c with J:=c.J.set j v }∧Fr (fun k=>k=s) w w':=by
 refine h.set (c':={ c with J:=c.J.set j v }) _ _ ?_ h.hR (by rw [List.length_set];exact h.hJ) h.hK
 unfold SvC.l
 rw [show 78+j=List.length [Value.int .i64 c.now,.int .i64 c.first,.bool c.rd,.bool c.rs,.int .i64 c.out,.int .i64 c.many]+(72+j) by simp;omega,zaS,show 72+j=c.R.length+j by rw [h.hR],zaS,List.set_append_left _ _ (by rw [h.hJ];exact hj)]
theorem Sv.setK (h:Sv w s c) {j:Nat} (hj:j<16) (v:Value):∃ w',w.setCell ⟨s,86+j,none⟩ v=w'∧Sv w' s { c with K:=c.K.set j v }∧Fr (fun k=>k=s) w w':=by
 refine h.set (c':={ c with K:=c.K.set j v }) _ _ ?_ h.hR h.hJ (by rw [List.length_set];exact h.hK)
 unfold SvC.l
 rw [show 86+j=List.length [Value.int .i64 c.now,.int .i64 c.first,.bool c.rd,.bool c.rs,.int .i64 c.out,.int .i64 c.many]+(80+j) by simp;omega,zaS,show 80+j=c.R.length+(8+j) by rw [h.hR];omega,zaS,show 8+j=c.J.length+j by rw [h.hJ],zaS,List.set_append_left _ _ (by rw [h.hK];exact hj)]
theorem Sv.setAc (h:Sv w s c) (v:Bool):∃ w',w.setCell ⟨s,102,none⟩ (.bool v)=w'∧Sv w' s { c with ac:=v }∧Fr (fun k=>k=s) w w':=by
 refine h.set (c':={ c with ac:=v }) _ _ ?_ h.hR h.hJ h.hK
 unfold SvC.l
 rw [show 102=List.length [Value.int .i64 c.now,.int .i64 c.first,.bool c.rd,.bool c.rs,.int .i64 c.out,.int .i64 c.many]+96 by simp,zaS,show 96=c.R.length+24 by rw [h.hR],zaS,show 24=c.J.length+16 by rw [h.hJ],zaS,show 16=c.K.length+0 by rw [h.hK],zaS]
 rfl
theorem Sv.setNt (h:Sv w s c) (v:Value):∃ w',w.setCell ⟨s,103,none⟩ v=w'∧Sv w' s { c with nt:=v }∧Fr (fun k=>k=s) w w':=by
 refine h.set (c':={ c with nt:=v }) _ _ ?_ h.hR h.hJ h.hK
 unfold SvC.l
 rw [show 103=List.length [Value.int .i64 c.now,.int .i64 c.first,.bool c.rd,.bool c.rs,.int .i64 c.out,.int .i64 c.many]+97 by simp,zaS,show 97=c.R.length+25 by rw [h.hR],zaS,show 25=c.J.length+17 by rw [h.hJ],zaS,show 17=c.K.length+1 by rw [h.hK],zaS]
 rfl
def SvC.read (c:SvC) (r:Int):SvC:={ c with now:=max c.now r,first:=if c.rd then c.first else max c.now r,rd:=true }
theorem zdt (r:Int) (w:World) (h:Sv w s c) :
  Calls Tryz.prog 72 #[.pointer (some ⟨s,0,none⟩),.int .i64 r] w fun e w'=>e=.returned (.int .i64 (max c.now r))∧Sv w' s (c.read r)∧Fr (fun k=>k=s) w w':=by
 obtain ⟨mx,hmx⟩:=zeq (max c.now r)
 have m1:(if c.now<r then r else c.now)=mx:=by split <;> omega
 have m2:(if r<c.now then c.now else r)=mx:=by split <;> omega
 have m3:(if c.now≤r then r else c.now)=mx:=by split <;> omega
 have m4:(if r≤c.now then c.now else r)=mx:=by split <;> omega
 obtain ⟨w1,e1,h1,f1⟩:=h.setNow mx
 have H1:=zhz (And.intro h1 f1)
 have k0:=h.c0
 have kw:=h.wr
 have kw1:=h1.wr
 have k10:=h1.c0
 have k11:=h1.c1
 have k12:=h1.c2
 dsimp only at k10 k11 k12
 obtain ⟨w2,e2,h2,f2⟩:=h1.setFirst mx
 obtain ⟨w3,e3,h3,f3⟩:=h2.setRd true
 have H3:=zhz (And.intro h3 (f1.trans (f2.trans f3)))
 have kw2:=h2.wr
 have k22:=h2.c2
 have k30:=h3.c0
 dsimp only at k22 k30
 cases hr:c.rd with
 | true =>
  have hrd:c.read r={ c with now:=mx }:=by unfold SvC.read;rw [hr,← hmx];cases c;simp at hr ⊢;try exact hr
  rw [hrd,← hmx]
  rw [hr] at k12
  clear h h1 h2 h3 f1 f2 f3 e2 e3 kw2 k22 k30 hrd H3 hr hmx
  go_enter Tryz.func72,Tryz.ntmps72
  go_wp2
  go_ret
  exact ⟨rfl,H1.out⟩
 | false =>
  have hrd:c.read r={ c with now:=mx,first:=mx,rd:=true }:=by unfold SvC.read;rw [hr,← hmx];rfl
  rw [hrd,← hmx]
  rw [hr] at k12 k22
  clear h h1 h2 h3 f1 f2 f3 hrd hr hmx
  go_enter Tryz.func72,Tryz.ntmps72
  go_wp2
  go_ret
  exact ⟨rfl,H3.out⟩
theorem zjg (w:World) (h:Sv w s c):Calls Tryz.prog 41 #[.pointer (some ⟨s,0,none⟩)] w fun e w'=>e=.returned (.int .i64 c.now)∧w=w':=by
 have k0:=h.c0
 clear h
 go_enter Tryz.func41,Tryz.ntmps41
 go_wp2
 go_ret
 exact ⟨rfl,rfl⟩
end
end Go.Proofs.YtambcbbekoehiaaGreat
namespace Go.Proofs.YtambcbbekoehiaaGreat.R9
open Go Go.ChangeShapes Go.WideShapes Go.ChangeAt Go.RowKit
def unit9 (W n:Int):Int:=if W.tdiv n*n<W then W.tdiv n+1 else W.tdiv n
abbrev rvV (L W B x1 x2 x3 x4 x5:Int) (sm:Bool):Value:=.agg #[.int .i64 L,.int .i64 W,.int .i64 B,.int .i64 x1,.int .i64 x2,.int .i64 x3,.int .i64 x4,.int .i64 x5,.bool sm]
abbrev rvC (L W B x1 x2 x3 x4 x5:Int) (sm:Bool):Array Value:=#[.int .i64 L,.int .i64 W,.int .i64 B,.int .i64 x1,.int .i64 x2,.int .i64 x3,.int .i64 x4,.int .i64 x5,.bool sm]
abbrev cvV (F S C D:Int):Value:=.agg #[.int .i64 F,.int .i64 S,.int .i64 C,.int .i64 D]
abbrev cvC (F S C D:Int):Array Value:=#[.int .i64 F,.int .i64 S,.int .i64 C,.int .i64 D]
def base (F U B t:Int):Int:=max 0 (min ((t+B*U - max F t).tdiv U) B)
def rest (C D L:Int):Int:=max 0 (L - (C+D))
def room (F S C D U W B L t:Int):Int:=if t<S+W then min (base F U B t) (rest C D L) else base F U B t
def wait (F S C D U W B L t cost:Int):Int:=(if max t (F - (B - cost)*U)<S+W∧rest C D L<cost then S+W else max t (F - (B - cost)*U)) - t
structure Ru (U W B L:Int):Prop where
 u:U=unit9 W (L+1 - B)
 W:1≤W∧W≤1048576
 B:1≤B∧B≤L
 L:L≤1048576
structure Ce (F S C D t:Int):Prop where
 F:0≤F∧F≤6917529027641081856
 S : -1048576≤S∧S≤4611686018427387904
 C:0≤C∧C≤4611686018427387904
 D:0≤D∧D≤1152921504606846976
 t:0≤t∧t≤4611686018427387904
section
variable {F S C D U W B L t:Int}
theorem zdv {n:Int} (hW:1≤W) (hn:1≤n):0≤W.tdiv n∧W.tdiv n*n≤W∧W.tdiv n≤W:=by
 have h0:0≤W.tdiv n:=Int.tdiv_nonneg (by omega) (by omega)
 have h1:W.tdiv n*n≤W:=by
  rw [Int.tdiv_eq_ediv_of_nonneg (by omega)]
  exact Int.ediv_mul_le W (by omega)
 have h2:W.tdiv n*1≤W.tdiv n*n:=Int.mul_le_mul_of_nonneg_left hn h0
 exact ⟨h0,h1,by omega⟩
theorem Ru.ub (h:Ru U W B L):1≤U∧U≤1048577:=by
 have hn:1≤L+1 - B:=by have:=h.B;omega
 obtain ⟨h0,h1,h2⟩:=zdv h.W.1 hn
 have hW:=h.W
 rw [h.u]
 unfold unit9
 split
 ·omega
 ·rename_i q
  have:W.tdiv (L+1 - B)≠0:=fun e=>by rw [e,Int.zero_mul] at q;omega
  omega
theorem Ru.bu (h:Ru U W B L) {k:Int} (h0:0≤k) (hk:k≤B):0≤k*U∧k*U≤1099512676352∧k*U≤B*U:=by
 have hu:=h.ub
 have hB:=h.B
 have hL:=h.L
 have h1:0≤k*U:=Int.mul_nonneg h0 (by omega)
 have h2:k*U≤B*U:=Int.mul_le_mul_of_nonneg_right hk (by omega)
 have h3:B*U≤1048576*1048577:=Int.mul_le_mul (by omega) hu.2 (by omega) (by omega)
 exact ⟨h1,by omega,h2⟩
theorem zmB {k x:Int} (hU:1≤U) (hk:1≤k):k≤x.tdiv U ↔ k*U≤x:=by
 rcases Int.lt_or_le x 0 with hx | hx
 ·have h1:x.tdiv U≤0:=by
   have:0≤(-x).tdiv U:=Int.tdiv_nonneg (by omega) (by omega)
   rw [Int.neg_tdiv] at this
   omega
  have h2:0≤k*U:=Int.mul_nonneg (by omega) (by omega)
  constructor <;> intro h <;> omega
 ·rw [Int.tdiv_eq_ediv_of_nonneg hx]
  exact Int.le_ediv_iff_mul_le (by omega)
theorem zaN {k:Int} (hU:1≤U) (hk:1≤k):k≤base F U B t ↔ k≤B∧k*U+max F t≤t+B*U:=by
 have h:=zmB (x:=t+B*U - max F t) hU hk
 unfold base
 generalize (t+B*U - max F t).tdiv U=q at *
 generalize k*U=ku at *
 generalize B*U=bu at *
 constructor
 ·intro g;have:k≤q:=by omega
  have:=h.1 this;omega
 ·intro g;have:k≤q:=h.2 (by omega)
  omega
theorem zcu:0≤base F U B t:=by unfold base;omega
theorem zct (hB:0≤B):base F U B t≤B:=by unfold base;omega
theorem zeB:room F S C D U W B L t≤base F U B t:=by unfold room;split <;> omega
theorem zdX:0≤room F S C D U W B L t:=by
 have:=zcu (F:=F) (U:=U) (B:=B) (t:=t);unfold room rest;split <;> omega
def fz (F U t k:Int):Int:=if k=0 then F else max F t+k*U
theorem zdJ:fz F U t 0=F:=if_pos rfl
theorem zh1 {k:Int} (hU:0≤U) (h0:0≤k):max (fz F U t k) t=max F t+k*U:=by
 unfold fz
 have:=Int.mul_nonneg h0 hU
 split
 ·rename_i e;rw [e,Int.zero_mul];omega
 ·omega
theorem zfn {k:Int} (hU:1≤U) (h0:0≤k):k+1≤base F U B t ↔ k<B∧max (fz F U t k) t≤t+(B - 1)*U:=by
 rw [zaN hU (by omega),zh1 (by omega) h0,Int.add_mul,Int.sub_mul,Int.one_mul]
 constructor <;> intro h <;> exact ⟨by omega,by omega⟩
theorem zjl {cost:Int} (hU:1≤U) (h1:1≤cost) (hc:cost≤room F S C D U W B L t):wait F S C D U W B L t cost=0:=by
 have hb:=(zaN (F:=F) (t:=t) (B:=B) hU h1).1 (Int.le_trans hc zeB)
 have h2:(B - cost)*U=B*U - cost*U:=Int.sub_mul _ _ _
 have e:max t (F - (B - cost)*U)=t:=by omega
 unfold wait
 rw [e,if_neg]
 ·omega
 ·intro g
  unfold room at hc
  rw [if_pos g.1] at hc
  omega
end
section
variable {F S C D U W B L t:Int} (x1 x2 x3 x4 x5:Int) (sm:Bool)
theorem box9 (w:World) (c:Array Value) (t:TypeId):∃ w1,w.alloc (.cells c t)=w1∧Blk w1 w.heap.size t c∧Below w.heap.size w w1∧w1.heap.size=w.heap.size+1:=zad w c t
theorem zcs (h:Ru U W B L) (w:World):Calls Tryz.prog 77 #[rvV L W B x1 x2 x3 x4 x5 sm] w fun e w'=>e=.returned (.int .i64 U)∧Below w.heap.size w w':=by
 obtain ⟨n,hn⟩:=zeq (L+1 - B)
 have hn1:1≤n∧n≤1048577:=by have:=h.B;have:=h.L;omega
 obtain ⟨h0,h1,h2⟩:=zdv h.W.1 hn1.1
 obtain ⟨q,hq⟩:=zeq (W.tdiv n)
 obtain ⟨p,hp⟩:=zeq (q*n)
 have hu:U=if p<W then q+1 else q:=by rw [h.u,← hn];unfold unit9;rw [← hq,← hp]
 rw [← hq] at h0 h1 h2
 rw [← hp] at h1
 have hp0:0≤p:=by rw [hp];exact Int.mul_nonneg h0 (by omega)
 have e1:L+1 - B=n:=hn.symm
 have e2:W.tdiv n=q:=hq.symm
 have e3:q*n=p:=hp.symm
 have e4:¬ (n=0):=by omega
 have hW:=h.W
 have hL:1≤L∧L≤1048576:=by have:=h.B;have:=h.L;omega
 have hB:1≤B∧B≤1048576:=by have:=h.B;omega
 have HU:=zhz hu
 obtain ⟨w1,hw1,k1,b1,s1⟩:=box9 w (rvC L W B x1 x2 x3 x4 x5 sm) 53
 have B1:=zhz b1
 have k1r:=k1.rd
 clear hn hq hp hu h k1 b1 s1
 by_cases hlt:p<W
 ·have u1:decide (p<W)=true:=by rw [decide_eq_true_iff];exact hlt
  have HU2:=zhz (show U=q+1 from by rw [HU.out,if_pos hlt])
  clear hlt
  rw [HU2.out]
  go_enter Tryz.func77,Tryz.ntmps77
  go_wp2
  go_ret
  exact ⟨rfl,B1.out⟩
 ·have u1:decide (p<W)=false:=by rw [decide_eq_false_iff_not];exact hlt
  have HU2:=zhz (show U=q from by rw [HU.out,if_neg hlt])
  clear hlt
  rw [HU2.out]
  go_enter Tryz.func77,Tryz.ntmps77
  go_wp2
  go_ret
  exact ⟨rfl,B1.out⟩
abbrev CAt (w:World) (b:Nat) (F S C D:Int):Prop:=Blk w b 81 #[.int .i64 F,.int .i64 S,.int .i64 C,.int .i64 D]
theorem zis (h:Ru U W B L) (hc:Ce F S C D t) (b:Nat) (w:World) (ha:CAt w b F S C D) (hok:max F t≤t+(B - 1)*U) :
  Calls Tryz.prog 78 #[.pointer (some ⟨b,0,none⟩),rvV L W B x1 x2 x3 x4 x5 sm,.int .i64 t] w fun e w'=>e=.returned (.bool true)∧CAt w' b (max F t+U) S C D∧Fr (fun k=>k=b) w w':=by
 have hub:=h.ub
 have hbu:=h.bu (k:=B - 1) (by have:=h.B;omega) (by omega)
 obtain ⟨li,hli⟩:=zeq ((B - 1)*U)
 obtain ⟨b1,hb1⟩:=zeq (B - 1)
 have e1:IntKind.i64.wrap (B - 1)=b1:=by rw [hb1];have:=h.B;have:=h.L;exact IntWalk.i64_in _ (by omega)
 have e2:IntKind.i64.wrap (b1*U)=li:=by rw [hb1,← hli];exact IntWalk.i64_in _ (by omega)
 rw [← hli] at hok hbu
 have hF:=hc.F
 have ht:=hc.t
 have hl0:0≤li∧li≤1099512676352:=⟨hbu.1,hbu.2.1⟩
 have HU:=zhz (fun wx=>zcs x1 x2 x3 x4 x5 sm h wx)
 obtain ⟨w1,hw1,k1,b1',s1⟩:=box9 w #[.int .i64 L,.int .i64 W,.int .i64 B,.int .i64 x1,.int .i64 x2,.int .i64 x3,.int .i64 x4,.int .i64 x5,.bool sm] 53
 obtain ⟨rb,hrb⟩:=zeq (w.heap.size)
 have HRB:=zhz hrb
 have HNE:=zhz (show rb≠b from by have:=lt_of_block ha;omega)
 rw [← hrb] at k1
 have KR:=zhz k1
 have KC:=zhz (ha.keep b1')
 have B1:=zhz b1'
 have HOK:=zhz hok
 clear hli hb1 hbu ha k1 b1' s1 hrb h hc hok
 go_enter Tryz.func78,Tryz.ntmps78
 go_upto_region 1 with (fail)
 rw [← HRB.out]
 clear hw1
 have KRD:=zhz (show Blk w1.drew rb 53 #[.int .i64 L,.int .i64 W,.int .i64 B,.int .i64 x1,.int .i64 x2,.int .i64 x3,.int .i64 x4,.int .i64 x5,.bool sm] from KR.out)
 have KCD:=zhz (show CAt w1.drew b F S C D from KC.out)
 have st:=KRD.out.rd
 refine wp_region_held_drew (S:=fun wx=>∀ j,wx.cell? ⟨rb,j,none⟩=(#[.int .i64 L,.int .i64 W,.int .i64 B,.int .i64 x1,.int .i64 x2,.int .i64 x3,.int .i64 x4,.int .i64 x5,.bool sm]:Array Value)[j]?) (by kernel_rfl) st (fun hHeld=>?_)
 clear st
 refine wR 0 ?_
 refine wR 1 ?_
 refine wR 2 ?_
 refine wR 3 ?_
 refine wC 4 fun K hK=>?_
 go_simp
 refine (HU.out _).mono ?_;rintro e w2 ⟨rfl,b2⟩;have KR2:=zhz (KRD.out.keep b2);have KC2:=zhz (KCD.out.keep b2);have B2:=zhz b2;clear b2
 refine hK.out _ _ KR2.out.rd fun hHeld=>?_
 clear hK K
 try simp only [Act.put,zs1,zs2,zs3]
 refine wR 5 ?_
 refine wR 6 ?_
 refine wpAnyH_done (by kernel_rfl) ?_ _
 clear hHeld e1 e2
 have kc2:=KC2.out.rd
 have kr2:=KR2.out.rd
 obtain ⟨at9,hat9⟩:=zeq (max F t)
 have HAT:=zhz hat9
 have hab:0≤at9∧at9≤6917529027641081856:=by omega
 have hle:at9≤t+li:=by rw [hat9];exact HOK.out
 by_cases hlt:F<t
 ·have u1:decide (F<t)=true:=by rw [decide_eq_true_iff];exact hlt
  have hae:at9=t:=by omega
  have u2:decide (t+li<t)=false:=by rw [decide_eq_false_iff_not];omega
  have HAE:=zhz hae
  clear hlt hat9 hae
  go_upto_region 7 with (fail)
  rw [← HAE.out]
  clear u1 u2
  have kcw:=KC2.out.wr
  go_wp2_with (fail)
  refine (HU.out _).mono ?_
  rintro e w3 ⟨rfl,b3⟩
  have KC3:=zhz (KC2.out.keep b3)
  have B3:=zhz b3
  clear b3 kc2 kr2 kcw
  obtain ⟨w4,hw4,k4,f4,z4⟩:=G.box_set KC3.out 0 (.int .i64 (at9+U)) #[.int .i64 (at9+U),.int .i64 S,.int .i64 C,.int .i64 D] rfl
  have HH:=zhz (show CAt w4 b (at9+U) S C D∧Fr (fun k=>k=b) w w4 from ⟨k4,((((Fr.of_below B1.out).trans (Fr.refl _ _).drew).trans (Fr.of_below B2.out)).trans (Fr.of_below B3.out)).trans f4⟩)
  clear k4 f4 z4
  have kc3:=KC3.out.rd
  have kcw:=KC3.out.wr
  go_wp2
  go_ret
  exact ⟨rfl,by rw [← HAT.out];exact HH.out.1,HH.out.2⟩
 ·have u1:decide (F<t)=false:=by rw [decide_eq_false_iff_not];exact hlt
  have hae:at9=F:=by omega
  have u2:decide (t+li<F)=false:=by rw [decide_eq_false_iff_not];omega
  have HAE:=zhz hae
  clear hlt hat9 hae
  go_upto_region 7 with (fail)
  clear u1 u2
  have kcw:=KC2.out.wr
  go_wp2_with (fail)
  refine (HU.out _).mono ?_
  rintro e w3 ⟨rfl,b3⟩
  have KC3:=zhz (KC2.out.keep b3)
  have B3:=zhz b3
  clear b3 kc2 kr2 kcw
  obtain ⟨w4,hw4,k4,f4,z4⟩:=G.box_set KC3.out 0 (.int .i64 (F+U)) #[.int .i64 (F+U),.int .i64 S,.int .i64 C,.int .i64 D] rfl
  have HH:=zhz (show CAt w4 b (at9+U) S C D∧Fr (fun k=>k=b) w w4 from ⟨by rw [HAE.out];exact k4,((((Fr.of_below B1.out).trans (Fr.refl _ _).drew).trans (Fr.of_below B2.out)).trans (Fr.of_below B3.out)).trans f4⟩)
  clear k4 f4 z4
  have kc3:=KC3.out.rd
  have kcw:=KC3.out.wr
  go_wp2
  go_ret
  exact ⟨rfl,by rw [← HAT.out];exact HH.out.1,HH.out.2⟩
theorem zmh (h:Ru U W B L) (hc:Ce F S C D t) (b:Nat) (w:World) (ha:CAt w b F S C D) (hno:t+(B - 1)*U<max F t) :
  Calls Tryz.prog 78 #[.pointer (some ⟨b,0,none⟩),rvV L W B x1 x2 x3 x4 x5 sm,.int .i64 t] w fun e w'=>e=.returned (.bool false)∧Below w.heap.size w w':=by
 have hub:=h.ub
 have hbu:=h.bu (k:=B - 1) (by have:=h.B;omega) (by omega)
 obtain ⟨li,hli⟩:=zeq ((B - 1)*U)
 obtain ⟨b1,hb1⟩:=zeq (B - 1)
 have e1:IntKind.i64.wrap (B - 1)=b1:=by rw [hb1];have:=h.B;have:=h.L;exact IntWalk.i64_in _ (by omega)
 have e2:IntKind.i64.wrap (b1*U)=li:=by rw [hb1,← hli];exact IntWalk.i64_in _ (by omega)
 rw [← hli] at hno hbu
 have hF:=hc.F
 have ht:=hc.t
 have hl0:0≤li∧li≤1099512676352:=⟨hbu.1,hbu.2.1⟩
 have HU:=zhz (fun wx=>zcs x1 x2 x3 x4 x5 sm h wx)
 obtain ⟨w1,hw1,k1,b1',s1⟩:=box9 w #[.int .i64 L,.int .i64 W,.int .i64 B,.int .i64 x1,.int .i64 x2,.int .i64 x3,.int .i64 x4,.int .i64 x5,.bool sm] 53
 obtain ⟨rb,hrb⟩:=zeq (w.heap.size)
 have HRB:=zhz hrb
 rw [← hrb] at k1
 have KR:=zhz k1
 have KC:=zhz (ha.keep b1')
 have B1:=zhz b1'
 have u1:decide (F<t)=false:=by rw [decide_eq_false_iff_not];omega
 have u2:decide (t+li<F)=true:=by rw [decide_eq_true_iff];omega
 clear hli hb1 hbu ha k1 b1' s1 hrb h hc hno
 go_enter Tryz.func78,Tryz.ntmps78
 go_upto_region 1 with (fail)
 rw [← HRB.out]
 clear hw1
 have KRD:=zhz (show Blk w1.drew rb 53 #[.int .i64 L,.int .i64 W,.int .i64 B,.int .i64 x1,.int .i64 x2,.int .i64 x3,.int .i64 x4,.int .i64 x5,.bool sm] from KR.out)
 have KCD:=zhz (show CAt w1.drew b F S C D from KC.out)
 have st:=KRD.out.rd
 refine wp_region_held_drew (S:=fun wx=>∀ j,wx.cell? ⟨rb,j,none⟩=(#[.int .i64 L,.int .i64 W,.int .i64 B,.int .i64 x1,.int .i64 x2,.int .i64 x3,.int .i64 x4,.int .i64 x5,.bool sm]:Array Value)[j]?) (by kernel_rfl) st (fun hHeld=>?_)
 clear st
 refine wR 0 ?_
 refine wR 1 ?_
 refine wR 2 ?_
 refine wR 3 ?_
 refine wC 4 fun K hK=>?_
 go_simp
 refine (HU.out _).mono ?_;rintro e w2 ⟨rfl,b2⟩;have KR2:=zhz (KRD.out.keep b2);have KC2:=zhz (KCD.out.keep b2);have B2:=zhz b2;clear b2
 refine hK.out _ _ KR2.out.rd fun hHeld=>?_
 clear hK K
 try simp only [Act.put,zs1,zs2,zs3]
 refine wR 5 ?_
 refine wR 6 ?_
 refine wpAnyH_done (by kernel_rfl) ?_ _
 clear hHeld e1 e2
 have kc2:=KC2.out.rd
 go_wp2
 go_ret
 exact ⟨rfl,G.below_on B1.out (G.below_on (zaa (Below.refl _ _) 1) B2.out)⟩
end
end Go.Proofs.YtambcbbekoehiaaGreat.R9
namespace Go.Proofs.YtambcbbekoehiaaGreat.R9
open Go Go.ChangeShapes Go.WideShapes Go.ChangeAt Go.RowKit
section
variable {F S C D U W B L t:Int} (x1 x2 x3 x4 x5:Int) (sm:Bool)
theorem za0 (hc:Ce F S C D t) (hW:1≤W∧W≤1048576) (w:World) (y:Bool) (hy:y=decide (t<S+W)) :
  Calls Tryz.prog 79 #[cvV F S C D,rvV L W B x1 x2 x3 x4 x5 sm,.int .i64 t] w fun e w'=>e=.returned (.bool y)∧Below w.heap.size w w':=by
 obtain ⟨d,hd⟩:=zeq (t - S)
 have e1:t - S=d:=hd.symm
 have hS:=hc.S
 have ht:=hc.t
 have u1:decide (d<W)=y:=by rw [hy,hd];by_cases q:t<S+W;rw [decide_eq_true q,decide_eq_true (by omega)];rw [decide_eq_false q,decide_eq_false (by omega)]
 obtain ⟨w1,hw1,k1,b1,s1⟩:=box9 w (cvC F S C D) 81
 obtain ⟨w2,hw2,k2,b2,s2⟩:=box9 w1 (rvC L W B x1 x2 x3 x4 x5 sm) 53
 have K1:=zhz (Blk.keep k1 b2)
 have B2:=zhz (G.below_on b1 b2)
 have k1r:=K1.out.rd
 have k2r:=k2.rd
 clear hd hc hy k1 b1 s1 b2 s2
 go_enter Tryz.func79,Tryz.ntmps79
 go_wp2
 go_ret
 exact ⟨rfl,B2.out⟩
theorem room_any (h:Ru U W B L) (hc:Ce F S C D t) (w:World) :
  Calls Tryz.prog 36 #[cvV F S C D,rvV L W B x1 x2 x3 x4 x5 sm,.int .i64 t] w fun e w'=>e=.returned (.int .i64 (room F S C D U W B L t))∧Below w.heap.size w w':=by
 have hub:=h.ub
 have hB:=h.B
 have hL:=h.L
 obtain ⟨w1,hw1,k1,b1,s1⟩:=box9 w #[.int .i64 F,.int .i64 S,.int .i64 C,.int .i64 D] 81
 obtain ⟨w2,hw2,k2,b2,s2⟩:=box9 w1 #[.int .i64 L,.int .i64 W,.int .i64 B,.int .i64 x1,.int .i64 x2,.int .i64 x3,.int .i64 x4,.int .i64 x5,.bool sm] 53
 obtain ⟨w3,hw3,k3,b3,s3⟩:=box9 w2 #[.int .i64 F,.int .i64 S,.int .i64 C,.int .i64 D] 81
 obtain ⟨cb,hcb⟩:=zeq (w.heap.size)
 obtain ⟨rb,hrb⟩:=zeq (w1.heap.size)
 obtain ⟨db,hdb⟩:=zeq (w2.heap.size)
 have HBX:=zhz (And.intro hcb (And.intro hrb hdb))
 rw [← hcb] at k1
 rw [← hrb] at k2
 rw [← hdb] at k3
 have NE:=zhz (show cb≠db∧rb≠db∧w.heap.size≤db from ⟨by omega,by omega,by omega⟩)
 have KC:=zhz (Blk.keep (Blk.keep k1 b2) b3)
 have KR:=zhz (Blk.keep k2 b3)
 have KD:=zhz (show CAt w3 db F S C D from k3)
 have B3:=zhz (G.below_on (G.below_on b1 b2) b3)
 have HR:=zhz h
 have HC:=zhz hc
 have k1r:=(Blk.keep k1 b2).rd
 clear k1 b1 s1 b2 s2 k3 b3 s3 hcb hrb hdb h hc k2
 go_enter Tryz.func36,Tryz.ntmps36
 go_upto_region 2 with (fail)
 rw [← HBX.out.1,← HBX.out.2.1]
 clear hw1 hw2
 go_wp2
 rw [← HBX.out.2.2]
 clear hw3 k1r
 go_loopg [7] B.toNat (fun kk nv wq=>∃ k:Int,Hid (kk=(B - k).toNat)∧Hid (0≤k∧k≤base F U B t)∧nv=.int .i64 k∧Hid (CAt wq db (fz F U t k) S C D)∧Hid (Blk wq cb 81 #[.int .i64 F,.int .i64 S,.int .i64 C,.int .i64 D])∧Hid (Blk wq rb 53 #[.int .i64 L,.int .i64 W,.int .i64 B,.int .i64 x1,.int .i64 x2,.int .i64 x3,.int .i64 x4,.int .i64 x5,.bool sm])∧Hid (Fr (fun k=>k=db) w3 wq))
 case atStart=>exact ⟨0,zhz (by rw [Int.sub_zero]),zhz ⟨Int.le_refl _,zcu⟩,rfl,zhz (by rw [zdJ];exact KD.out),KC,KR,zhz (Fr.refl _ _)⟩
 case round =>
  obtain ⟨k,HK,HB,rfl,HD,HC2,HR2,HF⟩:=hrel
  have hbh:=zct (F:=F) (U:=U) (t:=t) (show 0≤B by omega)
  have hkb:=HB.out
  have hk0:0≤k∧k≤B:=by omega
  have kr:=HR2.out.rd
  have hfz:=zhz (zh1 (F:=F) (t:=t) (show 0≤U by omega) hk0.1)
  have CE:=zhz (show Ce (fz F U t k) S C D t from ⟨by
   have h1:=HC.out.F
   have h2:=HR.out.bu hk0.1 hk0.2
   have h3:=HC.out.t
   have h4:=hfz.out
   have h5:k=0∨1≤k:=by omega
   rcases h5 with e | e
   ·rw [e,zdJ];exact h1
   ·have h6:=(zaN (F:=F) (t:=t) (B:=B) hub.1 e).1 hkb.2
    have h7:=HR.out.bu (Int.le_trans (by omega) hB.1) (Int.le_refl B)
    unfold fz
    rw [if_neg (by omega)]
    omega,HC.out.S,HC.out.C,HC.out.D,HC.out.t⟩)
  by_cases hgo:k+1≤base F U B t
  ·have hi:=(zfn (F:=F) (t:=t) (B:=B) hub.1 hk0.1).1 hgo
   have u1:decide (k<B)=true:=by rw [decide_eq_true_iff];exact hi.1
   have HGO:=zhz hgo
   have CO:=zhz (zis x1 x2 x3 x4 x5 sm HR.out CE.out db wr HD.out hi.2)
   have HFN:=zhz (show max (fz F U t k) t+U=fz F U t (k+1) from by
    rw [hfz.out]
    unfold fz
    rw [if_neg (by omega),Int.add_mul,Int.one_mul]
    omega)
   clear hi hgo hbh hkb
   go_wp2_with (go_at_call 78;(refine CO.out.mono ?_;rintro e y1 ⟨rfl,a1,f1⟩;have A1:=zhz a1;have F1:=zhz f1;clear a1 f1))
   go_roundg (B - (k+1)).toNat
   case measure=>have:=HK.out;have:=hk0;have h3:=HGO.out;have h4:=zct (F:=F) (U:=U) (t:=t) (show 0≤B by omega);omega
   case rel=>exact ⟨k+1,zhz rfl,zhz ⟨by omega,HGO.out⟩,rfl,zhz (by rw [← HFN.out];exact A1.out),zhz (HC2.out.fr F1.out NE.out.1),zhz (HR2.out.fr F1.out NE.out.2.1),zhz (HF.out.trans F1.out)⟩
  ·have HEND:=zhz (show k=base F U B t by omega)
   by_cases hkB:k<B
   focus
     have u1:decide (k<B)=true:=by rw [decide_eq_true_iff];exact hkB
     have CO:=zhz (zmh x1 x2 x3 x4 x5 sm HR.out CE.out db wr HD.out (by
      have:=(zfn (F:=F) (t:=t) (B:=B) hub.1 hk0.1)
      by_cases q:max (fz F U t k) t≤t+(B - 1)*U
      ·exact absurd (this.2 ⟨hkB,q⟩) hgo
      ·omega))
     clear hgo hkB hbh hkb
     go_upto_region 5 with (go_at_call 78;(refine CO.out.mono ?_;rintro e y1 ⟨rfl,d1⟩;have D1:=zhz d1;clear d1))
     have KC5:=zhz (HC2.out.keep D1.out)
     have KR5:=zhz (HR2.out.keep D1.out)
     have F5:=zhz (HF.out.trans (Fr.of_below D1.out))
     clear CO u1 D1
   rotate_left
   focus
     have u1:decide (k<B)=false:=by rw [decide_eq_false_iff_not];exact hkB
     clear hgo hkB hbh hkb
     go_upto_region 5 with (fail)
     have KC5:=zhz HC2.out
     have KR5:=zhz HR2.out
     have F5:=zhz HF.out
     clear u1
   rotate_left
   all_goals
     clear kr
     have kc5:=KC5.out.rd
     have kr5:=KR5.out.rd
     have B5:=zhz (B3.out.trans (F5.out.below B3.out.size (fun g hg=>by rw [hg];exact NE.out.2.2)))
     have hCb:=HC.out.C
     have hDb:=HC.out.D
     by_cases hy:t<S+W
     ·have CY:=zhz (fun wx=>za0 (L:=L) (B:=B) x1 x2 x3 x4 x5 sm HC.out HR.out.W wx true (decide_eq_true hy).symm)
      have HRO:=zhz (show room F S C D U W B L t=min k (max 0 (L - (C+D))) from by rw [HEND.out];unfold room rest;rw [if_pos hy])
      clear hy
      go_upto_region 6 with (go_at_call 79;(refine (CY.out _).mono ?_;rintro e y2 ⟨rfl,d2⟩;have KC6:=zhz (KC5.out.keep d2);have KR6:=zhz (KR5.out.keep d2);have B6:=zhz (G.below_on B5.out d2);clear d2))
      clear kc5 kr5 CY
      have kc6:=KC6.out.rd
      have kr6:=KR6.out.rd
      obtain ⟨l1,hl1⟩:=zeq (L - C)
      have e1:L - C=l1:=hl1.symm
      have hl1b : -4611686018427387904≤l1∧l1≤1048576:=by omega
      obtain ⟨le,hle⟩:=zeq (l1 - D)
      have e2:l1 - D=le:=hle.symm
      have hleb : -5764607523034234880≤le∧le≤1048576:=by omega
      have HLE:=zhz (show L - (C+D)=le by omega)
      clear hl1 hle
      by_cases hneg:le<0
      ·have u1:decide (le<0)=true:=by rw [decide_eq_true_iff];exact hneg
       have HNG:=zhz hneg
       clear hneg
       by_cases hk:0<k
       ·have u2:decide (0<k)=true:=by rw [decide_eq_true_iff];exact hk
        have HFI:=zhz (show room F S C D U W B L t=0 from by rw [HRO.out,HLE.out];have:=HNG.out;omega)
        clear hk
        go_wp2
        go_ret
        exact ⟨by rw [HFI.out];rfl,B6.out⟩
       ·have u2:decide (0<k)=false:=by rw [decide_eq_false_iff_not];exact hk
        have HFI:=zhz (show room F S C D U W B L t=k from by rw [HRO.out,HLE.out];have:=HNG.out;omega)
        clear hk
        go_wp2
        go_ret
        exact ⟨by rw [HFI.out];rfl,B6.out⟩
      ·have u1:decide (le<0)=false:=by rw [decide_eq_false_iff_not];exact hneg
       have HNG:=zhz hneg
       clear hneg
       by_cases hk:le<k
       ·have u2:decide (le<k)=true:=by rw [decide_eq_true_iff];exact hk
        have HFI:=zhz (show room F S C D U W B L t=le from by rw [HRO.out,HLE.out];have:=HNG.out;omega)
        clear hk
        go_wp2
        go_ret
        exact ⟨by rw [HFI.out];rfl,B6.out⟩
       ·have u2:decide (le<k)=false:=by rw [decide_eq_false_iff_not];exact hk
        have HFI:=zhz (show room F S C D U W B L t=k from by rw [HRO.out,HLE.out];have:=HNG.out;omega)
        clear hk
        go_wp2
        go_ret
        exact ⟨by rw [HFI.out];rfl,B6.out⟩
     ·have CY:=zhz (fun wx=>za0 (L:=L) (B:=B) x1 x2 x3 x4 x5 sm HC.out HR.out.W wx false (decide_eq_false hy).symm)
      have HRO:=zhz (show room F S C D U W B L t=k from by rw [HEND.out];unfold room;rw [if_neg hy])
      clear hy
      go_wp2_with (go_at_call 79;(refine (CY.out _).mono ?_;rintro e y2 ⟨rfl,d2⟩;have B6:=zhz (G.below_on B5.out d2);clear d2))
      go_ret
      exact ⟨by rw [HRO.out];rfl,B6.out⟩
end
end Go.Proofs.YtambcbbekoehiaaGreat.R9
namespace Go.Proofs.YtambcbbekoehiaaGreat.R9
open Go Go.ChangeShapes Go.WideShapes Go.ChangeAt Go.RowKit
section
variable {F S C D U W B L t cost:Int} (x1 x2 x3 x4 x5:Int) (sm:Bool)
theorem take_no (h:Ru U W B L) (hc:Ce F S C D t) (h1:1≤cost) (hn:room F S C D U W B L t<cost) (b:Nat) (w:World) (ha:CAt w b F S C D) :
  Calls Tryz.prog 35 #[.pointer (some ⟨b,0,none⟩),rvV L W B x1 x2 x3 x4 x5 sm,.int .i64 t,.int .i64 cost] w fun e w'=>e=.returned (.bool false)∧Below w.heap.size w w':=by
 have u1:decide (cost<1)=false:=by rw [decide_eq_false_iff_not];omega
 have CR:=zhz (fun wx=>room_any x1 x2 x3 x4 x5 sm h hc wx)
 obtain ⟨ro,hro⟩:=zeq (room F S C D U W B L t)
 rw [← hro] at CR hn
 have u2:decide (ro<cost)=true:=by rw [decide_eq_true_iff];exact hn
 obtain ⟨w1,hw1,k1,b1',s1⟩:=box9 w #[.int .i64 L,.int .i64 W,.int .i64 B,.int .i64 x1,.int .i64 x2,.int .i64 x3,.int .i64 x4,.int .i64 x5,.bool sm] 53
 obtain ⟨rb,hrb⟩:=zeq (w.heap.size)
 have HRB:=zhz hrb
 rw [← hrb] at k1
 have KR:=zhz k1
 have KC:=zhz (ha.keep b1')
 have B1:=zhz b1'
 clear h1 hn k1 b1' s1 hro ha hrb h hc
 go_enter Tryz.func35,Tryz.ntmps35
 go_upto_region 1 with (fail)
 rw [← HRB.out]
 clear hw1
 have KRD:=zhz (show Blk w1.drew rb 53 #[.int .i64 L,.int .i64 W,.int .i64 B,.int .i64 x1,.int .i64 x2,.int .i64 x3,.int .i64 x4,.int .i64 x5,.bool sm] from KR.out)
 have KCD:=zhz (show CAt w1.drew b F S C D from KC.out)
 have st:(∀ j,w1.drew.cell? ⟨rb,j,none⟩=(#[.int .i64 L,.int .i64 W,.int .i64 B,.int .i64 x1,.int .i64 x2,.int .i64 x3,.int .i64 x4,.int .i64 x5,.bool sm]:Array Value)[j]?)∧∀ j,w1.drew.cell? ⟨b,j,none⟩=(#[.int .i64 F,.int .i64 S,.int .i64 C,.int .i64 D]:Array Value)[j]?:=⟨KRD.out.rd,KCD.out.rd⟩
 refine wp_region_held_drew (S:=fun wx=>(∀ j,wx.cell? ⟨rb,j,none⟩=(#[.int .i64 L,.int .i64 W,.int .i64 B,.int .i64 x1,.int .i64 x2,.int .i64 x3,.int .i64 x4,.int .i64 x5,.bool sm]:Array Value)[j]?)∧∀ j,wx.cell? ⟨b,j,none⟩=(#[.int .i64 F,.int .i64 S,.int .i64 C,.int .i64 D]:Array Value)[j]?) (by kernel_rfl) st (fun hHeld=>?_)
 clear st
 refine wR 0 ?_
 refine wR 1 ?_
 refine wR 2 ?_
 refine wR 3 ?_
 refine wR 4 ?_
 refine wR 5 ?_
 refine wR 6 ?_
 refine wR 7 ?_
 refine wR 8 ?_
 refine wC 9 fun K hK=>?_
 go_simp
 refine (CR.out _).mono ?_;rintro e w2 ⟨rfl,b2⟩;have B2:=zhz b2;clear b2
 refine hK.out _ _ ⟨(KRD.out.keep B2.out).rd,(KCD.out.keep B2.out).rd⟩ fun hHeld=>?_
 clear hK K
 try simp only [Act.put,zs1,zs2,zs3]
 refine wR 10 ?_
 refine wR 11 ?_
 refine wpAnyH_done (by kernel_rfl) ?_ _
 clear hHeld
 go_wp2
 go_ret
 exact ⟨rfl,G.below_on B1.out (G.below_on (zaa (Below.refl _ _) 1) B2.out)⟩
theorem take_yes (h:Ru U W B L) (hc:Ce F S C D t) (h1:1≤cost) (hy:cost≤room F S C D U W B L t) (b:Nat) (w:World) (ha:CAt w b F S C D) :
  Calls Tryz.prog 35 #[.pointer (some ⟨b,0,none⟩),rvV L W B x1 x2 x3 x4 x5 sm,.int .i64 t,.int .i64 cost] w fun e w'=>e=.returned (.bool true)∧CAt w' b (max F t+cost*U) S C (D+cost)∧Fr (fun k=>k=b) w w':=by
 have hub:=h.ub
 have hB:=h.B
 have hL:=h.L
 have hcb:cost≤base F U B t:=Int.le_trans hy zeB
 have hcB:cost≤B:=Int.le_trans hcb (zct (by omega))
 have hcr:cost≤1048576:=by omega
 have u1:decide (cost<1)=false:=by rw [decide_eq_false_iff_not];omega
 have CR:=zhz (fun wx=>room_any x1 x2 x3 x4 x5 sm h hc wx)
 obtain ⟨ro,hro⟩:=zeq (room F S C D U W B L t)
 rw [← hro] at CR hy
 have u2:decide (ro<cost)=false:=by rw [decide_eq_false_iff_not];omega
 obtain ⟨w1,hw1,k1,b1',s1⟩:=box9 w #[.int .i64 L,.int .i64 W,.int .i64 B,.int .i64 x1,.int .i64 x2,.int .i64 x3,.int .i64 x4,.int .i64 x5,.bool sm] 53
 obtain ⟨rb,hrb⟩:=zeq (w.heap.size)
 have HRB:=zhz hrb
 have NE:=zhz (show rb≠b from by have:=lt_of_block ha;omega)
 rw [← hrb] at k1
 have KR:=zhz k1
 have KC:=zhz (ha.keep b1')
 have B1:=zhz b1'
 have HR:=zhz h
 have HC:=zhz hc
 have HCB:=zhz hcb
 have hD:=hc.D
 clear hy k1 b1' s1 hro ha hrb h hc hcb
 go_enter Tryz.func35,Tryz.ntmps35
 go_upto_region 1 with (fail)
 rw [← HRB.out]
 clear hw1
 have KRD:=zhz (show Blk w1.drew rb 53 #[.int .i64 L,.int .i64 W,.int .i64 B,.int .i64 x1,.int .i64 x2,.int .i64 x3,.int .i64 x4,.int .i64 x5,.bool sm] from KR.out)
 have KCD:=zhz (show CAt w1.drew b F S C D from KC.out)
 have st:(∀ j,w1.drew.cell? ⟨rb,j,none⟩=(#[.int .i64 L,.int .i64 W,.int .i64 B,.int .i64 x1,.int .i64 x2,.int .i64 x3,.int .i64 x4,.int .i64 x5,.bool sm]:Array Value)[j]?)∧∀ j,w1.drew.cell? ⟨b,j,none⟩=(#[.int .i64 F,.int .i64 S,.int .i64 C,.int .i64 D]:Array Value)[j]?:=⟨KRD.out.rd,KCD.out.rd⟩
 refine wp_region_held_drew (S:=fun wx=>(∀ j,wx.cell? ⟨rb,j,none⟩=(#[.int .i64 L,.int .i64 W,.int .i64 B,.int .i64 x1,.int .i64 x2,.int .i64 x3,.int .i64 x4,.int .i64 x5,.bool sm]:Array Value)[j]?)∧∀ j,wx.cell? ⟨b,j,none⟩=(#[.int .i64 F,.int .i64 S,.int .i64 C,.int .i64 D]:Array Value)[j]?) (by kernel_rfl) st (fun hHeld=>?_)
 clear st
 refine wR 0 ?_
 refine wR 1 ?_
 refine wR 2 ?_
 refine wR 3 ?_
 refine wR 4 ?_
 refine wR 5 ?_
 refine wR 6 ?_
 refine wR 7 ?_
 refine wR 8 ?_
 refine wC 9 fun K hK=>?_
 go_simp
 refine (CR.out _).mono ?_;rintro e w2 ⟨rfl,b2⟩;have B2:=zhz b2;clear b2
 refine hK.out _ _ ⟨(KRD.out.keep B2.out).rd,(KCD.out.keep B2.out).rd⟩ fun hHeld=>?_
 clear hK K
 try simp only [Act.put,zs1,zs2,zs3]
 refine wR 10 ?_
 refine wR 11 ?_
 refine wpAnyH_done (by kernel_rfl) ?_ _
 have K2:=zhz (show CAt w2 b F S C D∧Blk w2 rb 53 #[.int .i64 L,.int .i64 W,.int .i64 B,.int .i64 x1,.int .i64 x2,.int .i64 x3,.int .i64 x4,.int .i64 x5,.bool sm]∧Fr (fun k=>k=b) w w2 from ⟨KCD.out.keep B2.out,KRD.out.keep B2.out,(((Fr.of_below B1.out).trans (Fr.refl _ _).drew).trans (Fr.of_below B2.out))⟩)
 clear hHeld u1 u2 CR
 go_wp2
 go_loopg [9] cost.toNat (fun kk iv wq=>∃ i:Int,Hid (kk=(cost - i).toNat)∧Hid (0≤i∧i≤cost)∧iv=.int .i64 i∧Hid (CAt wq b (fz F U t i) S C D)∧Hid (Blk wq rb 53 #[.int .i64 L,.int .i64 W,.int .i64 B,.int .i64 x1,.int .i64 x2,.int .i64 x3,.int .i64 x4,.int .i64 x5,.bool sm])∧Hid (Fr (fun k=>k=b) w wq))
 case atStart=>exact ⟨0,zhz (by rw [Int.sub_zero]),zhz ⟨Int.le_refl _,by omega⟩,rfl,zhz (by rw [zdJ];exact K2.out.1),zhz K2.out.2.1,zhz K2.out.2.2⟩
 case round =>
  obtain ⟨i,HK,HI,rfl,HD,HR2,HF⟩:=hrel
  have hib:=HI.out
  have kr:=HR2.out.rd
  by_cases hgo:i<cost
  ·have hi:=(zfn (F:=F) (t:=t) (B:=B) hub.1 hib.1).1 (Int.le_trans (by omega) HCB.out)
   have hfz:=zhz (zh1 (F:=F) (t:=t) (show 0≤U by omega) hib.1)
   have CE:=zhz (show Ce (fz F U t i) S C D t from ⟨by
    have h1:=HC.out.F
    have h3:=HC.out.t
    have h5:i=0∨1≤i:=by omega
    rcases h5 with e | e
    ·rw [e,zdJ];exact h1
    ·have h6:=(zaN (F:=F) (t:=t) (B:=B) hub.1 e).1 (Int.le_trans (by omega) HCB.out)
     have h7:=HR.out.bu (Int.le_trans (by omega) hB.1) (Int.le_refl B)
     have h8:=Int.mul_nonneg hib.1 (show 0≤U by omega)
     unfold fz
     rw [if_neg (by omega)]
     omega,HC.out.S,HC.out.C,HC.out.D,HC.out.t⟩)
   have u1:decide (i<cost)=true:=by rw [decide_eq_true_iff];exact hgo
   have HGO:=zhz hgo
   have CO:=zhz (zis x1 x2 x3 x4 x5 sm HR.out CE.out b wr HD.out hi.2)
   have HFN:=zhz (show max (fz F U t i) t+U=fz F U t (i+1) from by
    rw [hfz.out]
    unfold fz
    rw [if_neg (by omega),Int.add_mul,Int.one_mul]
    omega)
   clear hi hgo
   go_wp2_with (go_at_call 78;(refine CO.out.mono ?_;rintro e y1 ⟨rfl,a1,f1⟩;have A1:=zhz a1;have F1:=zhz f1;clear a1 f1))
   go_roundg (cost - (i+1)).toNat
   case measure=>have:=HK.out;have:=HGO.out;omega
   case rel=>exact ⟨i+1,zhz rfl,zhz ⟨by omega,HGO.out⟩,rfl,zhz (by rw [← HFN.out];exact A1.out),zhz (HR2.out.fr F1.out NE.out),zhz (HF.out.trans F1.out)⟩
  ·have u1:decide (i<cost)=false:=by rw [decide_eq_false_iff_not];exact hgo
   have hie:i=cost:=by omega
   have HFZ:=zhz (show fz F U t i=max F t+cost*U from by rw [hie];unfold fz;rw [if_neg (by omega)])
   obtain ⟨w5,hw5,k5,f5,z5⟩:=G.box_set HD.out 3 (.int .i64 (D+cost)) #[.int .i64 (fz F U t i),.int .i64 S,.int .i64 C,.int .i64 (D+cost)] rfl
   have H5:=zhz (show CAt w5 b (max F t+cost*U) S C (D+cost)∧Fr (fun k=>k=b) w w5 from ⟨by rw [← HFZ.out];exact k5,HF.out.trans f5⟩)
   have kd:=HD.out.rd
   have kw:=HD.out.wr
   clear hgo hie k5 f5 z5
   go_wp2
   go_ret
   exact ⟨rfl,H5.out.1,H5.out.2⟩
theorem wait_any (h:Ru U W B L) (hc:Ce F S C D t) (h1:1≤cost∧cost≤B) (w:World) :
  Calls Tryz.prog 34 #[cvV F S C D,rvV L W B x1 x2 x3 x4 x5 sm,.int .i64 t,.int .i64 cost] w fun e w'=>e=.returned (.int .i64 (wait F S C D U W B L t cost))∧Below w.heap.size w w':=by
 have hub:=h.ub
 have hB:=h.B
 have hL:=h.L
 have CR:=zhz (fun wx=>room_any x1 x2 x3 x4 x5 sm h hc wx)
 have CU:=zhz (fun wx=>zcs x1 x2 x3 x4 x5 sm h wx)
 have HZ:=zhz (fun hq=>zjl (F:=F) (S:=S) (C:=C) (D:=D) (W:=W) (B:=B) (L:=L) (t:=t) hub.1 h1.1 hq)
 obtain ⟨ro,hro⟩:=zeq (room F S C D U W B L t)
 rw [← hro] at CR HZ
 obtain ⟨w1,hw1,k1,b1,s1⟩:=box9 w #[.int .i64 F,.int .i64 S,.int .i64 C,.int .i64 D] 81
 obtain ⟨w2,hw2,k2,b2,s2⟩:=box9 w1 #[.int .i64 L,.int .i64 W,.int .i64 B,.int .i64 x1,.int .i64 x2,.int .i64 x3,.int .i64 x4,.int .i64 x5,.bool sm] 53
 obtain ⟨cb,hcb⟩:=zeq (w.heap.size)
 obtain ⟨rb,hrb⟩:=zeq (w1.heap.size)
 have HBX:=zhz (And.intro hcb hrb)
 rw [← hcb] at k1
 rw [← hrb] at k2
 have KC:=zhz (Blk.keep k1 b2)
 have KR:=zhz k2
 have B2:=zhz (G.below_on b1 b2)
 have kc:=KC.out.rd
 have kr:=KR.out.rd
 have hbu:=h.bu (k:=B - cost) (by omega) (by omega)
 have hF:=hc.F
 have hS:=hc.S
 have hCb:=hc.C
 have hDb:=hc.D
 have ht:=hc.t
 have hWb:=h.W
 clear k1 k2 b1 s1 b2 s2 hro hcb hrb h hc
 go_enter Tryz.func34,Tryz.ntmps34
 go_upto_region 1 with (fail)
 rw [← HBX.out.1,← HBX.out.2]
 clear hw1 hw2
 by_cases hle:cost≤ro
 ·have u1:decide (cost≤ro)=true:=by rw [decide_eq_true_iff];exact hle
  have HZ0:=zhz (HZ.out hle)
  clear hle
  go_wp2_with (go_at_call 36;(refine (CR.out _).mono ?_;rintro e y2 ⟨rfl,d2⟩;have B3:=zhz (G.below_on B2.out d2);clear d2))
  go_ret
  exact ⟨by rw [HZ0.out];rfl,B3.out⟩
 ·have u1:decide (cost≤ro)=false:=by rw [decide_eq_false_iff_not];exact hle
  clear hle
  go_upto_region 3 with (go_at_call 36;(refine (CR.out _).mono ?_;rintro e y2 ⟨rfl,d2⟩;have B3:=zhz (G.below_on B2.out d2);have D2:=zhz d2;clear d2))
  clear kc kr u1
  have KC3:=zhz (KC.out.keep D2.out)
  have KR3:=zhz (KR.out.keep D2.out)
  obtain ⟨d1,hd1⟩:=zeq (B - cost)
  obtain ⟨p1,hp1⟩:=zeq (d1*U)
  rw [← hd1,← hp1] at hbu
  obtain ⟨a0,ha0⟩:=zeq (F - p1)
  have e1:IntKind.i64.wrap (B - cost)=d1:=by rw [hd1];exact IntWalk.i64_in _ (by omega)
  have e2:IntKind.i64.wrap (d1*U)=p1:=by rw [← hp1];exact IntWalk.i64_in _ (by omega)
  have e3:IntKind.i64.wrap (F - p1)=a0:=by rw [ha0];exact IntWalk.i64_in _ (by omega)
  have ha0b : -1099512676352≤a0∧a0≤6917529027641081856:=by omega
  have HWT:=zhz (show wait F S C D U W B L t cost=(if max t a0<S+W∧rest C D L<cost then S+W else max t a0) - t from by unfold wait;rw [← hd1,← hp1,← ha0])
  clear hd1 hp1 ha0 hbu
  have KRD:=zhz (show Blk y2.drew rb 53 #[.int .i64 L,.int .i64 W,.int .i64 B,.int .i64 x1,.int .i64 x2,.int .i64 x3,.int .i64 x4,.int .i64 x5,.bool sm] from KR3.out)
  have KCD:=zhz (show CAt y2.drew cb F S C D from KC3.out)
  have st:(∀ j,y2.drew.cell? ⟨rb,j,none⟩=(#[.int .i64 L,.int .i64 W,.int .i64 B,.int .i64 x1,.int .i64 x2,.int .i64 x3,.int .i64 x4,.int .i64 x5,.bool sm]:Array Value)[j]?)∧∀ j,y2.drew.cell? ⟨cb,j,none⟩=(#[.int .i64 F,.int .i64 S,.int .i64 C,.int .i64 D]:Array Value)[j]?:=⟨KRD.out.rd,KCD.out.rd⟩
  refine wp_region_held_drew (S:=fun wx=>(∀ j,wx.cell? ⟨rb,j,none⟩=(#[.int .i64 L,.int .i64 W,.int .i64 B,.int .i64 x1,.int .i64 x2,.int .i64 x3,.int .i64 x4,.int .i64 x5,.bool sm]:Array Value)[j]?)∧∀ j,wx.cell? ⟨cb,j,none⟩=(#[.int .i64 F,.int .i64 S,.int .i64 C,.int .i64 D]:Array Value)[j]?) (by kernel_rfl) st (fun hHeld=>?_)
  clear st
  refine wR 0 ?_
  refine wR 1 ?_
  refine wR 2 ?_
  refine wR 3 ?_
  refine wR 4 ?_
  refine wR 5 ?_
  refine wR 6 ?_
  refine wC 7 fun K hK=>?_
  go_simp
  refine (CU.out _).mono ?_;rintro e y5 ⟨rfl,d5⟩;have KR5:=zhz (KRD.out.keep d5);have KC5:=zhz (KCD.out.keep d5);have B5:=zhz (G.below_on B3.out (G.below_on (zaa (Below.refl _ _) 1) d5));clear d5
  refine hK.out _ _ ⟨KR5.out.rd,KC5.out.rd⟩ fun hHeld=>?_
  clear hK K
  try simp only [Act.put,zs1,zs2,zs3]
  refine wR 8 ?_
  refine wR 9 ?_
  refine wR 10 ?_
  refine wpAnyH_done (by kernel_rfl) ?_ _
  clear hHeld e1 e2 e3
  have kc5:=KC5.out.rd
  have kr5:=KR5.out.rd
  obtain ⟨q1,hq1⟩:=zeq (C+D)
  obtain ⟨q2,hq2⟩:=zeq (q1+cost)
  have g1:C+D=q1:=hq1.symm
  have g2:q1+cost=q2:=hq2.symm
  have hq1b:0≤q1∧q1≤5764607523034234880:=by omega
  have hq2b:0≤q2∧q2≤5764607523035283456:=by omega
  have HQ:=zhz (show rest C D L<cost ↔ L<q2 from by unfold rest;omega)
  obtain ⟨sw,hsw⟩:=zeq (S+W)
  have g3:S+W=sw:=hsw.symm
  have HSW:=zhz hsw
  have hswb : -1048576≤sw∧sw≤4611686018428436480:=by omega
  clear hq1 hq2 hsw
  by_cases hlt:a0<t
  ·have HMX:=zhz (show max t a0=t by omega)
   have u1:decide (a0<t)=true:=by rw [decide_eq_true_iff];exact hlt
   have hAb : -1099512676352≤t∧t≤6917529027641081856:=by omega
   obtain ⟨y9,hy9⟩:=zeq (t - S)
   have g4:t - S=y9:=hy9.symm
   clear hlt
   by_cases hy:t<S+W
   ·have u2:decide (y9<W)=true:=by rw [decide_eq_true_iff];omega
    by_cases hl:L<q2
    ·have u3:decide (L<q2)=true:=by rw [decide_eq_true_iff];exact hl
     have HF:=zhz (show wait F S C D U W B L t cost=sw - t from by rw [HWT.out,HMX.out,if_pos ⟨hy,HQ.out.2 hl⟩,← HSW.out])
     clear hy9 hy hl
     go_wp2
     go_ret
     exact ⟨by rw [HF.out];rfl,B5.out⟩
    ·have u3:decide (L<q2)=false:=by rw [decide_eq_false_iff_not];exact hl
     have HF:=zhz (show wait F S C D U W B L t cost=t - t from by rw [HWT.out,HMX.out,if_neg (fun g=>hl (HQ.out.1 g.2))])
     clear hy9 hy hl
     go_wp2
     go_ret
     exact ⟨by rw [HF.out];first | rfl | simp,B5.out⟩
   ·have u2:decide (y9<W)=false:=by rw [decide_eq_false_iff_not];omega
    have HF:=zhz (show wait F S C D U W B L t cost=t - t from by rw [HWT.out,HMX.out,if_neg (fun g=>hy g.1)])
    clear hy9 hy
    go_wp2
    go_ret
    exact ⟨by rw [HF.out];first | rfl | simp,B5.out⟩
  ·have HMX:=zhz (show max t a0=a0 by omega)
   have u1:decide (a0<t)=false:=by rw [decide_eq_false_iff_not];exact hlt
   have hAb : -1099512676352≤a0∧a0≤6917529027641081856:=by omega
   obtain ⟨y9,hy9⟩:=zeq (a0 - S)
   have g4:a0 - S=y9:=hy9.symm
   clear hlt
   by_cases hy:a0<S+W
   ·have u2:decide (y9<W)=true:=by rw [decide_eq_true_iff];omega
    by_cases hl:L<q2
    ·have u3:decide (L<q2)=true:=by rw [decide_eq_true_iff];exact hl
     have HF:=zhz (show wait F S C D U W B L t cost=sw - t from by rw [HWT.out,HMX.out,if_pos ⟨hy,HQ.out.2 hl⟩,← HSW.out])
     clear hy9 hy hl
     go_wp2
     go_ret
     exact ⟨by rw [HF.out];rfl,B5.out⟩
    ·have u3:decide (L<q2)=false:=by rw [decide_eq_false_iff_not];exact hl
     have HF:=zhz (show wait F S C D U W B L t cost=a0 - t from by rw [HWT.out,HMX.out,if_neg (fun g=>hl (HQ.out.1 g.2))])
     clear hy9 hy hl
     go_wp2
     go_ret
     exact ⟨by rw [HF.out];first | rfl | simp,B5.out⟩
   ·have u2:decide (y9<W)=false:=by rw [decide_eq_false_iff_not];omega
    have HF:=zhz (show wait F S C D U W B L t cost=a0 - t from by rw [HWT.out,HMX.out,if_neg (fun g=>hy g.1)])
    clear hy9 hy
    go_wp2
    go_ret
    exact ⟨by rw [HF.out];first | rfl | simp,B5.out⟩
end
end Go.Proofs.YtambcbbekoehiaaGreat.R9
