import Derived.Test.YtannniobeanhlaaGreatHz
import Derived.WalkKit
import Derived.Deep.Draws
set_option linter.unusedSimpArgs false
set_option linter.unusedVariables false
set_option maxRecDepth 100000
set_option maxHeartbeats 9000000
namespace Go.Proofs.YtannniobeanhlaaGreat
open Go.RowKit
section
open Go
def setObj (w:World) (b:Nat) (o:Obj):World:={ w with heap:=w.heap.setIfInBounds b o }
theorem zaX (w:World) (b:Nat) (o:Obj):(setObj w b o).heap.size=w.heap.size:=by simp [setObj]
theorem zab {w:World} {b:Nat} (h:b<w.heap.size) (o:Obj):(setObj w b o).heap[b]?=some o:=by simp [setObj,h]
theorem zah (w:World) {b k:Nat} (h:k≠b) (o:Obj):(setObj w b o).heap[k]?=w.heap[k]?:=by
 simp [setObj,Array.getElem?_setIfInBounds,Ne.symm h]
theorem zbg (w:World) (b:Nat) (o o':Obj):setObj (setObj w b o) b o'=setObj w b o':=by simp [setObj]
theorem zcP {w:World} {b:Nat} {o:Obj} (h:w.heap[b]?=some o):setObj w b o=w:=by
 unfold setObj
 have:w.heap.setIfInBounds b o=w.heap:=by
  apply Array.ext_getElem?
  intro k
  rw [Array.getElem?_setIfInBounds]
  by_cases hk:b=k
  ·subst hk;rw [if_pos rfl,h];have:=lt_of_block h;simp [this]
  ·rw [if_neg hk]
 rw [this]
theorem zac {w:World} {b i:Nat} {c:Array Value} {t:TypeId} {f:Nat × Nat} (h:w.heap[b]?=some (.cells c t f)) (v:Value) :
  w.setCell ⟨b,i,none⟩ v=setObj w b (.cells (c.setIfInBounds i v) t f):=by
 unfold World.setCell setObj
 congr 1
 apply Array.ext_getElem?
 intro k
 rw [Array.getElem?_modify,Array.getElem?_setIfInBounds]
 have hlt:=lt_of_block h
 by_cases hk:b=k
 ·subst hk;rw [if_pos rfl,if_pos rfl,h];simp [hlt]
 ·simp [hk]
theorem zap {w:World} {b i:Nat} {c:Array Value} {t:TypeId} {f:Nat × Nat} (h:w.heap[b]?=some (.cells c t f)):w.cell? ⟨b,i,none⟩=c[i]?:=by simp [World.cell?,h]
theorem ze6 {w:World} {b i:Nat} {c:Array Value} {t:TypeId} (h:w.heap[b]?=some (.cells c t (0,0))):w.frozen? ⟨b,i,none⟩=false:=by simp [World.frozen?,h]
theorem zai {w:World} {b i:Nat} {c:Array Value} {t:TypeId} {f:Nat × Nat} (h:b<w.heap.size) (v:Value) :
  (setObj w b (.cells c t f)).setCell ⟨b,i,none⟩ v=setObj w b (.cells (c.setIfInBounds i v) t f):=by
 rw [zac (zab h _),zbg]
structure Fr (F:Nat→Prop) (w w':World):Prop where
 os:w'.os=w.os
 tape:w'.tape=w.tape
 output:w'.output=w.output
 size:w.heap.size≤w'.heap.size
 block:∀ k,k<w.heap.size→¬ F k→w'.heap[k]?=w.heap[k]?
theorem Fr.refl (F:Nat→Prop) (w:World):Fr F w w:=⟨rfl,rfl,rfl,Nat.le_refl _,fun _ _ _=>rfl⟩
theorem Fr.trans {F:Nat→Prop} {a b c:World} (h:Fr F a b) (g:Fr F b c):Fr F a c :=
 ⟨g.os.trans h.os,g.tape.trans h.tape,g.output.trans h.output,Nat.le_trans h.size g.size,fun k hk hF=>(g.block k (Nat.lt_of_lt_of_le hk h.size) hF).trans (h.block k hk hF)⟩
theorem Fr.drew {F:Nat→Prop} {a w:World} (h:Fr F a w):Fr F a w.drew:=⟨h.os,h.tape,h.output,h.size,h.block⟩
theorem Fr.alloc {F:Nat→Prop} {a w:World} (h:Fr F a w) (o:Obj):Fr F a (w.alloc o) :=
 h.trans ⟨rfl,rfl,rfl,by simp,fun k hk _=>Below.heap_alloc w o k hk⟩
theorem Fr.setObj {F:Nat→Prop} {a w:World} (h:Fr F a w) {b:Nat} (hb:F b) (o:Obj):Fr F a (setObj w b o) :=
 h.trans ⟨rfl,rfl,rfl,by rw [zaX];exact Nat.le_refl _,fun k _ hF=>zah w (fun (e:k=b)=>hF (by rw [e];exact hb)) o⟩
theorem Fr.below {F:Nat→Prop} {a w:World} (h:Fr F a w) {B:Nat} (hB:B≤a.heap.size) (hF:∀ k,F k→B≤k):Below B a w :=
 ⟨h.os,h.tape,h.output,h.size,fun k hk=>h.block k (by omega) (fun f=>by have:=hF k f;omega)⟩
theorem Fr.of_below {F:Nat→Prop} {a w:World} (h:Below a.heap.size a w):Fr F a w:=⟨h.os,h.tape,h.output,h.size,fun k hk _=>h.block k hk⟩
theorem Fr.mono {F G:Nat→Prop} {a w:World} (h:Fr F a w) (hFG:∀ k,F k→G k):Fr G a w:=⟨h.os,h.tape,h.output,h.size,fun k hk hG=>h.block k hk (fun f=>hG (hFG k f))⟩
theorem Fr.cell {F:Nat→Prop} {a w:World} (h:Fr F a w) {b o:Nat} (hb:b<a.heap.size) (hF:¬ F b):w.cell? ⟨b,o,none⟩=a.cell? ⟨b,o,none⟩:=by
 unfold World.cell?;rw [h.block b hb hF]
theorem Fr.drop_new {F:Nat→Prop} {a w:World} {s:Nat} (h:Fr (fun k=>F k∨k=s) a w) (hs:a.heap.size≤s):Fr F a w:=⟨h.os,h.tape,h.output,h.size,fun k hk hF=>h.block k hk (fun f=>by rcases f with f | f;exact hF f;omega)⟩
end
section
open Go
abbrev Blk (w:World) (b:Nat) (t:TypeId) (c:Array Value):Prop:=w.heap[b]?=some (.cells c t (0,0))
theorem zag {w:World} {b i:Nat} {c:Array Value} {t:TypeId} {f:Nat × Nat} (h:w.heap[b]?=some (.cells c t f)):w.cell? ⟨b,i,none⟩=c[i]?:=by simp [World.cell?,h]
theorem zcm {w:World} {b i:Nat} {c:Array Value} {t:TypeId} (h:w.heap[b]?=some (.cells c t (0,0))):w.frozen? ⟨b,i,none⟩=false:=by simp [World.frozen?,h]
section
variable {w w':World} {b:Nat} {t:TypeId} {c:Array Value}
theorem Blk.keep (h:Blk w b t c) (hb:Below w.heap.size w w'):Blk w' b t c:=(hb.block b (lt_of_block h)).trans h
theorem Blk.fr {F:Nat→Prop} (h:Blk w b t c) (hf:Fr F w w') (hF:¬ F b):Blk w' b t c:=(hf.block b (lt_of_block h) hF).trans h
theorem Blk.drew (h:Blk w b t c):Blk w.drew b t c:=h
theorem Blk.alloc (h:Blk w b t c) (o:Obj):Blk (w.alloc o) b t c:=(Below.heap_alloc w o b (lt_of_block h)).trans h
end
theorem Blk.rd {w:World} {b:Nat} {t:TypeId} {c:Array Value} (h:Blk w b t c):∀ i,w.cell? ⟨b,i,none⟩=c[i]?:=fun _=>zag h
theorem Blk.wr {w:World} {b:Nat} {t:TypeId} {c:Array Value} (h:Blk w b t c):∀ i,w.frozen? ⟨b,i,none⟩=false:=fun _=>zcm h
theorem zjf (w:World) {b i b' j:Nat} (v:Value) (h:b'≠b):(w.setCell ⟨b,i,none⟩ v).cell? ⟨b',j,none⟩=w.cell? ⟨b',j,none⟩ :=
 World.cell?_setCell_other w _ _ _ (fun e=>h (by injection e with e1;exact e1.symm))
theorem zad (w:World) (c:Array Value) (t:TypeId):∃ w1,w.alloc (.cells c t)=w1∧Blk w1 w.heap.size t c∧Below w.heap.size w w1∧w1.heap.size=w.heap.size+1 :=
 ⟨_,rfl,heap_alloc_new w _,(Below.refl _ _).alloc (Nat.le_refl _) _,by simp⟩
end
section
open Go
def lay:List Value→Nat→List Value→List Value
 | l,_,[]=>l
 | l,o,v :: r=>lay (l.set o v) (o+1) r
theorem zdL:∀ (vs a l:List Value) (o:Nat),lay (a++l) (a.length+o) vs=a++lay l o vs
 | [],_,_,_=>rfl
 | v :: r,a,l,o=>by
  rw [lay,lay,List.set_append_right _ _ (by omega),show a.length+o - a.length=o by omega,Nat.add_assoc,zdL r]
theorem zgd:∀ (vs a l:List Value),a.length=vs.length→lay (a++l) 0 vs=vs++l
 | [],a,l,h=>by rw [List.eq_nil_of_length_eq_zero h];rfl
 | v :: r,[],l,h=>by simp at h
 | v :: r,x :: a,l,h=>by
  have h':a.length=r.length:=by simpa using h
  have:lay ([v]++(a++l)) ([v].length+0) r=[v]++lay (a++l) 0 r:=zdL r [v] (a++l) 0
  rw [lay,List.cons_append,zs2]
  show lay (v :: (a++l)) 1 r=v :: r++l
  rw [show lay (v :: (a++l)) 1 r=[v]++lay (a++l) 0 r from this,zgd r a l h']
  rfl
section
variable {α:Type} {enc:α→List Value} {m:Nat}
def rws (enc:α→List Value) (L:List α):List Value:=L.flatMap enc
theorem zbe (a:α) (L:List α):rws enc (a :: L)=enc a++rws enc L:=by simp [rws]
theorem zfB (L M:List α):rws enc (L++M)=rws enc L++rws enc M:=by simp [rws]
theorem zaN (h:∀ a,(enc a).length=m):∀ L:List α,(rws enc L).length=L.length*m
 | []=>by simp [rws]
 | a :: L=>by rw [zbe,List.length_append,h,zaN h L,List.length_cons,Nat.succ_mul,Nat.add_comm]
theorem zaR (h:∀ a,(enc a).length=m):∀ (L:List α) (i j:Nat) (a:α),L[i]?=some a→j<m→(rws enc L)[i*m+j]?=(enc a)[j]?
 | [],i,j,a,hi,_=>by simp at hi
 | x :: L,0,j,a,hi,hj=>by
  have:x=a:=by simpa using hi
  subst this
  rw [zbe,Nat.zero_mul,Nat.zero_add,List.getElem?_append_left (by rw [h];exact hj)]
 | x :: L,i+1,j,a,hi,hj=>by
  have hi':L[i]?=some a:=by simpa using hi
  rw [zbe,List.getElem?_append_right (by rw [h,Nat.succ_mul];omega),h,show (i+1)*m+j - m=i*m+j by rw [Nat.succ_mul];omega]
  exact zaR h L i j a hi' hj
theorem zfC (h:∀ a,(enc a).length=m):∀ (L:List α) (i:Nat) (a:α),i<L.length→lay (rws enc L) (i*m) (enc a)=rws enc (L.set i a)
 | [],i,a,hi=>by simp at hi
 | x :: L,0,a,_=>by
  rw [zbe,Nat.zero_mul,zgd _ _ _ (by rw [h,h]),zs2,zbe]
 | x :: L,i+1,a,hi=>by
  rw [zbe,zs3,zbe,← zfC h L i a (by simpa using hi),show (i+1)*m=(enc x).length+i*m by rw [h,Nat.succ_mul,Nat.add_comm]]
  exact zdL _ _ _ _
end
theorem zas {α:Type} {enc:α→List Value} {m:Nat} (h:∀ a,(enc a).length=m) {w:World} {b:Nat} {t:TypeId} {L:List α} (hb:Blk w b t (rws enc L).toArray) {i:Nat} {a:α} (hi:L[i]?=some a) {j:Nat} (hj:j<m):w.cell? ⟨b,i*m+j,none⟩=(enc a)[j]?:=by
 rw [zag hb,List.getElem?_toArray,zaR h L i j a hi hj]
theorem zbw {α:Type} {enc:α→List Value} (h:∀ a,(enc a).length=3) {w:World} {b:Nat} {t:TypeId} {L:List α} (hb:Blk w b t (rws enc L).toArray) {i:Nat} (hi:i<L.length) (a:α) {v0 v1 v2:Value} (he:enc a=[v0,v1,v2]) :
  ((w.setCell ⟨b,i*3,none⟩ v0).setCell ⟨b,i*3+1,none⟩ v1).setCell ⟨b,i*3+2,none⟩ v2=setObj w b (.cells (rws enc (L.set i a)).toArray t (0,0)):=by
 have hl:=lt_of_block hb
 rw [zac hb,zai hl,zai hl,← zfC h L i a hi,he]
 simp only [zs1,lay]
theorem zhm {α:Type} {enc:α→List Value} (h:∀ a,(enc a).length=4) {w:World} {b:Nat} {t:TypeId} {L:List α} (hb:Blk w b t (rws enc L).toArray) {i:Nat} (hi:i<L.length) (a:α) {v0 v1 v2 v3:Value} (he:enc a=[v0,v1,v2,v3]) :
  (((w.setCell ⟨b,i*4,none⟩ v0).setCell ⟨b,i*4+1,none⟩ v1).setCell ⟨b,i*4+2,none⟩ v2).setCell ⟨b,i*4+3,none⟩ v3=setObj w b (.cells (rws enc (L.set i a)).toArray t (0,0)):=by
 have hl:=lt_of_block hb
 rw [zac hb,zai hl,zai hl,zai hl,← zfC h L i a hi,he]
 simp only [zs1,lay]
theorem zbf {α:Type} {enc:α→List Value} {m:Nat} (h:∀ a,(enc a).length=m) {w:World} {b:Nat} {t:TypeId} {L:List α} (hb:Blk w b t (rws enc L).toArray) {i j:Nat} {a a':α} (hi:L[i]?=some a) {v:Value} (he:enc a'=(enc a).set j v) (hj:j<m) :
  w.setCell ⟨b,i*m+j,none⟩ v=setObj w b (.cells (rws enc (L.set i a')).toArray t (0,0)):=by
 have hil:i<L.length:=(zgs.1 hi).1
 rw [zac hb,zs1]
 congr 2
 apply congrArg
 apply List.ext_getElem?
 intro k
 have hm:0<m:=by omega
 rw [List.getElem?_set]
 have hk:k=k / m*m+k % m:=by rw [Nat.mul_comm];exact (Nat.div_add_mod k m).symm
 have hkm:=Nat.mod_lt k hm
 by_cases hq:k / m<L.length
 ·obtain ⟨x,hx⟩:∃ x,L[k / m]?=some x:=⟨_,zge hq⟩
  have hset:(L.set i a')[k / m]?=some (if i=k / m then a' else x):=by
   rw [List.getElem?_set]
   by_cases e:i=k / m
   ·rw [if_pos e,if_pos e,if_pos hil]
   ·rw [if_neg e,if_neg e,hx]
  conv=>rhs;rw [hk]
  rw [zaR h _ _ _ _ hset hkm]
  by_cases e:i=k / m
  ·have hxa:x=a:=by rw [← e,hi] at hx;exact (Option.some.inj hx).symm
   rw [if_pos e,he,List.getElem?_set]
   have hget:(rws enc L)[k]?=(enc a)[k % m]?:=by
    conv=>lhs;rw [hk]
    rw [zaR h L _ _ x hx hkm,hxa]
   by_cases ej:j=k % m
   ·have:i*m+j=k:=by rw [e,ej];exact hk.symm
    rw [if_pos this,if_pos ej,if_pos (by rw [zaN h];have:=Nat.mul_le_mul_right m (show i+1≤L.length from hil);rw [Nat.succ_mul] at this;omega),if_pos (by rw [h];exact hj)]
   ·rw [if_neg ej,if_neg (fun e2=>ej (by have h1:(i*m+j) % m=j:=by rw [Nat.mul_comm,Nat.mul_add_mod,Nat.mod_eq_of_lt hj]
                                         rw [e2] at h1;exact h1.symm)),hget]
  ·rw [if_neg e]
   have hne:¬ i*m+j=k:=fun e2=>e (by
    have h1:(i*m+j) / m=i:=by rw [Nat.mul_comm,Nat.mul_add_div hm,Nat.div_eq_of_lt hj,Nat.add_zero]
    rw [e2] at h1;exact h1.symm)
   rw [if_neg hne]
   conv=>lhs;rw [hk]
   rw [zaR h L _ _ x hx hkm]
 ·have h1:(rws enc (L.set i a')).length≤k:=by
   rw [zaN h,List.length_set]
   have:=Nat.mul_le_mul_right m (show L.length≤k / m by omega)
   omega
  have h2:(rws enc L).length≤k:=by rw [zaN h] at h1 ⊢;rw [List.length_set] at h1;exact h1
  rw [List.getElem?_eq_none h1,List.getElem?_eq_none h2]
  split
  ·rename_i e2
   rw [if_neg (by omega)]
  ·rfl
theorem zgB {α:Type} {enc:α→List Value} {m:Nat} (h:∀ a,(enc a).length=m) (hm:0<m) (n:Nat) (a:α):madeCells (enc a).toArray (n*m)=(rws enc (List.replicate n a)).toArray:=by
 apply Array.ext'
 apply List.ext_getElem?
 intro j
 by_cases hj:j<n*m
 ·have h1:j / m<n:=by rw [Nat.div_lt_iff_lt_mul hm];exact hj
  have h2:j / m*m+j % m=j:=Nat.div_add_mod' j m
  have h3:j % m<m:=Nat.mod_lt _ hm
  have h4:=zaR h (List.replicate n a) (j / m) (j % m) a (by rw [List.getElem?_replicate,if_pos h1]) h3
  rw [h2] at h4
  rw [List.toList_toArray,h4]
  have h5:(madeCells (enc a).toArray (n*m))[j]?=(enc a)[j % m]?:=by
   have h6:j % m<(enc a).length:=by rw [h];exact h3
   simp only [madeCells,List.size_toArray,h]
   rw [Array.getElem?_map,Array.getElem?_range,if_pos hj]
   simp [h6]
  rw [← h5]
  simp
 ·have h1:(madeCells (enc a).toArray (n*m)).toList.length≤j:=by
   rw [Array.length_toList,size_madeCells];omega
  have h2:(rws enc (List.replicate n a)).toArray.toList.length≤j:=by
   rw [List.toList_toArray,zaN h,List.length_replicate];omega
  rw [List.getElem?_eq_none h1,List.getElem?_eq_none h2]
theorem zgh {α:Type} {enc:α→List Value} {m:Nat} (h:∀ a,(enc a).length=m) (hm:0<m) (a:α) {P:Program} {t e:TypeId} {i:TypeInfo} {z:Value} {B:Nat} (hc:z.cells=(enc a).toArray) (ht:P.underlying t=some (.slice e)) (hi:P.info? e=some i) (hz:i.zero=some z) (hs:i.size=m) (hb:i.bytes=B) (n:Nat) (hn:B*n≤281474976710656) (hn2:n≤281474976710656) (w:World) :
  (Instr.makeSlice t (.int .i64 (n:Int)) (.int .i64 (n:Int))).run P w=.ok (.slice (some ⟨w.heap.size,0,none⟩) n n) (w.alloc (.cells (rws enc (List.replicate n a)).toArray e)):=by
 have h2:=run_make w t e i z ht hi hz .i64 .i64 (n:Int) (n:Int) (by omega) (by omega) (by rw [hb];omega) (by omega)
 rw [h2,hs,hc]
 simp only [Int.toNat_natCast]
 rw [zgB h hm]
theorem zak {P:Program} {fn:Func} {p u1:Tmp} {ty:TypeId} (h:fn.results=#[.cell p ty,.tmp u1]) (tmps:Array Value) (w:World) (g:Nat) (t:TypeId) (cs:Array Value) (fr:Nat × Nat) (d:TypeDesc)
  (hp:tmps.getD p undef=.pointer (some ⟨g,0,none⟩)) (hg:w.heap[g]?=some (.cells cs t fr))
  (hu:P.underlying ty=some d) (hd:(match d with | .struct _ | .array _ _=>true | _=>false)=true) (hi:(P.info? ty).map (·.size)=some cs.size) :
  (results fn tmps).run P w=.ok (.tuple #[.agg cs,tmps.getD u1 undef]) w:=by
 have hp':tmps[p]?.getD undef=.pointer (some ⟨g,0,none⟩):=by simpa using hp
 simp [results,h,hp',asAddr,run_loadVar_row w g t ty cs fr d hg hu hd hi]
theorem zaj {w:World} {b:Nat} {t:TypeId} {a0 a1 a2 a3 v0 v1 v2 v3:Value} (h:Blk w b t #[a0,a1,a2,a3]) :
  ((((w.setCell ⟨b,0,none⟩ v0).setCell ⟨b,1,none⟩ v1).setCell ⟨b,2,none⟩ v2).setCell ⟨b,3,none⟩ v3)=setObj w b (.cells #[v0,v1,v2,v3] t (0,0)):=by
 have hl:=lt_of_block h
 rw [zac h]
 simp only [zai hl,zs1,zs2,zs3]
end
section
open Go
theorem box3 (X:World) (t:TypeId) (z0 z1 z2 a b c:Value):∃ w1 w2,X.alloc (.cells #[z0,z1,z2] t)=w1 ∧
  (∀ j,w1.cell? ⟨X.heap.size,j,none⟩=(#[z0,z1,z2]:Array Value)[j]?)∧(∀ j,w1.frozen? ⟨X.heap.size,j,none⟩=false) ∧
  ((w1.setCell ⟨X.heap.size,0,none⟩ a).setCell ⟨X.heap.size,1,none⟩ b).setCell ⟨X.heap.size,2,none⟩ c=w2 ∧
  Below X.heap.size X w2∧Blk w2 X.heap.size t #[a,b,c]:=by
 obtain ⟨w1,hw1,kc1,l1,s1⟩:=zad X #[z0,z1,z2] t
 have hl:=lt_of_block kc1
 have hset:((w1.setCell ⟨X.heap.size,0,none⟩ a).setCell ⟨X.heap.size,1,none⟩ b).setCell ⟨X.heap.size,2,none⟩ c=setObj w1 X.heap.size (.cells #[a,b,c] t (0,0)):=by
  rw [zac kc1]
  simp only [zai hl,zs1,zs2,zs3]
 exact ⟨w1,_,hw1,kc1.rd,kc1.wr,hset,l1.trans ((Fr.setObj (F:=fun k=>k=X.heap.size) (Fr.refl _ _) rfl _).below l1.size (fun k hk=>by omega)),zab hl _⟩
end
end Go.Proofs.YtannniobeanhlaaGreat
