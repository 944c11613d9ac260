import Derived.Lib.SmallJoins
import Derived.Test.YtambcbbekoehiaaGreatZRowF
import Derived.Test.YtambcbbekoehiaaGreatZObj
set_option linter.unusedSimpArgs false
set_option linter.unusedVariables false
set_option maxRecDepth 100000
set_option maxHeartbeats 9000000
namespace Go.Proofs.YtambcbbekoehiaaGreat
open Go.ChangeShapes Go.WideShapes Go.ChangeAt Go.RowKit
section
open Go.Deep Go.Joins
section
variable {H:Type} {enc:TypeId × Value→H} {P:Program} {w:World} {base:Nat} {sp:Nat→Bool} {held:Bool}
end
end
section
open Go.Deep Go.Joins
structure RdL {α:Type} (w:World) (A:Option Addr) (n c m:Nat) (Enc:α→Nat→Value) (L:List α):Prop where
 len:L.length=n
 cap:n≤c
 max:c≤maxLen
 at_:0<n→∃ b off,A=some ⟨b,off,none⟩∧b<w.heap.size∧∀ i a,L[i]?=some a→∀ j,j<m→w.cell? ⟨b,off+i*m+j,none⟩=some (Enc a j)
theorem RdL.below {α:Type} {w w':World} {A:Option Addr} {n c m:Nat} {Enc:α→Nat→Value} {L:List α} (h:RdL w A n c m Enc L) (hb:Below w.heap.size w w'):RdL w' A n c m Enc L :=
 ⟨h.len,h.cap,h.max,fun hn=>by
  obtain ⟨b,off,e,hlt,hc⟩:=h.at_ hn
  exact ⟨b,off,e,Nat.lt_of_lt_of_le hlt hb.size,fun i a hi j hj=>by rw [hb.cell (p:=⟨b,off+i*m+j,none⟩) hlt];exact hc i a hi j hj⟩⟩
section
variable {H:Type} {enc:TypeId × Value→H} {P:Program}
theorem zlN {W:World} {base:Nat} {t:TypeId} {v:Value} (ht:P.underlying t=some .string) (h:∃ N y,DataW.trod enc P W base (fun _=>true) true N t [v]=some y):∃ s:ByteArray,v=.string s∧s.size≤maxLen:=by
 obtain ⟨N,y,h⟩:=h
 obtain ⟨s,h1,_,h3⟩:=DataW.trod_string ht h
 simp only [List.cons.injEq,and_true] at h1
 exact ⟨s,h1,h3⟩
theorem zkk {W:World} {base:Nat} {t:TypeId} {v:Value} (ht:P.underlying t=some .bool) (h:∃ N y,DataW.trod enc P W base (fun _=>true) true N t [v]=some y):∃ b:Bool,v=.bool b:=by
 obtain ⟨N,y,h⟩:=h
 obtain ⟨s,h1,_⟩:=DataW.trod_bool ht h
 simp only [List.cons.injEq,and_true] at h1
 exact ⟨s,h1⟩
theorem zj8 {α:Type} (Enc:α→Nat→Value) (Ok:α→Prop) {W:World} {base:Nat} {r:Reach} {b0:Nat} {t e:TypeId} {fs:Array Field} {v:Value} {d:DataW H} {p:List MemPlace} (ht:P.underlying t=some (.slice e)) (he:P.underlying e=some (.struct fs))
  (hone:oneCellFields P fs=true) (hC:P.cellsOf e=fs.size) (hpos:0<fs.size)
  (hfield:∀ V:Nat→Value,(∀ (j:Nat) (f:Field),fs[j]?=some f→∃ N y,DataW.trod enc P W base (fun _=>true) true N f.type [V j]=some y)→∃ a:α,Ok a∧∀ j,j<fs.size→V j=Enc a j)
  (hv:Value.okWide P W r b0 t v) (h:DataW.Trod enc P W base (fun _=>true) true t v d p) :
  ∃ A n c L,v=.slice A n c∧RdL W A n c fs.size Enc L∧∀ a ∈ L,Ok a:=by
 obtain ⟨A,n,c,V,rfl,R,hV⟩:=zj7 ht he hone hC hpos hv h
 have each:∀ i:Fin n,∃ a:α,Ok a∧∀ j,j<fs.size→V i j=Enc a j:=fun i=>hfield (V i) (hV i i.2)
 obtain ⟨g,hg⟩:=Classical.axiomOfChoice each
 refine ⟨A,n,c,List.ofFn g,rfl,⟨List.length_ofFn,R.cap,R.max,fun hn=>?_⟩,fun a ha=>?_⟩
 ·obtain ⟨b,off,rfl,hlt,hc⟩:=R.at_ hn
  refine ⟨b,off,rfl,hlt,fun i a hi j hj=>?_⟩
  rw [List.getElem?_ofFn] at hi
  split at hi
  ·rename_i hin
   injection hi with hi
   rw [hc i j hin hj,(hg ⟨i,hin⟩).2 j hj,hi]
  ·cases hi
 ·obtain ⟨i,hi⟩:=List.mem_ofFn.1 ha
  rw [← hi];exact (hg i).1
/-! #### a whole number and a string -/
/-! #### a string and a whole number -/
/-! #### a whole number,a string and a whole number;two whole numbers and a string -/
/-! #### strings -/
/-! #### arrays of three,and two of them -/
end
end
section
open Go.Deep Go.Joins
section
variable {H:Type} {enc:TypeId × Value→H} {P:Program} {w:World} {base:Nat} {sp:Nat→Bool} {held:Bool}
theorem zfo {r:Reach} {b0:Nat} {t:TypeId} {fs:Array Field} {v:Value} {d:DataW H} {p:List MemPlace} (hs:P.underlying t=some (.struct fs)) (hone:oneCellFields P fs=true) (hC:P.cellsOf t=fs.size)
  (hv:Value.okWide P w r b0 t v) (h:DataW.Trod enc P w base sp held t v d p) :
  ∃ (cs:Array Value) (n:Nat),v=.agg cs∧cs.size=fs.size∧∀ (j:Nat) (f:Field),fs[j]?=some f→∃ (u:Value) (y:DataW H × List MemPlace),cs[j]?=some u∧DataW.trod enc P w base sp held n f.type [u]=some y:=by
 obtain ⟨cs,rfl,hsz⟩:=okWide_struct hs hv
 obtain ⟨fuel,hf⟩:=h
 obtain ⟨xs,n,_,_,_,hlen,hg⟩:=DataW.trod_struct hs hf
 refine ⟨cs,n,rfl,hsz.trans hC,fun j f hj=>?_⟩
 obtain ⟨o,k⟩:=hone_of hone j f hj
 have hjl:j<fs.size:=(Array.getElem?_eq_some_iff.1 hj).1
 have hjc:j<cs.size:=by rw [hsz,hC];exact hjl
 have h1:=hg j f hj
 rw [o,k] at h1
 have e:((Value.agg cs).cells.toList.drop j).take 1=[cs[j]]:=by
  have:(Value.agg cs).cells.toList=cs.toList:=rfl
  rw [this,List.drop_eq_getElem_cons (by simpa using hjc)]
  simp
 rw [e] at h1
 exact ⟨cs[j],_,Array.getElem?_eq_getElem hjc,h1.trans (List.getElem?_eq_getElem (by omega))⟩
theorem za2 {k:IntKind} {t:TypeId} {n:Nat} {v:Value} {y:DataW H × List MemPlace} (ht:P.underlying t=some (.int k)) (h:DataW.trod enc P w base sp held n t [v]=some y):∃ a:Int,v=.int k a∧(Lit.int k a).wf=true:=by
 obtain ⟨a,h1,_,h3⟩:=DataW.trod_int ht h
 simp only [List.cons.injEq,and_true] at h1
 exact ⟨a,h1,h3⟩
end
end
section
open Go.Deep Go.Joins
section
variable {H:Type} {enc:TypeId × Value→H} {P:Program} {w:World} {base:Nat} {sp:Nat→Bool} {held:Bool}
def i64In (x:Int):Prop := -9223372036854775808≤x∧x≤9223372036854775807
def RuleOK (L W B Sl Ce Ro Wi Tr:Int):Prop:=i64In L∧i64In W∧i64In B∧i64In Sl∧i64In Ce∧i64In Ro∧i64In Wi∧i64In Tr
theorem size9 {cs:Array Value} (h:cs.size=9) {u0 u1 u2 u3 u4 u5 u6 u7 u8:Value} (h0:cs[0]?=some u0) (h1:cs[1]?=some u1) (h2:cs[2]?=some u2) (h3:cs[3]?=some u3) (h4:cs[4]?=some u4) (h5:cs[5]?=some u5) (h6:cs[6]?=some u6) (h7:cs[7]?=some u7) (h8:cs[8]?=some u8):cs=#[u0,u1,u2,u3,u4,u5,u6,u7,u8]:=by
 apply Array.ext_getElem?
 intro i
 match i with
 | 0=>exact h0
 | 1=>exact h1
 | 2=>exact h2
 | 3=>exact h3
 | 4=>exact h4
 | 5=>exact h5
 | 6=>exact h6
 | 7=>exact h7
 | 8=>exact h8
 | i+9=>rw [Array.getElem?_eq_none (by omega),Array.getElem?_eq_none (by simp)]
theorem open_rule {r:Reach} {b0:Nat} {t:TypeId} {f0 f1 f2 f3 f4 f5 f6 f7 f8:Field} {v:Value} {d:DataW H} {p:List MemPlace} (hs:P.underlying t=some (.struct #[f0,f1,f2,f3,f4,f5,f6,f7,f8])) (hone:oneCellFields P #[f0,f1,f2,f3,f4,f5,f6,f7,f8]=true) (hC:P.cellsOf t=9)
  (k0:P.underlying f0.type=some (.int .i64)) (k1:P.underlying f1.type=some (.int .i64)) (k2:P.underlying f2.type=some (.int .i64)) (k3:P.underlying f3.type=some (.int .i64)) (k4:P.underlying f4.type=some (.int .i64)) (k5:P.underlying f5.type=some (.int .i64)) (k6:P.underlying f6.type=some (.int .i64)) (k7:P.underlying f7.type=some (.int .i64))
  (k8:P.underlying f8.type=some .bool)
  (hv:Value.okWide P w r b0 t v) (h:DataW.Trod enc P w base sp held t v d p) :
  ∃ (L W B Sl Ce Ro Wi Tr:Int) (sm:Bool),v=.agg #[.int .i64 L,.int .i64 W,.int .i64 B,.int .i64 Sl,.int .i64 Ce,.int .i64 Ro,.int .i64 Wi,.int .i64 Tr,.bool sm]∧RuleOK L W B Sl Ce Ro Wi Tr:=by
 obtain ⟨cs,n,rfl,hsz,hf⟩:=zfo hs hone hC hv h
 obtain ⟨u0,y0,c0,t0⟩:=hf 0 f0 rfl
 obtain ⟨u1,y1,c1,t1⟩:=hf 1 f1 rfl
 obtain ⟨u2,y2,c2,t2⟩:=hf 2 f2 rfl
 obtain ⟨u3,y3,c3,t3⟩:=hf 3 f3 rfl
 obtain ⟨u4,y4,c4,t4⟩:=hf 4 f4 rfl
 obtain ⟨u5,y5,c5,t5⟩:=hf 5 f5 rfl
 obtain ⟨u6,y6,c6,t6⟩:=hf 6 f6 rfl
 obtain ⟨u7,y7,c7,t7⟩:=hf 7 f7 rfl
 obtain ⟨u8,y8,c8,t8⟩:=hf 8 f8 rfl
 obtain ⟨L,rfl,g0⟩:=za2 k0 t0
 obtain ⟨W,rfl,g1⟩:=za2 k1 t1
 obtain ⟨B,rfl,g2⟩:=za2 k2 t2
 obtain ⟨Sl,rfl,g3⟩:=za2 k3 t3
 obtain ⟨Ce,rfl,g4⟩:=za2 k4 t4
 obtain ⟨Ro,rfl,g5⟩:=za2 k5 t5
 obtain ⟨Wi,rfl,g6⟩:=za2 k6 t6
 obtain ⟨Tr,rfl,g7⟩:=za2 k7 t7
 obtain ⟨sm,e8,_⟩:=DataW.trod_bool k8 t8
 simp only [List.cons.injEq,and_true] at e8
 subst e8
 exact ⟨L,W,B,Sl,Ce,Ro,Wi,Tr,sm,by rw [size9 hsz c0 c1 c2 c3 c4 c5 c6 c7 c8],bounds_i64 g0,bounds_i64 g1,bounds_i64 g2,bounds_i64 g3,bounds_i64 g4,bounds_i64 g5,bounds_i64 g6,bounds_i64 g7⟩
end
end
section
open Go.Deep Go.Joins
section
variable {H:Type} {enc:TypeId × Value→H} {P:Program} {W:World} {base:Nat}
end
end
end Go.Proofs.YtambcbbekoehiaaGreat
