import Derived.Lib.SmallJoins
import Derived.Test.YtambcbbekoehiabGreatZRowF
import Derived.Test.YtambcbbekoehiabGreatZObj
set_option linter.unusedSimpArgs false
set_option linter.unusedVariables false
set_option maxRecDepth 100000
set_option maxHeartbeats 9000000
namespace Go.Proofs.YtambcbbekoehiabGreat
open Go.ChangeShapes Go.WideShapes Go.ChangeAt Go.RowKit
section
open Go.Deep Go.Joins
section
variable {H:Type} {enc:TypeId × Value→H} {P:Program} {w:World} {base:Nat} {sp:Nat→Bool} {held:Bool}
end
end
section
open Go.Deep Go.Joins
structure RdL {α:Type} (w:World) (A:Option Addr) (n c m:Nat) (Enc:α→Nat→Value) (L:List α):Prop where
 len:L.length=n
 cap:n≤c
 max:c≤maxLen
 at_:0<n→∃ b off,A=some ⟨b,off,none⟩∧b<w.heap.size∧∀ i a,L[i]?=some a→∀ j,j<m→w.cell? ⟨b,off+i*m+j,none⟩=some (Enc a j)
theorem RdL.below {α:Type} {w w':World} {A:Option Addr} {n c m:Nat} {Enc:α→Nat→Value} {L:List α} (h:RdL w A n c m Enc L) (hb:Below w.heap.size w w'):RdL w' A n c m Enc L :=
 ⟨h.len,h.cap,h.max,fun hn=>by
  obtain ⟨b,off,e,hlt,hc⟩:=h.at_ hn
  exact ⟨b,off,e,Nat.lt_of_lt_of_le hlt hb.size,fun i a hi j hj=>by rw [hb.cell (p:=⟨b,off+i*m+j,none⟩) hlt];exact hc i a hi j hj⟩⟩
section
variable {H:Type} {enc:TypeId × Value→H} {P:Program}
theorem zlu {W:World} {base:Nat} {t:TypeId} {v:Value} (ht:P.underlying t=some .string) (h:∃ N y,DataW.trod enc P W base (fun _=>true) true N t [v]=some y):∃ s:ByteArray,v=.string s∧s.size≤maxLen:=by
 obtain ⟨N,y,h⟩:=h
 obtain ⟨s,h1,_,h3⟩:=DataW.trod_string ht h
 simp only [List.cons.injEq,and_true] at h1
 exact ⟨s,h1,h3⟩
theorem zgj {W:World} {base:Nat} {t:TypeId} {v:Value} (ht:P.underlying t=some .bool) (h:∃ N y,DataW.trod enc P W base (fun _=>true) true N t [v]=some y):∃ b:Bool,v=.bool b:=by
 obtain ⟨N,y,h⟩:=h
 obtain ⟨s,h1,_⟩:=DataW.trod_bool ht h
 simp only [List.cons.injEq,and_true] at h1
 exact ⟨s,h1⟩
theorem zjS {α:Type} (Enc:α→Nat→Value) (Ok:α→Prop) {W:World} {base:Nat} {r:Reach} {b0:Nat} {t e:TypeId} {fs:Array Field} {v:Value} {d:DataW H} {p:List MemPlace} (ht:P.underlying t=some (.slice e)) (he:P.underlying e=some (.struct fs))
  (hone:oneCellFields P fs=true) (hC:P.cellsOf e=fs.size) (hpos:0<fs.size)
  (hfield:∀ V:Nat→Value,(∀ (j:Nat) (f:Field),fs[j]?=some f→∃ N y,DataW.trod enc P W base (fun _=>true) true N f.type [V j]=some y)→∃ a:α,Ok a∧∀ j,j<fs.size→V j=Enc a j)
  (hv:Value.okWide P W r b0 t v) (h:DataW.Trod enc P W base (fun _=>true) true t v d p) :
  ∃ A n c L,v=.slice A n c∧RdL W A n c fs.size Enc L∧∀ a ∈ L,Ok a:=by
 obtain ⟨A,n,c,V,rfl,R,hV⟩:=zjR ht he hone hC hpos hv h
 have each:∀ i:Fin n,∃ a:α,Ok a∧∀ j,j<fs.size→V i j=Enc a j:=fun i=>hfield (V i) (hV i i.2)
 obtain ⟨g,hg⟩:=Classical.axiomOfChoice each
 refine ⟨A,n,c,List.ofFn g,rfl,⟨List.length_ofFn,R.cap,R.max,fun hn=>?_⟩,fun a ha=>?_⟩
 ·obtain ⟨b,off,rfl,hlt,hc⟩:=R.at_ hn
  refine ⟨b,off,rfl,hlt,fun i a hi j hj=>?_⟩
  rw [List.getElem?_ofFn] at hi
  split at hi
  ·rename_i hin
   injection hi with hi
   rw [hc i j hin hj,(hg ⟨i,hin⟩).2 j hj,hi]
  ·cases hi
 ·obtain ⟨i,hi⟩:=List.mem_ofFn.1 ha
  rw [← hi];exact (hg i).1
/-! #### a whole number and a string -/
/-! #### a string and a whole number -/
/-! #### a whole number,a string and a whole number;two whole numbers and a string -/
/-! #### strings -/
/-! #### arrays of three,and two of them -/
end
end
section
open Go.Deep Go.Joins
section
variable {H:Type} {enc:TypeId × Value→H} {P:Program} {w:World} {base:Nat} {sp:Nat→Bool} {held:Bool}
theorem za2 {k:IntKind} {t:TypeId} {n:Nat} {v:Value} {y:DataW H × List MemPlace} (ht:P.underlying t=some (.int k)) (h:DataW.trod enc P w base sp held n t [v]=some y):∃ a:Int,v=.int k a∧(Lit.int k a).wf=true:=by
 obtain ⟨a,h1,_,h3⟩:=DataW.trod_int ht h
 simp only [List.cons.injEq,and_true] at h1
 exact ⟨a,h1,h3⟩
end
end
section
open Go.Deep Go.Joins
section
variable {H:Type} {enc:TypeId × Value→H} {P:Program} {w:World} {base:Nat} {sp:Nat→Bool} {held:Bool}
def i64In (x:Int):Prop := -9223372036854775808≤x∧x≤9223372036854775807
def RuleOK (L W B Sl Ce Ro Wi Tr:Int):Prop:=i64In L∧i64In W∧i64In B∧i64In Sl∧i64In Ce∧i64In Ro∧i64In Wi∧i64In Tr
end
end
section
open Go.Deep Go.Joins
section
variable {H:Type} {enc:TypeId × Value→H} {P:Program} {W:World} {base:Nat}
end
end
end Go.Proofs.YtambcbbekoehiabGreat
