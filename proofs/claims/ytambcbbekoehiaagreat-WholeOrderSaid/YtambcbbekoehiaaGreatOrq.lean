import Derived.Test.YtambcbbekoehiaaGreatZCfH
import Derived.Test.YtambcbbekoehiaaGreatCnH
set_option linter.unusedSimpArgs false
set_option linter.unusedVariables false
set_option maxRecDepth 100000
set_option maxHeartbeats 9000000
namespace Go.Proofs.YtambcbbekoehiaaGreat
open Go.ChangeShapes Go.WideShapes Go.ChangeAt Go.RowKit
section
open Go.Deep
def okR (q:Req):Prop:=(0≤q.cost∧q.cost<4294967296)∧(strOfNums q.key).size≤maxLen∧numsC (strOfNums q.key)=q.key
theorem okR.mk {q:Req} (h:okR q):mkR q.op q.rule q.cost (strOfNums q.key) q.k=q:=by
 obtain ⟨o,r,c,key,k⟩:=q
 show (⟨o,r,c,numsC (strOfNums key),k⟩:Req)=_
 rw [h.2.2]
theorem okR.byt {q:Req} (h:okR q):Go.Proofs.YtambcbbekoehiaaGreat.byt q.key:=by
 rw [← h.2.2]
 exact fun z hz=>zb6 _ z hz
structure RdRq (w:World) (A:Option Addr) (n c:Nat) (l:List Req):Prop where
 len:l.length=n
 cap:n≤c
 max:c≤maxLen
 at_:0<n→∃ b off,A=some ⟨b,off,none⟩∧b<w.heap.size∧∀ i q,l[i]?=some q→w.cell? ⟨b,off+i*5,none⟩=some (.int .i64 q.op)∧w.cell? ⟨b,off+i*5+1,none⟩=some (.int .i64 q.rule)∧w.cell? ⟨b,off+i*5+2,none⟩=some (.int .u32 q.cost)∧w.cell? ⟨b,off+i*5+3,none⟩=some (.string (strOfNums q.key))∧w.cell? ⟨b,off+i*5+4,none⟩=some (.int .i64 q.k)
theorem RdRq.below {w w':World} {A:Option Addr} {n c:Nat} {l:List Req} (h:RdRq w A n c l) (hb:Below w.heap.size w w'):RdRq w' A n c l :=
 ⟨h.len,h.cap,h.max,fun hn=>by
  obtain ⟨b,off,e,hlt,hc⟩:=h.at_ hn
  exact ⟨b,off,e,Nat.lt_of_lt_of_le hlt hb.size,fun i q hi=>by rw [hb.cell (p:=⟨b,off+i*5,none⟩) hlt,hb.cell (p:=⟨b,off+i*5+1,none⟩) hlt,hb.cell (p:=⟨b,off+i*5+2,none⟩) hlt,hb.cell (p:=⟨b,off+i*5+3,none⟩) hlt,hb.cell (p:=⟨b,off+i*5+4,none⟩) hlt];exact hc i q hi⟩⟩
section
variable {H:Type} {enc:TypeId × Value→H} {P:Program}
theorem zkv {W:World} {base:Nat} {t:TypeId} {v:Value} (ht:P.underlying t=some (.int .u32)) (h:∃ N y,DataW.trod enc P W base (fun _=>true) true N t [v]=some y) :
  ∃ a:Int,v=.int .u32 a∧(0≤a∧a<4294967296):=by
 obtain ⟨N,y,h⟩:=h
 obtain ⟨a,h1,_,h3⟩:=DataW.trod_int ht h
 simp only [List.cons.injEq,and_true] at h1
 have:=bounds_u32 h3
 exact ⟨a,h1,by omega⟩
theorem zku {W:World} {base:Nat} {t:TypeId} {v:Value} (ht:P.underlying t=some .string) (h:∃ N y,DataW.trod enc P W base (fun _=>true) true N t [v]=some y):∃ s:ByteArray,v=.string s∧s.size≤maxLen:=by
 obtain ⟨N,y,h⟩:=h
 obtain ⟨s,h1,_,h3⟩:=DataW.trod_string ht h
 simp only [List.cons.injEq,and_true] at h1
 exact ⟨s,h1,h3⟩
theorem open_rdRq {W:World} {base:Nat} {r:Reach} {b0:Nat} {t e:TypeId} {f0 f1 f2 f3 f4:Field} {v:Value} {d:DataW H} {p:List MemPlace} (ht:P.underlying t=some (.slice e)) (he:P.underlying e=some (.struct #[f0,f1,f2,f3,f4]))
  (hone:oneCellFields P #[f0,f1,f2,f3,f4]=true) (hC:P.cellsOf e=5) (k0:P.underlying f0.type=some (.int .i64)) (k1:P.underlying f1.type=some (.int .i64)) (k2:P.underlying f2.type=some (.int .u32)) (k3:P.underlying f3.type=some .string) (k4:P.underlying f4.type=some (.int .i64))
  (hv:Value.okWide P W r b0 t v) (h:DataW.Trod enc P W base (fun _=>true) true t v d p):∃ A n c l,v=.slice A n c∧RdRq W A n c l∧∀ q ∈ l,okR q:=by
 obtain ⟨A,n,c,V,rfl,R0,hV⟩:=zkg ht he hone hC (by simp) hv h
 have R:RdF W A n c 5 V:=R0
 have each:∀ i,∃ q:Req,i<n→(V i 0=.int .i64 q.op∧V i 1=.int .i64 q.rule∧V i 2=.int .u32 q.cost∧V i 3=.string (strOfNums q.key)∧V i 4=.int .i64 q.k)∧okR q:=by
  intro i
  by_cases hi:i<n
  ·obtain ⟨a0,e0,_⟩:=za8 k0 (hV i hi 0 f0 rfl)
   obtain ⟨a1,e1,_⟩:=za8 k1 (hV i hi 1 f1 rfl)
   obtain ⟨a2,e2,g2⟩:=zkv k2 (hV i hi 2 f2 rfl)
   obtain ⟨s,e3,g3⟩:=zku k3 (hV i hi 3 f3 rfl)
   obtain ⟨a4,e4,_⟩:=za8 k4 (hV i hi 4 f4 rfl)
   refine ⟨⟨a0,a1,a2,numsC s,a4⟩,fun _=>⟨⟨e0,e1,e2,?_,e4⟩,g2,?_,?_⟩⟩
   ·show V i 3=.string (strOfNums (numsC s))
    rw [zef];exact e3
   ·show (strOfNums (numsC s)).size≤maxLen
    rw [zef];exact g3
   ·show numsC (strOfNums (numsC s))=numsC s
    rw [zef]
  ·exact ⟨req0,fun h=>absurd h hi⟩
 obtain ⟨Q,hQ⟩:=Classical.axiomOfChoice each
 refine ⟨A,n,c,(List.range n).map Q,rfl,⟨by simp,R.cap,R.max,fun hn=>?_⟩,fun q hq=>?_⟩
 ·obtain ⟨b,off,rfl,hlt,hc⟩:=R.at_ hn
  refine ⟨b,off,rfl,hlt,fun i q hi=>?_⟩
  rw [List.getElem?_map] at hi
  obtain ⟨i',hi',e⟩:=Option.map_eq_some_iff.1 hi
  obtain ⟨hin,e2⟩:=List.getElem?_eq_some_iff.1 hi'
  rw [List.getElem_range] at e2
  subst e2
  subst e
  have hin:i<n:=by simpa using hin
  obtain ⟨⟨h0,h1,h2,h3,h4⟩,_⟩:=hQ i hin
  rw [← h0,← h1,← h2,← h3,← h4]
  exact ⟨hc i 0 hin (by omega),hc i 1 hin (by omega),hc i 2 hin (by omega),hc i 3 hin (by omega),hc i 4 hin (by omega)⟩
 ·obtain ⟨i,hi,rfl⟩:=List.mem_map.1 hq
  exact (hQ i (List.mem_range.1 hi)).2
end
end
end Go.Proofs.YtambcbbekoehiaaGreat
