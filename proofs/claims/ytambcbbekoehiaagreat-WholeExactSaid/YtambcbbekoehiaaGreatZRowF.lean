import Derived.Test.YtambcbbekoehiaaGreatLift
import Derived.Deep.Fields
set_option linter.unusedSimpArgs false
set_option linter.unusedVariables false
set_option maxRecDepth 100000
set_option maxHeartbeats 9000000
namespace Go.Proofs.YtambcbbekoehiaaGreat
open Go.ChangeShapes Go.WideShapes Go.ChangeAt Go.RowKit
section
open Go.Deep
structure RdF (w:World) (A:Option Addr) (n c m:Nat) (V:Nat→Nat→Value):Prop where
 cap:n≤c
 max:c≤maxLen
 at_:0<n→∃ b off,A=some ⟨b,off,none⟩∧b<w.heap.size∧∀ i j,i<n→j<m→w.cell? ⟨b,off+i*m+j,none⟩=some (V i j)
section
variable {H:Type} {enc:TypeId × Value→H} {P:Program}
theorem zj7 {W:World} {base:Nat} {r:Reach} {b0:Nat} {t e:TypeId} {fs:Array Field} {v:Value} {d:DataW H} {p:List MemPlace} (ht:P.underlying t=some (.slice e)) (he:P.underlying e=some (.struct fs))
  (hone:oneCellFields P fs=true) (hC:P.cellsOf e=fs.size) (hpos:0<fs.size)
  (hv:Value.okWide P W r b0 t v) (h:DataW.Trod enc P W base (fun _=>true) true t v d p) :
  ∃ A n c V,v=.slice A n c∧RdF W A n c fs.size V∧∀ i,i<n→∀ (j:Nat) (f:Field),fs[j]?=some f→∃ N y,DataW.trod enc P W base (fun _=>true) true N f.type [V i j]=some y:=by
 obtain ⟨a0,len,cap,rfl⟩:=okWide_slice ht hv
 obtain ⟨fuel,hf⟩:=h
 rcases open_slice ht hf with ⟨hcs,_⟩ | ⟨a,len',cap',m,N,D,Pl,hcs,_,hl,hm,hmm,_,hi⟩
 ·simp [Value.cells] at hcs
  obtain ⟨rfl,rfl,rfl⟩:=hcs
  exact ⟨none,0,0,fun _ _=>(.bool false),rfl,⟨Nat.le_refl _,Nat.zero_le _,fun h=>absurd h (by omega)⟩,fun i hi=>absurd hi (by omega)⟩
 ·simp [Value.cells] at hcs
  obtain ⟨rfl,rfl,rfl⟩:=hcs
  simp only [if_true] at hmm
  subst hmm
  rw [hC] at hi
  have each:∀ i,∃ cs':List Value,i<len→(∀ j,j<fs.size→W.cell? ((a.add (i*fs.size)).add j)=some (cs'.getD j (.bool false)))∧∀ (j:Nat) (f:Field),fs[j]?=some f→∃ N y,DataW.trod enc P W base (fun _=>true) true N f.type [cs'.getD j (.bool false)]=some y:=by
   intro i
   by_cases hil:i<len
   ·obtain ⟨cs',hc,ht'⟩:=hi i (by omega)
    obtain ⟨_,hcl,hat⟩:=World.cells?_some hc
    obtain ⟨ys,n',hn',hy,hlen,hyl,hf'⟩:=DataW.trod_struct he ht'
    refine ⟨cs',fun _=>⟨fun j hj=>?_,fun j f hj=>?_⟩⟩
    ·rw [hat j hj,List.getElem?_eq_getElem (by omega)]
     simp [List.getD,List.getElem?_eq_getElem (show j<cs'.length by omega)]
    ·obtain ⟨ho,hk⟩:=hone_of hone j f hj
     have hjl:j<fs.size:=(Array.getElem?_eq_some_iff.1 hj).1
     have h1:=hf' j f hj
     rw [ho,hk] at h1
     have hone':(cs'.drop j).take 1=[cs'.getD j (.bool false)]:=by
      rw [List.drop_eq_getElem_cons (by omega),List.take_succ_cons,List.take_zero]
      simp [List.getD,List.getElem?_eq_getElem (show j<cs'.length by omega)]
     rw [hone'] at h1
     exact ⟨n',_,h1.trans (List.getElem?_eq_getElem (by omega))⟩
   ·exact ⟨[],fun h=>absurd h hil⟩
  obtain ⟨G,hch⟩:=Classical.axiomOfChoice each
  clear each
  refine ⟨_,_,_,fun i j=>(G i).getD j (.bool false),rfl,⟨hl,hm,fun hn=>?_⟩,fun i hil j f hj=>(hch i hil).2 j f hj⟩
  obtain ⟨b,off,s⟩:=a
  have h0:=(hch 0 hn).1 0 hpos
  have hs:=zbR h0
  have hlt:=zaR h0
  rw [block_add,block_add] at hlt
  have:s=none:=by
   unfold Addr.add at hs
   simpa using hs
  subst this
  refine ⟨b,off,rfl,hlt,fun i j hi hj=>?_⟩
  have:=(hch i hi).1 j hj
  rw [add_plain,add_plain] at this
  exact this
theorem ziV {W:World} {base:Nat} {t:TypeId} {v:Value} (ht:P.underlying t=some (.int .i64)) (h:∃ N y,DataW.trod enc P W base (fun _=>true) true N t [v]=some y) :
  ∃ a:Int,v=.int .i64 a∧(-9223372036854775808≤a∧a≤9223372036854775807):=by
 obtain ⟨N,y,h⟩:=h
 obtain ⟨a,h1,_,h3⟩:=DataW.trod_int ht h
 simp only [List.cons.injEq,and_true] at h1
 exact ⟨a,h1,bounds_i64 h3⟩
end
end
section
open Go.Deep
section
variable {H:Type} {enc:TypeId × Value→H} {P:Program}
end
end
end Go.Proofs.YtambcbbekoehiaaGreat
