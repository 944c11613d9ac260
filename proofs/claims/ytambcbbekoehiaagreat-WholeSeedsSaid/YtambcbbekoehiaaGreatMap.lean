import Derived.Maps.RangeWalk
import Derived.Test.YtambcbbekoehiaaGreatZObj
set_option linter.unusedSimpArgs false
set_option linter.unusedVariables false
set_option maxRecDepth 100000
set_option maxHeartbeats 9000000
namespace Go.Proofs.YtambcbbekoehiaaGreat.Mp
open Go Go.RowKit Go.Maps
def el (v:Value):Option (DataW Value × List MemPlace):=some (.held v,[])
abbrev kl (s:ByteArray):Lit:=.string s.data.toList
theorem zlp {s t:ByteArray} (h:kl s=kl t):s=t:=by
 injection h with h
 exact ByteArray.ext (Array.toList_inj.1 h)
theorem zlq (s:ByteArray):WideAt.IsKeyLit (kl s):=by unfold WideAt.IsKeyLit;simp
structure Has (D:DataW Value) (M:ByteArray→Option Value):Prop where
 is:∀ s,s.size≤maxLen→Maps.has D (kl s)=(M s).isSome
 at_:∀ s v,s.size≤maxLen→M s=some v→∀ z,D.atKey (kl s) z=.held v
section
variable {P:Program} {k:TypeId}
def MapS (P:Program) (k:TypeId) (w:World) (b c:Nat) (M:ByteArray→Option Value):Prop:=∃ D,w.ownsMap P k el b c D∧Maps.size D=c∧Has D M
theorem tight {w:World} {b n:Nat} {D:DataW Value} (h:w.ownsMap P k el b n D):w.ownsMap P k el b (Maps.size D) D:=by
 obtain ⟨es,clock,hb,F,hs,rfl⟩:=h
 exact ⟨es,clock,hb,F,by simp [Maps.size,length_sorted],rfl⟩
theorem MapS.lt {w:World} {b c:Nat} {M:ByteArray→Option Value} (h:MapS P k w b c M):b<w.heap.size:=by obtain ⟨D,h,_⟩:=h;exact h.lt
theorem MapS.fr {w w':World} {b c:Nat} {M:ByteArray→Option Value} {F:Nat→Prop} (h:MapS P k w b c M) (hf:Fr F w w') (hF:¬ F b):MapS P k w' b c M:=by
 obtain ⟨D,⟨es,clock,hb,F',hs,hD⟩,h2,h3⟩:=h
 exact ⟨D,⟨es,clock,(hf.block b (lt_of_block hb) hF).trans hb,F',hs,hD⟩,h2,h3⟩
theorem MapS.keep {w w':World} {b c:Nat} {M:ByteArray→Option Value} (h:MapS P k w b c M) (hb:Below w.heap.size w w'):MapS P k w' b c M:=h.fr (F:=fun _=>False) (Fr.of_below hb) id
theorem MapS.new (w:World):MapS P k (w.alloc (.map #[] 0)) w.heap.size 0 (fun _=>none) :=
 ⟨.map [],World.ownsMap_made _ _ _ _,rfl,⟨fun _ _=>rfl,(fun _ _ _ h=>by cases h)⟩⟩
section
variable {w:World} {b c:Nat} {M:ByteArray→Option Value} {t e:TypeId}
theorem zl4 (hk:P.underlying k=some .string) {s:ByteArray} (hs:s.size≤maxLen):keyOf P k (.string s)=some (kl s):=WideMaps.keyOf_string_mk hk hs
theorem MapS.len (ht:P.underlying t=some (.map k e)) (h:MapS P k w b c M) (ty:TypeId):(Builtin.len_ #[t] ty #[.map (some b)]).run P w=.ok (.int .i64 (c:Int)) w:=by
 obtain ⟨D,h1,h2,h3⟩:=h
 rw [h1.len ht ty,h2]
theorem zir {w w':World} (h:w.mapTurned w' b):Fr (fun k=>k=b) w w':=by
 have hg:=h.grown
 exact ⟨hg.os,hg.tape,hg.output,hg.size,fun k hk hF=>hg.block k hk (fun e=>hF (by injection e with e))⟩
theorem MapS.store (hk:P.underlying k=some .string) (ht:P.underlying t=some (.map k e)) (h:MapS P k w b c M) (hc:c<maxLen) {s:ByteArray} (hs:s.size≤maxLen) (v:Value) :
  ∃ w',(Instr.mapUpdate t (.map (some b)) (.string s) v).run P w=.ok () w'∧MapS P k w' b (if (M s).isSome then c else c+1) (fun x=>if x=s then some v else M x)∧Fr (fun k=>k=b) w w':=by
 obtain ⟨D,h1,h2,h3⟩:=h
 obtain ⟨w',hr,ho,hm⟩:=h1.store (string_keyed hk) ht hc (zl4 hk hs) (show el v=some (.held v,[]) from rfl)
 have hT:=h1.tidy (string_keyed hk)
 have hsz:Maps.size (D.put (kl s) (.held v))=if (M s).isSome then c else c+1:=by rw [size_put hT,h3.is s hs,h2]
 refine ⟨w',hr,⟨D.put (kl s) (.held v),by rw [← hsz];exact tight ho,hsz,⟨fun x hx=>?_,fun x u hx hu z=>?_⟩⟩,zir hm⟩
 ·by_cases e:x=s
  ·subst e;rw [has_put_same hT.isMap (zlq x)];try simp
  ·rw [has_put_other (fun h=>e (zlp h)),h3.is x hx,if_neg e]
 ·by_cases e:x=s
  ·subst e
   rw [if_pos rfl] at hu
   injection hu with hu
   rw [atKey_put_same hT.isMap (zlq x),hu]
  ·rw [if_neg e] at hu
   rw [atKey_put_other (fun h=>e (zlp h))]
   exact h3.at_ x u hx hu z
end
/-! #### going over a map -/
section
variable {w:World} {ops:Array Oper} {rest:List Oper} {o:Oper} {a:Act} {Q:Exit→Act→World→Prop} {b r c n:Nat} {M:ByteArray→Option Value} {left:ByteArray→Bool} {t e:TypeId}
end
end
end Go.Proofs.YtambcbbekoehiaaGreat.Mp
