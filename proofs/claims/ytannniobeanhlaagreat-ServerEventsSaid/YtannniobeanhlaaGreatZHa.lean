import Derived.WalkKit
import Derived.Test.YtannniobeanhlaaGreatZPhase
set_option linter.unusedSimpArgs false
set_option linter.unusedVariables false
set_option maxRecDepth 100000
set_option maxHeartbeats 9000000
namespace Go.Proofs.YtannniobeanhlaaGreat
open Go
section
variable {P:Program} {ops:Array Oper} {Q:Exit→Act→World→Prop} {md:Region.Mode} {S:World→Prop}
theorem wR (i:Nat) {oi:Oper} {v:Value} {fuel:Nat} {l l':Array Bool} {a a':Act} {w:World} (h:wpAnyH P md ops Q S fuel l' a' w)
  (hi:ops[i]?=some oi:=by simp only [List.getElem?_toArray,List.getElem?_cons_succ,List.getElem?_cons_zero];rfl)
  (hs:Region.noSelect ops=true:=by kernel_rfl) (hf:Region.free md ops l i=true:=by kernel_rfl) (hr:(Region.ready md ops l).contains i=true:=by kernel_rfl)
  (hy:YieldsIf P ops S oi v a:=by refine Or.inl ⟨by rfl,?_⟩;intro w' hSw;(try dsimp only at hSw);go_simp;all_goals (with_reducible rfl))
  (hQ:∀ c a w,Q (.panic c) (a.put oi.dst v) w→Q (.panic c) a w:=by exact fun _ _ _ h=>h)
  (hS:S w:=by assumption)
  (ha:a.put oi.dst v=a':=by (try simp only [Act.put,zs1,zs2,zs3]);rfl)
  (hl:l.setIfInBounds i true=l':=by (try simp only [zs1,zs2,zs3]);rfl):wpAnyH P md ops Q S (fuel+1) l a w:=by
 subst ha hl
 exact wpAnyH_take hi hs hf hr hQ hy hS h
theorem wO (i:Nat) {oi:Oper} {fuel:Nat} {l l':Array Bool} {a a':Act} {w:World} (h:wpAnyH P md ops Q S fuel l' a' w)
  (hi:ops[i]?=some oi:=by simp only [List.getElem?_toArray,List.getElem?_cons_succ,List.getElem?_cons_zero];rfl)
  (hs:Region.noSelect ops=true:=by kernel_rfl) (hf:Region.free md ops l i=true:=by kernel_rfl) (hr:(Region.ready md ops l).contains i=true:=by kernel_rfl)
  (hy:YieldsIf P ops S oi undef a:=by exact Or.inr ⟨by kernel_rfl,rfl⟩)
  (hQ:∀ c a w,Q (.panic c) (a.put oi.dst undef) w→Q (.panic c) a w:=by exact fun _ _ _ h=>h)
  (hS:S w:=by assumption)
  (ha:a.put oi.dst undef=a':=by (try simp only [Act.put,zs1,zs2,zs3]);rfl)
  (hl:l.setIfInBounds i true=l':=by (try simp only [zs1,zs2,zs3]);rfl):wpAnyH P md ops Q S (fuel+1) l a w:=by
 subst ha hl
 exact wpAnyH_take hi hs hf hr hQ hy hS h
theorem wC (i:Nat) {o:Oper} {fuel:Nat} {l:Array Bool} {a:Act} {w:World}
  (h:∀ K':Act→World→Prop,Shut (∀ a w,S w→(S w→wpAnyH P md ops Q S fuel (l.setIfInBounds i true) a w)→K' a w)→if Region.wanted o (yielded ops a.tmps)=true then Oper.wp P o a w K' Q else K' (a.put o.dst undef) w)
  (ho:ops[i]?=some o:=by simp only [List.getElem?_toArray,List.getElem?_cons_succ,List.getElem?_cons_zero];rfl)
  (hr:Region.ready md ops l=[i]:=by kernel_rfl):wpAnyH P md ops Q S (fuel+1) l a w :=
 wpAnyH_ready hr (by simp) (AllReadyH.cons ho h AllReadyH.nil)
end
end Go.Proofs.YtannniobeanhlaaGreat
namespace Go.Proofs.YtannniobeanhlaaGreat.Ph
open Go
section
variable {P:Program} {ops:Array Oper} {Q:Exit→Act→World→Prop} {md:Region.Mode} {S:Nat→World→Prop} {ks:List Nat}
theorem pR (i p:Nat) {oi:Oper} {v:Value} {f:Nat} {l l':Array Bool} {a a':Act} {w:World} (hol:Ordered md ops l)
  (h:Ordered md ops l'→wpAnyL P md ops Q ks S f l' a' w)
  (hi:ops[i]?=some oi:=by simp only [List.getElem?_toArray,List.getElem?_cons_succ,List.getElem?_cons_zero];rfl)
  (hs:Region.noSelect ops=true:=by kernel_rfl) (hf:Region.free md ops l i=true:=by kernel_rfl) (hr:(Region.ready md ops l).contains i=true:=by kernel_rfl)
  (hk:(ks.all fun k=>l.getD k false || waits md ops 100 k i)=true:=by kernel_rfl) (hp:phase ks l=p:=by kernel_rfl)
  (hy:YieldsIf P ops (S p) oi v a:=by refine Or.inl ⟨by rfl,?_⟩;intro w' hSw;(try simp only [Ph.pick,List.getD_cons_succ,List.getD_cons_zero] at hSw);go_simp;all_goals (with_reducible rfl))
  (hQ:∀ c a w,Q (.panic c) (a.put oi.dst v) w→Q (.panic c) a w:=by exact fun _ _ _ h=>h)
  (hS:S p w:=by assumption)
  (ha:a.put oi.dst v=a':=by (try simp only [Act.put,zs1,zs2,zs3]);rfl)
  (hl:l.setIfInBounds i true=l':=by (try simp only [zs1,zs2,zs3]);rfl):wpAnyL P md ops Q ks S (f+1) l a w:=by
 subst ha hl
 exact take hi hs hf hr hol hk hp hQ hy hS h
theorem pC (i p:Nat) {o:Oper} {f:Nat} {l:Array Bool} {a:Act} {w:World} (hol:Ordered md ops l)
  (h:∀ K':Act→World→Prop,Shut (∀ a' w',S p w'→(S p w'→Ordered md ops (l.setIfInBounds i true)→wpAnyL P md ops Q ks S f (l.setIfInBounds i true) a' w')→K' a' w')→if Region.wanted o (yielded ops a.tmps)=true then Oper.wp P o a w K' Q else K' (a.put o.dst undef) w)
  (ho:ops[i]?=some o:=by simp only [List.getElem?_toArray,List.getElem?_cons_succ,List.getElem?_cons_zero];rfl)
  (hr:Region.ready md ops l=[i]:=by kernel_rfl) (hp:phase ks (l.setIfInBounds i true)=p:=by kernel_rfl):wpAnyL P md ops Q ks S (f+1) l a w :=
 alone hr ho hol hp h
end
end Go.Proofs.YtannniobeanhlaaGreat.Ph
