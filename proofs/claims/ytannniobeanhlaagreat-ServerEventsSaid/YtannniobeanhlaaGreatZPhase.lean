import Derived.Test.YtannniobeanhlaaGreatHz
import Derived.Deep.RegionHeld
set_option linter.unusedSimpArgs false
set_option linter.unusedVariables false
set_option maxRecDepth 100000
set_option maxHeartbeats 9000000
namespace Go.Proofs.YtannniobeanhlaaGreat.Ph
open Go
section
variable {P:Program} {ops:Array Oper} {Q:Exit→Act→World→Prop} {md:Region.Mode} {S:Nat→World→Prop} {ks:List Nat}
def phase (ks:List Nat) (l:Array Bool):Nat:=ks.countP fun k=>l.getD k false
def waits (md:Region.Mode) (ops:Array Oper):Nat→Nat→Nat→Bool
 | 0,_,_=>false
 | f+1,k,i=>match ops[k]? with
  | none=>false
  | some o=>o.after.any fun e=>Region.binds md e && (e.on==i || waits md ops f e.on i)
def Ordered (md:Region.Mode) (ops:Array Oper) (l:Array Bool):Prop:=∀ j o,l.getD j false=true→ops[j]?=some o→∀ e ∈ o.after,Region.binds md e=true→l.getD e.on false=true
theorem zew (n:Nat):Ordered md ops (Array.replicate n false):=fun j o h=>by
 rw [Array.getD_eq_getD_getElem?,Array.getElem?_replicate] at h
 split at h <;> simp at h
theorem zbi {l:Array Bool} {i:Nat} (h:l.getD i true=false):l.getD i false=false:=by
 rcases Nat.lt_or_ge i l.size with h' | h'
 ·simp [h'] at h ⊢;exact h
 ·simp [Array.getElem?_eq_none h'] at h
theorem zfm {l:Array Bool} (hl:Ordered md ops l) {i:Nat} (hi:l.getD i false=false):∀ (f k:Nat),waits md ops f k i=true→l.getD k false=false∧k ∉ Region.ready md ops l
 | 0,_,h=>by simp [waits] at h
 | f+1,k,h=>by
  unfold waits at h
  cases ho:ops[k]? with
  | none=>rw [ho] at h;simp at h
  | some o =>
   rw [ho] at h
   obtain ⟨e,he,hb⟩:=Array.any_eq_true'.1 h
   simp only [Bool.and_eq_true,Bool.or_eq_true,beq_iff_eq] at hb
   have hon:l.getD e.on false=false:=by
    rcases hb.2 with h | h
    ·rw [h];exact hi
    ·exact (zfm hl hi f e.on h).1
   refine ⟨?_,fun hr=>?_⟩
   ·cases hk:l.getD k false with
    | false=>rfl
    | true=>have:=hl k o hk ho e he hb.1;rw [hon] at this;cases this
   ·obtain ⟨_,o',ho',hall⟩:=mem_ready.1 hr
    rw [ho] at ho'
    cases ho'
    have:=hall e he hb.1
    rw [hon] at this;cases this
theorem za3 {l:Array Bool} (hl:Ordered md ops l) {j:Nat} (hj:j ∈ Region.ready md ops l):Ordered md ops (l.setIfInBounds j true):=fun k o hk ho e he hb=>by
 by_cases hjk:j=k
 ·subst hjk
  obtain ⟨_,o',ho',hall⟩:=mem_ready.1 hj
  rw [ho] at ho'
  cases ho'
  exact getD_set_true (hall e he hb)
 ·rw [getD_set_ne false hjk] at hk
  exact getD_set_true (hl k o hk ho e he hb)
theorem zaM {l:Array Bool} {j:Nat} (hj:j ∉ ks):phase ks (l.setIfInBounds j true)=phase ks l:=by
 unfold phase
 refine List.countP_congr (fun k hk=>?_)
 rw [getD_set_ne false (fun e=>hj (by rw [e];exact hk))]
def wpAnyL (P:Program) (md:Region.Mode) (ops:Array Oper) (Q:Exit→Act→World→Prop) (ks:List Nat) (S:Nat→World→Prop):Nat→Array Bool→Act→World→Prop
 | 0,l,a,w=>Region.ready md ops l=[]∧Q .normal a w
 | f+1,l,a,w=>(Region.ready md ops l=[]→Q .normal a w)∧∀ i ∈ Region.ready md ops l,wpOp P ops Q i (fun a' w'=>S (phase ks (l.setIfInBounds i true)) w'∧wpAnyL P md ops Q ks S f (l.setIfInBounds i true) a' w') a w
theorem zgM:∀ (f:Nat) (l:Array Bool) (a:Act) (w:World),wpAnyL P md ops Q ks S f l a w→wpAny P md ops Q f l a w
 | 0,_,_,_,h=>h
 | f+1,_,_,_,h=>⟨h.1,fun i hi=>wpOp_mono (fun a' w' h'=>zgM f _ a' w' h'.2) (h.2 i hi)⟩
theorem first {i:Nat} {oi:Oper} {v:Value} (hi:ops[i]?=some oi) (hsel:∀ (j:Nat) (o:Oper) cs b,ops[j]?=some o→o.op≠.select cs b)
  (hQ:∀ c a w,Q (.panic c) (a.put oi.dst v) w→Q (.panic c) a w) :
  ∀ (f:Nat) (l:Array Bool) (a:Act) (w:World),
   (∀ j oj,ops[j]?=some oj→j≠i→l.getD j true=false→(∀ e ∈ oj.after,Region.binds md e=true→e.on≠i)→oi.apart ops oj=true) →
   Ordered md ops l→(∀ k ∈ ks,l.getD k false=true∨∃ g,waits md ops g k i=true) →
   i ∈ Region.ready md ops l→YieldsIf P ops (S (phase ks l)) oi v a→S (phase ks l) w →
   wpAnyL P md ops Q ks S f (l.setIfInBounds i true) (a.put oi.dst v) w→wpAnyL P md ops Q ks S (f+1) l a w:=by
 intro f
 induction f with
 | zero =>
  intro l a w _ hol hks hr hy hS H
  have hik:i ∉ ks:=fun hk=>by
   rcases hks i hk with h | ⟨g,h⟩
   ·have:=zbi (mem_ready.1 hr).1;rw [h] at this;cases this
   ·exact (zfm hol (zbi (mem_ready.1 hr).1) g i h).2 hr
  refine ⟨fun h=>(by rw [h] at hr;cases hr),fun j hj=>?_⟩
  by_cases hji:j=i
  ·subst hji;exact hy.wpOp hi hS ⟨by rw [zaM hik];exact hS,H⟩
  ·have:=ready_mono hj hji
   rw [H.1] at this
   cases this
 | succ f ih =>
  intro l a w hfree hol hks hr hy hS H
  have hun:=zbi (mem_ready.1 hr).1
  have hno:∀ k,k ∈ Region.ready md ops l→k ∈ ks→False:=fun k hk hkk=>by
   rcases hks k hkk with h | ⟨g,h⟩
   ·have:=zbi (mem_ready.1 hk).1;rw [h] at this;cases this
   ·exact (zfm hol hun g k h).2 hk
  have hik:i ∉ ks:=fun hk=>hno i hr hk
  refine ⟨fun h=>(by rw [h] at hr;cases hr),fun j hj=>?_⟩
  by_cases hji:j=i
  ·subst hji;exact hy.wpOp hi hS ⟨by rw [zaM hik];exact hS,H⟩
  ·have hjk:j ∉ ks:=fun hk=>hno j hj hk
   have h1:=H.2 j (ready_mono hj hji)
   obtain ⟨hjun,oj,hoj,hall⟩:=mem_ready.1 hj
   have hnot:∀ e ∈ oj.after,Region.binds md e=true→e.on≠i:=fun e he hb heq=>by
    have h1:=hall e he hb
    rw [heq,hun] at h1
    cases h1
   have h2:=wpOp_putIf hoj (hfree j oj hoj hji hjun hnot) (fun cs b=>hsel i oi cs b hi) (fun cs b=>hsel j oj cs b hoj) hQ hy h1
   have hp1:phase ks (l.setIfInBounds j true)=phase ks l:=zaM hjk
   have hp2:phase ks ((l.setIfInBounds i true).setIfInBounds j true)=phase ks l:=by rw [zaM hjk,zaM hik]
   rw [hp2] at h2
   refine wpOp_mono (fun a' w' h3=>⟨by rw [hp1];exact h3.2.1,?_⟩) h2
   refine ih (l.setIfInBounds j true) a' w' (fun k ok hk hki hun' hno'=>?_) (za3 hol hj) (fun k hk=>?_) (ready_mono hr (Ne.symm hji)) (by rw [hp1];exact h3.1) (by rw [hp1];exact h3.2.1) ?_
   ·refine hfree k ok hk hki ?_ hno'
    by_cases hjk':j=k
    ·subst hjk';exact hjun
    ·rw [getD_set_ne true hjk'] at hun';exact hun'
   ·rcases hks k hk with h | h
    ·exact Or.inl (getD_set_true h)
    ·exact Or.inr h
   ·rw [Array.setIfInBounds_comm _ _ hji]
    exact h3.2.2
theorem take {i:Nat} {oi:Oper} {v:Value} {f p:Nat} {l:Array Bool} {a:Act} {w:World} (hi:ops[i]?=some oi)
  (hs:Region.noSelect ops=true) (hf:Region.free md ops l i=true) (hr:(Region.ready md ops l).contains i=true) (hol:Ordered md ops l)
  (hk:(ks.all fun k=>l.getD k false || waits md ops 100 k i)=true) (hp:phase ks l=p)
  (hQ:∀ c a w,Q (.panic c) (a.put oi.dst v) w→Q (.panic c) a w) (hy:YieldsIf P ops (S p) oi v a) (hS:S p w)
  (h:Ordered md ops (l.setIfInBounds i true)→wpAnyL P md ops Q ks S f (l.setIfInBounds i true) (a.put oi.dst v) w):wpAnyL P md ops Q ks S (f+1) l a w:=by
 subst hp
 have hr':i ∈ Region.ready md ops l:=by simpa using hr
 refine first hi (Region.noSelect_spec hs) hQ f l a w (Region.free_spec hi hf) hol (fun k hkk=>?_) hr' hy hS (h (za3 hol hr'))
 have:=List.all_eq_true.1 hk k hkk
 rcases Bool.or_eq_true_iff.1 this with g | g
 ·exact Or.inl g
 ·exact Or.inr ⟨100,g⟩
theorem zgp (l:Array Bool):phase ks l≤ks.length:=List.countP_le_length
theorem zh9 {i:Nat} {oi:Oper} {v:Value} {T:World→Prop} (hi:ops[i]?=some oi) (hik:i ∉ ks) (hT:∀ p,p≤ks.length→∀ w,S p w→T w) (hsel:∀ (j:Nat) (o:Oper) cs b,ops[j]?=some o→o.op≠.select cs b)
  (hQ:∀ c a w,Q (.panic c) (a.put oi.dst v) w→Q (.panic c) a w) :
  ∀ (f:Nat) (l:Array Bool) (a:Act) (w:World),
   (∀ j oj,ops[j]?=some oj→j≠i→l.getD j true=false→(∀ e ∈ oj.after,Region.binds md e=true→e.on≠i)→oi.apart ops oj=true) →
   i ∈ Region.ready md ops l→YieldsIf P ops T oi v a→S (phase ks l) w →
   wpAnyL P md ops Q ks S f (l.setIfInBounds i true) (a.put oi.dst v) w→wpAnyL P md ops Q ks S (f+1) l a w:=by
 intro f
 induction f with
 | zero =>
  intro l a w _ hr hy hS H
  refine ⟨fun h=>(by rw [h] at hr;cases hr),fun j hj=>?_⟩
  by_cases hji:j=i
  ·subst hji;exact hy.wpOp hi (hT _ (zgp _) _ hS) ⟨by rw [zaM hik];exact hS,H⟩
  ·have:=ready_mono hj hji
   rw [H.1] at this
   cases this
 | succ f ih =>
  intro l a w hfree hr hy hS H
  have hun:=zbi (mem_ready.1 hr).1
  refine ⟨fun h=>(by rw [h] at hr;cases hr),fun j hj=>?_⟩
  by_cases hji:j=i
  ·subst hji;exact hy.wpOp hi (hT _ (zgp _) _ hS) ⟨by rw [zaM hik];exact hS,H⟩
  ·have h1:=H.2 j (ready_mono hj hji)
   obtain ⟨hjun,oj,hoj,hall⟩:=mem_ready.1 hj
   have hnot:∀ e ∈ oj.after,Region.binds md e=true→e.on≠i:=fun e he hb heq=>by
    have h1:=hall e he hb
    rw [heq,hun] at h1
    cases h1
   have h2:=wpOp_putIf hoj (hfree j oj hoj hji hjun hnot) (fun cs b=>hsel i oi cs b hi) (fun cs b=>hsel j oj cs b hoj) hQ hy h1
   have hp2:phase ks ((l.setIfInBounds i true).setIfInBounds j true)=phase ks (l.setIfInBounds j true):=by rw [Array.setIfInBounds_comm _ _ (Ne.symm hji),zaM hik]
   rw [hp2] at h2
   refine wpOp_mono (fun a' w' h3=>⟨h3.2.1,?_⟩) h2
   refine ih (l.setIfInBounds j true) a' w' (fun k ok hk hki hun' hno'=>?_) (ready_mono hr (Ne.symm hji)) h3.1 h3.2.1 ?_
   ·refine hfree k ok hk hki ?_ hno'
    by_cases hjk':j=k
    ·subst hjk';exact hjun
    ·rw [getD_set_ne true hjk'] at hun';exact hun'
   ·rw [Array.setIfInBounds_comm _ _ hji]
    exact h3.2.2
theorem takeAll {i:Nat} {oi:Oper} {v:Value} {f p:Nat} {l:Array Bool} {a:Act} {w:World} (T:World→Prop) (hT:∀ p,p≤ks.length→∀ w,S p w→T w) (hi:ops[i]?=some oi)
  (hs:Region.noSelect ops=true) (hf:Region.free md ops l i=true) (hr:(Region.ready md ops l).contains i=true) (hol:Ordered md ops l)
  (hk:ks.contains i=false) (hp:phase ks l=p)
  (hQ:∀ c a w,Q (.panic c) (a.put oi.dst v) w→Q (.panic c) a w) (hy:YieldsIf P ops T oi v a) (hS:S p w)
  (h:Ordered md ops (l.setIfInBounds i true)→wpAnyL P md ops Q ks S f (l.setIfInBounds i true) (a.put oi.dst v) w):wpAnyL P md ops Q ks S (f+1) l a w:=by
 subst hp
 have hr':i ∈ Region.ready md ops l:=by simpa using hr
 have hik:i ∉ ks:=fun h=>by
  rw [List.contains_iff_mem.2 h] at hk
  cases hk
 exact zh9 hi hik hT (Region.noSelect_spec hs) hQ f l a w (Region.free_spec hi hf) hr' hy hS (h (za3 hol hr'))
theorem alone {i f p:Nat} {o:Oper} {l:Array Bool} {a:Act} {w:World} (hr:Region.ready md ops l=[i]) (ho:ops[i]?=some o) (hol:Ordered md ops l) (hp:phase ks (l.setIfInBounds i true)=p)
  (h:∀ K':Act→World→Prop,Shut (∀ a' w',S p w'→(S p w'→Ordered md ops (l.setIfInBounds i true)→wpAnyL P md ops Q ks S f (l.setIfInBounds i true) a' w')→K' a' w')→if Region.wanted o (yielded ops a.tmps)=true then Oper.wp P o a w K' Q else K' (a.put o.dst undef) w) :
  wpAnyL P md ops Q ks S (f+1) l a w:=by
 subst hp
 refine ⟨fun h0=>(by rw [hr] at h0;cases h0),fun j hj=>?_⟩
 have hji:j=i:=by rw [hr] at hj;exact List.mem_singleton.1 hj
 subst hji
 exact wpOp_step ho (fun K' hK=>h K' (fun a' w' hS hW=>hK a' w' ⟨hS,hW hS (za3 hol hj)⟩))
theorem done {l:Array Bool} {a:Act} {w:World} (hr:Region.ready md ops l=[]) (h:Q .normal a w):∀ f,wpAnyL P md ops Q ks S f l a w
 | 0=>⟨hr,h⟩
 | _+1=>⟨fun _=>h,by rw [hr];simp⟩
theorem start {id:Nat} {a:Act} {w:World} (ks:List Nat) (S:Nat→World→Prop) (hm:P.follows .mixedOrders=true) (hS:S 0 w.drew)
  (h:S 0 w.drew→Ordered .any ops (Array.replicate ops.size false)→wpAnyL P .any ops Q ks S ops.size (Array.replicate ops.size false) a w.drew):(Code.region id ops true).wp P Q a w :=
 wp_region_any hm (zgM _ _ _ _ (h hS (zew _)))
def pick (l:List (World→Prop)) (p:Nat) (w:World):Prop:=l.getD p (fun _=>True) w
theorem pick0 {A:World→Prop} {r:List (World→Prop)} {w:World} (h:A w):pick (A :: r) 0 w:=h
theorem pick1 {A B:World→Prop} {r:List (World→Prop)} {w:World} (h:B w):pick (A :: B :: r) 1 w:=h
end
end Go.Proofs.YtannniobeanhlaaGreat.Ph
namespace Go.Proofs.YtannniobeanhlaaGreat
open Go
section
variable {P:Program} {ops:Array Oper} {Q:Exit→Act→World→Prop} {md:Region.Mode} {S:World→Prop} {K:Act→Prop}
end
end Go.Proofs.YtannniobeanhlaaGreat
