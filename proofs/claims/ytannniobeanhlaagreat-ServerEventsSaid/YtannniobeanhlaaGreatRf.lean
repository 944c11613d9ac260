import Derived.RangeFuncNested
import Derived.RangeFuncBound
import Derived.Deep.RegionHeld
import Derived.OrdersIn
import Derived.Test.YtannniobeanhlaaGreatZGen
set_option linter.unusedSimpArgs false
set_option linter.unusedVariables false
set_option maxRecDepth 100000
set_option maxHeartbeats 9000000
namespace Go.Proofs.YtannniobeanhlaaGreat
open Go.RowKit
section
open Go
theorem zmq (w:World) (b:Nat) (o:Obj):Fr (fun k=>k=b) w (setObj w b o):=Fr.setObj (F:=fun k=>k=b) (Fr.refl (fun k=>k=b) w) rfl o
structure Turn (B:Nat) (W W':World):Prop where
 os:W'.os=W.os
 tape:W'.tape=W.tape
 output:W'.output=W.output
 size:W.heap.size≤W'.heap.size
 block:∀ k o,W.heap[k]?=some o→(k<B∨o.isCells=true)→W'.heap[k]?=some o
theorem Turn.trans {B:Nat} {X Y Z:World} (h:Turn B X Y) (k:Turn B Y Z):Turn B X Z:=⟨k.os.trans h.os,k.tape.trans h.tape,k.output.trans h.output,Nat.le_trans h.size k.size,fun i o hi ho=>k.block i o (h.block i o hi ho) ho⟩
theorem Turn.grown {B:Nat} {W W':World} {row:Option Nat} (hg:W.grownBy W' row) (hr:∀ r,row=some r→B≤r∧∃ o:Obj,W.heap[r]?=some o∧o.isCells=false):Turn B W W' :=
 ⟨hg.os,hg.tape,hg.output,hg.size,fun k o hk ho=>(hg.block k (Array.getElem?_eq_some_iff.1 hk).1 (fun e=>by
  obtain ⟨h1,o',h2,h3⟩:=hr k e.symm
  rw [hk] at h2
  cases h2
  rcases ho with ho | ho
  ·omega
  ·rw [h3] at ho;cases ho)).trans hk⟩
theorem Turn.putObj (W:World) (B l:Nat) {o:Obj} (o':Obj) (hB:B≤l) (hl:W.heap[l]?=some o) (ho:o.isCells=false):Turn B W (W.putObj l o') :=
 Turn.grown (grownBy_putObj' W l o') (fun r e=>by cases e;exact ⟨hB,o,hl,ho⟩)
theorem Turn.alloc (B:Nat) (W:World) (o:Obj):Turn B W (W.alloc o):=Turn.grown (World.grownBy_alloc W o none) (fun r e=>by cases e)
theorem Turn.of_below {B:Nat} {W W':World} (h:Below W.heap.size W W'):Turn B W W' :=
 ⟨h.os,h.tape,h.output,h.size,fun k o hk _=>(h.block k (Array.getElem?_eq_some_iff.1 hk).1).trans hk⟩
theorem Blk.turn {B b:Nat} {W W':World} {t:TypeId} {C:Array Value} (h:Blk W b t C) (ht:Turn B W W'):Blk W' b t C:=ht.block b _ h (.inr rfl)
theorem Turn.below {B:Nat} {w W W':World} (ht:Turn B W W') (h:Below w.heap.size w W) (hB:w.heap.size≤B):Below w.heap.size w W' :=
 ⟨ht.os.trans h.os,ht.tape.trans h.tape,ht.output.trans h.output,Nat.le_trans h.size ht.size,fun k hk=>by
  have h1:=h.block k hk
  obtain ⟨o,ho⟩:∃ o,w.heap[k]?=some o:=⟨_,Array.getElem?_eq_getElem hk⟩
  rw [ho] at h1 ⊢
  exact ht.block k o h1 (.inl (by omega))⟩
def KeepB (F:Nat→Prop) (W W':World):Prop:=∀ b t C,F b→Blk W b t C→Blk W' b t C
theorem KeepB.refl (F:Nat→Prop) (W:World):KeepB F W W:=fun _ _ _ _ h=>h
theorem KeepB.trans {F:Nat→Prop} {X Y Z:World} (h:KeepB F X Y) (k:KeepB F Y Z):KeepB F X Z:=fun b t C hb hB=>k b t C hb (h b t C hb hB)
theorem KeepB.turn {F:Nat→Prop} {B:Nat} {W W':World} (h:Turn B W W'):KeepB F W W':=fun _ _ _ _ hb=>hb.turn h
theorem KeepB.below {F:Nat→Prop} {W W':World} (h:Below W.heap.size W W'):KeepB F W W':=fun _ _ _ _ hb=>hb.keep h
theorem KeepB.fr {F G:Nat→Prop} {W W':World} (h:Fr G W W') (hF:∀ k,F k→¬ G k):KeepB F W W':=fun _ _ _ hf hb=>hb.fr h (hF _ hf)
theorem zat {B:Nat} {W W':World} (h:Below W.heap.size W W'):KeepsFrom B W W':=⟨h.size,fun k o _ hk _=>(h.block k (Array.getElem?_eq_some_iff.1 hk).1).trans hk⟩
theorem za1 {B:Nat} {F:Nat→Prop} {W W':World} (h:Fr F W W') (hF:∀ k o,F k→B≤k→W.heap[k]?=some o→o.isCells=true):KeepsFrom B W W' :=
 ⟨h.size,fun k o hB hk ho=>(h.block k (Array.getElem?_eq_some_iff.1 hk).1 (fun f=>by rw [hF k o f hB hk] at ho;cases ho)).trans hk⟩
section
variable {P:Program} {α:Type}
def IterB (P:Program) (gf:Nat) (fb:Array Value) (encs:α→Array Value) (Kp:World→World→Prop) (xs:List α) (w0:World):Prop :=
 ∀ (l:Nat) (J Jx:List α→World→Prop) (W:World),Below w0.heap.size w0 W→AbidesFrom W.heap.size J →
  (∀ pre x W1,J pre W1→pre++[x] <+: xs→YieldAt Fence.wide 0 P l (encs x) W1 fun e W' =>
   (e=.returned (.bool true)∧J (pre++[x]) W'∧Kp W1 W')∨(e=.returned (.bool false)∧Jx (pre++[x]) W')) →
  J [] W →
  CallsIn Fence.wide 0 P gf (fb++#[.func (.yield l) #[] #[]]) W fun e W'=>(∃ v,e=.returned v)∧(J xs W'∨(∃ pre W2,pre <+: xs∧Jx pre W2∧Below W2.heap.size W2 W'))
theorem zi2 {g:Operand} {ps:Array Tmp} {assign body:Code} {Q:Exit→Act→World→Prop} {a:Act} {w:World} {gf:Nat} {fb:Array Value}
  (hg:a.eval g=.func (.func gf) fb #[]) (eg:∀ args w,(callFunc gf args).run P w=.ok (.enter gf args) w)
  {encs:α→Array Value} {Kp:World→World→Prop} {xs:List α} {w0:World} (hseq:IterB P gf fb encs Kp xs w0) (hb0:Below w0.heap.size w0 w) (hps:∀ x,(encs x).size=ps.size)
  (hKt:∀ {A B C:World},Kp A B→Kp B C→Kp A C) (hKT:∀ W W',Turn w.heap.size W W'→Kp W W')
  (I:List α→World→Prop) (Ix:Code→List α→World→Prop) (hI:∀ s W W',I s W→Turn w.heap.size W W'→I s W') (hIx:∀ c s W W',Ix c s W→Turn w.heap.size W W'→Ix c s W') (h0:I [] w)
  (hround:∀ (l:Nat) (pre:List α) (x:α) (W:World) (K:Act→World→Prop),w.heap.size≤l→pre++[x] <+: xs→I pre W →
   (∀ a' W',KeepsFrom w.heap.size W W'→Kp W W'→(∀ W2,Turn w.heap.size W' W2→body.wpIn (Fence.wide.inRound l) 0 P (ownPostG w.heap.size Kp I Ix (pre++[x]) W2) a' W2)→K a' W') →
   assign.wpIn (Fence.wide.inRound l) 0 P (Exit.then K (fun _ _ _=>False)) { tmps:=(ps.zip (encs x)).foldl (fun t (p,v)=>t.setIfInBounds p v) a.tmps,defers:=[] } W)
  (hdone:∀ (D:Nat) (W:World),w.heap.size≤D→I xs W→W.heap[D]?=some (.deferred (some []))→Q .normal { a with defers:={ target:=.collected D,args:=#[] } :: a.defers } W)
  (hstop:∀ (D:Nat) (c:Code) (pre:List α) (W:World),w.heap.size≤D→pre <+: xs→Ix c pre W→W.heap[D]?=some (.deferred (some []))→c.wpIn Fence.wide 0 P Q { a with defers:={ target:=.collected D,args:=#[] } :: a.defers } W) :
  (Code.rangeFunc g ps assign body).wpIn Fence.wide 0 P Q a w:=by
 refine wpIn_rangeFunc ?_
 intro fn _
 obtain ⟨D,hD⟩:=zeq (w.heap.size)
 obtain ⟨rec,hrec⟩:∃ rec:LoopState→Option Code→Loop,∀ st pe,rec st pe={ state:=st,pending:=pe,fn,tmps:=a.tmps,params:=ps,assign,body,defers:=D }:=⟨_,fun _ _=>rfl⟩
 obtain ⟨W1,hW1⟩:=zeq ((w.alloc (.deferred (some []))).alloc (.loop (rec .ready none)))
 have T1:Turn w.heap.size w W1:=by rw [hW1];exact (Turn.alloc _ _ _).trans (Turn.alloc _ _ _)
 have hs1:W1.heap.size=D+2:=by rw [hW1,hD];simp
 have B1:Below w.heap.size w W1:=by rw [hW1];exact ((Below.refl _ w).alloc (Nat.le_refl _) _).alloc (by simp) _
 have hL1:W1.heap[D+1]?=some (.loop (rec .ready none)):=by
  rw [hW1,hD]
  have:=World.alloc_heap_new (w.alloc (.deferred (some []))) (.loop (rec .ready none))
  rwa [World.size_alloc] at this
 have hK1:W1.heap[D]?=some (.deferred (some [])):=by
  rw [hW1,hD]
  show ((w.heap.push _).push _)[w.heap.size]?=_
  rw [Array.getElem?_push_lt (by simp)]
  simp
 have he:(Instr.enterLoop fn a.tmps ps assign body none).run P w=.ok (D+1,[{ target:=.collected D,args:=#[] }]) W1:=by
  rw [hW1,hrec,hD];exact run_enterLoop_outer _ _ _ _ _
 refine ⟨D+1,[{ target:=.collected D,args:=#[] }],W1,{ target:=.fn (.func gf) #[],args:=fb++#[.func (.yield (D+1)) #[] #[]] },W1,gf,fb++#[.func (.yield (D+1)) #[] #[]],W1,he,?_,fun _ _=>trivial,?_,fun h=>by simp [Fence.wide] at h,?_⟩
 ·simp only [resolve,hg]
  simp [go_sem]
 ·simp [invoke,go_sem,eg]
 have turn:∀ (W:World) (o o':Obj),W.heap[D+1]?=some o→o.isCells=false→Turn w.heap.size W (W.putObj (D+1) o'):=fun W o o' h h'=>Turn.putObj W _ _ o' (by omega) h h'
 have other:∀ (W:World) (o:Obj),(W.putObj (D+1) o).heap[D]?=W.heap[D]?:=fun W o=>World.putObj_heap_other (by omega)
 refine (hseq (D+1)
   (fun pre W=>I pre W∧W.heap[D+1]?=some (.loop (rec .ready none))∧W.heap[D]?=some (.deferred (some [])))
   (fun pre W=>∃ c,Ix c pre W∧W.heap[D+1]?=some (.loop (rec .done (some c)))∧W.heap[D]?=some (.deferred (some [])))
   W1 (hb0.trans (B1.mono hb0.size))
   (fun s A B row hs hg' hr=>by
    have hr':∀ r,row=some r→w.heap.size≤r∧∃ o:Obj,A.heap[r]?=some o∧o.isCells=false:=fun r e=>by
     obtain ⟨h1,o,h2,h3⟩:=hr r e
     exact ⟨by omega,o,h2,Obj.not_cells_of_walk h3⟩
    have keep:∀ (k:Nat) (o:Obj),A.heap[k]?=some o→o.isWalk=false→B.heap[k]?=some o:=fun k o hk hw=>(hg'.block k (Array.getElem?_eq_some_iff.1 hk).1 (fun e=>by
     obtain ⟨_,o',h2,h3⟩:=hr k e.symm
     rw [hk] at h2;cases h2;rw [hw] at h3;cases h3)).trans hk
    exact ⟨hI s A B hs.1 (Turn.grown hg' hr'),keep _ _ hs.2.1 rfl,keep _ _ hs.2.2 rfl⟩)
   ?_ ⟨hI _ _ _ h0 T1,hL1,hK1⟩).mono ?_
 ·rintro pre x W ⟨hi,hl,hk⟩ hpx
  have hy:=run_yield (P:=P) (args:=encs x) hl (by rw [hrec];exact hps x)
  rw [hrec] at hy
  refine ⟨fn,_,assign,body,hy,roundIn_of_wpIn trivial (wpIn_mono (hround (D+1) pre x W (fun a' W'=>KeepsFrom w.heap.size W W'∧Kp W W'∧∀ W2,Turn w.heap.size W' W2→body.wpIn (Fence.wide.inRound (D+1)) 0 P (ownPostG w.heap.size Kp I Ix (pre++[x]) W2) a' W2) (by omega) hpx hi (fun _ _ h1 h2 h3=>⟨h1,h2,h3⟩)) ?_)⟩
  rintro e a' Wa hq
  cases e with
  | exit id=>exact hq.elim
  | goto t=>exact hq.elim
  | ret=>exact hq.elim
  | panic ch=>exact hq.elim
  | outgrown=>exact hq.elim
  | normal =>
  obtain ⟨hka,hpa,hbody⟩:=hq
  have hla:=hka.same _ _ (by omega) hl rfl
  have hka2:=hka.same _ _ (by omega) hk rfl
  have hbr:=run_beginRound (P:=P) hla (by rw [hrec])
  have hlt:=(Array.getElem?_eq_some_iff.1 hla).1
  have T2:=turn Wa _ (.loop { rec .ready none with state:=.busy }) hla rfl
  have hl2:(Wa.putObj (D+1) (.loop { rec .ready none with state:=.busy })).heap[D+1]?=some (.loop { rec .ready none with state:=.busy }):=World.putObj_heap_same hlt
  have hk2:=(other Wa (.loop { rec .ready none with state:=.busy })).trans hka2
  refine ⟨_,hbr,wpIn_mono (hbody _ T2) ?_⟩
  clear hbody
  have ends:∀ (jump:Option Code) (W3:World),KeepsFrom w.heap.size (Wa.putObj (D+1) (.loop { rec .ready none with state:=.busy })) W3 →
    ∃ W4,(Instr.endRound (D+1) jump).run P W3=.ok (.bool jump.isNone) W4∧Turn w.heap.size W3 W4∧W4.heap[D+1]?=some (.loop (rec (if jump.isNone then .ready else .done) jump))∧W4.heap[D]?=some (.deferred (some [])):=fun jump W3 h3=>by
   have hl3:=h3.same _ _ (by omega) hl2 rfl
   have hk3:=h3.same _ _ (by omega) hk2 rfl
   have hr:=run_endRound (P:=P) jump hl3
   refine ⟨_,hr,turn W3 _ _ hl3 rfl,?_,(other W3 _).trans hk3⟩
   rw [World.putObj_heap_same (Array.getElem?_eq_some_iff.1 hl3).1,hrec,hrec]
  rintro e a3 W3 hp
  cases e with
  | normal =>
   obtain ⟨h3,hkp,hi3⟩:=hp
   obtain ⟨W4,hr,T4,hl4,hk4⟩:=ends none W3 h3
   exact ⟨_,W4,hr,.inl ⟨rfl,⟨hI _ _ _ hi3 T4,hl4,hk4⟩,hKt hpa (hKt (hKT _ _ T2) (hKt hkp (hKT _ _ T4)))⟩⟩
  | ret =>
   obtain ⟨h3,hi3⟩:=hp
   obtain ⟨W4,hr,T4,hl4,hk4⟩:=ends (some .ret) W3 h3
   exact ⟨_,W4,hr,.inr ⟨rfl,.ret,hIx _ _ _ _ hi3 T4,hl4,hk4⟩⟩
  | exit id =>
   obtain ⟨h3,hi3⟩:=hp
   obtain ⟨W4,hr,T4,hl4,hk4⟩:=ends (some (.exit id)) W3 h3
   exact ⟨_,W4,hr,.inr ⟨rfl,.exit id,hIx _ _ _ _ hi3 T4,hl4,hk4⟩⟩
  | goto t =>
   obtain ⟨h3,hi3⟩:=hp
   obtain ⟨W4,hr,T4,hl4,hk4⟩:=ends (some (.goto t)) W3 h3
   exact ⟨_,W4,hr,.inr ⟨rfl,.goto t,hIx _ _ _ _ hi3 T4,hl4,hk4⟩⟩
  | panic ch=>exact hp.elim
  | outgrown=>exact hp.elim
 ·rintro e W2 ⟨⟨v,rfl⟩,h⟩
  rcases h with ⟨hi,hl,hk⟩ | ⟨pre,W3,hpre,⟨c,hi,hl,hk⟩,hbl⟩
  ·have hr:=run_endLoop (P:=P) hl (by rw [hrec];simp)
   rw [hrec] at hr
   refine ⟨none,_,hr,hdone D _ (by omega) (hI _ _ _ hi (turn W2 _ _ hl rfl)) ((other W2 _).trans hk)⟩
  ·have hl':=(hbl.block _ (Array.getElem?_eq_some_iff.1 hl).1).trans hl
   have hk':=(hbl.block _ (Array.getElem?_eq_some_iff.1 hk).1).trans hk
   have hr:=run_endLoop (P:=P) hl' (by rw [hrec];simp)
   rw [hrec] at hr
   refine ⟨some c,_,hr,hstop D c pre _ (by omega) hpre (hIx _ _ _ _ (hIx _ _ _ _ hi (Turn.of_below hbl)) (turn W2 _ _ hl' rfl)) ((other W2 _).trans hk')⟩
/-! ### regions that draw their order,within a round -/
variable {ops:Array Oper} {Q:Exit→Act→World→Prop} {l:Nat}
theorem zi8 {n:Nat} {row:String} {args:Array Value} {w:World} {R:Value→World→Prop} (h:Rows P row args w R):RowsIn Fence.wide n P row args w R :=
 fun c cs _=>let ⟨v,w',r,s⟩:=h c cs;⟨v,w',r,stepsIn_wide.2 s⟩
theorem zck {o:Oper} {a:Act} {w:World} {K:Act→World→Prop} (ho:∀ c,o.op≠.defer c) (h:o.wp P a w K Q):o.wpIn (Fence.wide.inRound l) 0 P a w K Q:=by
 refine ⟨fun _ _=>trivial,?_⟩
 unfold Oper.wp at h
 show o.uponIn (Fence.wide.inRound l) 0 P a K Q ((o.semAt (some l) a.eval).run P w)
 rw [Oper.semAt_some l _ _ ho]
 revert h
 generalize (execOp a.eval o).run P w=r
 intro h
 cases r with
 | ok nx w' =>
  cases nx with
  | value v=>exact h
  | skip=>exact h
  | «defer» d=>exact h
  | enter f args=>exact ⟨fun h=>by simp [Fence.wide] at h,CallsIn.inRound l (callsIn_wide.2 h)⟩
  | row r args=>exact ⟨fun h=>by simp [Fence.wide] at h,zi8 (P:=P) h⟩
  | _=>exact h.elim
 | halt s w' =>
  cases s with
  | panic v=>exact h
  | _=>exact h.elim
theorem zcX {rest:List Oper} {o:Oper} {a:Act} {w:World} (hgd:o.guard=none) (hd:∀ c,o.op≠.defer c) (h:∀ K:Act→World→Prop,(∀ a w,wpListIn (Fence.wide.inRound l) 0 P ops Q rest a w→K a w)→o.wp P a w K Q):wpListIn (Fence.wide.inRound l) 0 P ops Q (o :: rest) a w :=
 wpListIn_plain hgd fun K hK=>zck hd (h K hK)
/-! ### at a function's end -/
def bodyQ (P:Program) (fn:Func) (R:Ending→World→Prop):Exit→Act→World→Prop
 | .normal,a,w=>bodyPostM Fence.wide 0 P fn R .normal a w
 | .ret,a,w=>bodyPostM Fence.wide 0 P fn R .ret a w
 | _,_,_=>False
theorem za6 {fn:Func} {R:Ending→World→Prop} {a:Act} {w:World} {v:Value} {D:Nat} (hd:a.defers=[{ target:=.collected D,args:=#[] }]) (hD:w.heap[D]?=some (.deferred (some [])))
  (hr:(results fn a.tmps).run P (w.putObj D (.deferred none))=.ok v (w.putObj D (.deferred none))) (hR:R (.returned v) (w.putObj D (.deferred none))):bodyQ P fn R .ret a w:=by
 show LeavesInM Fence.wide 0 P fn a.tmps R a.defers .returning w
 rw [hd]
 exact ⟨by simp,.inl ⟨_,_,rfl,run_takeDeferred hD,v,hr,hR⟩⟩
theorem callsM {f:FuncId} {fn:Func} {c:Code} {args:Array Value} {w:World} {R:Ending→World→Prop} (hf:P.funcs[f]?=some fn) (hb:fn.body=some c)
  (h:c.wp P (bodyQ P fn R) { tmps:=args++Array.replicate (fn.ntmps - args.size) undef,defers:=[] } w):Calls P f args w R :=
 (callsIn_wide (n:=0)).1 (callsIn_of_wp_marks hf hb trivial (wpIn_wide.2 (wp_mono h (fun e a w hq=>by
  cases e with
  | normal=>exact hq
  | ret=>exact hq
  | _=>exact hq.elim))))
/-! ### results that lie in boxes of one cell -/
def aggD:TypeDesc→Bool
 | .struct _=>true
 | .array _ _=>true
 | _=>false
theorem zbn {ty:TypeId} {d:TypeDesc} {w:World} {g:Nat} {v:Value} (hu:P.underlying ty=some d) (hd:aggD d=false) (h:w.cell? ⟨g,0,none⟩=some v):(loadVar ty ⟨g,0,none⟩).run P w=.ok v w:=by
 unfold loadVar
 have h1:(isAgg ty).run P w=.ok false w:=by
  unfold isAgg
  simp only [Sem.run_bind,run_underlying hu,Result.andThen_ok,Sem.run_pure]
  cases d <;> simp_all [aggD]
 simp only [Sem.run_bind,h1,Result.andThen_ok]
 simp [run_load,h]
theorem zch {fn:Func} {p q:Tmp} {tp tq:TypeId} (h:fn.results=#[.cell p tp,.cell q tq]) (tmps:Array Value) (w:World) (g g':Nat) {v v':Value} {d d':TypeDesc} (hp:tmps.getD p undef=.pointer (some ⟨g,0,none⟩)) (hg:w.cell? ⟨g,0,none⟩=some v)
  (hq:tmps.getD q undef=.pointer (some ⟨g',0,none⟩)) (hg':w.cell? ⟨g',0,none⟩=some v') (hu:P.underlying tp=some d) (hd:aggD d=false) (hu':P.underlying tq=some d') (hd':aggD d'=false) :
  (results fn tmps).run P w=.ok (.tuple #[v,v']) w:=by
 have hp':tmps[p]?.getD undef=.pointer (some ⟨g,0,none⟩):=by simpa using hp
 have hq':tmps[q]?.getD undef=.pointer (some ⟨g',0,none⟩):=by simpa using hq
 simp [results,h,hp',hq',asAddr,zbn hu hd hg,zbn hu' hd' hg']
end
theorem zhk {l:Nat} {w0:World} {base n size bytes:Nat} {v:Value} {xs:List Value} {t e:TypeId} {i:TypeInfo} {z:Value} {ops:Array Oper} {rest:List Oper} {o:Oper} {a:Act} {Q:Exit→Act→World→Prop} (hgd:o.guard=none) (s x:Operand)
  (ho:o.op=.call { callee:=.builtin .append,args:=#[s,x],argTypes:=#[t,t] }) (hs:a.eval s=v) (hx:a.eval x=.slice (some ⟨w0.heap.size,0,none⟩) 1 1)
  (ht:Tryz.prog.underlying t=some (.slice e)) (hi:Tryz.prog.info? e=some i) (hz:i.zero=some z) (hsize:i.size=size) (hby:i.bytes=bytes) (hzs:z.cells.size=size) (hsz:0<size)
  (ho':w0.ownsRow base e size v n xs) (hb:base≤w0.heap.size) (news:List Value) (hl:news.length=size) (h1:∀ u ∈ news,u.oneCell'=true) (hn:(n+1)*bytes≤140737488355328) (h63:n+1≤maxLen)
  (hk:∀ g cap w',w'.ownsRow base e size (.slice (some ⟨g,0,none⟩) (n+1) cap) (n+1) (xs++news)→Fr (fun k=>v.ownBlock=some k) w0 w'→(v.ownBlock=some g∨w0.heap.size<g)→wpListIn (Fence.wide.inRound l) 0 Tryz.prog ops Q rest (a.put o.dst (.slice (some ⟨g,0,none⟩) (n+1) cap)) w') :
  wpListIn (Fence.wide.inRound l) 0 Tryz.prog ops Q (o :: rest) a (w0.alloc (.cells news.toArray e)) :=
 zcX hgd (by intro c h;rw [ho] at h;cases h) fun K hK=>by
  have hw:Region.wanted o (yielded ops a.tmps)=true:=by simp [Region.wanted,hgd]
  have:=G.step_push (K:=K) (Q:=Q) (ops:=ops) (E:=True) hgd s x ho hs hx ht hi hz hsize hby hzs hsz ho' hb news hl h1 hn h63 (fun g cap w' h2 h3 h4=>hK _ _ (hk g cap w' h2 h3 h4))
  rwa [if_pos hw] at this
theorem zdS {w w':World} {base e size n B:Nat} {v:Value} {xs:List Value} (h:w.ownsRow base e size v n xs) (ht:Turn B w w'):w'.ownsRow base e size v n xs:=by
 refine ⟨h.1,?_⟩
 rcases h.2 with h0 | ⟨g,cap,cur,hv,hb,hg,hr⟩
 ·exact .inl h0
 ·exact .inr ⟨g,cap,cur,hv,hb,ht.block g _ hg (.inr rfl),hr⟩
theorem ziL {w:World} {base e size n:Nat} {v:Value} {xs:List Value} (h:w.ownsRow base e size v n xs):∀ g,v.ownBlock=some g→∃ o:Obj,w.heap[g]?=some o∧o.isCells=true:=by
 intro g hg
 rcases h.2 with ⟨rfl,_⟩ | ⟨g',cap,cur,rfl,hb,hh,_⟩
 ·cases hg
 ·have:g'=g:=by simpa [Value.ownBlock] using hg
  subst this
  exact ⟨_,hh,rfl⟩
end
end Go.Proofs.YtannniobeanhlaaGreat
