import Derived.Test.YtannniobeanhlaaGreatNum
import Derived.Deep.AppendLies
set_option linter.unusedSimpArgs false
set_option linter.unusedVariables false
set_option maxRecDepth 100000
set_option maxHeartbeats 9000000
namespace Go.Proofs.YtannniobeanhlaaGreat
open Go.RowKit
section
open Go
theorem zb0:(Tryz.prog.info? 5).map (fun i=>(i.zero,i.size,i.bytes))=some (some (.int .u8 0),1,1):=by kernel_rfl
abbrev byC (arr:List Int):Array Value:=(arr.map (Value.int .u8)).toArray
theorem zdx (arr:List Int) (i:Nat) (h:i<arr.length):(byC arr)[i]?=some (.int .u8 (arr.getD i 0)):=by
 unfold byC
 rw [List.getElem?_toArray,List.getElem?_map,zge h]
 simp [List.getD,h]
theorem zdy (l:List Int) (i:Nat) (v:Int):(byC l).setIfInBounds i (.int .u8 v)=byC (l.set i v):=by
 unfold byC;simp only [List.map_set,zs1]
def Own (w:World) (base:Nat) (v:Value) (xs:List Int):Prop:=w.ownsRow base 5 1 v xs.length (xs.map (Value.int .u8))
theorem zb6 (w:World) (base:Nat):Own w base (.slice none 0 0) []:=World.ownsRow_nil _ _ _ _
theorem Own.lt {w:World} {base:Nat} {v:Value} {xs:List Int} (h:Own w base v xs):∀ g,v.ownBlock=some g→base≤g∧g<w.heap.size:=by
 intro g hg
 rcases h.2 with ⟨rfl,_⟩ | ⟨g',cap,cur,rfl,hb,hh,_⟩
 ·cases hg
 ·have:g'=g:=by simpa [Value.ownBlock] using hg
  subst this
  exact ⟨hb,lt_of_block hh⟩
theorem Own.fr {w w':World} {F:Nat→Prop} {base:Nat} {v:Value} {xs:List Int} (h:Own w base v xs) (hf:Fr F w w') (hF:∀ g,v.ownBlock=some g→¬ F g):Own w' base v xs:=by
 refine ⟨h.1,?_⟩
 rcases h.2 with h0 | ⟨g,cap,cur,hv,hb,hg,hr⟩
 ·exact .inl h0
 ·exact .inr ⟨g,cap,cur,hv,hb,(hf.block g (lt_of_block hg) (hF g (by rw [hv];rfl))).trans hg,hr⟩
theorem Own.below {w w':World} {base:Nat} {v:Value} {xs:List Int} (h:Own w base v xs) (hb:Below w.heap.size w w'):Own w' base v xs:=h.fr (F:=fun _=>False) (Fr.of_below hb) (fun _ _=>id)
theorem Own.more {w:World} {base base':Nat} {v:Value} {xs:List Int} (h:Own w base v xs) (hb:base'≤base):Own w base' v xs:=by
 refine ⟨h.1,?_⟩
 rcases h.2 with h0 | ⟨g,cap,cur,hv,hg,hr⟩
 ·exact .inl h0
 ·exact .inr ⟨g,cap,cur,hv,Nat.le_trans hb hg,hr⟩
theorem fr_row {w w':World} {row:Option Nat} (hg:w.grownBy w' row):Fr (fun k=>row=some k) w w':=⟨hg.os,hg.tape,hg.output,hg.size,fun k hk hF=>hg.block k hk (fun e=>hF e.symm)⟩
theorem Own.rd {w:World} {base:Nat} {v:Value} {zs:List Int} (h:Own w base v zs) (hb:∀ z ∈ zs,0≤z∧z≤255):∃ A c,v=.slice A zs.length c∧RdI w .u8 A zs.length c zs∧(0<zs.length→∃ g,A=some ⟨g,0,none⟩∧v.ownBlock=some g):=by
 rcases h.2 with ⟨rfl,h0⟩ | ⟨g,cap,cur,rfl,hbg,hg,hnc,hcm,hcs,htake⟩
 ·have hz:zs=[]:=by simpa using h0
  subst hz
  exact ⟨none,0,rfl,⟨rfl,Nat.le_refl _,by unfold maxLen;simp,fun h=>absurd h (by simp),fun z hz=>zbK (hb z hz)⟩,fun h=>absurd h (by simp)⟩
 ·refine ⟨_,_,rfl,⟨rfl,hnc,hcm,fun h0=>⟨g,0,rfl,lt_of_block hg,fun i hi=>?_⟩,fun z hz=>zbK (hb z hz)⟩,fun _=>⟨g,rfl,rfl⟩⟩
  rw [Nat.zero_add,World.ownsRow.cellAt h i (by simpa using hi)]
  simp [List.getD,hi]
section
variable {w:World} {base:Nat} {v:Value} {xs zs:List Int} {A:Option Addr} {n c:Nat}
theorem zkv (hown:Own w base v xs) (h:RdI w .u8 A n c zs) (hb:xs.length+n≤1000000000) (hbase:base≤w.heap.size) (ty:TypeId) (c':Nat) :
  ∃ v' w',(Builtin.append_ #[40,40] ty #[v,.slice A n c']).run Tryz.prog w=.ok v' w'∧Own w' base v' (xs++zs)∧w.grownBy w' v.ownBlock:=by
 obtain ⟨i0,hi0,hz0,hz1,hz2⟩:=info_parts zb0
 have ht:Tryz.prog.underlying 40=some (.slice 5):=by rfl
 have hl:=h.len
 rcases A with _ | ad
 ·have hn:n=0:=by
   rcases Nat.eq_zero_or_pos n with h0 | h0
   ·exact h0
   ·obtain ⟨_,_,e,_⟩:=h.at_ h0
    cases e
  subst hn
  have hzs:zs=[]:=List.length_eq_zero_iff.1 hl
  subst hzs
  refine ⟨v,w,?_,by simpa using hown,World.grownBy.refl w _⟩
  rcases hown.2 with ⟨rfl,_⟩ | ⟨g,cap,cur,rfl,_,_,hnc,_⟩
  ·simp [Builtin.append_,run_underlying ht,sizeOf,typeInfo,hi0,Builtin.lenOf,Builtin.firstCells]
  ·simp [Builtin.append_,run_underlying ht,sizeOf,typeInfo,hi0,Builtin.lenOf,Builtin.firstCells,hnc,storeCells]
 ·have hcells:∀ j u,(zs.map (Value.int .u8))[j]?=some u→w.cell? (ad.add j)=some u:=by
   intro j u hj
   have hjn:j<n:=by
    rcases Nat.lt_or_ge j n with h | h
    ·exact h
    ·rw [List.getElem?_eq_none (by rw [List.length_map];omega)] at hj;cases hj
   obtain ⟨b,off,e,hlt,hcs⟩:=h.at_ (by omega)
   cases e
   have e:((⟨b,off,none⟩:Addr).add j)=⟨b,off+j,none⟩:=by simp [Addr.add]
   rw [e,hcs j hjn,← hj,List.getElem?_map]
   simp [List.getD,show j<zs.length by omega]
  obtain ⟨v',w',hrun,h2,h3,_⟩:=run_append_own_at (P:=Tryz.prog) w base 40 ty 5 i0 (.int .u8 0) 1 1 ht hi0 hz0 hz1 hz2 rfl (by omega) v xs.length (xs.map (Value.int .u8)) hown ad n c' (zs.map (Value.int .u8)) (by rw [List.length_map];omega) hcells
    (fun u hu=>by obtain ⟨z,_,rfl⟩:=List.mem_map.1 hu;rfl) (by unfold maxLen;omega) (by omega) hbase
  refine ⟨v',w',hrun,?_,h3⟩
  unfold Own
  rw [List.length_append,List.map_append,hl]
  exact h2
theorem zmf {o:Oper} {a:Act} {K:Act→World→Prop} {Q:Exit→Act→World→Prop} (s x:Operand) (c':Nat)
  (ho:o.op=.call { callee:=.builtin .append,args:=#[s,x],argTypes:=#[40,40] }) (hs:a.eval s=v) (hx:a.eval x=.slice A n c')
  (hown:Own w base v xs) (h:RdI w .u8 A n c zs) (hb:xs.length+n≤1000000000) (hbase:base≤w.heap.size)
  (hk:∀ v' w',Own w' base v' (xs++zs)→w.grownBy w' v.ownBlock→K (a.put o.dst v') w'):o.wp Tryz.prog a w K Q:=by
 obtain ⟨v',w',hrun,h2,h3⟩:=zkv hown h hb hbase o.type c'
 unfold Oper.wp execOp
 simp only [ho,resolve,invoke,builtin,Sem.run_bind,Sem.run_pure,Result.andThen_ok,List.map_toArray,List.map_cons,List.map_nil,hs,hx,hrun]
 exact hk v' w' h2 h3
theorem zaF {ops:Array Oper} {rest:List Oper} {o:Oper} {a:Act} {Q:Exit→Act→World→Prop} (hgd:o.guard=none) (s x:Operand) (c':Nat)
  (ho:o.op=.call { callee:=.builtin .append,args:=#[s,x],argTypes:=#[40,40] }) (hs:a.eval s=v) (hx:a.eval x=.slice A n c')
  (hown:Own w base v xs) (h:RdI w .u8 A n c zs) (hb:xs.length+n≤1000000000) (hbase:base≤w.heap.size)
  (hk:∀ v' w',Own w' base v' (xs++zs)→w.grownBy w' v.ownBlock→wpList Tryz.prog ops Q rest (a.put o.dst v') w'):wpList Tryz.prog ops Q (o :: rest) a w :=
 wpList_plain hgd fun _ hK=>zmf s x c' ho hs hx hown h hb hbase fun v' w' h2 h3=>hK _ _ (hk v' w' h2 h3)
theorem zcU {ops:Array Oper} {rest:List Oper} {o:Oper} {a:Act} {Q:Exit→Act→World→Prop} (hgd:o.guard=none) (sl x:Operand)
  (ho:o.op=.call { callee:=.builtin .append,args:=#[sl,x],argTypes:=#[40,9] }) (hs:a.eval sl=v) (s:ByteArray) (hx:a.eval x=.string s)
  (hown:Own w base v xs) (hb:xs.length+s.size≤1000000000) (hbase:base≤w.heap.size)
  (hk:∀ v' w',Own w' base v' (xs++numsC s)→w.grownBy w' v.ownBlock→wpList Tryz.prog ops Q rest (a.put o.dst v') w'):wpList Tryz.prog ops Q (o :: rest) a w:=by
 obtain ⟨i0,hi0,hz0,hz1,hz2⟩:=info_parts zb0
 refine Go.Lib.wpList_append_own_string w hgd sl x 40 9 ho base 5 i0 (by rfl) (by rfl) hi0 hz0 hz1 hz2 v xs.length (xs.map (Value.int .u8)) hs hown s hx (by unfold maxLen;omega) (by omega) hbase ?_
 intro v' w' h2 h3 _
 refine hk v' w' ?_ h3
 unfold Own
 rw [List.length_append,List.map_append,zaC,← zdY]
 exact h2
end
end
section
open Go
section
variable {w:World} {base:Nat} {v:Value} {xs zs:List Int} {A:Option Addr} {n c:Nat}
theorem zkw (hown:Own w base v xs) (hxb:∀ z ∈ xs,0≤z∧z≤255) (h:RdI w .u8 A n c zs) (hb:xs.length+n≤1000000000) (hbase:base≤w.heap.size) (ty:TypeId) (c':Nat) :
  ∃ v' w',(Builtin.append_ #[40,40] ty #[v,.slice A n c']).run Tryz.prog w=.ok v' w'∧Own w' base v' (xs++zs)∧w.grownBy w' v.ownBlock∧(∃ A0 c0,v=.slice A0 xs.length c0∧RdI w' .u8 A0 xs.length c0 xs)∧(v'.ownBlock=v.ownBlock∨v'.ownBlock=some w.heap.size):=by
 obtain ⟨i0,hi0,hz0,hz1,hz2⟩:=info_parts zb0
 have ht:Tryz.prog.underlying 40=some (.slice 5):=by rfl
 have hl:=h.len
 have hrd:∀ wx,Own wx base v xs→∃ A0 c0,v=.slice A0 xs.length c0∧RdI wx .u8 A0 xs.length c0 xs:=fun wx hw=>by
  obtain ⟨A0,c0,e1,e2,_⟩:=hw.rd hxb
  exact ⟨A0,c0,e1,e2⟩
 rcases A with _ | ad
 ·have hn:n=0:=by
   rcases Nat.eq_zero_or_pos n with h0 | h0
   ·exact h0
   ·obtain ⟨_,_,e,_⟩:=h.at_ h0
    cases e
  subst hn
  have hzs:zs=[]:=List.length_eq_zero_iff.1 hl
  subst hzs
  refine ⟨v,w,?_,by simpa using hown,World.grownBy.refl w _,hrd w hown,Or.inl rfl⟩
  rcases hown.2 with ⟨rfl,_⟩ | ⟨g,cap,cur,rfl,_,_,hnc,_⟩
  ·simp [Builtin.append_,run_underlying ht,sizeOf,typeInfo,hi0,Builtin.lenOf,Builtin.firstCells]
  ·simp [Builtin.append_,run_underlying ht,sizeOf,typeInfo,hi0,Builtin.lenOf,Builtin.firstCells,hnc,storeCells]
 ·have hcells:∀ j u,(zs.map (Value.int .u8))[j]?=some u→w.cell? (ad.add j)=some u:=by
   intro j u hj
   have hjn:j<n:=by
    rcases Nat.lt_or_ge j n with h | h
    ·exact h
    ·rw [List.getElem?_eq_none (by rw [List.length_map];omega)] at hj;cases hj
   obtain ⟨b,off,e,hlt,hcs⟩:=h.at_ (by omega)
   cases e
   have e:((⟨b,off,none⟩:Addr).add j)=⟨b,off+j,none⟩:=by simp [Addr.add]
   rw [e,hcs j hjn,← hj,List.getElem?_map]
   simp [List.getD,show j<zs.length by omega]
  have h1c:∀ u ∈ zs.map (Value.int .u8),u.oneCell'=true:=fun u hu=>by obtain ⟨z,_,rfl⟩:=List.mem_map.1 hu;rfl
  have hlz:(zs.map (Value.int .u8)).length=n*i0.size:=by rw [List.length_map,hz1];omega
  obtain ⟨v',w',hrun,h2,h3,_,h5⟩:=run_append_own_at (P:=Tryz.prog) w base 40 ty 5 i0 (.int .u8 0) 1 1 ht hi0 hz0 hz1 hz2 rfl (by omega) v xs.length (xs.map (Value.int .u8)) hown ad n c' (zs.map (Value.int .u8)) (by rw [List.length_map];omega) hcells h1c (by unfold maxLen;omega) (by omega) hbase
  have h2':Own w' base v' (xs++zs):=by
   unfold Own
   rw [List.length_append,List.map_append,hl]
   exact h2
  refine ⟨v',w',hrun,h2',h3,?_,h5⟩
  rcases hown.2 with ⟨rfl,h0⟩ | ⟨g,cap,cur,rfl,hbg,hg,hnc,hcm,hcs,htake⟩
  ·have hz:xs=[]:=List.length_eq_zero_iff.1 h0
   subst hz
   exact ⟨none,0,rfl,⟨rfl,Nat.le_refl _,by unfold maxLen;simp,fun h=>absurd h (by simp),fun z hz=>by cases hz⟩⟩
  ·by_cases hroom:xs.length+n≤cap
   ·have hr:=run_append_room (P:=Tryz.prog) w 40 ty 5 i0 ht hi0 g xs.length cap cur hg ad n c' (zs.map (Value.int .u8)) hlz hcells h1c hroom (by rw [hz1,hcs,List.length_map];omega)
    have e:=hrun.symm.trans hr
    rw [Result.ok.injEq] at e
    have ev:=e.1
    subst ev
    have hlt:g<w'.heap.size:=(h2'.lt g rfl).2
    refine ⟨_,_,rfl,⟨rfl,hnc,hcm,fun h0=>⟨g,0,rfl,hlt,fun i hi=>?_⟩,fun z hz=>zbK (hxb z hz)⟩⟩
    rw [Nat.zero_add,World.ownsRow.cellAt h2 i (by omega)]
    have hi':i<(xs.map (Value.int .u8)).length:=by rw [List.length_map];exact hi
    simp [List.getD,hi,List.getElem?_append_left hi']
   ·have holds:∀ j u,(xs.map (Value.int .u8))[j]?=some u→w.cell? ((⟨g,0,none⟩:Addr).add j)=some u:=hown.cells (g:=g) rfl
    have hr:=run_append_grow (P:=Tryz.prog) w 40 ty 5 i0 (.int .u8 0) ht hi0 hz0 ⟨g,0,none⟩ xs.length cap (xs.map (Value.int .u8)) (by rw [List.length_map,hz1];omega) holds ad n c' (zs.map (Value.int .u8)) hlz hcells (by omega) (by omega) (growslice_fits (by omega) (by rw [hz2];omega))
    have e:=hrun.symm.trans hr
    rw [Result.ok.injEq] at e
    have hf:Fr (fun _=>False) w w':=by
     rw [e.2]
     exact ((Fr.refl _ w).drew).alloc _
    exact hrd w' (hown.fr hf (fun _ _=>id))
theorem zmg {o:Oper} {a:Act} {K:Act→World→Prop} {Q:Exit→Act→World→Prop} (s x:Operand) (c':Nat)
  (ho:o.op=.call { callee:=.builtin .append,args:=#[s,x],argTypes:=#[40,40] }) (hs:a.eval s=v) (hx:a.eval x=.slice A n c')
  (hown:Own w base v xs) (hxb:∀ z ∈ xs,0≤z∧z≤255) (h:RdI w .u8 A n c zs) (hb:xs.length+n≤1000000000) (hbase:base≤w.heap.size)
  (hk:∀ v' w',Own w' base v' (xs++zs)→w.grownBy w' v.ownBlock→(∃ A0 c0,v=.slice A0 xs.length c0∧RdI w' .u8 A0 xs.length c0 xs)→(v'.ownBlock=v.ownBlock∨v'.ownBlock=some w.heap.size)→K (a.put o.dst v') w'):o.wp Tryz.prog a w K Q:=by
 obtain ⟨v',w',hrun,h2,h3,h4,h5⟩:=zkw hown hxb h hb hbase o.type c'
 unfold Oper.wp execOp
 simp only [ho,resolve,invoke,builtin,Sem.run_bind,Sem.run_pure,Result.andThen_ok,List.map_toArray,List.map_cons,List.map_nil,hs,hx,hrun]
 exact hk v' w' h2 h3 h4 h5
theorem zbW {ops:Array Oper} {o:Oper} {a:Act} {K:Act→World→Prop} {Q:Exit→Act→World→Prop} {E:Prop} (hgd:o.guard=none) (s x:Operand) (c':Nat)
  (ho:o.op=.call { callee:=.builtin .append,args:=#[s,x],argTypes:=#[40,40] }) (hs:a.eval s=v) (hx:a.eval x=.slice A n c')
  (hown:Own w base v xs) (hxb:∀ z ∈ xs,0≤z∧z≤255) (h:RdI w .u8 A n c zs) (hb:xs.length+n≤1000000000) (hbase:base≤w.heap.size)
  (hk:∀ v' w',Own w' base v' (xs++zs)→w.grownBy w' v.ownBlock→(∃ A0 c0,v=.slice A0 xs.length c0∧RdI w' .u8 A0 xs.length c0 xs)→(v'.ownBlock=v.ownBlock∨v'.ownBlock=some w.heap.size)→K (a.put o.dst v') w') :
  if Region.wanted o (yielded ops a.tmps)=true then Oper.wp Tryz.prog o a w K Q else E:=by
 have hw:Region.wanted o (yielded ops a.tmps)=true:=by simp [Region.wanted,hgd]
 rw [if_pos hw]
 exact zmg s x c' ho hs hx hown hxb h hb hbase hk
end
end
end Go.Proofs.YtannniobeanhlaaGreat
