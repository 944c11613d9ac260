import Derived.Test.YtannniobeanhlaaGreatZObj
import Derived.Test.YtannniobeanhlaaGreatLift
import Derived.Deep.AppendLies
import Derived.Lib.Hide
set_option linter.unusedSimpArgs false
set_option linter.unusedVariables false
set_option maxRecDepth 100000
set_option maxHeartbeats 9000000
namespace Go.Proofs.YtannniobeanhlaaGreat.G
open Go Go.RowKit
theorem box_set {w:World} {b:Nat} {t:TypeId} {c:Array Value} (h:Blk w b t c) (i:Nat) (v:Value) (c':Array Value) (hc:c.setIfInBounds i v=c') :
  ∃ w',w.setCell ⟨b,i,none⟩ v=w'∧Blk w' b t c'∧Fr (fun k=>k=b) w w'∧w'.heap.size=w.heap.size:=by
 refine ⟨_,rfl,?_,?_,?_⟩
 ·rw [zac h,hc];exact zab (lt_of_block h) _
 ·rw [zac h];exact Fr.setObj (F:=fun k=>k=b) (Fr.refl _ _) rfl _
 ·rw [zac h,zaX]
theorem below_on {W0 w w':World} (h:Below W0.heap.size W0 w) (b:Below w.heap.size w w'):Below W0.heap.size W0 w':=h.trans (b.mono h.size)
section
variable {w w':World} {base size n:Nat} {e:TypeId} {v:Value} {xs:List Value}
theorem own_fr {F:Nat→Prop} (h:w.ownsRow base e size v n xs) (hf:Fr F w w') (hF:∀ g,v.ownBlock=some g→¬ F g):w'.ownsRow base e size v n xs:=by
 refine ⟨h.1,?_⟩
 rcases h.2 with h0 | ⟨g,cap,cur,hv,hb,hg,hr⟩
 ·exact .inl h0
 ·exact .inr ⟨g,cap,cur,hv,hb,(hf.block g (lt_of_block hg) (hF g (by rw [hv];rfl))).trans hg,hr⟩
theorem own_below (h:w.ownsRow base e size v n xs) (hb:Below w.heap.size w w'):w'.ownsRow base e size v n xs:=own_fr (F:=fun _=>False) h (Fr.of_below hb) (fun _ _=>id)
theorem own_base (h:w.ownsRow base e size v n xs):∀ g,v.ownBlock=some g→base≤g:=by
 intro g hg
 rcases h.2 with ⟨rfl,_⟩ | ⟨g',cap,cur,rfl,hb,_⟩
 ·cases hg
 ·have:g'=g:=by simpa [Value.ownBlock] using hg
  omega
theorem own_lt (h:w.ownsRow base e size v n xs):∀ g,v.ownBlock=some g→g<w.heap.size:=by
 intro g hg
 rcases h.2 with ⟨rfl,_⟩ | ⟨g',cap,cur,rfl,hb,hg',_⟩
 ·cases hg
 ·have:g'=g:=by simpa [Value.ownBlock] using hg
  have:=lt_of_block hg'
  omega
theorem own_more {base':Nat} (h:w.ownsRow base e size v n xs) (hb:base'≤base):w.ownsRow base' e size v n xs:=by
 refine ⟨h.1,?_⟩
 rcases h.2 with h0 | ⟨g,cap,cur,hv,hg,hr⟩
 ·exact .inl h0
 ·exact .inr ⟨g,cap,cur,hv,Nat.le_trans hb hg,hr⟩
theorem own_at (h:w.ownsRow base e size v n xs):∃ A c,v=.slice A n c∧n≤c∧c≤maxLen∧(0<n→∃ g,A=some ⟨g,0,none⟩∧v.ownBlock=some g∧base≤g∧g<w.heap.size∧(∀ i,i<n*size→w.cell? ⟨g,i,none⟩=xs[i]?)∧∀ i,w.frozen? ⟨g,i,none⟩=false):=by
 rcases h.2 with ⟨rfl,h0⟩ | ⟨g,cap,cur,rfl,hb,hg,hnc,hcm,hcs,htake⟩
 ·exact ⟨none,0,by rw [h0],by omega,by unfold maxLen;omega,fun h=>absurd h (by omega)⟩
 ·exact ⟨_,_,rfl,hnc,hcm,fun h0=>⟨g,rfl,rfl,hb,lt_of_block hg,fun i hi=>h.cellAt i hi,fun i=>zcm hg⟩⟩
end
theorem fr_row {w w':World} {row:Option Nat} (hg:w.grownBy w' row):Fr (fun k=>row=some k) w w':=⟨hg.os,hg.tape,hg.output,hg.size,fun k hk hF=>hg.block k hk (fun e=>hF e.symm)⟩
section
variable {w0:World} {base n size bytes:Nat} {v:Value} {xs:List Value} {t e:TypeId} {i:TypeInfo} {z:Value}
theorem wpList_push {ops:Array Oper} {rest:List Oper} {o:Oper} {a:Act} {Q:Exit→Act→World→Prop} (hgd:o.guard=none) (s x:Operand)
  (ho:o.op=.call { callee:=.builtin .append,args:=#[s,x],argTypes:=#[t,t] }) (hs:a.eval s=v) (hx:a.eval x=.slice (some ⟨w0.heap.size,0,none⟩) 1 1)
  (ht:Tryz.prog.underlying t=some (.slice e)) (hi:Tryz.prog.info? e=some i) (hz:i.zero=some z) (hsize:i.size=size) (hby:i.bytes=bytes) (hzs:z.cells.size=size) (hsz:0<size)
  (ho':w0.ownsRow base e size v n xs) (hb:base≤w0.heap.size) (news:List Value) (hl:news.length=size) (h1:∀ u ∈ news,u.oneCell'=true) (hn:(n+1)*bytes≤140737488355328) (h63:n+1≤maxLen)
  (hk:∀ g cap w',w'.ownsRow base e size (.slice (some ⟨g,0,none⟩) (n+1) cap) (n+1) (xs++news)→Fr (fun k=>v.ownBlock=some k) w0 w'→(v.ownBlock=some g∨w0.heap.size<g)→wpList Tryz.prog ops Q rest (a.put o.dst (.slice (some ⟨g,0,none⟩) (n+1) cap)) w'):wpList Tryz.prog ops Q (o :: rest) a (w0.alloc (.cells news.toArray e)):=by
 refine wpList_append_lies _ hgd s x t ho base e i z size bytes ht hi hz hsize hby hzs hsz v n xs hs (ho'.alloc _) ⟨w0.heap.size,0,none⟩ 1 1 news hx (by omega) ?_ h1 (by omega) h63 hn (by simp;omega) (w0.heap.size+1) (by simp) ?_
 ·have:=World.news_of_block (heap_alloc_new w0 (.cells news.toArray e))
  simpa using this
 ·intro g cap w9 hown hgrow hat hlt
  refine hk g cap w9 hown ?_ (by rcases hat with h | h;exact .inl h;right;omega)
  exact (Fr.refl _ _).alloc _ |>.trans (fr_row hgrow)
theorem step_push {ops:Array Oper} {o:Oper} {a:Act} {K:Act→World→Prop} {Q:Exit→Act→World→Prop} {E:Prop} (hgd:o.guard=none) (s x:Operand)
  (ho:o.op=.call { callee:=.builtin .append,args:=#[s,x],argTypes:=#[t,t] }) (hs:a.eval s=v) (hx:a.eval x=.slice (some ⟨w0.heap.size,0,none⟩) 1 1)
  (ht:Tryz.prog.underlying t=some (.slice e)) (hi:Tryz.prog.info? e=some i) (hz:i.zero=some z) (hsize:i.size=size) (hby:i.bytes=bytes) (hzs:z.cells.size=size) (hsz:0<size)
  (ho':w0.ownsRow base e size v n xs) (hb:base≤w0.heap.size) (news:List Value) (hl:news.length=size) (h1:∀ u ∈ news,u.oneCell'=true) (hn:(n+1)*bytes≤140737488355328) (h63:n+1≤maxLen)
  (hk:∀ g cap w',w'.ownsRow base e size (.slice (some ⟨g,0,none⟩) (n+1) cap) (n+1) (xs++news)→Fr (fun k=>v.ownBlock=some k) w0 w'→(v.ownBlock=some g∨w0.heap.size<g)→K (a.put o.dst (.slice (some ⟨g,0,none⟩) (n+1) cap)) w'):if Region.wanted o (yielded ops a.tmps)=true then Oper.wp Tryz.prog o a (w0.alloc (.cells news.toArray e)) K Q else E:=by
 refine step_append_lies _ hgd s x t ho base e i z size bytes ht hi hz hsize hby hzs hsz v n xs hs (ho'.alloc _) ⟨w0.heap.size,0,none⟩ 1 1 news hx (by omega) ?_ h1 (by omega) h63 hn (by simp;omega) (w0.heap.size+1) (by simp) ?_
 ·have:=World.news_of_block (heap_alloc_new w0 (.cells news.toArray e))
  simpa using this
 ·intro g cap w9 hown hgrow hat hlt
  refine hk g cap w9 hown ?_ (by rcases hat with h | h;exact .inl h;right;omega)
  exact (Fr.refl _ _).alloc _ |>.trans (fr_row hgrow)
end
theorem make_one {P:Program} {t e:TypeId} {i:TypeInfo} {z:Value} {B:Nat} (ht:P.underlying t=some (.slice e)) (hi:P.info? e=some i) (hz:i.zero=some z) (hc:z.cells=#[z]) (hs:i.size=1) (hb:i.bytes=B) (n:Nat) (hn:B*n≤281474976710656) (hn2:n≤281474976710656) (w:World) :
  (Instr.makeSlice t (.int .i64 (n:Int)) (.int .i64 (n:Int))).run P w=.ok (.slice (some ⟨w.heap.size,0,none⟩) n n) (w.alloc (.cells (List.replicate n z).toArray e)):=by
 have:=run_make w t e i z ht hi hz .i64 .i64 (n:Int) (n:Int) (by omega) (by omega) (by rw [hb];have h2:((B*n:Nat):Int)=(B:Int)*(n:Int):=Int.natCast_mul B n;omega) (by omega)
 rw [this,hs]
 simp only [Int.toNat_natCast,Nat.mul_one]
 have e1:madeCells z.cells n=(List.replicate n z).toArray:=by
  apply Array.ext'
  rw [hc,toList_madeCells_one]
 rw [e1]
theorem i64_mask1 (n:Int):bits .and .i64 n 1=n % 2:=by
 have hm:(BitVec.ofInt 64 1).toNat=2 ^ 1 - 1:=by decide
 have key:(BitVec.ofInt 64 n &&& BitVec.ofInt 64 1).toNat=(n % ((2 ^ 64:Nat):Int)).toNat % 2 ^ 1:=by
  rw [BitVec.toNat_and,BitVec.toNat_ofInt,hm,Nat.and_two_pow_sub_one_eq_mod]
 show IntKind.i64.wrap ((BitVec.ofInt 64 n &&& BitVec.ofInt 64 1).toNat:Nat)=n % 2
 rw [key,IntKind.wrap_i64]
 omega
end Go.Proofs.YtannniobeanhlaaGreat.G
namespace Go.Proofs.YtannniobeanhlaaGreat
open Go Go.RowKit
def OwR {α:Type} (w:World) (base:Nat) (e:TypeId) (m:Nat) (enc:α→List Value) (v:Value) (L:List α):Prop:=w.ownsRow base e m v L.length (rws enc L)
section
variable {α:Type} {w w':World} {base m:Nat} {e:TypeId} {enc:α→List Value} {v:Value} {L:List α}
theorem OwR.nil:OwR w base e m enc (.slice none 0 0) ([]:List α):=World.ownsRow_nil _ _ _ _
theorem OwR.fr {F:Nat→Prop} (h:OwR w base e m enc v L) (hf:Fr F w w') (hF:∀ g,v.ownBlock=some g→¬ F g):OwR w' base e m enc v L:=G.own_fr h hf hF
theorem OwR.keep (h:OwR w base e m enc v L) (hb:Below w.heap.size w w'):OwR w' base e m enc v L:=G.own_below h hb
theorem OwR.base_le (h:OwR w base e m enc v L):∀ g,v.ownBlock=some g→base≤g:=G.own_base h
theorem OwR.lt (h:OwR w base e m enc v L):∀ g,v.ownBlock=some g→g<w.heap.size:=G.own_lt h
theorem OwR.slice (h:OwR w base e m enc v L):∃ A c,v=.slice A L.length c∧L.length≤c∧c≤maxLen∧(0<L.length→∃ g,A=some ⟨g,0,none⟩∧base≤g∧g<w.heap.size):=by
 obtain ⟨A,c,hv,h1,h2,h3⟩:=G.own_at h
 exact ⟨A,c,hv,h1,h2,fun h0=>by obtain ⟨g,e1,_,e2,e3,_⟩:=h3 h0;exact ⟨g,e1,e2,e3⟩⟩
theorem OwR.cell (he:∀ a,(enc a).length=m) {g c n:Nat} (h:OwR w base e m enc (.slice (some ⟨g,0,none⟩) n c) L) {i:Nat} {a:α} (hi:L[i]?=some a) {j:Nat} (hj:j<m):w.cell? ⟨g,i*m+j,none⟩=(enc a)[j]?:=by
 have hil:=(zgs.1 hi).1
 obtain ⟨A,c',hv,h1,h2,h3⟩:=G.own_at h
 injection hv with hv1 hv2 hv3
 obtain ⟨g',e1,_,e2,e3,h4,h5⟩:=h3 (by omega)
 rw [← hv1] at e1
 injection e1 with e1
 injection e1 with e1
 subst e1
 have hlt:i*m+j<L.length*m:=by
  have:(i+1)*m≤L.length*m:=Nat.mul_le_mul_right _ hil
  rw [Nat.succ_mul] at this
  omega
 rw [h4 _ hlt]
 exact zaR he L i j a hi hj
end
theorem wpList_push {α:Type} {enc:α→List Value} {w0:World} {base m bytes:Nat} {v:Value} {L:List α} {t e:TypeId} {i:TypeInfo} {z:Value} {ops:Array Oper} {rest:List Oper} {o:Oper} {a:Act} {Q:Exit→Act→World→Prop} (hgd:o.guard=none) (s x:Operand)
  (ho:o.op=.call { callee:=.builtin .append,args:=#[s,x],argTypes:=#[t,t] }) (hs:a.eval s=v) (hx:a.eval x=.slice (some ⟨w0.heap.size,0,none⟩) 1 1)
  (ht:Tryz.prog.underlying t=some (.slice e)) (hi:Tryz.prog.info? e=some i) (hz:i.zero=some z) (hsize:i.size=m) (hby:i.bytes=bytes) (hzs:z.cells.size=m) (hsz:0<m)
  (ho':OwR w0 base e m enc v L) (hb:base≤w0.heap.size) (y:α) (hl:∀ a,(enc a).length=m) (h1:∀ u ∈ enc y,u.oneCell'=true) (hn:(L.length+1)*bytes≤140737488355328) (h63:L.length+1≤maxLen)
  (hk:∀ g cap w',OwR w' base e m enc (.slice (some ⟨g,0,none⟩) (L.length+1) cap) (L++[y])→Fr (fun k=>v.ownBlock=some k) w0 w'→(v.ownBlock=some g∨w0.heap.size<g)→wpList Tryz.prog ops Q rest (a.put o.dst (.slice (some ⟨g,0,none⟩) (L.length+1) cap)) w') :
  wpList Tryz.prog ops Q (o :: rest) a (w0.alloc (.cells (enc y).toArray e)):=by
 have hly:=hl y
 refine wpList_append_lies _ hgd s x t ho base e i z m bytes ht hi hz hsize hby hzs hsz v L.length (rws enc L) hs (World.ownsRow.alloc ho' _) ⟨w0.heap.size,0,none⟩ 1 1 (enc y) hx (by omega) ?_ h1 (by omega) h63 hn (by simp;omega) (w0.heap.size+1) (by simp) ?_
 ·have:=World.news_of_block (heap_alloc_new w0 (.cells (enc y).toArray e))
  simpa using this
 ·intro g cap w9 hown hgrow hat hlt
  have hrow:OwR w9 base e m enc (.slice (some ⟨g,0,none⟩) (L.length+1) cap) (L++[y]):=by
   unfold OwR
   rw [zfB,List.length_append,List.length_singleton]
   have:rws enc [y]=enc y:=by simp [rws]
   rw [this]
   exact hown
  refine hk g cap w9 hrow ?_ (by rcases hat with h | h;exact .inl h;right;omega)
  exact (Fr.refl _ _).alloc _ |>.trans (G.fr_row hgrow)
end Go.Proofs.YtannniobeanhlaaGreat
