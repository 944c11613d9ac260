import Derived.Test.YtannniobeanhlaaGreatCell
import Derived.StillTailTactics
import Derived.Laws.CopyOwn
import Derived.Test.YtannniobeanhlaaGreatBits
set_option linter.unusedSimpArgs false
set_option linter.unusedVariables false
set_option maxRecDepth 100000
set_option maxHeartbeats 9000000
namespace Go.Proofs.YtannniobeanhlaaGreat
open Go.ChangeShapes Go.WideShapes Go.ChangeAt Go.RowKit
section
open Ar (inR)
theorem zhG (w:World) (A B:Array Value) (tA tB:TypeId):∃ w2,(w.alloc (.cells A tA)).alloc (.cells B tB)=w2∧w2.heap[w.heap.size]?=some (.cells A tA (0,0))∧w2.heap[w.heap.size+1]?=some (.cells B tB (0,0))∧Below w.heap.size w w2:=by
 have h0:=heap_alloc_new w (.cells A tA)
 have b1:Below w.heap.size w (w.alloc (.cells A tA)):=(Below.refl _ _).alloc (Nat.le_refl _) _
 have hs:(w.alloc (.cells A tA)).heap.size=w.heap.size+1:=by simp
 generalize w.alloc (.cells A tA)=w1 at *
 have h1:=heap_alloc_new w1 (.cells B tB)
 have b2:Below w1.heap.size w1 (w1.alloc (.cells B tB)):=(Below.refl _ _).alloc (Nat.le_refl _) _
 have hlt:w.heap.size<w1.heap.size:=by omega
 rw [← b2.block _ hlt] at h0
 rw [hs] at h1
 exact ⟨_,rfl,h0,h1,zao b1 b2⟩
theorem zfl (now carry:Int) (w:World) :
  Calls Tryz.prog 235 #[.int .i64 now,.int .i64 carry] w fun e w'=>e=.returned (cv now now carry 0)∧Below w.heap.size w w':=by
 go_enter Tryz.func235,Tryz.ntmps235
 go_wp2
 (try simp only [Exit.inBlock,Exit.then])
 refine bodyPost_ret (results_cell_row rfl _ _ w.heap.size _ _ (0,0) _ rfl (heap_alloc_new w _) Tryz.underlying105 rfl (by kernel_rfl)) rfl ?_
 exact ⟨rfl,(Below.refl _ _).alloc (Nat.le_refl _) _⟩
def waitZ (F S C D U W B L now cost:Int):Int :=
 (if max now (F - (B - cost)*U)<clamp (S+W)∧restZ C D L<cost then clamp (S+W) else max now (F - (B - cost)*U)) - now
theorem zkG (F S C D U W B L now cost:Int) (hS:inR S) (hC:inR C) (hD:inR D) (hW:inR W) (hL:inR L) (hnow:inR now)
  (hn:inR (-clamp (C+D))) (h1:inR (B - cost)) (h2:inR ((B - cost)*U)) (h3:inR (F - (B - cost)*U)) (h4:inR (waitZ F S C D U W B L now cost)) (w:World) :
  Calls Tryz.prog 224 #[cv F S C D,pv U W B L,.int .i64 now,.int .i64 cost] w fun e w'=>e=.returned (.int .i64 (waitZ F S C D U W B L now cost))∧Below w.heap.size w w':=by
 obtain ⟨k,hk⟩:=zeq (B - cost)
 have e0:IntKind.i64.wrap (B - cost)=k:=by rw [IntKind.wrap_i64];unfold inR at h1;omega
 rw [← hk] at h2 h3
 obtain ⟨p,hp⟩:=zeq (k*U)
 have e1:IntKind.i64.wrap (k*U)=p:=by rw [← hp] at h2;rw [IntKind.wrap_i64,← hp];unfold inR at h2;omega
 rw [← hp] at h3
 obtain ⟨v,hv⟩:=zeq (F - p)
 have e2:IntKind.i64.wrap (F - p)=v:=by rw [IntKind.wrap_i64];unfold inR at h3;omega
 obtain ⟨rd,hrd⟩:=zeq (max now v)
 have c4:=fun w=>zbX F S C D U W B L rd hS hW w
 obtain ⟨gr,hgr⟩:=zeq (clamp (S+W))
 have c3:=fun w=>zed F S C D U W B L hS hW w
 rw [← hgr] at c4 c3
 have c5:=fun w=>zgw F S C D U W B L hC hD hL hn w
 obtain ⟨r,hr⟩:=zeq (restZ C D L)
 rw [← hr] at c5
 have e:waitZ F S C D U W B L now cost=(if rd<gr∧r<cost then gr else rd) - now:=by
  unfold waitZ;rw [← hk,← hp,← hv,← hrd,← hgr,← hr]
 rw [e] at h4 ⊢
 have m1:now<v→v=rd:=by rw [hrd];intro h;rw [Int.max_def];split <;> omega
 have m2:v≤now→now=rd:=by rw [hrd];intro h;rw [Int.max_def];split <;> omega
 have T:Hid ((decide (rd<gr)=true∧decide (r<cost)=true∧(if rd<gr∧r<cost then gr else rd)=gr)∨(decide (rd<gr)=true∧decide (r<cost)=false∧(if rd<gr∧r<cost then gr else rd)=rd)∨(decide (rd<gr)=false∧(if rd<gr∧r<cost then gr else rd)=rd)):=by
  by_cases a:rd<gr <;> by_cases b:r<cost <;> exact zhz (by simp [a,b])
 have M1:=zhz m1
 have M2:=zhz m2
 have C3:=zhz c3
 have C4:=zhz c4
 have C5:=zhz c5
 clear c3 c4 c5 e hk hp hv hrd hgr hr hS hC hD hW hL hnow hn h1 h2 h3 m1 m2
 rcases Int.lt_or_le now v with g | g
 all_goals
   first | (have q:=M1.out g;subst q) | (have q:=M2.out g;subst q)
   clear M1 M2
   rcases T.out with ⟨t1,t2,t3⟩ | ⟨t1,t2,t3⟩ | ⟨t1,t3⟩
   all_goals
     rw [t3] at h4 ⊢
     unfold inR at h4
     clear T t3
     go_enter Tryz.func224,Tryz.ntmps224
     go_upto_region 2 with (fail)
     obtain ⟨f0,f1,f2,f3,f4,f5,f6,f7,fb⟩:=zcn w F S C D U W B L
     unfold boxes at *
     generalize (w.alloc (.cells #[.int .i64 F,.int .i64 S,.int .i64 C,.int .i64 D] 105)).alloc (.cells #[.int .i64 U,.int .i64 W,.int .i64 B,.int .i64 L] 138)=w2 at *
     have FB:=zhz fb
     have Z:=zhz (Below.refl w2.heap.size w2)
     have F0:=zhz f0
     have F1:=zhz f1
     have F2:=zhz f2
     have F3:=zhz f3
     have F4:=zhz f4
     have F5:=zhz f5
     have F6:=zhz f6
     have F7:=zhz f7
     clear fb
     generalize w.heap.size=b0 at f0 f1 f2 f3 f4 f5 f6 f7 F0 F1 F2 F3 F4 F5 F6 F7 ⊢
     go_wp2_with (first
      | (go_at_call 241;((with_reducible refine (Calls.heldC C4.out _ Z.out).mono ?_);rintro e w3 ⟨rfl,y⟩;have g0:=zaf y F0.out;have g1:=zaf y F1.out;have g2:=zaf y F2.out;have g3:=zaf y F3.out;have g4:=zaf y F4.out;have g5:=zaf y F5.out;have g6:=zaf y F6.out;have g7:=zaf y F7.out;have Y:=zhz y;clear y))
      | (go_at_call 242;((with_reducible refine (Calls.heldC C5.out _ Y.out).mono ?_);rintro e w4 ⟨rfl,y⟩;have g0:=zaf y F0.out;have g1:=zaf y F1.out;have g2:=zaf y F2.out;have g3:=zaf y F3.out;have g4:=zaf y F4.out;have g5:=zaf y F5.out;have g6:=zaf y F6.out;have g7:=zaf y F7.out;have Y2:=zhz y;clear y))
      | (go_at_call 243;((with_reducible refine (Calls.heldC C3.out _ Y2.out).mono ?_);rintro e w5 ⟨rfl,y⟩;have Y3:=zhz y;clear y)))
     go_ret
     first
      | exact ⟨zau (by first | rfl | omega),zao FB.out Y3.out⟩
      | exact ⟨zau (by first | rfl | omega),zao FB.out Y2.out⟩
      | exact ⟨zau (by first | rfl | omega),zao FB.out Y.out⟩
def unitZ (W n:Int):Int:=if W<0∨n<1 then 0 else if W % n=0 then W / n else W / n+1
theorem zmz (L W B s1 s2 s3 s4 s5:Int) (sm:Bool) (hW:inR W) (h1:inR (L+1)) (h2:inR (L+1 - B)) (w:World) :
  Calls Tryz.prog 91 #[.agg #[.int .i64 L,.int .i64 W,.int .i64 B,.int .i64 s1,.int .i64 s2,.int .i64 s3,.int .i64 s4,.int .i64 s5,.bool sm]] w fun e w'=>e=.returned (pv (unitZ W (L+1 - B)) W B L)∧Below w.heap.size w w':=by
 have e1:IntKind.i64.wrap (L+1)=L+1:=by rw [IntKind.wrap_i64];unfold inR at h1;omega
 have e2:IntKind.i64.wrap (L+1 - B)=L+1 - B:=by rw [IntKind.wrap_i64];unfold inR at h2;omega
 have c1:=fun w=>zfZ W (IntKind.i64.wrap (IntKind.i64.wrap (L+1) - B)) hW (by rw [e1,e2];exact h2) w
 rw [e1,e2] at c1
 change ∀ w,Calls Tryz.prog 117 #[.int .i64 W,.int .i64 (L+1 - B)] w fun e w'=>e=.returned (.int .i64 (unitZ W (L+1 - B)))∧w=w' at c1
 obtain ⟨U,hU⟩:=zeq (unitZ W (L+1 - B))
 rw [← hU] at c1 ⊢
 have c2:=c1
 rw [← e2,← e1] at c2
 have C1:=zhz c1
 have C2:=zhz c2
 clear c1 c2 hU
 go_enter Tryz.func91,Tryz.ntmps91
 go_wp2_with (fail)
 have h0:=heap_alloc_new w (.cells #[.int .i64 L,.int .i64 W,.int .i64 B,.int .i64 s1,.int .i64 s2,.int .i64 s3,.int .i64 s4,.int .i64 s5,.bool sm] 52)
 have b1:Below w.heap.size w (w.alloc (.cells #[.int .i64 L,.int .i64 W,.int .i64 B,.int .i64 s1,.int .i64 s2,.int .i64 s3,.int .i64 s4,.int .i64 s5,.bool sm] 52)):=(Below.refl _ _).alloc (Nat.le_refl _) _
 have hs:(w.alloc (.cells #[.int .i64 L,.int .i64 W,.int .i64 B,.int .i64 s1,.int .i64 s2,.int .i64 s3,.int .i64 s4,.int .i64 s5,.bool sm] 52)).heap.size=w.heap.size+1:=by simp
 generalize w.alloc (.cells #[.int .i64 L,.int .i64 W,.int .i64 B,.int .i64 s1,.int .i64 s2,.int .i64 s3,.int .i64 s4,.int .i64 s5,.bool sm] 52)=w1 at *
 have h1:=heap_alloc_new w1 (.cells #[.int .i64 0,.int .i64 0,.int .i64 0,.int .i64 0] 138)
 have b2:Below w1.heap.size w1 (w1.alloc (.cells #[.int .i64 0,.int .i64 0,.int .i64 0,.int .i64 0] 138)):=(Below.refl _ _).alloc (Nat.le_refl _) _
 have hlt:w.heap.size<w1.heap.size:=by omega
 rw [← b2.block _ hlt] at h0
 have b3:=zao b1 b2
 rw [hs] at h1
 generalize w1.alloc (.cells #[.int .i64 0,.int .i64 0,.int .i64 0,.int .i64 0] 138)=w2 at *
 have B3:=zhz b3
 have H1:=zhz h1
 have HL:=zhz (lt_of_block h1)
 have HS:=zhz hs
 clear b1 b2 b3 hs hlt
 obtain ⟨b0,hb0⟩:=zeq (w.heap.size)
 rw [← hb0] at h0 h1 H1 HL ⊢
 have HB:=zhz hb0
 clear hb0
 have d0:w2.cell? ⟨b0,0,none⟩=some (.int .i64 L):=zap h0
 have d1:w2.cell? ⟨b0,1,none⟩=some (.int .i64 W):=zap h0
 have d2:w2.cell? ⟨b0,2,none⟩=some (.int .i64 B):=zap h0
 clear h0 h1
 go_still_tail 16,(by kernel_rfl)
 still_call ((C1.out _).mono fun _ _ h=>⟨h.1,h.2.symm⟩)
 repeat still_step
 refine wpStill_nil ?_
 change wpList _ _ _ _ _ w2.drew
 refine wpList_store_row rfl _ _ _ rfl (b0+1) _ rfl rfl _ _ H1.out (by kernel_rfl) rfl (by simp [Value.oneCell']) ?_
 go_wp2
 (try simp only [Exit.inBlock,Exit.then])
 refine bodyPost_ret (results_cell_row rfl _ _ (b0+1) _ _ (0,0) _ rfl (setRow_heap w2.drew (b0+1) _ _ _ _ H1.out) Tryz.underlying138 rfl (by kernel_rfl)) rfl ?_
 exact ⟨rfl,below_setRow (zaa B3.out 1) (by have:=HB.out;omega) _⟩
end
section
open Ar (inR)
theorem zkR (w:World) (U W B L:Int):∃ w1,w.alloc (.cells #[.int .i64 U,.int .i64 W,.int .i64 B,.int .i64 L] 138)=w1∧w1.heap[w.heap.size]?=some (.cells #[.int .i64 U,.int .i64 W,.int .i64 B,.int .i64 L] 138 (0,0))∧Below w.heap.size w w1 :=
 ⟨_,rfl,heap_alloc_new w _,(Below.refl _ _).alloc (Nat.le_refl _) _⟩
end
section
open Ar (inR)
end
section
open Ar (inR)
theorem zlG {U k x:Int} (hU:1≤U) (hk:1≤k):k≤x.tdiv U ↔ k*U≤x:=by
 rcases Int.lt_or_le x 0 with hx | hx
 ·have h1:x.tdiv U≤0:=by
   have:0≤(-x).tdiv U:=Int.tdiv_nonneg (by omega) (by omega)
   rw [Int.neg_tdiv] at this
   omega
  have h2:0≤k*U:=Int.mul_nonneg (by omega) (by omega)
  constructor <;> intro h <;> omega
 ·rw [Int.tdiv_eq_ediv_of_nonneg hx]
  exact Int.le_ediv_iff_mul_le (by omega)
structure Rng (F S C D U W B L t:Int):Prop where
 F:0≤F∧F≤6917529027641081856
 S:0≤S∧S≤4611686018427387904
 C:0≤C∧C≤4611686018427387904
 D:0≤D∧D≤1152921504606846976
 U:1≤U∧U≤1048576
 W:1≤W∧W≤1048576
 B:1≤B∧B≤1048576
 L:1≤L∧L≤1048576
 t:0≤t∧t≤4611686018427387904
def baseP (F U B t:Int):Int:=max 0 (min ((t+B*U - max F t).tdiv U) B)
def restP (C D L:Int):Int:=max 0 (L - (C+D))
def roomP (F S C D U W B L t:Int):Int:=if t<S+W then min (baseP F U B t) (restP C D L) else baseP F U B t
def waitP (F S C D U W B L t cost:Int):Int:=(if max t (F - (B - cost)*U)<S+W∧restP C D L<cost then S+W else max t (F - (B - cost)*U)) - t
theorem zcl {F U B t k:Int} (hU:1≤U) (hk:1≤k):k≤baseP F U B t ↔ k≤B∧k*U+max F t≤t+B*U:=by
 have h:=zlG (x:=t+B*U - max F t) hU hk
 unfold baseP
 generalize (t+B*U - max F t).tdiv U=q at *
 generalize k*U=ku at *
 generalize B*U=bu at *
 constructor
 ·intro g;have:k≤q:=by omega
  have:=h.1 this;omega
 ·intro g;have:k≤q:=h.2 (by omega)
  omega
theorem zlm (F U B t:Int):0≤baseP F U B t:=by unfold baseP;omega
theorem zll {F U B t:Int} (hB:0≤B):baseP F U B t≤B:=by unfold baseP;omega
theorem zfx (F S C D U W B L t:Int):0≤roomP F S C D U W B L t:=by
 have:=zlm F U B t;unfold roomP restP;split <;> omega
theorem zcN {F S C D U W B L t:Int} (hB:0≤B):roomP F S C D U W B L t≤B:=by
 have:=zll (F:=F) (U:=U) (t:=t) hB;unfold roomP;split <;> omega
section
variable {F S C D U W B L t:Int}
theorem Rng.bu (h:Rng F S C D U W B L t):0≤B*U∧B*U≤1099511627776 :=
 ⟨Int.mul_nonneg (by have:=h.B;omega) (by have:=h.U;omega),Int.mul_le_mul h.B.2 h.U.2 (by have:=h.U;omega) (by omega)⟩
theorem Rng.clamps (h:Rng F S C D U W B L t):roomZ F S C D U W B L t=roomP F S C D U W B L t∧inR (clamp (t+clamp (B*U)) - max F t)∧inR (-clamp (C+D))∧clamp (S+W)=S+W∧restZ C D L=restP C D L:=by
 have hb:=h.bu
 obtain ⟨hF,hS,hC,hD,hU,hW,hB,hL,ht⟩:=h
 have e5:clamp (S+W)=S+W:=za8 (by unfold inR;omega)
 have e6:clamp (C+D)=C+D:=za8 (by unfold inR;omega)
 have e7:clamp (L + -(C+D))=L - (C+D):=by rw [← Int.sub_eq_add_neg];exact za8 (by unfold inR;omega)
 unfold roomZ roomP restZ baseP restP
 generalize B*U=bu at *
 have e1:clamp bu=bu:=za8 (by unfold inR;omega)
 have e2:clamp (t+bu)=t+bu:=za8 (by unfold inR;omega)
 rw [e1,e2,e5,e6,e7]
 exact ⟨rfl,by unfold inR;omega,by unfold inR;omega,rfl,rfl⟩
theorem zdV (h:Rng F S C D U W B L t) (w:World) :
  Calls Tryz.prog 223 #[cv F S C D,pv U W B L,.int .i64 t] w fun e w'=>e=.returned (.int .i64 (roomP F S C D U W B L t))∧Below w.heap.size w w':=by
 obtain ⟨h1,h2,h3,_,_⟩:=h.clamps
 obtain ⟨hF,hS,hC,hD,hU,hW,hB,hL,ht⟩:=h
 rw [← h1]
 exact zdU F S C D U W B L t (by unfold inR;omega) (by unfold inR;omega) (by unfold inR;omega) (by omega) (by unfold inR;omega) (by unfold inR;omega) (by unfold inR;omega) (by unfold inR;omega) h3 h2 w
theorem Rng.kb {k:Int} (h:Rng F S C D U W B L t) (hk:1≤k∧k≤B):0≤(B - k)*U∧(B - k)*U≤1099511627776∧(B - k)*U=B*U - k*U∧1≤k*U:=by
 have hb:=h.bu
 have h1:0≤(B - k)*U:=Int.mul_nonneg (by omega) (by have:=h.U;omega)
 have h2:(B - k)*U=B*U - k*U:=Int.sub_mul _ _ _
 have h3:1*U≤k*U:=Int.mul_le_mul_of_nonneg_right hk.1 (by have:=h.U;omega)
 have:=h.U
 refine ⟨h1,by omega,h2,by omega⟩
theorem zgJ {cost:Int} (h:Rng F S C D U W B L t) (hc:1≤cost∧cost≤B) (w:World) :
  Calls Tryz.prog 224 #[cv F S C D,pv U W B L,.int .i64 t,.int .i64 cost] w fun e w'=>e=.returned (.int .i64 (waitP F S C D U W B L t cost))∧Below w.heap.size w w':=by
 obtain ⟨h1,h2,h3,h4,h5⟩:=h.clamps
 obtain ⟨k1,k2,k3,k4⟩:=h.kb hc
 obtain ⟨hF,hS,hC,hD,hU,hW,hB,hL,ht⟩:=h
 have e:waitZ F S C D U W B L t cost=waitP F S C D U W B L t cost:=by unfold waitZ waitP;rw [h4,h5]
 rw [← e]
 refine zkG F S C D U W B L t cost (by unfold inR;omega) (by unfold inR;omega) (by unfold inR;omega) (by unfold inR;omega) (by unfold inR;omega) (by unfold inR;omega) h3 (by unfold inR;omega) (by unfold inR;omega) (by unfold inR;omega) ?_ w
 rw [e];unfold waitP inR
 generalize (B - cost)*U=v at *
 generalize cost*U=cu at *
 generalize B*U=bu at *
 split <;> omega
theorem zcT {cost:Int} (h:Rng F S C D U W B L t) (hc:1≤cost∧cost≤roomP F S C D U W B L t) :
  max F t+cost*U≤t+B*U∧roomP (max F t+cost*U) S C (D+cost) U W B L t≤roomP F S C D U W B L t - cost:=by
 have hU:=h.U.1
 have hb:cost≤baseP F U B t:=by have:=hc.2;unfold roomP at this;split at this <;> omega
 have h1:=(zcl hU hc.1).1 hb
 refine ⟨by omega,?_⟩
 have h2:baseP (max F t+cost*U) U B t≤baseP F U B t - cost:=by
  rcases Int.lt_or_le (baseP (max F t+cost*U) U B t) 1 with g | g
  ·omega
  ·obtain ⟨k,hk⟩:=zeq (baseP (max F t+cost*U) U B t)
   rw [← hk] at g ⊢
   have h3:=(zcl hU g).1 (Int.le_of_eq hk)
   have h4:(k+cost)*U=k*U+cost*U:=Int.add_mul _ _ _
   have hlt:k+cost≤B:=by
    rcases Int.lt_or_le B (k+cost) with hg | hg
    ·have:(B+1)*U≤(k+cost)*U:=Int.mul_le_mul_of_nonneg_right (by omega) (by omega)
     have h5:(B+1)*U=B*U+U:=by rw [Int.add_mul,Int.one_mul]
     omega
    ·exact hg
   have:=(zcl (F:=F) (t:=t) (B:=B) hU (show 1≤k+cost by omega)).2 ⟨hlt,by omega⟩
   omega
 have hc2:=hc.2
 unfold roomP restP at *
 split <;> split at hc2 <;> omega
end
def boundP (F S D U W L t:Int):Int:=min (if t<S+W then D else max 0 ((F - (t - W)).tdiv U)) L
section
variable {F S C D U W B L t:Int}
theorem zjw (h:Rng F S C D U W B L t) (w:World) :
  Calls Tryz.prog 241 #[cv F S C D,pv U W B L,.int .i64 t] w fun e w'=>e=.returned (.bool (decide (t<S+W)))∧Below w.heap.size w w':=by
 obtain ⟨_,_,_,h4,_⟩:=h.clamps
 obtain ⟨hF,hS,hC,hD,hU,hW,hB,hL,ht⟩:=h
 have:=zbX F S C D U W B L t (by unfold inR;omega) (by unfold inR;omega) w
 rw [h4] at this
 exact this
theorem zhQ (h:Rng F S C D U W B L t) (w:World) :
  Calls Tryz.prog 252 #[cv F S C D,pv U W B L,.int .i64 t] w fun e w'=>e=.returned (.int .i64 (boundP F S D U W L t))∧Below w.heap.size w w':=by
 have c4:=fun w=>zjw h w
 obtain ⟨hF,hS,hC,hD,hU,hW,hB,hL,ht⟩:=h
 have e1:IntKind.i64.wrap (t - W)=t - W:=by rw [IntKind.wrap_i64];omega
 have e2:IntKind.i64.wrap (F - (t - W))=F - (t - W):=by rw [IntKind.wrap_i64];omega
 have c3:=fun w=>zkS (F - (t - W)) U W B L (by unfold inR;omega) (by omega) w
 obtain ⟨s,hs⟩:=zeq (t - W)
 rw [← hs] at e1 e2 c3
 obtain ⟨d,hd⟩:=zeq (F - s)
 rw [← hd] at e2 c3
 obtain ⟨q,hq⟩:=zeq (d.tdiv U)
 rw [← hq] at c3
 obtain ⟨y,hy⟩:=zeq (decide (t<S+W))
 rw [← hy] at c4
 have e:boundP F S D U W L t=min (if y=true then D else max 0 q) L:=by
  unfold boundP;rw [hq,hd,hs,hy];by_cases g:t<S+W <;> simp [g]
 rw [e]
 have hbt : -9223372036854775808≤t - W∧t - W≤9223372036854775807:=by omega
 have C3:=zhz c3
 have C4:=zhz c4
 clear c3 c4 e hq hF hS hC hD hU hW hB hL ht hbt
 have EY:=zhz hy
 clear hy
 cases y
 all_goals
   have E1:=zhz e1
   have E2:=zhz e2
   have HS:=zhz hs
   have HD:=zhz hd
   clear e1 e2 hs hd
   go_enter Tryz.func252,Tryz.ntmps252
   go_upto_region 2 with (fail)
   obtain ⟨f0,f1,f2,f3,f4,f5,f6,f7,fb⟩:=zcn w F S C D U W B L
   unfold boxes at *
   generalize (w.alloc (.cells #[.int .i64 F,.int .i64 S,.int .i64 C,.int .i64 D] 105)).alloc (.cells #[.int .i64 U,.int .i64 W,.int .i64 B,.int .i64 L] 138)=w2 at *
   have FB:=zhz fb
   have Z:=zhz (Below.refl w2.heap.size w2)
   clear fb
   generalize w.heap.size=b0 at f0 f1 f2 f3 f4 f5 f6 f7 ⊢
   have F0:=zhz f0
   have F1:=zhz f1
   have F2:=zhz f2
   have F3:=zhz f3
   have F4:=zhz f4
   have F5:=zhz f5
   have F6:=zhz f6
   have F7:=zhz f7
   have e1:=E1.out
   have e2:=E2.out
   have ew:t - W=s:=HS.out.symm
   have ed:F - s=d:=HD.out.symm
   go_wp2_with (first
    | (go_at_call 241;((with_reducible refine (Calls.heldC C4.out _ Z.out).mono ?_);rintro e w3 ⟨rfl,y⟩;have g0:=zaf y F0.out;have g1:=zaf y F1.out;have g2:=zaf y F2.out;have g3:=zaf y F3.out;have g4:=zaf y F4.out;have g5:=zaf y F5.out;have g6:=zaf y F6.out;have g7:=zaf y F7.out;have Y:=zhz y;clear y))
    | (go_at_call 240;((with_reducible refine (Calls.heldC C3.out _ Y.out).mono ?_);rintro e w4 ⟨rfl,y⟩;have k0:=zaf y F0.out;have k7:=zaf y F7.out;have Y2:=zhz y;clear y)))
   all_goals
     go_ret
     first
      | exact ⟨zau (by simp only [Int.min_def,Int.max_def];(repeat' split) <;> simp_all <;> omega),zao FB.out Y2.out⟩
      | exact ⟨zau (by simp only [Int.min_def,Int.max_def];(repeat' split) <;> simp_all <;> omega),zao FB.out Y.out⟩
end
end
section
open Ar (inR)
theorem zhF (F S C D U W B L now cost:Int) (hS:inR S) (hC:inR C) (hD:inR D) (hU:1≤U∧U≤9223372036854775807) (hW:inR W) (hB:inR B) (hL:inR L) (hnow:inR now)
  (hn:inR (-clamp (C+D))) (hd:inR (clamp (now+clamp (B*U)) - max F now)) (g:1≤cost) (hno:roomZ F S C D U W B L now<cost) (w:World) (bc o:Nat) (ty:TypeId) (A:Array Value) (hc:Blk w bc ty A) (ho:A[o]?=some (.int .i64 F)∧A[o+1]?=some (.int .i64 S)∧A[o+2]?=some (.int .i64 C)∧A[o+3]?=some (.int .i64 D)) :
  Calls Tryz.prog 237 #[.pointer (some ⟨bc,o,none⟩),pv U W B L,.int .i64 now,.int .i64 cost] w fun e w'=>e=.returned (.bool false)∧Below w.heap.size w w':=by
 have c1:=fun w=>zdU F S C D U W B L now hS hC hD hU hW hB hL hnow hn hd w
 obtain ⟨r,hr⟩:=zeq (roomZ F S C D U W B L now)
 rw [← hr] at c1 hno
 have C1:=zhz c1
 have HC:=zhz hc
 have HO:=zhz ho
 have g2:r<cost:=by omega
 have t1:decide (cost<1)=false:=by rw [zdn];omega
 have t2:decide (r<cost)=true:=by rw [decide_eq_true_eq];omega
 clear c1 hr hS hC hD hW hB hL hnow hn hd hc hno g g2
 go_enter Tryz.func237,Tryz.ntmps237
 go_upto_region 1 with (fail)
 obtain ⟨w1,hw1,h1,b1⟩:=zkR w U W B L
 rw [hw1]
 have hcc:=(HC.out.keep b1).rd
 have k0:w1.drew.cell? ⟨bc,o,none⟩=some (.int .i64 F):=(hcc (o)).trans ho.1
 have k1:w1.drew.cell? ⟨bc,o+1,none⟩=some (.int .i64 S):=(hcc (o+1)).trans ho.2.1
 have k2:w1.drew.cell? ⟨bc,o+2,none⟩=some (.int .i64 C):=(hcc (o+2)).trans ho.2.2.1
 have k3:w1.drew.cell? ⟨bc,o+3,none⟩=some (.int .i64 D):=(hcc (o+3)).trans ho.2.2.2
 have p0:w1.drew.cell? ⟨w.heap.size,0,none⟩=some (.int .i64 U):=zap h1
 have p1:w1.drew.cell? ⟨w.heap.size,1,none⟩=some (.int .i64 W):=zap h1
 have p2:w1.drew.cell? ⟨w.heap.size,2,none⟩=some (.int .i64 B):=zap h1
 have p3:w1.drew.cell? ⟨w.heap.size,3,none⟩=some (.int .i64 L):=zap h1
 have B1:=zhz b1
 clear b1 h1 hw1 hcc HC ho
 have pb:Below w1.heap.size w1 w1.drew:=zaa (Below.refl _ _) 1
 have D1:=zhz (fun w' hb=>(Calls.heldC (W2:=w1) C1.out w' hb).mono (fun e w'' (h:_∧Below w1.heap.size w1 w'')=>(⟨h.1,zaf h.2 k0,zaf h.2 k1,zaf h.2 k2,zaf h.2 k3,zaf h.2 p0,zaf h.2 p1,zaf h.2 p2,zaf h.2 p3,h.2⟩:e=_∧w''.cell? ⟨bc,o,none⟩=some (.int .i64 F)∧w''.cell? ⟨bc,o+1,none⟩=some (.int .i64 S)∧w''.cell? ⟨bc,o+2,none⟩=some (.int .i64 C)∧w''.cell? ⟨bc,o+3,none⟩=some (.int .i64 D)∧w''.cell? ⟨w.heap.size,0,none⟩=some (.int .i64 U)∧w''.cell? ⟨w.heap.size,1,none⟩=some (.int .i64 W)∧w''.cell? ⟨w.heap.size,2,none⟩=some (.int .i64 B)∧w''.cell? ⟨w.heap.size,3,none⟩=some (.int .i64 L)∧Below w1.heap.size w1 w'')))
 go_region_held3 (fun w'=>w'.cell? ⟨bc,o,none⟩=some (.int .i64 F)∧w'.cell? ⟨bc,o+1,none⟩=some (.int .i64 S)∧w'.cell? ⟨bc,o+2,none⟩=some (.int .i64 C)∧w'.cell? ⟨bc,o+3,none⟩=some (.int .i64 D)∧w'.cell? ⟨w.heap.size,0,none⟩=some (.int .i64 U)∧w'.cell? ⟨w.heap.size,1,none⟩=some (.int .i64 W)∧w'.cell? ⟨w.heap.size,2,none⟩=some (.int .i64 B)∧w'.cell? ⟨w.heap.size,3,none⟩=some (.int .i64 L)∧Below w1.heap.size w1 w') (first | (refine ⟨?_,?_,?_,?_,?_,?_,?_,?_,?_⟩ <;> assumption) | go_keep)
   (first | (go_at_call 223;((with_reducible refine (D1.out _ (by assumption)).mono ?_);rintro e w' ⟨rfl,z0,z1,z2,z3,z4,z5,z6,z7,z⟩)))
 go_wp2
 go_ret
 exact ⟨rfl,zao B1.out (by assumption)⟩
theorem zfN (F S C D U W B L now cost:Int) (hS:inR S) (hC:inR C) (hD:inR D) (hU:1≤U∧U≤9223372036854775807) (hW:inR W) (hB:inR B) (hL:inR L) (hnow:inR now)
  (hn:inR (-clamp (C+D))) (hd:inR (clamp (now+clamp (B*U)) - max F now)) (hF:inR F) (hcost:inR cost) (hDc:inR (D+cost)) (hno:1≤cost∧cost≤roomZ F S C D U W B L now) (w:World) (bc o:Nat) (ty:TypeId) (A:Array Value) (hc:Blk w bc ty A) (ho:A[o]?=some (.int .i64 F)∧A[o+1]?=some (.int .i64 S)∧A[o+2]?=some (.int .i64 C)∧A[o+3]?=some (.int .i64 D)) :
  Calls Tryz.prog 237 #[.pointer (some ⟨bc,o,none⟩),pv U W B L,.int .i64 now,.int .i64 cost] w fun e w'=>e=.returned (.bool true)∧Blk w' bc ty ((A.setIfInBounds o (.int .i64 (clamp (max F now+clamp (cost*U))))).setIfInBounds (o+3) (.int .i64 (D+cost)))∧Fr (fun k=>k=bc) w w':=by
 have c1:=fun w=>zdU F S C D U W B L now hS hC hD hU hW hB hL hnow hn hd w
 obtain ⟨r,hr⟩:=zeq (roomZ F S C D U W B L now)
 rw [← hr] at c1 hno
 have C1:=zhz c1
 have HC:=zhz hc
 have HO:=zhz ho
 have c2:=fun w=>zaK cost U hcost (by unfold inR;omega) w
 obtain ⟨q,hq⟩:=zeq (clamp (cost*U))
 rw [← hq] at c2 ⊢
 have e1:(if F<now then now else F)=max F now:=zix _ _
 have c3:=fun w=>zaS (if F<now then now else F) q (by split <;> assumption) (by rw [hq];exact zd4 _) w
 rw [e1] at c3
 obtain ⟨F',hF'⟩:=zeq (clamp (max F now+q))
 rw [← hF'] at c3 ⊢
 rw [← e1] at c3
 have e2:IntKind.i64.wrap (D+cost)=D+cost:=by rw [IntKind.wrap_i64];unfold inR at hDc;omega
 have hdc : -9223372036854775808≤D+cost∧D+cost≤9223372036854775807:=hDc
 have t1:decide (cost<1)=false:=by rw [zdn];omega
 have t2:decide (r<cost)=false:=by rw [zdn];omega
 have C2:=zhz c2
 have C3:=zhz c3
 have HDC:=zhz hdc
 clear e1 hF' hdc
 clear c1 c2 c3 hr hS hC hD hW hB hL hnow hn hd hc hno hq hcost hF hDc
 go_enter Tryz.func237,Tryz.ntmps237
 go_upto_region 1 with (fail)
 obtain ⟨w1,hw1,h1,b1⟩:=zkR w U W B L
 rw [hw1]
 have hcc:=(HC.out.keep b1).rd
 have k0:w1.drew.cell? ⟨bc,o,none⟩=some (.int .i64 F):=(hcc (o)).trans ho.1
 have k1:w1.drew.cell? ⟨bc,o+1,none⟩=some (.int .i64 S):=(hcc (o+1)).trans ho.2.1
 have k2:w1.drew.cell? ⟨bc,o+2,none⟩=some (.int .i64 C):=(hcc (o+2)).trans ho.2.2.1
 have k3:w1.drew.cell? ⟨bc,o+3,none⟩=some (.int .i64 D):=(hcc (o+3)).trans ho.2.2.2
 have p0:w1.drew.cell? ⟨w.heap.size,0,none⟩=some (.int .i64 U):=zap h1
 have p1:w1.drew.cell? ⟨w.heap.size,1,none⟩=some (.int .i64 W):=zap h1
 have p2:w1.drew.cell? ⟨w.heap.size,2,none⟩=some (.int .i64 B):=zap h1
 have p3:w1.drew.cell? ⟨w.heap.size,3,none⟩=some (.int .i64 L):=zap h1
 have B1:=zhz b1
 have HC1:=zhz (HC.out.keep b1)
 clear b1 h1 hw1 hcc ho
 have pb:Below w1.heap.size w1 w1.drew:=zaa (Below.refl _ _) 1
 have D1:=zhz (fun w' hb=>(Calls.heldC (W2:=w1) C1.out w' hb).mono (fun e w'' (h:_∧Below w1.heap.size w1 w'')=>(⟨h.1,zaf h.2 k0,zaf h.2 k1,zaf h.2 k2,zaf h.2 k3,zaf h.2 p0,zaf h.2 p1,zaf h.2 p2,zaf h.2 p3,h.2⟩:e=_∧w''.cell? ⟨bc,o,none⟩=some (.int .i64 F)∧w''.cell? ⟨bc,o+1,none⟩=some (.int .i64 S)∧w''.cell? ⟨bc,o+2,none⟩=some (.int .i64 C)∧w''.cell? ⟨bc,o+3,none⟩=some (.int .i64 D)∧w''.cell? ⟨w.heap.size,0,none⟩=some (.int .i64 U)∧w''.cell? ⟨w.heap.size,1,none⟩=some (.int .i64 W)∧w''.cell? ⟨w.heap.size,2,none⟩=some (.int .i64 B)∧w''.cell? ⟨w.heap.size,3,none⟩=some (.int .i64 L)∧Below w1.heap.size w1 w'')))
 go_region_held3 (fun w'=>w'.cell? ⟨bc,o,none⟩=some (.int .i64 F)∧w'.cell? ⟨bc,o+1,none⟩=some (.int .i64 S)∧w'.cell? ⟨bc,o+2,none⟩=some (.int .i64 C)∧w'.cell? ⟨bc,o+3,none⟩=some (.int .i64 D)∧w'.cell? ⟨w.heap.size,0,none⟩=some (.int .i64 U)∧w'.cell? ⟨w.heap.size,1,none⟩=some (.int .i64 W)∧w'.cell? ⟨w.heap.size,2,none⟩=some (.int .i64 B)∧w'.cell? ⟨w.heap.size,3,none⟩=some (.int .i64 L)∧Below w1.heap.size w1 w') (first | (refine ⟨?_,?_,?_,?_,?_,?_,?_,?_,?_⟩ <;> assumption) | go_keep)
   (first | (go_at_call 223;((with_reducible refine (D1.out _ (by assumption)).mono ?_);rintro e w' ⟨rfl,z0,z1,z2,z3,z4,z5,z6,z7,z⟩)))
 go_upto_region 3 with (fail)
 have hcw:=HC1.out.keep z
 have HCW:=zhz hcw
 have BW:=zhz (zao B1.out z)
 have HL:=zhz lt_of_block HC.out
 generalize hb5:w.heap.size=b5 at *
 clear k0 k1 k2 k3 p0 p1 p2 p3 pb D1 hcw t1 t2 HC HC1 C1 B1 z z1 z2 z5 z6 z7
 go_still_tail 14,(by kernel_rfl)
 still_call ((C2.out _).mono fun _ _ h=>⟨h.1,h.2.symm⟩)
 repeat still_step
 still_call ((C3.out _).mono fun _ _ h=>⟨h.1,h.2.symm⟩)
 repeat still_step
 refine wpStill_nil ?_
 change wpList _ _ _ _ _ w'.drew
 have s0:w'.drew.cell? ⟨bc,o,none⟩=some (.int .i64 F):=(HCW.out.rd o).trans HO.out.1
 have s1:w'.drew.frozen? ⟨bc,o,none⟩=false:=HCW.out.wr o
 clear z0 z3 z4
 go_upto_region 4 with (fail)
 have so:(w'.setCell ⟨bc,o,none⟩ (.int .i64 F'))=setObj w' bc (.cells (A.setIfInBounds o (.int .i64 F')) ty (0,0)):=zac HCW.out _
 rw [so]
 have hlt:bc<w'.heap.size:=lt_of_block HCW.out
 have hx:(setObj w' bc (.cells (A.setIfInBounds o (.int .i64 F')) ty (0,0))).drew.heap[bc]?=some (.cells (A.setIfInBounds o (.int .i64 F')) ty (0,0)):=zab hlt _
 have hf:Fr (fun k=>k=bc) w (setObj w' bc (.cells (A.setIfInBounds o (.int .i64 F')) ty (0,0))).drew:=Fr.drew (Fr.setObj (F:=fun k=>k=bc) (b:=bc) (Fr.of_below (by rw [hb5];exact BW.out)) rfl _)
 generalize (setObj w' bc (.cells (A.setIfInBounds o (.int .i64 F')) ty (0,0))).drew=wx at hx hf ⊢
 have s3:wx.cell? ⟨bc,o+3,none⟩=some (.int .i64 D):=((show Blk wx bc ty _ from hx).rd (o+3)).trans ((Array.getElem?_setIfInBounds_ne (by omega)).trans HO.out.2.2.2)
 have s4:wx.frozen? ⟨bc,o+3,none⟩=false:=(show Blk wx bc ty _ from hx).wr (o+3)
 have HX:=zhz hx
 have HF:=zhz hf
 clear hx hf so hlt s0 s1
 go_wp2
 all_goals
   go_ret
   refine ⟨rfl,?_,?_⟩
   ·rw [zac HX.out]
    exact zab (lt_of_block HX.out) _
   ·rw [zac HX.out]
    exact Fr.setObj (F:=fun k=>k=bc) (b:=bc) HF.out rfl _
end
section
open Ar (inR)
abbrev ruC (L W B Sl Ce Ro Wi Tr:Int) (sm:Bool):Array Value:=#[.int .i64 L,.int .i64 W,.int .i64 B,.int .i64 Sl,.int .i64 Ce,.int .i64 Ro,.int .i64 Wi,.int .i64 Tr,.bool sm]
abbrev ruV (L W B Sl Ce Ro Wi Tr:Int) (sm:Bool):Value:=.agg (ruC L W B Sl Ce Ro Wi Tr sm)
abbrev pvK (U W B L:Int):Value:=.agg #[.int .i64 U,.int .i64 W,.int .i64 B,.int .i64 L]
theorem zeY {W0 w w':World} (h:Below W0.heap.size W0 w) (b:Below w.heap.size w w'):Below W0.heap.size W0 w':=h.trans (b.mono h.size)
def unitZK (W n:Int):Int:=if W<0∨n<1 then 0 else if W % n=0 then W / n else W / n+1
theorem zaA (x m:Int) (h:1≤x∧x≤m) (w:World):Calls Tryz.prog 38 #[.int .i64 x,.int .i64 m] w fun e w'=>e=.returned (.bool true)∧w=w':=by
 obtain ⟨h1,h2⟩:=h
 have t1:decide (1≤x)=true:=by simpa using h1
 have t2:decide (x≤m)=true:=by simpa using h2
 go_enter Tryz.func38,Tryz.ntmps38
 go_wp2
 go_ret
 exact ⟨rfl,rfl⟩
theorem zlN (L W B s1 s2 s3 s4 s5:Int) (sm:Bool) (hW:inR W) (h1:inR (L+1)) (h2:inR (L+1 - B)) (w:World) :
  Calls Tryz.prog 91 #[.agg #[.int .i64 L,.int .i64 W,.int .i64 B,.int .i64 s1,.int .i64 s2,.int .i64 s3,.int .i64 s4,.int .i64 s5,.bool sm]] w fun e w'=>e=.returned (pvK (unitZK W (L+1 - B)) W B L)∧Below w.heap.size w w':=by
 have e1:IntKind.i64.wrap (L+1)=L+1:=by rw [IntKind.wrap_i64];unfold inR at h1;omega
 have e2:IntKind.i64.wrap (L+1 - B)=L+1 - B:=by rw [IntKind.wrap_i64];unfold inR at h2;omega
 have c1:=fun w=>zfZ W (IntKind.i64.wrap (IntKind.i64.wrap (L+1) - B)) hW (by rw [e1,e2];exact h2) w
 rw [e1,e2] at c1
 change ∀ w,Calls Tryz.prog 117 #[.int .i64 W,.int .i64 (L+1 - B)] w fun e w'=>e=.returned (.int .i64 (unitZK W (L+1 - B)))∧w=w' at c1
 obtain ⟨U,hU⟩:=zeq (unitZK W (L+1 - B))
 rw [← hU] at c1 ⊢
 have c2:=c1
 rw [← e2,← e1] at c2
 have C1:=zhz c1
 have C2:=zhz c2
 clear c1 c2 hU
 go_enter Tryz.func91,Tryz.ntmps91
 go_wp2_with (fail)
 have h0:=heap_alloc_new w (.cells #[.int .i64 L,.int .i64 W,.int .i64 B,.int .i64 s1,.int .i64 s2,.int .i64 s3,.int .i64 s4,.int .i64 s5,.bool sm] 52)
 have b1:Below w.heap.size w (w.alloc (.cells #[.int .i64 L,.int .i64 W,.int .i64 B,.int .i64 s1,.int .i64 s2,.int .i64 s3,.int .i64 s4,.int .i64 s5,.bool sm] 52)):=(Below.refl _ _).alloc (Nat.le_refl _) _
 have hs:(w.alloc (.cells #[.int .i64 L,.int .i64 W,.int .i64 B,.int .i64 s1,.int .i64 s2,.int .i64 s3,.int .i64 s4,.int .i64 s5,.bool sm] 52)).heap.size=w.heap.size+1:=by simp
 generalize w.alloc (.cells #[.int .i64 L,.int .i64 W,.int .i64 B,.int .i64 s1,.int .i64 s2,.int .i64 s3,.int .i64 s4,.int .i64 s5,.bool sm] 52)=w1 at *
 have h1:=heap_alloc_new w1 (.cells #[.int .i64 0,.int .i64 0,.int .i64 0,.int .i64 0] 138)
 have b2:Below w1.heap.size w1 (w1.alloc (.cells #[.int .i64 0,.int .i64 0,.int .i64 0,.int .i64 0] 138)):=(Below.refl _ _).alloc (Nat.le_refl _) _
 have hlt:w.heap.size<w1.heap.size:=by omega
 rw [← b2.block _ hlt] at h0
 have b3:=zeY b1 b2
 rw [hs] at h1
 generalize w1.alloc (.cells #[.int .i64 0,.int .i64 0,.int .i64 0,.int .i64 0] 138)=w2 at *
 have B3:=zhz b3
 have H1:=zhz h1
 have HL:=zhz (lt_of_block h1)
 have HS:=zhz hs
 clear b1 b2 b3 hs hlt
 obtain ⟨b0,hb0⟩:=zeq (w.heap.size)
 rw [← hb0] at h0 h1 H1 HL ⊢
 have HB:=zhz hb0
 clear hb0
 have d0:w2.cell? ⟨b0,0,none⟩=some (.int .i64 L):=zap h0
 have d1:w2.cell? ⟨b0,1,none⟩=some (.int .i64 W):=zap h0
 have d2:w2.cell? ⟨b0,2,none⟩=some (.int .i64 B):=zap h0
 clear h0 h1
 go_still_tail 16,(by kernel_rfl)
 still_call ((C1.out _).mono fun _ _ h=>⟨h.1,h.2.symm⟩)
 repeat still_step
 refine wpStill_nil ?_
 change wpList _ _ _ _ _ w2.drew
 refine wpList_store_row rfl _ _ _ rfl (b0+1) _ rfl rfl _ _ H1.out (by kernel_rfl) rfl (by simp [Value.oneCell']) ?_
 go_wp2
 (try simp only [Exit.inBlock,Exit.then])
 refine bodyPost_ret (results_cell_row rfl _ _ (b0+1) _ _ (0,0) _ rfl (setRow_heap w2.drew (b0+1) _ _ _ _ H1.out) Tryz.underlying138 rfl (by kernel_rfl)) rfl ?_
 exact ⟨rfl,below_setRow (zaa B3.out 1) (by have:=HB.out;omega) _⟩
def ruleP (L W B Sl Ce Ro Wi Tr:Int) (sm:Bool):Prop :=
 (1≤L∧L≤2147483648)∧(1≤W∧W≤1099511627776)∧(1≤B∧B≤L)∧(1≤Sl∧Sl≤64)∧W % Sl=0∧(1≤Ce∧Ce≤1024)∧(1≤Ro∧Ro≤8)∧(1≤Wi∧Wi≤4096)∧(1≤Tr∧Tr≤64)∧(2≤Sl∨sm=false)∧unitZK W (L+1 - B)≤1152921504606846976 / B
theorem zme (W n:Int) (hW:1≤W) (hn:1≤n):0≤unitZK W n∧unitZK W n≤W:=by
 unfold unitZK
 rw [if_neg (by omega)]
 have e1:=Int.ediv_nonneg (show 0≤W by omega) (show 0≤n by omega)
 have e2:=Int.ediv_le_self n (show 0≤W by omega)
 split
 ·omega
 ·refine ⟨by omega,?_⟩
  by_cases h1:n=1
  ·subst h1;omega
  ·have:W / n<W:=Int.ediv_lt_self_of_pos_of_ne_one (by omega) (by omega)
   omega
theorem ziN (L W B Sl Ce Ro Wi Tr:Int) (sm:Bool) (hL:1≤L∧L≤2147483648) (hW:1≤W∧W≤1099511627776) (hB:1≤B∧B≤L) (w:World) :
  Calls Tryz.prog 67 #[ruV L W B Sl Ce Ro Wi Tr sm] w fun e w'=>e=.returned (.bool (decide (unitZK W (L+1 - B)≤1152921504606846976 / B)))∧Below w.heap.size w w':=by
 have CO:=zhz (fun w=>zlN L W B Sl Ce Ro Wi Tr sm (by unfold inR;omega) (by unfold inR;omega) (by unfold inR;omega) w)
 obtain ⟨U,hU⟩:=zeq (unitZK W (L+1 - B))
 rw [← hU] at CO ⊢
 obtain ⟨Q,hQ⟩:∃ Q:Int,Q=1152921504606846976 / B:=⟨_,rfl⟩
 rw [← hQ]
 have e1:(1152921504606846976:Int).tdiv B=Q:=by rw [Int.tdiv_eq_ediv_of_nonneg (by omega)];exact hQ.symm
 have e0:(1152921504606846976:Int) / B=Q:=hQ.symm
 have e2:IntKind.i64.wrap Q=Q:=by
  have h1:=Int.ediv_nonneg (show (0:Int)≤1152921504606846976 by omega) (show 0≤B by omega)
  have h2:=Int.ediv_le_self B (show (0:Int)≤1152921504606846976 by omega)
  rw [IntKind.wrap_i64];omega
 have nb:¬ B=0:=by omega
 have b1:1≤B:=hB.1
 clear hU hQ hL hW hB
 go_enter Tryz.func67,Tryz.ntmps67
 go_upto_region 1 with (fail)
 obtain ⟨w1,hw1,hbk,hbl,hsz1⟩:=zad w (ruC L W B Sl Ce Ro Wi Tr sm) 52
 change Code.wp _ _ _ _ (w.alloc (.cells (ruC L W B Sl Ce Ro Wi Tr sm) 52))
 rw [hw1]
 obtain ⟨b0,hb0⟩:=zeq (w.heap.size)
 rw [← hb0] at hbk ⊢
 have BK:=zhz hbk
 have BL:=zhz hbl
 clear hbk hbl hsz1 hw1 hb0
 have hfl:∀ wx,(Instr.field 138 (pvK U W B L) 0).run Tryz.prog wx=.ok (.int .i64 U) wx:=fun wx=>by rfl
 have y1:∀ i,w1.drew.cell? ⟨b0,i,none⟩=(ruC L W B Sl Ce Ro Wi Tr sm)[i]?:=(Blk.drew BK.out).rd
 have y3:Below w1.heap.size w1 w1.drew:=zaa (Below.refl _ _) 1
 have GO:=zhz (fun (wx:World) (hx:Below w1.heap.size w1 wx)=>show Calls Tryz.prog 91 #[ruV L W B Sl Ce Ro Wi Tr sm] wx (fun e w'=>e=.returned (pvK U W B L)∧(∀ i,w'.cell? ⟨b0,i,none⟩=(ruC L W B Sl Ce Ro Wi Tr sm)[i]?)∧Below w1.heap.size w1 w') from (CO.out wx).mono (fun e w' hh=>⟨hh.1,(BK.out.keep (hx.trans (hh.2.mono hx.size))).rd,hx.trans (hh.2.mono hx.size)⟩))
 go_region_held3 (fun w'=>(∀ i,w'.cell? ⟨b0,i,none⟩=(ruC L W B Sl Ce Ro Wi Tr sm)[i]?)∧Below w1.heap.size w1 w') (first | (refine ⟨?_,?_⟩ <;> assumption) | go_keep)
   (first | (go_at_call 91;((with_reducible refine (GO.out _ (by assumption)).mono ?_);rintro e w2 ⟨rfl,z0,z2⟩)))
 go_wp2
 go_ret
 exact ⟨rfl,BL.out.trans (z2.mono BL.out.size)⟩
end
section
open Ar (inR)
theorem zmN (a b s:Int) (ha:inR a) (hb:inR b) (h:a+b=s) (hs:inR s) (w:World):Calls Tryz.prog 61 #[.int .i64 a,.int .i64 b] w fun e w'=>e=.returned (.int .i64 s)∧w=w':=by
 have:=zaS a b ha hb w
 rw [h,show clamp s=s from by unfold inR at hs;unfold clamp;rw [if_neg (by omega),if_neg (by omega)]] at this
 exact this
theorem zcL (a b s:Int) (ha:inR a) (hb:inR b) (h:a*b=s) (hs:inR s) (w:World):Calls Tryz.prog 120 #[.int .i64 a,.int .i64 b] w fun e w'=>e=.returned (.int .i64 s)∧w=w':=by
 have:=zaK a b ha hb w
 rw [h,show clamp s=s from by unfold inR at hs;unfold clamp;rw [if_neg (by omega),if_neg (by omega)]] at this
 exact this
theorem zcs {f:Nat} {args:Array Value} {w:World} {v:Value} (h:Calls Tryz.prog f args w fun e w'=>e=.returned v∧w=w'):Calls Tryz.prog f args w fun e w'=>e=.returned v∧w'=w:=h.mono fun _ _ h=>⟨h.1,h.2.symm⟩
theorem zeg (n:Int) (hn:1≤n∧n≤4096) (w:World):Calls Tryz.prog 123 #[.int .i64 n] w fun e w'=>e=.returned (.int .i64 (69*n))∧w=w':=by
 go_enter Tryz.func123,Tryz.ntmps123
 go_wp2
 go_ret
 exact ⟨rfl,rfl⟩
theorem zkz (n:Int) (hn:1≤n∧n≤4096) (w:World):Calls Tryz.prog 150 #[.int .i64 n] w fun e w'=>e=.returned (.int .i64 (2*n+1))∧w=w':=by
 go_enter Tryz.func150,Tryz.ntmps150
 go_wp2
 go_ret
 exact ⟨rfl,rfl⟩
theorem zc2 (n:Int) (hn:1≤n∧n≤4096) (w:World):Calls Tryz.prog 124 #[.int .i64 n] w fun e w'=>e=.returned (.int .i64 (4*(2*n+1)))∧w=w':=by
 go_enter Tryz.func124,Tryz.ntmps124
 go_wp2_with (go_at_call 150;((with_reducible refine (zkz _ hn _).mono ?_);rintro e w' ⟨rfl,rfl⟩))
 go_ret
 exact ⟨zau (by first | rfl | omega),rfl⟩
theorem ziX (n:Int) (hn:1≤n∧n≤4096) (w:World):Calls Tryz.prog 95 #[.int .i64 n] w fun e w'=>e=.returned (.int .i64 (69*n+4*(2*n+1)+32*n))∧w=w':=by
 go_enter Tryz.func95,Tryz.ntmps95
 go_wp2_with (first
  | (go_at_call 123;((with_reducible refine (zeg _ hn _).mono ?_);rintro e w' ⟨rfl,rfl⟩))
  | (go_at_call 124;((with_reducible refine (zc2 _ hn _).mono ?_);rintro e w' ⟨rfl,rfl⟩)))
 go_ret
 exact ⟨zau (by first | rfl | omega),rfl⟩
theorem zeM (n:Int) (hn:1≤n∧n≤4096) (w:World):Calls Tryz.prog 97 #[.int .i64 n] w fun e w'=>e=.returned (.int .i64 (69*n+4*(2*n+1)+24*n))∧w=w':=by
 go_enter Tryz.func97,Tryz.ntmps97
 go_wp2_with (first
  | (go_at_call 123;((with_reducible refine (zeg _ hn _).mono ?_);rintro e w' ⟨rfl,rfl⟩))
  | (go_at_call 124;((with_reducible refine (zc2 _ hn _).mono ?_);rintro e w' ⟨rfl,rfl⟩)))
 go_ret
 exact ⟨zau (by first | rfl | omega),rfl⟩
theorem zjh (ro wi p:Int) (h1:1≤ro∧ro≤8) (h2:1≤wi∧wi≤4096) (hp:ro*wi=p) (hpb:1≤p∧p≤32768) (w:World):Calls Tryz.prog 121 #[.int .i64 ro,.int .i64 wi] w fun e w'=>e=.returned (.int .i64 (8*p))∧w=w':=by
 have C1:=zhz (fun w=>zcL ro wi p (by unfold inR;omega) (by unfold inR;omega) hp (by unfold inR;omega) w)
 have C2:=zhz (fun w=>zcL 8 p (8*p) (by unfold inR;omega) (by unfold inR;omega) rfl (by unfold inR;omega) w)
 clear hp
 go_enter Tryz.func121,Tryz.ntmps121
 go_wp2_with (first
  | (go_at_call 120;((with_reducible refine (C1.out _).mono ?_);rintro e w' ⟨rfl,rfl⟩))
  | (go_at_call 120;((with_reducible refine (C2.out _).mono ?_);rintro e w' ⟨rfl,rfl⟩)))
 go_ret
 exact ⟨rfl,rfl⟩
def bytesZ (Sl Ce Ro Wi Tr:Int):Int:=(69*Ce+4*(2*Ce+1)+32*Ce)+(Sl+1)*(16+8*(Ro*Wi))+(69*Tr+4*(2*Tr+1)+24*Tr)+24*(Ro+1)
theorem zgi {a b A B:Int} (h1:1≤a∧a≤A) (h2:1≤b∧b≤B):1≤a*b∧a*b≤A*B:=by
 constructor
 ·have:=Int.mul_le_mul h1.1 h2.1 (by omega) (by omega);omega
 ·exact Int.mul_le_mul h1.2 h2.2 (by omega) (by omega)
theorem zi4 (L W B Sl Ce Ro Wi Tr:Int) (sm:Bool) (p m:Int) (h3:1≤Sl∧Sl≤64) (h1:1≤Ro∧Ro≤8) (h2:1≤Wi∧Wi≤4096) (hp:Ro*Wi=p) (hpb:1≤p∧p≤32768) (hm:(Sl+1)*(16+8*p)=m) (hmb:1≤m∧m≤20000000) (w:World) :
  Calls Tryz.prog 96 #[ruV L W B Sl Ce Ro Wi Tr sm] w fun e w'=>e=.returned (.int .i64 m)∧Below w.heap.size w w':=by
 have C1:=zhz (fun w=>zcs (zmN Sl 1 (Sl+1) (by unfold inR;omega) (by unfold inR;omega) rfl (by unfold inR;omega) w))
 have C2:=zhz (fun w=>zcs (zjh Ro Wi p h1 h2 hp hpb w))
 have C3:=zhz (fun w=>zcs (zmN 16 (8*p) (16+8*p) (by unfold inR;omega) (by unfold inR;omega) rfl (by unfold inR;omega) w))
 have C4:=zhz (fun w=>zcs (zcL (Sl+1) (16+8*p) m (by unfold inR;omega) (by unfold inR;omega) hm (by unfold inR;omega) w))
 clear hp hm
 go_enter Tryz.func96,Tryz.ntmps96
 go_upto_region 1 with (fail)
 obtain ⟨w1,hw1,hbk,hbl,hsz1⟩:=zad w (ruC L W B Sl Ce Ro Wi Tr sm) 52
 change Code.wp _ _ _ _ (w.alloc (.cells (ruC L W B Sl Ce Ro Wi Tr sm) 52))
 rw [hw1]
 obtain ⟨b0,hb0⟩:=zeq (w.heap.size)
 rw [← hb0] at hbk ⊢
 have k0:=hbk.rd
 have BL:=zhz hbl
 clear hbk hbl hsz1 hw1 hb0
 go_quiet ((first
  | (go_at_call 61;(with_reducible exact Calls.quiet_of_same (C1.out _)))
  | (go_at_call 121;(with_reducible exact Calls.quiet_of_same (C2.out _)))
  | (go_at_call 61;(with_reducible exact Calls.quiet_of_same (C3.out _)))
  | (go_at_call 120;(with_reducible exact Calls.quiet_of_same (C4.out _)))))
 go_wp2
 go_ret
 exact ⟨rfl,zaa BL.out _⟩
theorem zj0 (L W B Sl Ce Ro Wi Tr:Int) (sm:Bool) (h3:1≤Sl∧Sl≤64) (h1:1≤Ro∧Ro≤8) (h2:1≤Wi∧Wi≤4096) (h4:1≤Ce∧Ce≤1024) (h5:1≤Tr∧Tr≤64) (w:World) :
  Calls Tryz.prog 70 #[ruV L W B Sl Ce Ro Wi Tr sm] w fun e w'=>e=.returned (.int .i64 (bytesZ Sl Ce Ro Wi Tr))∧Below w.heap.size w w':=by
 obtain ⟨p,hp⟩:∃ p,Ro*Wi=p:=⟨_,rfl⟩
 have hpb:1≤p∧p≤32768:=by rw [← hp];exact zgi h1 h2
 obtain ⟨m,hm⟩:∃ m,(Sl+1)*(16+8*p)=m:=⟨_,rfl⟩
 have hmb:1≤m∧m≤20000000:=by
  rw [← hm]
  have:=zgi (a:=Sl+1) (b:=16+8*p) (A:=65) (B:=262160) (by omega) (by omega)
  omega
 have HZ:=zhz (show bytesZ Sl Ce Ro Wi Tr=(69*Ce+4*(2*Ce+1)+32*Ce)+m+(69*Tr+4*(2*Tr+1)+24*Tr)+24*(Ro+1) from by unfold bytesZ;rw [hp,hm])
 have CP:=zhz (fun w=>ziX Ce (by omega) w)
 have CR:=zhz (fun w=>zi4 L W B Sl Ce Ro Wi Tr sm p m h3 h1 h2 hp hpb hm hmb w)
 have CS:=zhz (fun w=>zeM Tr (by omega) w)
 clear hp hm
 go_enter Tryz.func70,Tryz.ntmps70
 go_upto_region 1 with (fail)
 obtain ⟨w1,hw1,hbk,hbl,hsz1⟩:=zad w (ruC L W B Sl Ce Ro Wi Tr sm) 52
 change Code.wp _ _ _ _ (w.alloc (.cells (ruC L W B Sl Ce Ro Wi Tr sm) 52))
 rw [hw1]
 obtain ⟨b0,hb0⟩:=zeq (w.heap.size)
 rw [← hb0] at hbk ⊢
 have BK:=zhz hbk
 have BL:=zhz hbl
 clear hbk hbl hsz1 hw1 hb0
 have y1:∀ i,w1.drew.cell? ⟨b0,i,none⟩=(ruC L W B Sl Ce Ro Wi Tr sm)[i]?:=(Blk.drew BK.out).rd
 have y3:Below w1.heap.size w1 w1.drew:=zaa (Below.refl _ _) 1
 have GP:=zhz (fun (wx:World) (hd:∀ i,wx.cell? ⟨b0,i,none⟩=(ruC L W B Sl Ce Ro Wi Tr sm)[i]?) (hx:Below w1.heap.size w1 wx)=>show Calls Tryz.prog 95 #[.int .i64 Ce] wx (fun e w'=>e=.returned (.int .i64 (69*Ce+4*(2*Ce+1)+32*Ce))∧(∀ i,w'.cell? ⟨b0,i,none⟩=(ruC L W B Sl Ce Ro Wi Tr sm)[i]?)∧Below w1.heap.size w1 w') from (CP.out wx).mono (fun e w' hh=>⟨hh.1,by rw [← hh.2];exact hd,by rw [← hh.2];exact hx⟩))
 have GS:=zhz (fun (wx:World) (hd:∀ i,wx.cell? ⟨b0,i,none⟩=(ruC L W B Sl Ce Ro Wi Tr sm)[i]?) (hx:Below w1.heap.size w1 wx)=>show Calls Tryz.prog 97 #[.int .i64 Tr] wx (fun e w'=>e=.returned (.int .i64 (69*Tr+4*(2*Tr+1)+24*Tr))∧(∀ i,w'.cell? ⟨b0,i,none⟩=(ruC L W B Sl Ce Ro Wi Tr sm)[i]?)∧Below w1.heap.size w1 w') from (CS.out wx).mono (fun e w' hh=>⟨hh.1,by rw [← hh.2];exact hd,by rw [← hh.2];exact hx⟩))
 have GR:=zhz (fun (wx:World) (hx:Below w1.heap.size w1 wx)=>show Calls Tryz.prog 96 #[ruV L W B Sl Ce Ro Wi Tr sm] wx (fun e w'=>e=.returned (.int .i64 m)∧(∀ i,w'.cell? ⟨b0,i,none⟩=(ruC L W B Sl Ce Ro Wi Tr sm)[i]?)∧Below w1.heap.size w1 w') from (CR.out wx).mono (fun e w' hh=>⟨hh.1,(BK.out.keep (hx.trans (hh.2.mono hx.size))).rd,hx.trans (hh.2.mono hx.size)⟩))
 go_region_held3 (fun w'=>(∀ i,w'.cell? ⟨b0,i,none⟩=(ruC L W B Sl Ce Ro Wi Tr sm)[i]?)∧Below w1.heap.size w1 w') (first | (refine ⟨?_,?_⟩ <;> assumption) | go_keep)
   (first
    | (go_at_call 95;((with_reducible refine (GP.out _ (by assumption) (by assumption)).mono ?_);rintro e w2 ⟨rfl,z0,z2⟩;have Z2:=zhz z2))
    | (go_at_call 96;((with_reducible refine (GR.out _ (by assumption)).mono ?_);rintro e w3 ⟨rfl,z0,z2⟩;have Z3:=zhz z2))
    | (go_at_call 97;((with_reducible refine (GS.out _ (by assumption) (by assumption)).mono ?_);rintro e w4 ⟨rfl,z0,z2⟩;have Z4:=zhz z2)))
 clear GP GS GR y1 y3
 go_wp2
 go_ret
 refine ⟨zau ?_,BL.out.trans (z2.mono BL.out.size)⟩
 rw [HZ.out]
 simp only [IntKind.wrap_i64]
 omega
end
section
open Ar (inR)
abbrev rqVK (op k:Int):Value:=.agg #[.int .i64 op,.int .i64 0,.int .u32 0,.string ⟨#[]⟩,.int .i64 k]
abbrev rqCK (op k:Int):Array Value:=#[.int .i64 op,.int .i64 0,.int .u32 0,.string ⟨#[]⟩,.int .i64 k]
theorem zfa (t:Int) (w:World):Calls Tryz.prog 68 #[rqVK 1 0,.int .i64 t] w fun e w'=>e=.returned (.int .i64 22)∧Below w.heap.size w w':=by
 go_enter Tryz.func68,Tryz.ntmps68
 go_upto_region 1 with (fail)
 obtain ⟨w1,hw1,hbk,hbl,hsz1⟩:=zad w (rqCK 1 0) 76
 change Code.wp _ _ _ _ (w.alloc (.cells (rqCK 1 0) 76))
 rw [hw1]
 obtain ⟨b0,hb0⟩:=zeq (w.heap.size)
 rw [← hb0] at hbk ⊢
 have k0:=hbk.rd
 have BL:=zhz hbl
 clear hbk hbl hsz1 hw1 hb0
 go_wp2
 go_ret
 exact ⟨rfl,BL.out⟩
theorem zfb (t:Int) (w:World):Calls Tryz.prog 68 #[rqVK 3 0,.int .i64 t] w fun e w'=>e=.returned (.int .i64 46)∧Below w.heap.size w w':=by
 go_enter Tryz.func68,Tryz.ntmps68
 go_upto_region 1 with (fail)
 obtain ⟨w1,hw1,hbk,hbl,hsz1⟩:=zad w (rqCK 3 0) 76
 change Code.wp _ _ _ _ (w.alloc (.cells (rqCK 3 0) 76))
 rw [hw1]
 obtain ⟨b0,hb0⟩:=zeq (w.heap.size)
 rw [← hb0] at hbk ⊢
 have k0:=hbk.rd
 have BL:=zhz hbl
 clear hbk hbl hsz1 hw1 hb0
 go_wp2
 go_ret
 exact ⟨rfl,BL.out⟩
theorem zit (t:Int) (ht:1≤t∧t≤64) (w:World):Calls Tryz.prog 68 #[rqVK 4 t,.int .i64 t] w fun e w'=>e=.returned (.int .i64 (7+81*t))∧Below w.heap.size w w':=by
 have e1:(t<t)=False:=by simp
 have e2:(t<1)=False:=eq_false (by omega)
 go_enter Tryz.func68,Tryz.ntmps68
 go_upto_region 1 with (fail)
 obtain ⟨w1,hw1,hbk,hbl,hsz1⟩:=zad w (rqCK 4 t) 76
 change Code.wp _ _ _ _ (w.alloc (.cells (rqCK 4 t) 76))
 rw [hw1]
 obtain ⟨b0,hb0⟩:=zeq (w.heap.size)
 rw [← hb0] at hbk ⊢
 have k0:=hbk.rd
 have BL:=zhz hbl
 clear hbk hbl hsz1 hw1 hb0
 go_wp2
 all_goals
   go_ret
   exact ⟨zau (by omega),BL.out⟩
end
section
open Ar (inR)
end
section
open Ar (inR)
section
variable {F S C D U W B L t cost:Int}
theorem zbB (hU:1≤U) (hW:1≤W) (hc:1≤cost∧cost≤B) {wt:Int} (hw:wt=waitP F S C D U W B L t cost) :
  0≤wt∧(wt=0 ↔ cost≤roomP F S C D U W B L t)∧(0<wt→roomP F S C D U W B L (t+wt - 1)<cost)∧cost≤roomP F S C D U W B L (t+wt)∧t+wt≤max t (max F (S+W)):=by
 have hk:(B - cost)*U=B*U - cost*U:=Int.sub_mul _ _ _
 have hk0:0≤(B - cost)*U:=Int.mul_nonneg (by omega) (by omega)
 have bi:∀ T,cost≤baseP F U B T ↔ cost*U+max F T≤T+B*U:=fun T=>by
  have:=zcl (F:=F) (B:=B) (t:=T) hU hc.1
  constructor
  ·intro h;exact (this.1 h).2
  ·intro h;exact this.2 ⟨hc.2,h⟩
 have b0:=bi t
 have b1:=bi (t+wt - 1)
 have b2:=bi (t+wt)
 clear bi
 unfold waitP at hw
 rw [hk] at hw hk0
 unfold roomP
 generalize restP C D L=rs at *
 generalize baseP F U B t=p0 at *
 generalize baseP F U B (t+wt - 1)=p1 at *
 generalize baseP F U B (t+wt)=p2 at *
 generalize cost*U=cu at *
 generalize B*U=bu at *
 by_cases g:max t (F - (bu - cu))<S+W∧rs<cost
 ·rw [if_pos g] at hw
  refine ⟨by omega,?_,?_,?_,by omega⟩
  ·rw [if_pos (by omega)];omega
  ·intro _;rw [if_pos (by omega)];omega
  ·rw [if_neg (by omega)];omega
 ·rw [if_neg g] at hw
  refine ⟨by omega,?_,?_,?_,by omega⟩
  ·split <;> omega
  ·intro _;split <;> omega
  ·split <;> omega
end
end
end Go.Proofs.YtannniobeanhlaaGreat
