import Derived.Test.YtannniobeanhlaaGreatZArSum
import Derived.Test.YtannniobeanhlaaGreatZObj
import Derived.Test.YtannniobeanhlaaGreatLift
import Derived.Deep.RegionHeld3
import Derived.BigQuiet
import Derived.Deep.Cut
set_option linter.unusedSimpArgs false
set_option linter.unusedVariables false
set_option maxRecDepth 100000
set_option maxHeartbeats 9000000
namespace Go.Proofs.YtannniobeanhlaaGreat
open Go.ChangeShapes Go.WideShapes Go.ChangeAt Go.RowKit
section
open Ar (inR)
abbrev pv (U W B L:Int):Value:=.agg #[.int .i64 U,.int .i64 W,.int .i64 B,.int .i64 L]
abbrev cv (F S C D:Int):Value:=.agg #[.int .i64 F,.int .i64 S,.int .i64 C,.int .i64 D]
theorem zix (a b:Int):(if a<b then b else a)=max a b:=by rw [Int.max_def];split <;> split <;> omega
theorem zmy (a b:Int):(if b<a then b else a)=min a b:=by rw [Int.min_def];split <;> split <;> omega
theorem za8 {n:Int} (h:inR n):clamp n=n:=by unfold inR at h;unfold clamp;rw [if_neg (by omega),if_neg (by omega)]
theorem zaf {W w:World} (hb:Below W.heap.size W w) {a:Addr} {v:Value} (h:W.cell? a=some v):w.cell? a=some v:=(hb.cell (zaL h)).trans h
theorem zao {W0 w w':World} (h:Below W0.heap.size W0 w) (b:Below w.heap.size w w'):Below W0.heap.size W0 w':=h.trans (b.mono h.size)
theorem Calls.heldC {W2:World} {f:Nat} {args:Array Value} {v:Value} (h:∀ w,Calls Tryz.prog f args w fun e w'=>e=.returned v∧Below w.heap.size w w') (w:World) (hb:Below W2.heap.size W2 w) :
  Calls Tryz.prog f args w fun e w'=>e=.returned v∧Below W2.heap.size W2 w':=by
 refine (h w).mono ?_
 rintro e w' ⟨rfl,b⟩
 exact ⟨rfl,zao hb b⟩
def boxes (w:World) (F S C D U W B L:Int):World:=(w.alloc (.cells #[.int .i64 F,.int .i64 S,.int .i64 C,.int .i64 D] 105)).alloc (.cells #[.int .i64 U,.int .i64 W,.int .i64 B,.int .i64 L] 138)
theorem zcn (w:World) (F S C D U W B L:Int):(boxes w F S C D U W B L).cell? ⟨w.heap.size,0,none⟩=some (.int .i64 F)∧(boxes w F S C D U W B L).cell? ⟨w.heap.size,1,none⟩=some (.int .i64 S) ∧
  (boxes w F S C D U W B L).cell? ⟨w.heap.size,2,none⟩=some (.int .i64 C)∧(boxes w F S C D U W B L).cell? ⟨w.heap.size,3,none⟩=some (.int .i64 D) ∧
  (boxes w F S C D U W B L).cell? ⟨w.heap.size+1,0,none⟩=some (.int .i64 U)∧(boxes w F S C D U W B L).cell? ⟨w.heap.size+1,1,none⟩=some (.int .i64 W) ∧
  (boxes w F S C D U W B L).cell? ⟨w.heap.size+1,2,none⟩=some (.int .i64 B)∧(boxes w F S C D U W B L).cell? ⟨w.heap.size+1,3,none⟩=some (.int .i64 L)∧Below w.heap.size w (boxes w F S C D U W B L):=by
 unfold boxes
 have h0:=heap_alloc_new w (.cells #[.int .i64 F,.int .i64 S,.int .i64 C,.int .i64 D] 105)
 have h1:=heap_alloc_new (w.alloc (.cells #[.int .i64 F,.int .i64 S,.int .i64 C,.int .i64 D] 105)) (.cells #[.int .i64 U,.int .i64 W,.int .i64 B,.int .i64 L] 138)
 generalize hw1:w.alloc (.cells #[.int .i64 F,.int .i64 S,.int .i64 C,.int .i64 D] 105)=w1 at h0 h1
 have hs:w1.heap.size=w.heap.size+1:=by rw [← hw1];simp
 have b1:Below w.heap.size w w1:=by rw [← hw1];exact (Below.refl _ _).alloc (Nat.le_refl _) _
 have b2:Below w1.heap.size w1 (w1.alloc (.cells #[.int .i64 U,.int .i64 W,.int .i64 B,.int .i64 L] 138)):=(Below.refl _ _).alloc (Nat.le_refl _) _
 rw [hs] at h1
 have hlt:w.heap.size<w1.heap.size:=by omega
 rw [← b2.block _ hlt] at h0
 exact ⟨zap h0,zap h0,zap h0,zap h0,zap h1,zap h1,zap h1,zap h1,zao b1 b2⟩
theorem zed (F S C D U W B L:Int) (hS:inR S) (hW:inR W) (w:World) :
  Calls Tryz.prog 243 #[cv F S C D,pv U W B L] w fun e w'=>e=.returned (.int .i64 (clamp (S+W)))∧Below w.heap.size w w':=by
 have C1:=zhz (fun w=>zaS S W hS hW w)
 unfold inR at hS hW
 go_enter Tryz.func243,Tryz.ntmps243
 go_wp2_with (go_at_call 61;((with_reducible refine (C1.out _).mono ?_);rintro e w' ⟨rfl,rfl⟩))
 go_ret
 exact ⟨rfl,((Below.refl _ _).alloc (Nat.le_refl _) _).alloc (by simp) _⟩
theorem zkS (t U W B L:Int) (ht:inR t) (hU:1≤U∧U≤9223372036854775807) (w:World) :
  Calls Tryz.prog 240 #[pv U W B L,.int .i64 t] w fun e w'=>e=.returned (.int .i64 (t.tdiv U))∧Below w.heap.size w w':=by
 unfold inR at ht
 go_enter Tryz.func240,Tryz.ntmps240
 go_wp2
 go_ret
 exact ⟨rfl,(Below.refl _ _).alloc (Nat.le_refl _) _⟩
theorem zbX (F S C D U W B L t:Int) (hS:inR S) (hW:inR W) (w:World) :
  Calls Tryz.prog 241 #[cv F S C D,pv U W B L,.int .i64 t] w fun e w'=>e=.returned (.bool (decide (t<clamp (S+W))))∧Below w.heap.size w w':=by
 have C1:=zhz (fun w=>zed F S C D U W B L hS hW w)
 go_enter Tryz.func241,Tryz.ntmps241
 go_wp2_with (go_at_call 243;((with_reducible refine (C1.out _).mono ?_);rintro e w1 ⟨rfl,b1⟩;have B1:=zhz b1;clear b1))
 go_ret
 exact ⟨rfl,zao (((Below.refl _ _).alloc (Nat.le_refl _) _).alloc (by simp) _) B1.out⟩
def restZ (C D L:Int):Int:=max 0 (clamp (L + -clamp (C+D)))
theorem zgw (F S C D U W B L:Int) (hC:inR C) (hD:inR D) (hL:inR L) (hn:inR (-clamp (C+D))) (w:World) :
  Calls Tryz.prog 242 #[cv F S C D,pv U W B L] w fun e w'=>e=.returned (.int .i64 (restZ C D L))∧Below w.heap.size w w':=by
 have c1:=fun w=>zaS C D hC hD w
 obtain ⟨s,hs⟩:=zeq (clamp (C+D))
 rw [← hs] at c1 hn
 have en:IntKind.i64.wrap (-s) = -s:=by rw [IntKind.wrap_i64];unfold inR at hn;omega
 have c2:=fun w=>zaS L (IntKind.i64.wrap (-s)) hL (by rw [en];exact hn) w
 obtain ⟨t,ht⟩:=zeq (clamp (L+IntKind.i64.wrap (-s)))
 rw [← ht] at c2
 have e:restZ C D L=max 0 t:=by unfold restZ;rw [← hs,ht,en]
 rw [e]
 have C1:=zhz c1
 have C2:=zhz c2
 clear c1 c2 e hs ht hC hD hL hn en
 go_enter Tryz.func242,Tryz.ntmps242
 go_wp2_with fail
 obtain ⟨f0,f1,f2,f3,f4,f5,f6,f7,fb⟩:=zcn w F S C D U W B L
 unfold boxes at *
 generalize (w.alloc (.cells #[.int .i64 F,.int .i64 S,.int .i64 C,.int .i64 D] 105)).alloc (.cells #[.int .i64 U,.int .i64 W,.int .i64 B,.int .i64 L] 138)=w2 at *
 have FB:=zhz fb
 clear fb
 generalize w.heap.size=b0 at f0 f1 f2 f3 f4 f5 f6 f7 ⊢
 have f2':w2.drew.cell? ⟨b0,2,none⟩=some (.int .i64 C):=f2
 have f3':w2.drew.cell? ⟨b0,3,none⟩=some (.int .i64 D):=f3
 have f7':w2.drew.cell? ⟨b0+1,3,none⟩=some (.int .i64 L):=f7
 go_region_held3 (fun w'=>w'=w2.drew∧w'.cell? ⟨b0,2,none⟩=some (.int .i64 C)∧w'.cell? ⟨b0,3,none⟩=some (.int .i64 D)∧w'.cell? ⟨b0+1,3,none⟩=some (.int .i64 L)) (first | (refine ⟨?_,?_,?_,?_⟩ <;> first | assumption | rfl) | go_keep)
   (first | (go_at_call 61;first | ((with_reducible refine (C1.out _).mono ?_);rintro e w' ⟨rfl,rfl⟩) | ((with_reducible refine (C2.out _).mono ?_);rintro e w' ⟨rfl,rfl⟩)))
 go_wp2
 all_goals
   go_ret
   exact ⟨zau (by rw [Int.max_def];split <;> omega),zaa FB.out 1⟩
theorem zd4 (n:Int):inR (clamp n):=by
 unfold inR clamp;split
 ·omega
 ·split <;> omega
def roomZ (F S C D U W B L now:Int):Int :=
 if now<clamp (S+W) then min (max 0 (min ((clamp (now+clamp (B*U)) - max F now).tdiv U) B)) (restZ C D L) else max 0 (min ((clamp (now+clamp (B*U)) - max F now).tdiv U) B)
theorem zdU (F S C D U W B L now:Int) (hS:inR S) (hC:inR C) (hD:inR D) (hU:1≤U∧U≤9223372036854775807) (hW:inR W) (hB:inR B) (hL:inR L) (hnow:inR now)
  (hn:inR (-clamp (C+D))) (hd:inR (clamp (now+clamp (B*U)) - max F now)) (w:World) :
  Calls Tryz.prog 223 #[cv F S C D,pv U W B L,.int .i64 now] w fun e w'=>e=.returned (.int .i64 (roomZ F S C D U W B L now))∧Below w.heap.size w w':=by
 have c1:=fun w=>zaK B U hB (by unfold inR;omega) w
 obtain ⟨q,hq⟩:=zeq (clamp (B*U))
 rw [← hq] at c1
 have c2:=fun w=>zaS now q hnow (by rw [hq];exact zd4 _) w
 obtain ⟨en,hen⟩:=zeq (clamp (now+q))
 rw [← hen] at c2
 rw [← hq,← hen] at hd
 have ed:IntKind.i64.wrap (en - if F<now then now else F)=en - max F now:=by rw [zix,IntKind.wrap_i64];unfold inR at hd;omega
 have c3:=fun w=>zkS (IntKind.i64.wrap (en - if F<now then now else F)) U W B L (by rw [ed];exact hd) hU w
 obtain ⟨t,ht⟩:=zeq ((IntKind.i64.wrap (en - if F<now then now else F)).tdiv U)
 rw [← ht] at c3
 have c4:=fun w=>zbX F S C D U W B L now hS hW w
 obtain ⟨y,hy⟩:=zeq (decide (now<clamp (S+W)))
 rw [← hy] at c4
 have c5:=fun w=>zgw F S C D U W B L hC hD hL hn w
 obtain ⟨r,hr⟩:=zeq (restZ C D L)
 rw [← hr] at c5
 have e:roomZ F S C D U W B L now=if y then min (max 0 (min t B)) r else max 0 (min t B):=by
  unfold roomZ;rw [← hq,← hen,← ed,← ht,← hr,hy];by_cases g:now<clamp (S+W) <;> simp [g]
 rw [e]
 by_cases gF:F<now
 all_goals
   first | (have eF:(F<now)=True:=eq_true gF;rw [if_pos gF] at c3) | (have eF:(F<now)=False:=eq_false gF;rw [if_neg gF] at c3)
   have C1:=zhz c1
   have C2:=zhz c2
   have C3:=zhz c3
   have C4:=zhz c4
   have C5:=zhz c5
   clear c1 c2 c3 c4 c5 e hq hen hd ed ht hy hr hn hS hC hD hW hB hL hnow gF
   go_enter Tryz.func223,Tryz.ntmps223
   go_upto_region 2 with (first
    | (go_at_call 120;((with_reducible refine (C1.out _).mono ?_);rintro e w' ⟨rfl,rfl⟩))
    | (go_at_call 61;((with_reducible refine (C2.out _).mono ?_);rintro e w' ⟨rfl,rfl⟩)))
   obtain ⟨f0,f1,f2,f3,f4,f5,f6,f7,fb⟩:=zcn w F S C D U W B L
   unfold boxes at *
   generalize (w.alloc (.cells #[.int .i64 F,.int .i64 S,.int .i64 C,.int .i64 D] 105)).alloc (.cells #[.int .i64 U,.int .i64 W,.int .i64 B,.int .i64 L] 138)=w2 at *
   have FB:=zhz fb
   clear fb
   generalize w.heap.size=b0 at f0 f1 f2 f3 f4 f5 f6 f7 ⊢
   have d0:w2.drew.cell? ⟨b0,0,none⟩=some (.int .i64 F):=f0
   have d4:w2.drew.cell? ⟨b0+1,0,none⟩=some (.int .i64 U):=f4
   have d5:w2.drew.cell? ⟨b0+1,1,none⟩=some (.int .i64 W):=f5
   have d6:w2.drew.cell? ⟨b0+1,2,none⟩=some (.int .i64 B):=f6
   have d7:w2.drew.cell? ⟨b0+1,3,none⟩=some (.int .i64 L):=f7
   have db:Below w2.heap.size w2 w2.drew:=zaa (Below.refl _ _) 1
   have D3:=zhz (fun w' hb=>(Calls.heldC C3.out w' hb).mono (fun e w'' (h:_∧Below w2.heap.size w2 w'')=>(⟨h.1,zaf h.2 f0,zaf h.2 f4,zaf h.2 f5,zaf h.2 f6,zaf h.2 f7,h.2⟩:e=_∧w''.cell? ⟨b0,0,none⟩=some (.int .i64 F)∧w''.cell? ⟨b0+1,0,none⟩=some (.int .i64 U)∧w''.cell? ⟨b0+1,1,none⟩=some (.int .i64 W)∧w''.cell? ⟨b0+1,2,none⟩=some (.int .i64 B)∧w''.cell? ⟨b0+1,3,none⟩=some (.int .i64 L)∧Below w2.heap.size w2 w'')))
   go_region_held3 (fun w'=>w'.cell? ⟨b0,0,none⟩=some (.int .i64 F)∧w'.cell? ⟨b0+1,0,none⟩=some (.int .i64 U)∧w'.cell? ⟨b0+1,1,none⟩=some (.int .i64 W)∧w'.cell? ⟨b0+1,2,none⟩=some (.int .i64 B)∧w'.cell? ⟨b0+1,3,none⟩=some (.int .i64 L)∧Below w2.heap.size w2 w') (first | (refine ⟨?_,?_,?_,?_,?_,?_⟩ <;> assumption) | go_keep)
     (first | (go_at_call 240;((with_reducible refine (D3.out _ (by assumption)).mono ?_);rintro e w' ⟨rfl,z0,z4,z5,z6,z7,z⟩)))
   rw [zmy,zix]
   clear d0 d4 d5 d6 d7 db D3 C1 C2 C3 eF z0 z4 z5 z6 z7
   have g0:=zaf z f0
   have g1:=zaf z f1
   have g2:=zaf z f2
   have g3:=zaf z f3
   have g4:=zaf z f4
   have g5:=zaf z f5
   have g6:=zaf z f6
   have g7:=zaf z f7
   obtain ⟨m,hm⟩:=zeq (max 0 (min t B))
   rw [← hm]
   have HM:=zhz hm
   clear hm
   have Z:=zhz z
   have F0:=zhz f0
   have F1:=zhz f1
   have F2:=zhz f2
   have F3:=zhz f3
   have F4:=zhz f4
   have F5:=zhz f5
   have F6:=zhz f6
   have F7:=zhz f7
   clear z f0 f1 f2 f3 f4 f5 f6 f7
   go_wp2_with (first
    | (go_at_call 241;((with_reducible refine (Calls.heldC C4.out _ Z.out).mono ?_);rintro e w3 ⟨rfl,y⟩;have g0:=zaf y F0.out;have g1:=zaf y F1.out;have g2:=zaf y F2.out;have g3:=zaf y F3.out;have g4:=zaf y F4.out;have g5:=zaf y F5.out;have g6:=zaf y F6.out;have g7:=zaf y F7.out;have Y:=zhz y;clear y))
    | (go_at_call 242;((with_reducible refine (Calls.heldC C5.out _ Y.out).mono ?_);rintro e w4 ⟨rfl,y2⟩;have Y2:=zhz y2;clear y2)))
   all_goals
     go_ret
     first
      | exact ⟨zau HM.out,zao FB.out Y.out⟩
      | exact ⟨zau (by rw [← HM.out,Int.min_def];split <;> omega),zao FB.out Y2.out⟩
end
end Go.Proofs.YtannniobeanhlaaGreat
