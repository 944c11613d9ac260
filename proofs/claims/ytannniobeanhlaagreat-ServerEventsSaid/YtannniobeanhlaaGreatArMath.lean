import Derived.Test.YtannniobeanhlaaGreatHz
import Derived.WalkKit
import Derived.Lib.Mul64
set_option linter.unusedSimpArgs false
set_option linter.unusedVariables false
set_option maxRecDepth 100000
set_option maxHeartbeats 9000000
namespace Go.Proofs.YtannniobeanhlaaGreat.Ar
open Go Go.RowKit
def inR (n:Int):Prop := -9223372036854775808≤n∧n≤9223372036854775807
instance (n:Int):Decidable (inR n):=by unfold inR;infer_instance
theorem znb (p b:Int) (hb:b≠0) (hb2:inR b) : -9223372036854775808<p.tmod b∧p.tmod b<9223372036854775808:=by
 have h:=Int.natAbs_tmod p b
 have h2:=Nat.mod_lt p.natAbs (show 0<b.natAbs by omega)
 unfold inR at hb2
 omega
theorem zna (p b:Int) (hp:inR p) : -9223372036854775808≤p.tdiv b∧p.tdiv b≤9223372036854775808∧(p.tdiv b=9223372036854775808→p = -9223372036854775808∧b = -1):=by
 have h:(p.tdiv b).natAbs=p.natAbs / b.natAbs:=Int.natAbs_tdiv p b
 have h2:=Nat.div_le_self p.natAbs b.natAbs
 unfold inR at hp
 refine ⟨by omega,by omega,fun he=>?_⟩
 have h3:p = -9223372036854775808:=by omega
 refine ⟨h3,?_⟩
 subst h3
 have hb:b.natAbs=1:=by
  have e:(-9223372036854775808:Int).natAbs=9223372036854775808:=rfl
  have e2:(9223372036854775808:Int).natAbs=9223372036854775808:=rfl
  replace h:9223372036854775808=9223372036854775808 / b.natAbs:=by rw [← e,← h,he,e2,e]
  clear e e2 h2 he
  rcases Nat.eq_zero_or_pos b.natAbs with h0 | h0
  ·rw [h0,Nat.div_zero] at h;omega
  ·by_cases h1:b.natAbs=1
   ·exact h1
   ·have:=Nat.div_lt_self (n:=9223372036854775808) (by decide) (show 1<b.natAbs by omega)
    omega
 have:b=1∨b = -1:=by omega
 rcases this with rfl | rfl
 ·rw [Int.tdiv_one] at he;omega
 ·rfl
theorem zkJ (a:Int):∃ k:Int,wrap64 a=a+18446744073709551616*k:=⟨-((a+9223372036854775808) / 18446744073709551616),by unfold wrap64;omega⟩
theorem wrap_in (a:Int):inR (wrap64 a):=by unfold inR wrap64;omega
theorem wrap_eq {a:Int} (h:inR a):wrap64 a=a:=by unfold inR at h;unfold wrap64;omega
theorem sgn (a b:Int) (ha:a≠0) (hb:b≠0):(a*b<0) ↔ ¬ ((a<0) ↔ (b<0)):=by
 rcases Int.lt_or_gt_of_ne ha with h | h <;> rcases Int.lt_or_gt_of_ne hb with g | g
 ·have:=Int.mul_pos_of_neg_of_neg h g;constructor <;> intro <;> omega
 ·have:=Int.mul_neg_of_neg_of_pos h g;constructor <;> intro <;> omega
 ·have:=Int.mul_neg_of_pos_of_neg h g;constructor <;> intro <;> omega
 ·have:=Int.mul_pos h g;constructor <;> intro <;> omega
theorem mul_ok (a b:Int) (ha:inR a) (hb:inR b) (ha0:a≠0) (hb0:b≠0) :
  (wrap64 ((wrap64 (a*b)).tdiv b)=a∧(wrap64 (a*b)<0 ↔ ¬ (a<0 ↔ b<0))) ↔ inR (a*b):=by
 have hs:=sgn a b ha0 hb0
 constructor
 ·rintro ⟨h1,h2⟩
  obtain ⟨t1,t2,t3⟩:=zna (wrap64 (a*b)) b (wrap_in _)
  have tm:=znb (wrap64 (a*b)) b hb0 hb
  have e:=Int.mul_tdiv_add_tmod (wrap64 (a*b)) b
  obtain ⟨k,hk⟩:=zkJ (a*b)
  have hw:=wrap_in (a*b)
  by_cases hq:(wrap64 (a*b)).tdiv b=9223372036854775808
  ·obtain ⟨p1,p2⟩:=t3 hq
   rw [hq] at h1
   have:a = -9223372036854775808:=by rw [← h1];unfold wrap64;omega
   rw [p1] at h2
   subst p2;subst this
   have:=h2.1 (by omega);omega
  ·have hq2:(wrap64 (a*b)).tdiv b=a:=(wrap_eq ⟨t1,by omega⟩).symm.trans h1
   rw [hq2,Int.mul_comm b a] at e
   generalize a*b=z at *
   generalize (wrap64 z).tmod b=y at *
   unfold inR at *
   have hk0:k=0:=by omega
   subst hk0
   omega
 ·intro h
  rw [wrap_eq h,Int.mul_tdiv_cancel a hb0,wrap_eq ha]
  exact ⟨rfl,hs⟩
end Go.Proofs.YtannniobeanhlaaGreat.Ar
