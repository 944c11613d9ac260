import Derived.Test.YtannniobeanhlaaGreatRows
import Derived.Test.YtannniobeanhlaaGreatArMath
import Derived.ProofKit
import Derived.OpenShut
import Derived.Lib.Hide
set_option linter.unusedSimpArgs false
set_option linter.unusedVariables false
set_option maxRecDepth 100000
set_option maxHeartbeats 9000000
namespace Go.Proofs.YtannniobeanhlaaGreat
open Go.ChangeShapes Go.WideShapes Go.ChangeAt Go.RowKit
open Ar (inR)
theorem zau {k:IntKind} {a b:Int} (h:a=b):Ending.returned (.int k a)=.returned (.int k b):=by rw [h]
theorem zdi {k:IntKind} {a b:Int} {c d:Bool} (h:a=b) (g:c=d):Ending.returned (.tuple #[.int k a,.bool c])=.returned (.tuple #[.int k b,.bool d]):=by rw [h,g]
theorem zlo {P Q R:Prop} [Decidable P] [Decidable Q] [Decidable R] (h:(P ↔ Q) ↔ R):(decide P==decide Q)=decide R:=by
 by_cases hp:P <;> by_cases hq:Q <;> by_cases hr:R <;> simp_all
theorem zlh {a b:Int} (ha:inR a) (hb:inR b):(a≤wrap64 (a+b) ↔ 0≤b) ↔ inR (a+b):=by
 unfold inR wrap64 at *
 by_cases h:0≤b
 ·simp only [h,iff_true];omega
 ·simp only [h,iff_false];omega
theorem zhO (a b:Int) (ha:inR a) (hb:inR b) (w:World) :
  Calls Tryz.prog 87 #[.int .i64 a,.int .i64 b] w fun e w'=>e=.returned (.tuple #[.int .i64 (wrap64 (a+b)),.bool (decide (inR (a+b)))])∧w=w':=by
 unfold inR at *
 go_enter Tryz.func87,Tryz.ntmps87
 go_wp2
 go_ret2
 exact ⟨zdi rfl (zlo (zlh ha hb)),rfl⟩
def clamp (n:Int):Int:=if n < -9223372036854775808 then -9223372036854775808 else if 9223372036854775807<n then 9223372036854775807 else n
theorem zf5 (b:Bool) (w:World) :
  Calls Tryz.prog 88 #[.bool b] w fun e w'=>e=.returned (.int .i64 (if b then -9223372036854775808 else 9223372036854775807))∧w=w':=by
 cases b
 all_goals
   go_enter Tryz.func88,Tryz.ntmps88
   go_wp2
   go_ret
   exact ⟨rfl,rfl⟩
theorem zaS (a b:Int) (ha:inR a) (hb:inR b) (w:World) :
  Calls Tryz.prog 61 #[.int .i64 a,.int .i64 b] w fun e w'=>e=.returned (.int .i64 (clamp (a+b)))∧w=w':=by
 by_cases h:inR (a+b)
 ·have hd:decide (inR (a+b))=true:=by rw [decide_eq_true_eq];exact h
  have HA:=zhz ha
  have HB:=zhz hb
  have HH:=zhz h
  clear h ha hb
  go_enter Tryz.func61,Tryz.ntmps61
  go_wp2_with (go_at_call 87;refine (zhO _ _ HA.out HB.out _).mono ?_;rintro e w' ⟨rfl,rfl⟩)
  go_ret
  have h:=HH.out
  exact ⟨zau (by rw [Ar.wrap_eq h];unfold clamp;unfold inR at h;rw [if_neg (by omega),if_neg (by omega)]),rfl⟩
 ·have hd:decide (inR (a+b))=false:=by rw [zdn];exact h
  have HA:=zhz ha
  have HB:=zhz hb
  have HH:=zhz h
  clear h ha hb
  go_enter Tryz.func61,Tryz.ntmps61
  go_wp2_with (first | (go_at_call 87;refine (zhO _ _ HA.out HB.out _).mono ?_;rintro e w' ⟨rfl,rfl⟩) | (go_at_call 88;refine (zf5 _ _).mono ?_;rintro e w' ⟨rfl,rfl⟩))
  all_goals
    go_ret
    have h:=HH.out
    have ha:=HA.out
    have hb:=HB.out
    unfold inR at h ha hb
    refine ⟨zau ?_,rfl⟩
    unfold clamp
    first | rw [if_pos (by omega)] | rw [if_neg (by omega),if_pos (by omega)]
end Go.Proofs.YtannniobeanhlaaGreat
namespace Go.Proofs.YtannniobeanhlaaGreat
open Go.ChangeShapes Go.WideShapes Go.ChangeAt Go.RowKit
open Ar (inR)
theorem zm6 (p a b:Int):(decide (p<0)==!(decide (a<0)==decide (b<0)))=true ↔ (p<0 ↔ ¬(a<0 ↔ b<0)):=by
 by_cases hp:p<0 <;> by_cases ha:a<0 <;> by_cases hb:b<0 <;> simp [hp,ha,hb]
theorem ziB (a b:Int) (ha:inR a) (hb:inR b) (w:World) :
  Calls Tryz.prog 151 #[.int .i64 a,.int .i64 b] w fun e w'=>e=.returned (.tuple #[.int .i64 (wrap64 (a*b)),.bool (decide (inR (a*b)))])∧w=w':=by
 by_cases ha0:a=0
 ·subst ha0
  go_enter Tryz.func151,Tryz.ntmps151
  go_wp2
  go_ret2
  exact ⟨zdi (by rw [Int.zero_mul,Ar.wrap_eq (by unfold inR;omega)]) (by rw [Int.zero_mul];rfl),rfl⟩
 by_cases hb0:b=0
 ·subst hb0
  have e:(a==0)=false:=by simpa using ha0
  go_enter Tryz.func151,Tryz.ntmps151
  go_wp2
  go_ret2
  exact ⟨zdi (by rw [Int.mul_zero,Ar.wrap_eq (by unfold inR;omega)]) (by rw [Int.mul_zero];rfl),rfl⟩
 have hm:=Ar.mul_ok a b ha hb ha0 hb0
 obtain ⟨p,hp⟩:=zeq (wrap64 (a*b))
 obtain ⟨t,ht⟩:=zeq (wrap64 (p.tdiv b))
 rw [← hp,← ht] at hm
 have HM:=zhz hm
 have hpi:inR p:=by rw [hp];exact Ar.wrap_in _
 unfold inR at ha hb hpi
 have e1:(a==0)=false:=by simpa using ha0
 have e2:(b==0)=false:=by simpa using hb0
 have e3:wrap64 (a*b)=p:=hp.symm
 have e4:wrap64 (p.tdiv b)=t:=ht.symm
 rw [← hp]
 clear hm hp ht
 have HB:=zhz hb0
 clear ha0 hb0
 by_cases hta:t=a
 ·have e5:(t==a)=true:=by simpa using hta
  have HT:=zhz hta
  clear hta
  go_enter Tryz.func151,Tryz.ntmps151
  go_wp2
  go_ret2
  refine ⟨zdi rfl ?_,rfl⟩
  have hm:=HM.out
  have ht:=HT.out
  rw [Bool.eq_iff_iff,decide_eq_true_eq,← hm]
  simp only [ht,true_and]
  exact zm6 p a b
 ·have e5:(t==a)=false:=by simpa using hta
  have HT:=zhz hta
  clear hta
  go_enter Tryz.func151,Tryz.ntmps151
  go_wp2
  go_ret2
  refine ⟨zdi rfl ?_,rfl⟩
  have hm:=HM.out
  have ht:=HT.out
  symm
  rw [zdn,← hm]
  exact fun h=>ht h.1
theorem zaK (a b:Int) (ha:inR a) (hb:inR b) (w:World) :
  Calls Tryz.prog 120 #[.int .i64 a,.int .i64 b] w fun e w'=>e=.returned (.int .i64 (clamp (a*b)))∧w=w':=by
 by_cases h:inR (a*b)
 ·have hd:decide (inR (a*b))=true:=by rw [decide_eq_true_eq];exact h
  have HA:=zhz ha
  have HB:=zhz hb
  have HH:=zhz h
  clear h ha hb
  go_enter Tryz.func120,Tryz.ntmps120
  go_wp2_with (go_at_call 151;refine (ziB _ _ HA.out HB.out _).mono ?_;rintro e w' ⟨rfl,rfl⟩)
  go_ret
  have h:=HH.out
  exact ⟨zau (by rw [Ar.wrap_eq h];unfold clamp;unfold inR at h;rw [if_neg (by omega),if_neg (by omega)]),rfl⟩
 ·have hd:decide (inR (a*b))=false:=by rw [zdn];exact h
  have h0:a≠0∧b≠0:=by
   constructor
   ·intro g;subst g;apply h;rw [Int.zero_mul];unfold inR;omega
   ·intro g;subst g;apply h;rw [Int.mul_zero];unfold inR;omega
  have hs:=Ar.sgn a b h0.1 h0.2
  clear h0
  by_cases ga:a<0 <;> by_cases gb:b<0 <;> simp [ga,gb] at hs
  all_goals
    have HS:=zhz hs
    have HA:=zhz ha
    have HB:=zhz hb
    have HH:=zhz h
    clear h ha hb hs
    go_enter Tryz.func120,Tryz.ntmps120
    go_wp2_with (first | (go_at_call 151;refine (ziB _ _ HA.out HB.out _).mono ?_;rintro e w' ⟨rfl,rfl⟩) | (go_at_call 88;refine (zf5 _ _).mono ?_;rintro e w' ⟨rfl,rfl⟩))
  all_goals
    go_ret
    have h:=HH.out
    have hs:=HS.out
    unfold inR at h
    refine ⟨zau ?_,rfl⟩
    unfold clamp
    first | rw [if_pos (by omega)] | rw [if_neg (by omega),if_pos (by omega)]
end Go.Proofs.YtannniobeanhlaaGreat
namespace Go.Proofs.YtannniobeanhlaaGreat
open Go.ChangeShapes Go.WideShapes Go.ChangeAt Go.RowKit
open Ar (inR)
theorem zfZ (a b:Int) (ha:inR a) (hb:inR b) (w:World) :
  Calls Tryz.prog 117 #[.int .i64 a,.int .i64 b] w fun e w'=>e=.returned (.int .i64 (if a<0∨b<1 then 0 else if a % b=0 then a / b else a / b+1))∧w=w':=by
 unfold inR at ha hb
 by_cases h1:a<0∨b<1
 ·rw [if_pos h1]
  have H1:=zhz h1
  go_enter Tryz.func117,Tryz.ntmps117
  go_wp2
  all_goals go_ret
  all_goals exact ⟨rfl,rfl⟩
 ·rw [if_neg h1]
  have h0:0≤a:=by omega
  have h2:1≤b:=by omega
  have e3:=Int.ediv_le_self b h0
  have e4:=Int.ediv_nonneg h0 (by omega:0≤b)
  clear h1
  by_cases hm:a % b=0
  ·rw [if_pos hm]
   have t:(a % b != 0)=false:=by rw [bne_eq_false_iff_eq];exact hm
   clear hm
   go_enter Tryz.func117,Tryz.ntmps117
   go_wp2
   go_ret
   exact ⟨rfl,rfl⟩
  ·rw [if_neg hm]
   have t:(a % b != 0)=true:=by rw [bne_iff_ne];exact hm
   have e5:a / b<9223372036854775807:=by
    apply Classical.byContradiction
    intro g9
    have g:a / b=9223372036854775807:=by omega
    have hb1:b≠1:=by intro g2;subst g2;exact hm (Int.emod_one a)
    have:=Int.mul_ediv_add_emod a b
    rw [g] at this
    have g3:=Int.emod_nonneg a (by omega:b≠0)
    omega
   clear hm
   go_enter Tryz.func117,Tryz.ntmps117
   go_wp2
   go_ret
   exact ⟨rfl,rfl⟩
end Go.Proofs.YtannniobeanhlaaGreat
namespace Go.Proofs.YtannniobeanhlaaGreat.Sk
open Ar (inR)
def leastR (f:Nat→Nat→Int) (P:Nat→ByteArray→Nat) (s:ByteArray):Nat→Int
 | 0=>f 0 (P 0 s)
 | r+1=>min (leastR f P s r) (f (r+1) (P (r+1) s))
theorem leastR_le (f:Nat→Nat→Int) (P:Nat→ByteArray→Nat) (s:ByteArray):∀ (r j:Nat),j≤r→leastR f P s r≤f j (P j s)
 | 0,j,h=>by have:j=0:=by omega
             subst this;exact Int.le_refl _
 | r+1,j,h=>by
  have e:leastR f P s (r+1)=min (leastR f P s r) (f (r+1) (P (r+1) s)):=rfl
  by_cases hj:j=r+1
  ·subst hj;omega
  ·have:=leastR_le f P s r j (by omega);omega
theorem leastR_is (f:Nat→Nat→Int) (P:Nat→ByteArray→Nat) (s:ByteArray):∀ r:Nat,∃ j,j≤r∧leastR f P s r=f j (P j s)
 | 0=>⟨0,Nat.le_refl _,rfl⟩
 | r+1=>by
  have e:leastR f P s (r+1)=min (leastR f P s r) (f (r+1) (P (r+1) s)):=rfl
  obtain ⟨j,hj,he⟩:=leastR_is f P s r
  by_cases h:leastR f P s r≤f (r+1) (P (r+1) s)
  ·exact ⟨j,by omega,by omega⟩
  ·exact ⟨r+1,Nat.le_refl _,by omega⟩
def raise (f:Nat→Nat→Int) (P:Nat→ByteArray→Nat) (s:ByteArray) (fl:Int) (r:Nat):Nat→Nat→Int:=fun j p=>if j<r∧p=P j s then max (f j p) fl else f j p
def add (f:Nat→Nat→Int) (P:Nat→ByteArray→Nat) (k:Nat) (s:ByteArray) (c:Int):Nat→Nat→Int :=
 if c<1 then f else raise f P s (clamp (leastR f P s (k - 1)+c)) k
theorem raise_zero (f:Nat→Nat→Int) (P:Nat→ByteArray→Nat) (s:ByteArray) (fl:Int):raise f P s fl 0=f:=by
 funext j p
 unfold raise
 rw [if_neg (by omega)]
theorem raise_up (f:Nat→Nat→Int) (P:Nat→ByteArray→Nat) (s:ByteArray) (fl:Int) (r:Nat) :
  (fun j q=>if j=r∧q=P r s then max (f r (P r s)) fl else raise f P s fl r j q)=raise f P s fl (r+1):=by
 funext j q
 unfold raise
 by_cases h:j=r∧q=P r s
 ·obtain ⟨rfl,rfl⟩:=h
  rw [if_pos ⟨rfl,rfl⟩,if_pos ⟨by omega,rfl⟩]
 ·rw [if_neg h]
  by_cases h2:j<r∧q=P j s
  ·rw [if_pos h2,if_pos ⟨by omega,h2.2⟩]
  ·rw [if_neg h2,if_neg (fun e=>by
    by_cases hj:j=r
    ·subst hj;exact h ⟨rfl,e.2⟩
    ·exact h2 ⟨by omega,e.2⟩)]
theorem raise_at (f:Nat→Nat→Int) (P:Nat→ByteArray→Nat) (s:ByteArray) (fl:Int) (r:Nat):raise f P s fl r r (P r s)=f r (P r s):=by
 unfold raise;rw [if_neg (by omega)]
def tab (f:Nat→Nat→Int) (k W:Nat):List Int:=(List.range (k*W)).map fun i=>f (i / W) (i % W)
theorem tab_len (f:Nat→Nat→Int) (k W:Nat):(tab f k W).length=k*W:=by simp [tab]
theorem at_lt {k W j p:Nat} (hj:j<k) (hp:p<W):j*W+p<k*W:=by
 have:(j+1)*W≤k*W:=Nat.mul_le_mul_right _ hj
 rw [Nat.succ_mul] at this
 omega
theorem zkW {W j p:Nat} (hp:p<W):(j*W+p) / W=j:=by
 rw [Nat.mul_comm,Nat.mul_add_div (by omega),Nat.div_eq_of_lt hp];rfl
theorem zk5 {W j p:Nat} (hp:p<W):(j*W+p) % W=p:=by
 rw [Nat.mul_comm,Nat.mul_add_mod,Nat.mod_eq_of_lt hp]
theorem tab_get {f:Nat→Nat→Int} {k W j p:Nat} (hj:j<k) (hp:p<W):(tab f k W)[j*W+p]?=some (f j p):=by
 unfold tab
 rw [List.getElem?_map,List.getElem?_range (at_lt hj hp),Option.map_some,zkW hp,zk5 hp]
theorem tab_set {f:Nat→Nat→Int} {k W i p:Nat} (hi:i<k) (hp:p<W) (z:Int):(tab f k W).set (i*W+p) z=tab (fun j q=>if j=i∧q=p then z else f j q) k W:=by
 have hl:=at_lt hi hp
 apply List.ext_getElem?
 intro n
 by_cases hn:n<k*W
 ·have hW:0<W:=by omega
  have hn2:n=(n / W)*W+n % W:=by rw [Nat.mul_comm];exact (Nat.div_add_mod n W).symm
  have hm:=Nat.mod_lt n hW
  have hd:n / W<k:=Nat.div_lt_of_lt_mul (by rw [Nat.mul_comm];exact hn)
  rw [List.getElem?_set]
  by_cases e:i*W+p=n
  ·rw [if_pos e,if_pos (by rw [tab_len];omega)]
   have h1:n / W=i:=by rw [← e];exact zkW hp
   have h2:n % W=p:=by rw [← e];exact zk5 hp
   rw [hn2,tab_get hd hm,h1,h2,if_pos ⟨rfl,rfl⟩]
  ·rw [if_neg e,hn2,tab_get hd hm,tab_get hd hm,if_neg (fun h=>e (by rw [hn2,h.1,h.2]))]
 ·rw [List.getElem?_eq_none (by rw [List.length_set,tab_len];omega),List.getElem?_eq_none (by rw [tab_len];omega)]
theorem tab_zero (k W:Nat):tab (fun _ _=>0) k W=List.replicate (k*W) 0:=by
 unfold tab
 apply List.ext_getElem
 ·simp
 ·intro i h1 h2;simp
def okC (f:Nat→Nat→Int):Prop:=∀ j p,0≤f j p∧f j p≤9223372036854775807
theorem okC.least {f:Nat→Nat→Int} (h:okC f) (P:Nat→ByteArray→Nat) (s:ByteArray) (r:Nat):0≤leastR f P s r∧leastR f P s r≤9223372036854775807:=by
 obtain ⟨j,_,he⟩:=leastR_is f P s r
 rw [he];exact h _ _
theorem clamp_pos {a c:Int} (h:0≤a∧a≤9223372036854775807) (hc:1≤c∧c≤9223372036854775807):a≤clamp (a+c)∧clamp (a+c)≤9223372036854775807∧(a+c≤9223372036854775807→clamp (a+c)=a+c)∧(9223372036854775807≤a+c→clamp (a+c)=9223372036854775807):=by
 unfold clamp
 split
 ·omega
 ·split <;> omega
theorem okC.raise {f:Nat→Nat→Int} (h:okC f) (P:Nat→ByteArray→Nat) (s:ByteArray) {fl:Int} (hf:fl≤9223372036854775807) (r:Nat):okC (raise f P s fl r):=by
 intro j p
 have:=h j p
 unfold Sk.raise
 split <;> omega
theorem okC.add {f:Nat→Nat→Int} (h:okC f) (P:Nat→ByteArray→Nat) (k:Nat) (s:ByteArray) {c:Int} (hc:c≤9223372036854775807):okC (add f P k s c):=by
 unfold Sk.add
 split
 ·exact h
 ·exact h.raise P s (clamp_pos (h.least P s (k - 1)) (by omega)).2.1 k
theorem add_le {f:Nat→Nat→Int} (h:okC f) (P:Nat→ByteArray→Nat) {k:Nat} (s:ByteArray) {c:Int} (hc:0≤c∧c≤9223372036854775807) (j p:Nat):add f P k s c j p≤f j p+c:=by
 unfold Sk.add
 split
 ·omega
 ·unfold Sk.raise
  split
  ·rename_i h1 h2
   have hl:=leastR_le f P s (k - 1) j (by omega)
   have hp:=clamp_pos (h.least P s (k - 1)) (c:=c) (by omega)
   rw [← h2.2] at hl
   have h0:=h j p
   by_cases hb:leastR f P s (k - 1)+c≤9223372036854775807
   ·rw [hp.2.2.1 hb];omega
   ·rw [hp.2.2.2 (by omega)];omega
  ·omega
end Go.Proofs.YtannniobeanhlaaGreat.Sk
