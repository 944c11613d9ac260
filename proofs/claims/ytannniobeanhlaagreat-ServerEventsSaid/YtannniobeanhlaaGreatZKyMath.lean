import Derived.Test.YtannniobeanhlaaGreatHz
set_option linter.unusedSimpArgs false
set_option linter.unusedVariables false
set_option maxRecDepth 100000
set_option maxHeartbeats 9000000
namespace Go.Proofs.YtannniobeanhlaaGreat
theorem zbP (l:List Int) (i j:Nat) (v:Int) (hi:i<l.length):(l.set i v).getD j 0=if j=i then v else l.getD j 0:=by
 simp only [List.getD,List.getElem?_set]
 by_cases h:i=j
 ·subst h;simp [hi]
 ·rw [if_neg h,if_neg (fun e=>h e.symm)]
def splice:List Int→Nat→List Int→List Int
 | l,_,[]=>l
 | l,o,v :: r=>splice (l.set o v) (o+1) r
theorem zbV:∀ (vs l:List Int) (o:Nat),(splice l o vs).length=l.length
 | [],_,_=>rfl
 | v :: r,l,o=>by rw [splice,zbV r];simp
theorem zbJ:∀ (vs l:List Int) (o k:Nat),o+vs.length≤l.length→(splice l o vs).getD k 0=if o≤k∧k<o+vs.length then vs.getD (k - o) 0 else l.getD k 0
 | [],l,o,k,_=>by rw [splice,if_neg (by simp)]
 | v :: r,l,o,k,h=>by
  simp only [List.length_cons] at h
  rw [splice,zbJ r _ _ _ (by simp;omega),zbP _ _ _ _ (by omega)]
  simp only [List.length_cons]
  by_cases h1:k=o
  ·subst h1
   rw [if_neg (by omega),if_pos rfl,if_pos (by omega),Nat.sub_self];rfl
  ·by_cases h2:o+1≤k∧k<o+1+r.length
   ·rw [if_pos h2,if_pos (by omega),show k - o=(k - (o+1))+1 by omega];generalize k - (o+1)=m;rfl
   ·rw [if_neg h2,if_neg h1,if_neg (by omega)]
def nums (s:ByteArray):List Int:=s.data.toList.map fun c=>(c.toNat:Int)
theorem zcI (s:ByteArray):(nums s).length=s.size:=by unfold nums;rw [List.length_map];rfl
theorem zlM (s:ByteArray):∀ z ∈ nums s,0≤z∧z≤255:=by
 intro z hz
 obtain ⟨c,_,rfl⟩:=List.mem_map.1 hz
 have:=c.toNat_lt
 omega
structure Places (n:Nat) (fl:List Nat) (K:Nat→Option ByteArray):Prop where
 use:∃ ul:List Nat,(fl++ul).Perm (List.range n)∧∀ i,(K i).isSome=true ↔ i ∈ ul
theorem Places.lt {n:Nat} {fl:List Nat} {K:Nat→Option ByteArray} (h:Places n fl K) {i:Nat} (hi:(K i).isSome=true):i<n∧fl.length<n:=by
 obtain ⟨ul,hp,hu⟩:=h.use
 have h1:=(hu i).1 hi
 have h2:=hp.length_eq
 rw [List.length_append,List.length_range] at h2
 have h3:=List.length_pos_of_mem h1
 exact ⟨List.mem_range.1 (hp.mem_iff.1 (List.mem_append.2 (Or.inr h1))),by omega⟩
theorem Places.le {n:Nat} {fl:List Nat} {K:Nat→Option ByteArray} (h:Places n fl K):fl.length≤n:=by
 obtain ⟨ul,hp,hu⟩:=h.use
 have h2:=hp.length_eq
 rw [List.length_append,List.length_range] at h2
 omega
theorem Places.free {n:Nat} {fl:List Nat} {K:Nat→Option ByteArray} (h:Places n fl K) {i:Nat} (hi:i ∈ fl):i<n∧K i=none:=by
 obtain ⟨ul,hp,hu⟩:=h.use
 have hn:(fl++ul).Nodup:=hp.nodup_iff.2 List.nodup_range
 refine ⟨List.mem_range.1 (hp.mem_iff.1 (List.mem_append.2 (Or.inl hi))),?_⟩
 cases hk:K i with
 | none=>rfl
 | some s =>
  have:=(hu i).1 (by rw [hk];rfl)
  exact absurd rfl ((List.nodup_append.1 hn).2.2 i hi i this)
theorem zhf (n:Nat):Places n (List.range n).reverse (fun _=>none):=⟨[],by rw [List.append_nil];exact List.reverse_perm _,fun i=>by simp⟩
theorem Places.put {n i:Nat} {fl:List Nat} {K:Nat→Option ByteArray} (h:Places n (fl++[i]) K) (s:ByteArray):Places n fl (fun j=>if j=i then some s else K j):=by
 obtain ⟨ul,hp,hu⟩:=h.use
 refine ⟨i :: ul,by simpa using hp,fun j=>?_⟩
 by_cases hj:j=i
 ·subst hj;simp
 ·rw [if_neg hj,hu];simp [hj]
theorem Places.drop {n i:Nat} {fl:List Nat} {K:Nat→Option ByteArray} (h:Places n fl K) (hi:(K i).isSome=true):Places n (fl++[i]) (fun j=>if j=i then none else K j):=by
 obtain ⟨ul,hp,hu⟩:=h.use
 have hm:=(hu i).1 hi
 have hn:(fl++ul).Nodup:=hp.nodup_iff.2 List.nodup_range
 have hnu:ul.Nodup:=(List.nodup_append.1 hn).2.1
 refine ⟨ul.erase i,?_,fun j=>?_⟩
 ·have h1:ul.Perm (i :: ul.erase i):=List.perm_cons_erase hm
  have h2:(fl++ul).Perm (fl++(i :: ul.erase i)):=List.Perm.append_left fl h1
  have h3:fl++[i]++ul.erase i=fl++(i :: ul.erase i):=by simp
  rw [h3]
  exact h2.symm.trans hp
 ·by_cases hj:j=i
  ·subst hj
   simp only [if_true,Option.isSome_none,Bool.false_eq_true,false_iff]
   exact fun hx=>by
    have:=List.Nodup.mem_erase_iff hnu |>.1 hx
    exact this.1 rfl
  ·rw [if_neg hj,hu,List.Nodup.mem_erase_iff hnu]
   simp [hj]
end Go.Proofs.YtannniobeanhlaaGreat
namespace Go.Proofs.YtannniobeanhlaaGreat.Fp
theorem rem_two (hi lo y:Nat):(hi % y*18446744073709551616+lo) % y=(hi*18446744073709551616+lo) % y:=by
 rw [Nat.add_mod,Nat.mod_mul_mod,← Nat.add_mod]
end Go.Proofs.YtannniobeanhlaaGreat.Fp
namespace Go.Proofs.YtannniobeanhlaaGreat.Ha
def num (l:List UInt8):Nat:=l.foldl (fun n c=>n*256+c.toNat) 0
theorem num_snoc (l:List UInt8) (c:UInt8):num (l++[c])=num l*256+c.toNat:=by simp [num]
theorem num_lt:∀ (n:Nat) (l:List UInt8),l.length=n→num l<256 ^ n:=by
 intro n
 induction n with
 | zero=>intro l h;have:l=[]:=List.eq_nil_of_length_eq_zero h
         subst this;decide
 | succ n ih =>
  intro l h
  have hl:l=l.dropLast++[l.getLast (by intro e;subst e;simp at h)]:=(List.dropLast_concat_getLast _).symm
  have h1:=ih l.dropLast (by simp [h])
  generalize l.getLast _=c at hl
  rw [hl,num_snoc,Nat.pow_succ]
  have:=UInt8.toNat_lt c
  omega
theorem num_lt7 (l:List UInt8) (h:l.length≤7):num l<72057594037927936:=by
 have:=num_lt l.length l rfl
 have h2:256 ^ l.length≤256 ^ 7:=Nat.pow_le_pow_right (by decide) h
 exact Nat.lt_of_lt_of_le this h2
def poly (X h:Nat) (l:List UInt8):Nat :=
 if l=[] then h else poly X ((h*X % 2305843009213693951+num (l.take 7)) % 2305843009213693951) (l.drop 7)
termination_by l.length
decreasing_by
  rename_i hl
  have:0<l.length:=List.length_pos_iff.2 hl
  simp;omega
theorem poly_nil (X h:Nat):poly X h []=h:=by rw [poly,if_pos rfl]
theorem poly_cons {X h:Nat} {l:List UInt8} (hl:l≠[]):poly X h l=poly X ((h*X % 2305843009213693951+num (l.take 7)) % 2305843009213693951) (l.drop 7):=by rw [poly,if_neg hl]
def hof (X A B:Nat) (l:List UInt8):Nat:=(poly X ((l.length+1) % 2305843009213693951) l*A % 2305843009213693951+B) % 2305843009213693951
theorem hof_lt (X A B:Nat) (l:List UInt8):hof X A B l<2305843009213693951:=Nat.mod_lt _ (by omega)
end Go.Proofs.YtannniobeanhlaaGreat.Ha
namespace Go.Proofs.YtannniobeanhlaaGreat.Ix
def dst (m a b:Nat):Nat:=if b<a then b+m - a else b - a
def nxt (m a:Nat):Nat:=if a+1=m then 0 else a+1
theorem dst_or (m a b:Nat):(b<a∧dst m a b=b+m - a)∨(a≤b∧dst m a b=b - a):=by
 unfold dst;split
 ·exact Or.inl ⟨‹_›,rfl⟩
 ·exact Or.inr ⟨by omega,rfl⟩
theorem nxt_or (m a:Nat):(a+1=m∧nxt m a=0)∨(a+1≠m∧nxt m a=a+1):=by
 unfold nxt;split
 ·exact Or.inl ⟨‹_›,rfl⟩
 ·exact Or.inr ⟨‹_›,rfl⟩
theorem nxt_lt {m a:Nat} (h:a<m):nxt m a<m:=by have:=nxt_or m a;omega
theorem dst_lt {m a b:Nat} (ha:a<m) (hb:b<m):dst m a b<m:=by have:=dst_or m a b;omega
theorem dst_self (m a:Nat):dst m a a=0:=by have:=dst_or m a a;omega
theorem dst_inj {m a b c:Nat} (ha:a<m) (hb:b<m) (hc:c<m) (h:dst m a b=dst m a c):b=c:=by
 have:=dst_or m a b;have:=dst_or m a c;omega
theorem dst_nxt {m a b:Nat} (ha:a<m) (hb:b<m) (h:dst m a b+1<m):dst m a (nxt m b)=dst m a b+1:=by
 have:=dst_or m a b;have:=dst_or m a (nxt m b);have:=nxt_or m b;omega
theorem php:∀ (n m:Nat) (g:Nat→Nat),(∀ p,p<m→g p<n)→(∀ p q,p<m→q<m→g p=g q→p=q)→m≤n
 | 0,m,g,h,_=>by
  rcases Nat.eq_zero_or_pos m with h0 | h0
  ·omega
  ·have:=h 0 h0;omega
 | n+1,0,_,_,_=>Nat.zero_le _
 | n+1,m+1,g,h,hi=>by
  have:=php n m (fun p=>if g p=n then g m else g p) (fun p hp=>by
   have h1:=h p (by omega);have h2:=h m (by omega)
   have h3:g p≠g m:=fun e=>by have:=hi p m (by omega) (by omega) e;omega
   show (if g p=n then g m else g p)<n
   split <;> omega) (fun p q hp hq e=>by
   have h3:g p≠g m:=fun e=>by have:=hi p m (by omega) (by omega) e;omega
   have h4:g q≠g m:=fun e=>by have:=hi q m (by omega) (by omega) e;omega
   have e':(if g p=n then g m else g p)=(if g q=n then g m else g q):=e
   apply hi p q (by omega) (by omega)
   split at e' <;> split at e' <;> omega)
  omega
section
variable {α:Type}
structure Tab (m n:Nat) (f:α→Nat) (K:Nat→Option α) (T:Nat→Nat):Prop where
 sz:m=2*n+1
 home:∀ s,f s<m
 lt:∀ i s,K i=some s→i<n
 ok:∀ p,p<m→T p≠0→∃ s,K (T p - 1)=some s∧∀ q,q<m→dst m (f s) q<dst m (f s) p→T q≠0
 has:∀ i s,K i=some s→∃ p,p<m∧T p=i+1
 one:∀ p q,p<m→q<m→T p≠0→T p=T q→p=q
 key:∀ i j s,K i=some s→K j=some s→i=j
structure Jab (m n:Nat) (f:α→Nat) (K:Nat→Option α) (T:Nat→Nat) (h:Nat):Prop where
 sz:m=2*n+1
 home:∀ s,f s<m
 lt:∀ i s,K i=some s→i<n
 hl:h<m
 h0:T h=0
 ok:∀ p,p<m→T p≠0→∃ s,K (T p - 1)=some s∧∀ q,q<m→dst m (f s) q<dst m (f s) p→T q≠0∨q=h
 has:∀ i s,K i=some s→∃ p,p<m∧T p=i+1
 one:∀ p q,p<m→q<m→T p≠0→T p=T q→p=q
 key:∀ i j s,K i=some s→K j=some s→i=j
theorem zgG {m n:Nat} {f:α→Nat} {K:Nat→Option α} {T:Nat→Nat} (hs:m=2*n+1) (hn:1≤n) (hl:∀ i s,K i=some s→i<n)
  (ok:∀ p,p<m→T p≠0→∃ s,K (T p - 1)=some s) (one:∀ p q,p<m→q<m→T p≠0→T p=T q→p=q) (h:Nat):∃ z,z<m∧z≠h∧T z=0:=by
 apply Classical.byContradiction
 intro hno
 have hnz:∀ z,z<m→z≠h→T z≠0:=fun z h1 h2 h3=>hno ⟨z,h1,h2,h3⟩
 have:=php n (m - 1) (fun p=>T (if p<h then p else p+1) - 1) (fun p hp=>by
  have hx:(if p<h then p else p+1)<m:=by split <;> omega
  have hy:(if p<h then p else p+1)≠h:=by split <;> omega
  obtain ⟨s,hk⟩:=ok _ hx (hnz _ hx hy)
  exact hl _ s hk) (fun p q hp hq e=>by
  have hx:(if p<h then p else p+1)<m:=by split <;> omega
  have hy:(if p<h then p else p+1)≠h:=by split <;> omega
  have hx':(if q<h then q else q+1)<m:=by split <;> omega
  have hy':(if q<h then q else q+1)≠h:=by split <;> omega
  have n1:=hnz _ hx hy
  have n2:=hnz _ hx' hy'
  have e':T (if p<h then p else p+1)=T (if q<h then q else q+1):=by
   have:T (if p<h then p else p+1) - 1=T (if q<h then q else q+1) - 1:=e
   omega
  have:=one _ _ hx hx' n1 e'
  split at this <;> split at this <;> omega)
 omega
theorem zkh {m n:Nat} {f:α→Nat} {K:Nat→Option α} {T:Nat→Nat} (t:Tab m n f K T):∃ z,z<m∧T z=0:=by
 rcases Nat.eq_zero_or_pos n with h | h
 ·have hm:=t.sz
  by_cases h0:T 0=0
  ·exact ⟨0,by omega,h0⟩
  ·obtain ⟨s,hk,_⟩:=t.ok 0 (by omega) h0
   have:=t.lt _ s hk;omega
 ·obtain ⟨z,h1,_,h2⟩:=zgG (f:=f) t.sz h t.lt (fun p hp h0=>by obtain ⟨s,hk,_⟩:=t.ok p hp h0;exact ⟨s,hk⟩) t.one 0
  exact ⟨z,h1,h2⟩
def Far (m:Nat) (f:α→Nat) (K:Nat→Option α) (T:Nat→Nat) (s:α) (d:Nat):Prop:=∀ q,q<m→dst m (f s) q<d→T q≠0∧K (T q - 1)≠some s
theorem far_zero (m:Nat) (f:α→Nat) (K:Nat→Option α) (T:Nat→Nat) (s:α):Far m f K T s 0:=fun _ _ h=>by omega
theorem far_step {m n:Nat} {f:α→Nat} {K:Nat→Option α} {T:Nat→Nat} {s:α} (t:Tab m n f K T) {p:Nat} (hp:p<m) (h:Far m f K T s (dst m (f s) p)) (h0:T p≠0) (hk:K (T p - 1)≠some s):Far m f K T s (dst m (f s) p+1):=by
 intro q hq hd
 by_cases he:dst m (f s) q=dst m (f s) p
 ·have:=dst_inj (t.home s) hq hp he
  subst this;exact ⟨h0,hk⟩
 ·exact h q hq (by omega)
theorem far_more {m n:Nat} {f:α→Nat} {K:Nat→Option α} {T:Nat→Nat} {s:α} (t:Tab m n f K T) {d:Nat} (h:Far m f K T s d):d<m:=by
 obtain ⟨z,hz,h0⟩:=zkh t
 apply Classical.byContradiction
 intro hd
 exact (h z hz (by have:=dst_lt (t.home s) hz;omega)).1 h0
theorem far_none {m n:Nat} {f:α→Nat} {K:Nat→Option α} {T:Nat→Nat} {s:α} (t:Tab m n f K T) {p:Nat} (hp:p<m) (h:Far m f K T s (dst m (f s) p)) (h0:T p=0) (i:Nat):K i≠some s:=by
 intro hk
 obtain ⟨q,hq,hT⟩:=t.has i s hk
 obtain ⟨s',hk',hw⟩:=t.ok q hq (by omega)
 have:T q - 1=i:=by omega
 rw [this,hk] at hk'
 injection hk' with e
 subst e
 by_cases hd:dst m (f s) p<dst m (f s) q
 ·exact hw p hp hd h0
 ·by_cases he:dst m (f s) q=dst m (f s) p
  ·have:=dst_inj (t.home s) hq hp he
   subst this;omega
  ·have:=(h q hq (by omega)).2
   rw [‹T q - 1=i›] at this
   exact this hk
def upN (T:Nat→Nat) (p v:Nat):Nat→Nat:=fun q=>if q=p then v else T q
theorem tab_put {m n:Nat} {f:α→Nat} {K:Nat→Option α} {T:Nat→Nat} {s:α} (t:Tab m n f K T) {p:Nat} (hp:p<m) (h:Far m f K T s (dst m (f s) p)) (h0:T p=0) {i:Nat} (hi:i<n) (hKi:K i=none) :
  Tab m n f (fun j=>if j=i then some s else K j) (upN T p (i+1)):=by
 have hns:=far_none t hp h h0
 refine ⟨t.sz,t.home,?_,?_,?_,?_,?_⟩
 ·intro j s' hj
  by_cases hji:j=i
  ·omega
  ·have hj:(if j=i then some s else K j)=some s':=hj
   rw [if_neg hji] at hj;exact t.lt j s' hj
 ·intro q hq hT
  unfold upN at hT ⊢
  by_cases hqp:q=p
  ·rw [if_pos hqp] at hT ⊢
   refine ⟨s,by simp,fun r hr hd=>?_⟩
   by_cases hrp:r=p
   ·rw [if_pos hrp];omega
   ·rw [if_neg hrp];rw [hqp] at hd;exact (h r hr hd).1
  ·rw [if_neg hqp] at hT ⊢
   obtain ⟨s',hk',hw⟩:=t.ok q hq hT
   refine ⟨s',?_,fun r hr hd=>?_⟩
   ·show (if T q - 1=i then some s else K (T q - 1))=some s'
    rw [if_neg (fun e=>by rw [e,hKi] at hk';cases hk')]
    exact hk'
   ·by_cases hrp:r=p
    ·rw [if_pos hrp];omega
    ·rw [if_neg hrp];exact hw r hr hd
 ·intro j s' hj
  have hj:(if j=i then some s else K j)=some s':=hj
  by_cases hji:j=i
  ·exact ⟨p,hp,by unfold upN;rw [if_pos rfl,hji]⟩
  ·rw [if_neg hji] at hj
   obtain ⟨q,hq,hT⟩:=t.has j s' hj
   refine ⟨q,hq,?_⟩
   unfold upN
   rw [if_neg (fun e=>by rw [e] at hT;omega)]
   exact hT
 ·intro a b ha hb hT e
  unfold upN at hT e
  by_cases hap:a=p
  ·by_cases hbp:b=p
   ·omega
   ·rw [if_pos hap,if_neg hbp] at e
    obtain ⟨s',hk',_⟩:=t.ok b hb (by omega)
    rw [show T b - 1=i by omega,hKi] at hk';cases hk'
  ·rw [if_neg hap] at e hT
   by_cases hbp:b=p
   ·rw [if_pos hbp] at e
    obtain ⟨s',hk',_⟩:=t.ok a ha hT
    rw [show T a - 1=i by omega,hKi] at hk';cases hk'
   ·rw [if_neg hbp] at e
    exact t.one a b ha hb hT e
 ·intro a b s' ha hb
  have ha:(if a=i then some s else K a)=some s':=ha
  have hb:(if b=i then some s else K b)=some s':=hb
  by_cases hai:a=i
  ·by_cases hbi:b=i
   ·omega
   ·rw [if_pos hai] at ha;rw [if_neg hbi] at hb
    injection ha with e;subst e
    exact absurd hb (hns b)
  ·rw [if_neg hai] at ha
   by_cases hbi:b=i
   ·rw [if_pos hbi] at hb
    injection hb with e;subst e
    exact absurd ha (hns a)
   ·rw [if_neg hbi] at hb;exact t.key a b s' ha hb
theorem jab_new {m n:Nat} {f:α→Nat} {K:Nat→Option α} {T:Nat→Nat} (t:Tab m n f K T) {p i:Nat} (hp:p<m) (hT:T p=i+1):Jab m n f (fun j=>if j=i then none else K j) (upN T p 0) p:=by
 refine ⟨t.sz,t.home,?_,hp,by unfold upN;rw [if_pos rfl],?_,?_,?_,?_⟩
 ·intro j s hj
  have hj:(if j=i then none else K j)=some s:=hj
  by_cases hji:j=i
  ·rw [if_pos hji] at hj;cases hj
  ·rw [if_neg hji] at hj;exact t.lt j s hj
 ·intro q hq h0
  unfold upN at h0 ⊢
  by_cases hqp:q=p
  ·rw [if_pos hqp] at h0;omega
  ·rw [if_neg hqp] at h0 ⊢
   obtain ⟨s,hk,hw⟩:=t.ok q hq h0
   refine ⟨s,?_,fun r hr hd=>?_⟩
   ·show (if T q - 1=i then none else K (T q - 1))=some s
    rw [if_neg (fun e=>hqp (t.one q p hq hp h0 (by omega)))]
    exact hk
   ·by_cases hrp:r=p
    ·exact Or.inr hrp
    ·rw [if_neg hrp];exact Or.inl (hw r hr hd)
 ·intro j s hj
  have hj:(if j=i then none else K j)=some s:=hj
  by_cases hji:j=i
  ·rw [if_pos hji] at hj;cases hj
  ·rw [if_neg hji] at hj
   obtain ⟨q,hq,hTq⟩:=t.has j s hj
   exact ⟨q,hq,by unfold upN;rw [if_neg (fun e=>by rw [e] at hTq;omega)];exact hTq⟩
 ·intro a b ha hb h0 e
  unfold upN at h0 e
  by_cases hap:a=p
  ·rw [if_pos hap] at h0;omega
  ·rw [if_neg hap] at h0 e
   by_cases hbp:b=p
   ·rw [if_pos hbp] at e;omega
   ·rw [if_neg hbp] at e;exact t.one a b ha hb h0 e
 ·intro a b s ha hb
  have ha:(if a=i then none else K a)=some s:=ha
  have hb:(if b=i then none else K b)=some s:=hb
  by_cases hai:a=i
  ·rw [if_pos hai] at ha;cases ha
  ·by_cases hbi:b=i
   ·rw [if_pos hbi] at hb;cases hb
   ·rw [if_neg hai] at ha;rw [if_neg hbi] at hb;exact t.key a b s ha hb
def Past (m:Nat) (f:α→Nat) (K:Nat→Option α) (T:Nat→Nat) (h d:Nat):Prop:=∀ q,q<m→0<dst m h q→dst m h q<d→T q≠0∧∀ s,K (T q - 1)=some s→dst m (f s) q<dst m h q
theorem past_one (m:Nat) (f:α→Nat) (K:Nat→Option α) (T:Nat→Nat) (h:Nat):Past m f K T h 1:=fun _ _ _ _=>by omega
theorem past_step {m n:Nat} {f:α→Nat} {K:Nat→Option α} {T:Nat→Nat} {h:Nat} (j:Jab m n f K T h) {p:Nat} (hp:p<m) (hP:Past m f K T h (dst m h p)) (h0:T p≠0) {s:α} (hk:K (T p - 1)=some s) (hd:dst m (f s) p<dst m h p):Past m f K T h (dst m h p+1):=by
 intro q hq h1 h2
 by_cases he:dst m h q=dst m h p
 ·have:=dst_inj j.hl hq hp he
  subst this
  refine ⟨h0,fun s' hk'=>?_⟩
  rw [hk] at hk';injection hk' with e;subst e;exact hd
 ·exact hP q hq h1 (by omega)
theorem jab_end {m n:Nat} {f:α→Nat} {K:Nat→Option α} {T:Nat→Nat} {h:Nat} (j:Jab m n f K T h) {p:Nat} (hp:p<m) (hph:p≠h) (hP:Past m f K T h (dst m h p)) (h0:T p=0):Tab m n f K T:=by
 refine ⟨j.sz,j.home,j.lt,?_,j.has,j.one,j.key⟩
 intro q hq hT
 obtain ⟨s,hk,hw⟩:=j.ok q hq hT
 refine ⟨s,hk,fun r hr hd=>?_⟩
 rcases hw r hr hd with h1 | h1
 ·exact h1
 ·exfalso
  subst h1
  have hl:=j.hl
  have hf:=j.home s
  have hqr:q≠r:=fun e=>hT (by rw [e];exact j.h0)
  have hqp:q≠p:=fun e=>hT (by rw [e];exact h0)
  have a1:=dst_or m (f s) r
  have a2:=dst_or m (f s) q
  have a3:=dst_or m r q
  have a4:=dst_or m r p
  have a5:=dst_or m (f s) p
  by_cases hlt:dst m r q<dst m r p
  ·have:=(hP q hq (by omega) hlt).2 s hk
   omega
  ·have:=hw p hp (by omega)
   rcases this with h2 | h2
   ·exact h2 h0
   ·exact hph h2
theorem jab_move {m n:Nat} {f:α→Nat} {K:Nat→Option α} {T:Nat→Nat} {h:Nat} (j:Jab m n f K T h) {p:Nat} (hp:p<m) (hT:T p≠0) {s:α} (hk:K (T p - 1)=some s) (hd:dst m h p≤dst m (f s) p) :
  Jab m n f K (upN (upN T h (T p)) p 0) p:=by
 have hl:=j.hl
 have hph:p≠h:=fun e=>hT (by rw [e];exact j.h0)
 have hat:∀ q,upN (upN T h (T p)) p 0 q=if q=p then 0 else if q=h then T p else T q:=fun q=>rfl
 refine ⟨j.sz,j.home,j.lt,hp,by rw [hat,if_pos rfl],?_,?_,?_,j.key⟩
 ·intro q hq h0
  rw [hat] at h0 ⊢
  by_cases hqp:q=p
  ·rw [if_pos hqp] at h0;omega
  ·rw [if_neg hqp] at h0 ⊢
   by_cases hqh:q=h
   ·rw [if_pos hqh]
    obtain ⟨s',hk',hw⟩:=j.ok p hp hT
    rw [hk] at hk';injection hk' with e;subst e
    refine ⟨s,hk,fun r hr hdr=>?_⟩
    rw [hat]
    subst hqh
    have a1:=dst_or m (f s) q
    have a2:=dst_or m (f s) p
    have a3:=dst_or m q p
    have a4:=dst_or m (f s) r
    have hf:=j.home s
    by_cases hrp:r=p
    ·exact Or.inr hrp
    ·rw [if_neg hrp]
     have hrq:r≠q:=fun e=>by subst e;omega
     rw [if_neg hrq]
     rcases hw r hr (by omega) with h1 | h1
     ·exact Or.inl h1
     ·exact absurd h1 hrq
   ·rw [if_neg hqh] at h0 ⊢
    obtain ⟨s',hk',hw⟩:=j.ok q hq h0
    refine ⟨s',hk',fun r hr hdr=>?_⟩
    rw [hat]
    by_cases hrp:r=p
    ·exact Or.inr hrp
    ·rw [if_neg hrp]
     by_cases hrh:r=h
     ·rw [if_pos hrh];exact Or.inl hT
     ·rw [if_neg hrh]
      rcases hw r hr hdr with h1 | h1
      ·exact Or.inl h1
      ·exact absurd h1 hrh
 ·intro i s' hki
  obtain ⟨q,hq,hTq⟩:=j.has i s' hki
  by_cases hqp:q=p
  ·exact ⟨h,hl,by rw [hat,if_neg (Ne.symm hph),if_pos rfl,← hqp];exact hTq⟩
  ·exact ⟨q,hq,by rw [hat,if_neg hqp,if_neg (fun e=>by rw [e,j.h0] at hTq;omega)];exact hTq⟩
 ·intro a b ha hb h0 e
  rw [hat] at h0
  rw [hat,hat] at e
  by_cases hap:a=p
  ·rw [if_pos hap] at h0;omega
  ·rw [if_neg hap] at h0 e
   by_cases hbp:b=p
   ·rw [if_pos hbp] at e;omega
   ·rw [if_neg hbp] at e
    by_cases hah:a=h
    ·by_cases hbh:b=h
     ·omega
     ·rw [if_pos hah,if_neg hbh] at e
      exact absurd (j.one p b hp hb hT e).symm hbp
    ·rw [if_neg hah] at h0 e
     by_cases hbh:b=h
     ·rw [if_pos hbh] at e
      exact absurd (j.one a p ha hp h0 e) hap
     ·rw [if_neg hbh] at e;exact j.one a b ha hb h0 e
theorem jab_free {m n:Nat} {f:α→Nat} {K:Nat→Option α} {T:Nat→Nat} {h:Nat} (j:Jab m n f K T h) (hn:1≤n):∃ z,z<m∧z≠h∧T z=0 :=
 zgG (f:=f) j.sz hn j.lt (fun p hp h0=>by obtain ⟨s,hk,_⟩:=j.ok p hp h0;exact ⟨s,hk⟩) j.one h
theorem tab_new (n:Nat) (f:α→Nat) (hf:∀ s,f s<2*n+1):Tab (2*n+1) n f (fun _=>none) (fun _=>0) :=
 ⟨rfl,hf,(fun i s h=>by cases h),fun p _ h=>absurd rfl h,(fun i s h=>by cases h),fun p q _ _ h=>absurd rfl h,(fun i j s h=>by cases h)⟩
end
end Go.Proofs.YtannniobeanhlaaGreat.Ix
namespace Go.Proofs.YtannniobeanhlaaGreat
structure Req where
 op:Int
 rule:Int
 cost:Int
 key:List Int
 k:Int
def req0:Req:=⟨0,0,0,[],0⟩
def byt (q:List Int):Prop:=∀ z ∈ q,0≤z∧z≤255
theorem zaT {q:List Int} (h:byt q) (j:Nat):0≤q.getD j 0∧q.getD j 0≤255:=by
 by_cases hj:j<q.length
 ·have:=h _ (List.getElem_mem hj)
  simpa [List.getD,hj] using this
 ·simp [List.getD,List.getElem?_eq_none (by omega:q.length≤j)]
def preZ (q:List Int):Nat→Int
 | 0=>0
 | j+1=>preZ q j*256+q.getD j 0
theorem zeB {q:List Int} (h:byt q):∀ j,0≤preZ q j∧preZ q j<256 ^ j
 | 0=>by simp [preZ]
 | j+1=>by
  have h1:=zeB h j
  have h2:=zaT h j
  rw [preZ,Int.pow_succ]
  omega
theorem zdz {q:List Int} (h:byt q) (n:Nat):byt (q.drop n):=fun z hz=>h z (List.mem_of_mem_drop hz)
theorem zfY {q:List Int} (h:byt q) (n:Nat):byt (q.take n):=fun z hz=>h z (List.mem_of_mem_take hz)
theorem zaO {q r:List Int} (h:byt q) (g:byt r):byt (q++r):=fun z hz=>(List.mem_append.1 hz).elim (h z) (g z)
def be:Nat→Int→List Int
 | 0,_=>[]
 | n+1,x=>be n (x / 256)++[x % 256]
theorem zaq:∀ n x,(be n x).length=n
 | 0,_=>rfl
 | n+1,x=>by rw [be,List.length_append,zaq n];rfl
theorem zbL:∀ n x,byt (be n x)
 | 0,_=>by intro z hz;cases hz
 | n+1,x=>zaO (zbL n _) (by intro z hz;simp at hz;omega)
theorem zkQ:∀ (n:Nat) (q:List Int),byt q→n≤q.length→be n (preZ q n)=q.take n
 | 0,_,_,_=>by simp [be]
 | n+1,q,h,hl=>by
  have hb:=zaT h n
  have e1:(preZ q n*256+q.getD n 0) / 256=preZ q n:=by omega
  have e2:(preZ q n*256+q.getD n 0) % 256=q.getD n 0:=by omega
  rw [be,preZ,e1,e2,zkQ n q h (by omega),List.take_succ_eq_append_getElem (by omega)]
  congr 1
  simp [List.getD,show n<q.length by omega]
def rightP (q:Req) (rules:Int):Prop :=
 (0≤q.rule∧q.rule<rules∧q.rule≤255) ∧
  (((q.op=1∨q.op=2)∧q.key.length≤64∧q.k=0)∨(q.op=3∧q.cost=0∧q.key=[]∧q.k=0)∨(q.op=4∧q.cost=0∧q.key=[]∧0≤q.k∧q.k≤255))
def encZ (q:Req):List Int :=
 if q.op<3 then 167 :: 1 :: 0 :: (7+(q.key.length:Int)) :: q.op :: q.rule :: (be 4 q.cost++(q.key.length:Int) :: q.key)
 else if q.op=4 then [167,1,0,3,4,q.rule,q.k]
 else [167,1,0,2,q.op,q.rule]
def fltZ (z:List Int) (rules:Int) (i:Nat):Int :=
 let c:=z.getD i 0
 let n:=z.getD 3 0
 if i=0∧c≠167 then 5
 else if i=1∧c≠1 then 6
 else if (i=2∧c≠0)∨(i=3∧(c<2∨(c > 3∧c<7)∨c > 71)) then 7
 else if i=4∧¬ ((c=3∧n=2)∨(c=4∧n=3)∨((c=1∨c=2)∧n ≥ 7)) then 8
 else if i=5∧c ≥ rules then 9
 else if i=10∧c≠n - 7 then 10
 else 0
def reqZ (z:List Int):Req :=
 let n:=z.getD 3 0
 if n ≥ 7 then ⟨z.getD 4 0,z.getD 5 0,preZ (z.drop 6) 4,(z.take (4+n.toNat)).drop 11,0⟩
 else if n=3 then ⟨z.getD 4 0,z.getD 5 0,0,[],z.getD 6 0⟩
 else ⟨z.getD 4 0,z.getD 5 0,0,[],0⟩
def wholeAt (z:List Int) (i:Nat):Prop:=3≤i∧(i:Int)+1=4+z.getD 3 0
instance (z:List Int) (i:Nat):Decidable (wholeAt z i):=inferInstanceAs (Decidable (_∧_))
def scanZ (z:List Int) (rules:Int):Nat→Nat→Req × Int × Int
 | 0,_=>(req0,0,0)
 | f+1,i=>if fltZ z rules i≠0 then (req0,0,fltZ z rules i) else if wholeAt z i then (reqZ z,(i:Int)+1,0) else scanZ z rules f (i+1)
def parseZ (z:List Int) (rules:Int):Req × Int × Int:=scanZ z rules z.length 0
theorem zcO {z:List Int} {rules:Int} {i:Nat} (h:i<z.length):scanZ z rules (z.length - i) i =
  if fltZ z rules i≠0 then (req0,0,fltZ z rules i) else if wholeAt z i then (reqZ z,(i:Int)+1,0) else scanZ z rules (z.length - (i+1)) (i+1):=by
 rw [show z.length - i=(z.length - (i+1))+1 by omega,scanZ]
def cleanZ (z:List Int) (rules:Int) (j:Nat):Prop:=∀ i<j,fltZ z rules i=0∧¬ wholeAt z i
theorem zdk {z:List Int} {rules:Int}:∀ (k:Nat) (j:Nat),j+k≤z.length→(∀ i,j≤i→i<j+k→fltZ z rules i=0∧¬ wholeAt z i)→scanZ z rules (z.length - j) j=scanZ z rules (z.length - (j+k)) (j+k)
 | 0,_,_,_=>rfl
 | k+1,j,h,hc=>by
  have h0:=hc j (Nat.le_refl _) (by omega)
  rw [zcO (by omega),if_neg (by simp [h0.1]),if_neg h0.2,zdk k (j+1) (by omega) (fun i a b=>hc i (by omega) (by omega))]
  congr 1 <;> omega
theorem zbG {z:List Int} {rules:Int} (j:Nat) (h:j≤z.length) (hc:cleanZ z rules j):parseZ z rules=scanZ z rules (z.length - j) j:=by
 have:=zdk (z:=z) (rules:=rules) j 0 (by omega) (fun i _ b=>hc i (by omega))
 simpa [parseZ] using this
theorem zex {z:List Int} {rules:Int} (hc:cleanZ z rules z.length):parseZ z rules=(req0,0,0):=by
 rw [zbG z.length (Nat.le_refl _) hc,Nat.sub_self,scanZ]
theorem zcK {z:List Int} {rules:Int} (i:Nat) (h:i<z.length) (hc:cleanZ z rules i) (hf:fltZ z rules i=0) (hw:wholeAt z i):parseZ z rules=(reqZ z,(i:Int)+1,0):=by
 rw [zbG i (by omega) hc,zcO h,if_neg (by simp [hf]),if_pos hw]
theorem zcJ {z:List Int} {rules:Int} (i:Nat) (h:i<z.length) (hc:cleanZ z rules i) (hf:fltZ z rules i≠0):parseZ z rules=(req0,0,fltZ z rules i):=by
 rw [zbG i (by omega) hc,zcO h,if_pos hf]
theorem zjO {z y:List Int} {rules:Int} {i:Nat} (h:z.getD i 0=y.getD i 0) (h3:3<i→z.getD 3 0=y.getD 3 0):fltZ z rules i=fltZ y rules i:=by
 unfold fltZ
 rw [h]
 by_cases hi:3<i
 ·rw [h3 hi]
 ·have a:¬ i=4:=by omega
  have b:¬ i=10:=by omega
  simp only [a,b,false_and,if_false]
theorem zhH {z y:List Int} {i:Nat} (h3:3≤i→z.getD 3 0=y.getD 3 0):wholeAt z i ↔ wholeAt y i:=by
 unfold wholeAt
 by_cases hi:3≤i
 ·rw [h3 hi]
 ·simp [hi]
theorem zcZ {z y:List Int} {rules:Int} {j:Nat} (h:∀ i<j,z.getD i 0=y.getD i 0) (hc:cleanZ z rules j):cleanZ y rules j:=fun i hi=>by
 have:=hc i hi
 rw [← zjO (h i hi) (fun h3=>h 3 (by omega)),← zhH (fun h3=>h 3 (by omega))]
 exact this
theorem zec {z:List Int} {i k:Nat} (h:i<k):(z.take k).getD i 0=z.getD i 0:=by
 simp [List.getD,h]
theorem zgb {z y:List Int} {i:Nat} (h:i<z.length):(z++y).getD i 0=z.getD i 0:=by
 simp [List.getD,List.getElem?_append_left h]
theorem zgU {q:Req} {rules:Int} (_h:rightP q rules):(encZ q).length=if q.op<3 then 11+q.key.length else if q.op=4 then 7 else 6:=by
 unfold encZ
 split
 ·simp [zaq];omega
 ·split <;> rfl
theorem zdl {z:List Int} {rules:Int}:∀ (f i:Nat) (q:Req) (n e:Int),scanZ z rules f i=(q,n,e)→n≠0→∃ j,i≤j∧j<i+f∧(∀ t,i≤t→t<j→fltZ z rules t=0∧¬ wholeAt z t)∧fltZ z rules j=0∧wholeAt z j∧q=reqZ z∧n=(j:Int)+1∧e=0
 | 0,i,q,n,e,h,hn=>by
  simp only [scanZ,Prod.mk.injEq] at h
  exact absurd h.2.1.symm hn
 | f+1,i,q,n,e,h,hn=>by
  rw [scanZ] at h
  by_cases h1:fltZ z rules i≠0
  ·rw [if_pos h1] at h
   simp only [Prod.mk.injEq] at h
   exact absurd h.2.1.symm hn
  ·rw [if_neg h1] at h
   have h1':fltZ z rules i=0:=by simpa using h1
   by_cases h2:wholeAt z i
   ·rw [if_pos h2] at h
    simp only [Prod.mk.injEq] at h
    exact ⟨i,Nat.le_refl _,by omega,fun t a b=>absurd b (by omega),h1',h2,h.1.symm,h.2.1.symm,h.2.2.symm⟩
   ·rw [if_neg h2] at h
    obtain ⟨j,a,b,c,d⟩:=zdl f (i+1) q n e h hn
    refine ⟨j,by omega,by omega,fun t ht1 ht2=>?_,d⟩
    rcases Nat.eq_or_lt_of_le ht1 with rfl | g
    ·exact ⟨h1',h2⟩
    ·exact c t g ht2
theorem zfp {z:List Int} {rules:Int} {q:Req} {n e:Int} (h:parseZ z rules=(q,n,e)) (hn:n≠0):∃ j,j<z.length∧cleanZ z rules j∧fltZ z rules j=0∧wholeAt z j∧q=reqZ z∧n=(j:Int)+1∧e=0:=by
 obtain ⟨j,_,b,c,d⟩:=zdl _ _ _ _ _ h hn
 exact ⟨j,by omega,fun t ht=>c t (Nat.zero_le _) ht,d⟩
theorem flt0 {z:List Int} {rules:Int} {i:Nat} (h:fltZ z rules i=0):(i=0→z.getD 0 0=167)∧(i=1→z.getD 1 0=1)∧(i=2→z.getD 2 0=0) ∧
  (i=3→z.getD 3 0=2∨z.getD 3 0=3∨(7≤z.getD 3 0∧z.getD 3 0≤71))∧(i=4→(z.getD 4 0=3∧z.getD 3 0=2)∨(z.getD 4 0=4∧z.getD 3 0=3)∨((z.getD 4 0=1∨z.getD 4 0=2)∧7≤z.getD 3 0)) ∧
  (i=5→z.getD 5 0<rules)∧(i=10→z.getD 10 0=z.getD 3 0 - 7):=by
 unfold fltZ at h
 simp only at h
 split at h
 ·omega
 split at h
 ·omega
 split at h
 ·omega
 split at h
 ·omega
 split at h
 ·omega
 split at h
 ·omega
 refine ⟨?_,?_,?_,?_,?_,?_,?_⟩ <;> intro hi <;> subst hi <;> omega
theorem zaB {z:List Int} {i:Nat} (h:i<z.length):z.drop i=z.getD i 0 :: z.drop (i+1):=by
 have:=List.drop_eq_getElem_cons h
 rw [this]
 simp [List.getD,h]
theorem zhI {z:List Int} {rules:Int} {j:Nat} (hj:j<z.length) (hc:cleanZ z rules j) (hf:fltZ z rules j=0) (hw:wholeAt z j) :
  6≤z.length∧((z.getD 4 0=3∧z.getD 3 0=2)∨(z.getD 4 0=4∧z.getD 3 0=3∧7≤z.length)∨((z.getD 4 0=1∨z.getD 4 0=2)∧7≤z.getD 3 0∧z.getD 10 0=z.getD 3 0 - 7∧4+z.getD 3 0≤(z.length:Int))):=by
 obtain ⟨h3,hw1⟩:=hw
 have hall:∀ i,i≤j→fltZ z rules i=0:=fun i hi=>by
  rcases Nat.eq_or_lt_of_le hi with rfl | g
  ·exact hf
  ·exact (hc i g).1
 have f3:=(flt0 (hall 3 h3)).2.2.2.1 rfl
 have hj5:5≤j:=by omega
 have f4:=(flt0 (hall 4 (by omega))).2.2.2.2.1 rfl
 refine ⟨by omega,?_⟩
 rcases f4 with h | h | h
 ·exact .inl h
 ·exact .inr (.inl ⟨h.1,h.2,by omega⟩)
 ·have f10:=(flt0 (hall 10 (by omega))).2.2.2.2.2.2 rfl
  exact .inr (.inr ⟨h.1,h.2,f10,by omega⟩)
theorem zeU (a:List Int) (x:Int) (b:List Int) (m k:Nat) (hk:k=a.length+(m+1)):(a++x :: b).take k=a++x :: b.take m:=by
 subst hk
 rw [List.take_append,List.take_of_length_le (by omega),Nat.add_sub_cancel_left,List.take_succ_cons]
theorem zh6 {z:List Int} {rules:Int} {q:Req} {n e:Int} (hz:byt z) (h:parseZ z rules=(q,n,e)) (hn:n≠0):e=0∧6≤n∧n≤z.length∧rightP q rules∧encZ q=z.take n.toNat∧0≤q.cost∧q.cost<4294967296:=by
 obtain ⟨j,hj,hc,hf,hw,rfl,rfl,rfl⟩:=zfp h hn
 have hw':=hw
 obtain ⟨h3,hw1⟩:=hw'
 have hall:∀ i,i≤j→fltZ z rules i=0:=fun i hi=>by
  rcases Nat.eq_or_lt_of_le hi with rfl | g
  ·exact hf
  ·exact (hc i g).1
 have f0:=(flt0 (hall 0 (by omega))).1 rfl
 have f1:=(flt0 (hall 1 (by omega))).2.1 rfl
 have f2:=(flt0 (hall 2 (by omega))).2.2.1 rfl
 have f3:=(flt0 (hall 3 h3)).2.2.2.1 rfl
 have hj5:5≤j:=by omega
 have f4:=(flt0 (hall 4 (by omega))).2.2.2.2.1 rfl
 have f5:=(flt0 (hall 5 (by omega))).2.2.2.2.2.1 rfl
 have b5:=zaT hz 5
 have hn':((j:Int)+1).toNat=j+1:=by omega
 rw [hn']
 have z0:z=167 :: 1 :: 0 :: z.getD 3 0 :: z.getD 4 0 :: z.getD 5 0 :: z.drop 6:=by
  have e0:=zaB (z:=z) (i:=0) (by omega)
  have e1:=zaB (z:=z) (i:=1) (by omega)
  have e2:=zaB (z:=z) (i:=2) (by omega)
  have e3:=zaB (z:=z) (i:=3) (by omega)
  have e4:=zaB (z:=z) (i:=4) (by omega)
  have e5:=zaB (z:=z) (i:=5) (by omega)
  rw [List.drop_zero] at e0
  rw [f0] at e0;rw [f1] at e1;rw [f2] at e2
  rw [← e5,← e4,← e3,← e2,← e1,← e0]
 obtain ⟨n3,hn3⟩:=zeq (z.getD 3 0)
 rw [← hn3] at f3 f4 hw1 z0
 have hpre:=zeB (zdz hz 6) 4
 have e256:(256:Int) ^ 4=4294967296:=rfl
 rw [e256] at hpre
 rcases f4 with ⟨a4,a3⟩ | ⟨a4,a3⟩ | ⟨a4,a3⟩
 ·have hj':j=5:=by omega
  subst hj'
  have e:reqZ z=⟨3,z.getD 5 0,0,[],0⟩:=by unfold reqZ;simp only [← hn3];rw [if_neg (by omega),if_neg (by omega),a4]
  refine ⟨rfl,by omega,by omega,?_,?_,?_⟩
  ·rw [e];refine ⟨⟨b5.1,f5,b5.2⟩,.inr (.inl ⟨rfl,rfl,rfl,rfl⟩)⟩
  ·rw [e]
   conv=>rhs;rw [z0,a3,a4]
   rfl
  ·rw [e];simp
 ·have hj':j=6:=by omega
  subst hj'
  have b6:=zaT hz 6
  have e:reqZ z=⟨4,z.getD 5 0,0,[],z.getD 6 0⟩:=by unfold reqZ;simp only [← hn3];rw [if_neg (by omega),if_pos a3,a4]
  refine ⟨rfl,by omega,by omega,?_,?_,?_⟩
  ·rw [e];refine ⟨⟨b5.1,f5,b5.2⟩,.inr (.inr ⟨rfl,rfl,rfl,b6⟩)⟩
  ·rw [e]
   conv=>rhs;rw [z0,a3,a4,zaB (i:=6) hj]
   rfl
  ·rw [e];simp
 ·have f10:=(flt0 (hall 10 (by omega))).2.2.2.2.2.2 rfl
  rw [← hn3] at f10
  have e:reqZ z=⟨z.getD 4 0,z.getD 5 0,preZ (z.drop 6) 4,(z.take (4+n3.toNat)).drop 11,0⟩:=by unfold reqZ;simp only [← hn3];rw [if_pos (by omega)]
  have hj':4+n3.toNat=j+1:=by omega
  rw [hj'] at e
  have hkl:((z.take (j+1)).drop 11).length=j+1 - 11:=by rw [List.length_drop,List.length_take];omega
  refine ⟨rfl,by omega,by omega,?_,?_,?_⟩
  ·rw [e];refine ⟨⟨b5.1,f5,b5.2⟩,.inl ⟨a4,?_,rfl⟩⟩
   show ((z.take (j+1)).drop 11).length≤64
   omega
  ·rw [e]
   unfold encZ
   rw [if_pos (by show z.getD 4 0<3;omega)]
   simp only
   rw [hkl,zkQ 4 (z.drop 6) (zdz hz 6) (by rw [List.length_drop];omega)]
   have d6:z.drop 6=(z.drop 6).take 4++z.drop 10:=by
    have:=(List.take_append_drop 4 (z.drop 6)).symm
    rw [List.drop_drop] at this
    exact this
   have d10:z.drop 10=z.getD 10 0 :: z.drop 11:=zaB (by omega)
   have e1:(7+((j+1 - 11:Nat):Int))=n3:=by omega
   have e2:((j+1 - 11:Nat):Int)=z.getD 10 0:=by omega
   rw [e1,e2]
   conv=>rhs;rw [z0,d6,d10]
   obtain ⟨m,rfl⟩:∃ m,j=m+10:=⟨j - 10,by omega⟩
   have e3:(z.take (m+10+1)).drop 11=(z.drop 11).take m:=by rw [List.drop_take];congr 1
   rw [e3]
   have hl4:((z.drop 6).take 4).length=4:=by rw [List.length_take,List.length_drop];omega
   simp only [List.take_succ_cons]
   rw [show m+10+1 - 11=m by omega] at *
   rw [zeU _ _ _ m (m+5) (by omega)]
  ·rw [e];exact hpre
end Go.Proofs.YtannniobeanhlaaGreat
namespace Go.Proofs.YtannniobeanhlaaGreat
theorem zlv {q:Req} (h:rightP q 256) (hk:byt q.key):byt (encZ q):=by
 obtain ⟨⟨h1,h2,h3⟩,h4⟩:=h
 unfold encZ
 rcases h4 with ⟨ho,hl,h0⟩ | ⟨ho,hc,_,h0⟩ | ⟨ho,hc,_,h0⟩
 ·rw [if_pos (by omega)]
  intro z hz
  simp only [List.mem_cons,List.mem_append] at hz
  rcases hz with rfl | rfl | rfl | rfl | rfl | rfl | hz | rfl | hz
  all_goals first | omega | exact zbL _ _ z hz | exact hk z hz
 ·rw [if_neg (by omega),if_neg (by omega)]
  intro z hz;simp at hz;omega
 ·rw [if_neg (by omega),if_pos ho]
  intro z hz;simp at hz;omega
end Go.Proofs.YtannniobeanhlaaGreat
namespace Go.Proofs.YtannniobeanhlaaGreat
theorem zgo {z:List Int} {rules:Int} (hc:cleanZ z rules z.length) (c:Int):parseZ (z++[c]) rules =
  if fltZ (z++[c]) rules z.length≠0 then (req0,0,fltZ (z++[c]) rules z.length) else if wholeAt (z++[c]) z.length then (reqZ (z++[c]),(z.length:Int)+1,0) else (req0,0,0):=by
 have hc':cleanZ (z++[c]) rules z.length:=zcZ (fun i hi=>(zgb hi).symm) hc
 have hl:z.length<(z++[c]).length:=by simp
 split
 ·rename_i h;exact zcJ _ hl hc' h
 ·rename_i h
  have h':fltZ (z++[c]) rules z.length=0:=by simpa using h
  split
  ·rename_i hw;exact zcK _ hl hc' h' hw
  ·rename_i hw
   refine zex (fun i hi=>?_)
   rw [List.length_append,List.length_singleton] at hi
   rcases Nat.lt_succ_iff_lt_or_eq.1 hi with g | rfl
   ·exact hc' i g
   ·exact ⟨h',hw⟩
def nextZ (rules:Int) (z:List Int) (c:Int):List Int:=if (parseZ (z++[c]) rules).2.2≠0∨0<(parseZ (z++[c]) rules).2.1 then [] else z++[c]
theorem zbM (rules:Int):cleanZ [] rules 0:=fun i h=>absurd h (by omega)
theorem zdb {z:List Int} {rules:Int} (hc:cleanZ z rules z.length) (c:Int):cleanZ (nextZ rules z c) rules (nextZ rules z c).length:=by
 unfold nextZ
 split
 ·exact zbM rules
 ·rename_i h
  have hc':cleanZ (z++[c]) rules z.length:=zcZ (fun i hi=>(zgb hi).symm) hc
  rw [zgo hc] at h
  intro i hi
  rw [List.length_append,List.length_singleton] at hi
  rcases Nat.lt_succ_iff_lt_or_eq.1 hi with g | rfl
  ·exact hc' i g
  ·by_cases h1:fltZ (z++[c]) rules z.length≠0
   ·rw [if_pos h1] at h;simp at h;exact absurd h h1
   ·rw [if_neg h1] at h
    by_cases h2:wholeAt (z++[c]) z.length
    ·rw [if_pos h2] at h;exact absurd (Or.inr (show (0:Int)<(z.length:Int)+1 by omega)) h
    ·exact ⟨by simpa using h1,h2⟩
theorem ze1 {z:List Int} {rules:Int} (hc:cleanZ z rules z.length):z.length≤74:=by
 rcases Nat.lt_or_ge z.length 75 with h | h
 ·omega
 ·have h3:=(flt0 (hc 3 (by omega)).1).2.2.2.1 rfl
  obtain ⟨n,hn⟩:∃ n:Nat,z.getD 3 0=(n:Int):=⟨(z.getD 3 0).toNat,by omega⟩
  have hw:=(hc (n+3) (by omega)).2
  exact absurd ⟨by omega,by rw [hn];omega⟩ hw
end Go.Proofs.YtannniobeanhlaaGreat
namespace Go.Proofs.YtannniobeanhlaaGreat
theorem zbk {a s:Nat} (h:a<2*s):a % s=if a<s then a else a - s:=by
 split
 ·exact Nat.mod_eq_of_lt (by assumption)
 ·rw [Nat.mod_eq_sub_mod (by omega)];exact Nat.mod_eq_of_lt (by omega)
def Ring (arr:List Int) (size first:Nat) (q:List Int):Prop :=
 arr.length=size∧first<size∧q.length≤size∧(∀ i,i<q.length→arr.getD ((first+i) % size) 0=q.getD i 0)
theorem zkp (size:Nat) (h:1≤size):Ring (List.replicate size 0) size 0 []:=⟨by simp,by omega,by simp,fun i hi=>by simp at hi⟩
theorem zhc (l:List Int) (i j:Nat) (v:Int) (hi:i<l.length):(l.set i v).getD j 0=if j=i then v else l.getD j 0:=by
 simp only [List.getD,List.getElem?_set]
 by_cases h:i=j
 ·subst h;simp [hi]
 ·rw [if_neg h,if_neg (fun e=>h e.symm)]
theorem zkq {arr:List Int} {size first:Nat} {q:List Int} (h:Ring arr size first q) (hq:q.length<size) (c:Int):Ring (arr.set ((first+q.length) % size) c) size first (q++[c]):=by
 obtain ⟨h1,h2,h3,h4⟩:=h
 refine ⟨by simp [h1],h2,by simp;omega,fun i hi=>?_⟩
 have hlt:(first+q.length) % size<arr.length:=by rw [h1];exact Nat.mod_lt _ (by omega)
 rw [zhc _ _ _ _ hlt]
 simp only [List.length_append,List.length_cons,List.length_nil] at hi
 have e1:=zbk (a:=first+i) (s:=size) (by omega)
 have e2:=zbk (a:=first+q.length) (s:=size) (by omega)
 by_cases hiq:i=q.length
 ·subst hiq
  rw [if_pos rfl];simp [List.getD]
 ·rw [if_neg (by rw [e1,e2];split <;> split <;> omega),h4 i (by omega)]
  simp [List.getD,List.getElem?_append,show i<q.length by omega]
theorem zi5 {arr:List Int} {size first:Nat} {c:Int} {q:List Int} (h:Ring arr size first (c :: q)):arr.getD first 0=c∧Ring arr size ((first+1) % size) q:=by
 obtain ⟨h1,h2,h3,h4⟩:=h
 simp only [List.length_cons] at h3 h4
 have h0:=h4 0 (by omega)
 rw [Nat.add_zero,Nat.mod_eq_of_lt h2] at h0
 refine ⟨by rw [h0];simp [List.getD],h1,Nat.mod_lt _ (by omega),by omega,fun i hi=>?_⟩
 have hh:=h4 (i+1) (by omega)
 have e1:=zbk (a:=first+1) (s:=size) (by omega)
 have e2:=zbk (a:=first+(i+1)) (s:=size) (by omega)
 have e3:=zbk (a:=(first+1) % size+i) (s:=size) (by rw [e1];split <;> omega)
 have e:((first+1) % size+i) % size=(first+(i+1)) % size:=by rw [e3,e2,e1];(repeat' split) <;> omega
 rw [e,hh];simp [List.getD]
theorem zhj {arr:List Int} {size first:Nat} {q:List Int} (h:Ring arr size first q):Ring arr size 0 []:=⟨h.1,by have:=h.2.1;omega,by simp,fun i hi=>by simp at hi⟩
theorem zhd (q:List Int) (i m:Nat) (hi:i<m) (hq:i<q.length):(q.take i++List.replicate (m - i) 0).set i (q[i])=q.take (i+1)++List.replicate (m - (i+1)) 0:=by
 have hl:(q.take i).length=i:=by rw [List.length_take];omega
 have e:m - i=(m - (i+1))+1:=by omega
 rw [List.set_append_right _ _ (by omega),hl,Nat.sub_self,e,List.replicate_succ,zs2,show q.take (i+1)=q.take i++[q[i]] from by rw [List.take_add_one,zge hq];rfl,List.append_assoc]
 rfl
end Go.Proofs.YtannniobeanhlaaGreat
namespace Go.Proofs.YtannniobeanhlaaGreat
theorem zln (x:Int):be 8 (x % 18446744073709551616)=be 8 x:=by
 simp only [be,List.nil_append,List.cons_append,List.cons.injEq,and_true]
 refine ⟨?_,?_,?_,?_,?_,?_,?_,?_⟩ <;> omega
def i64P (x:Int):Prop := -9223372036854775808≤x∧x≤9223372036854775807
structure Cnt where
 key:List Int
 n:Int
 e:Int
def Cnt.ok (c:Cnt):Prop:=c.key.length≤64∧byt c.key∧i64P c.n∧i64P c.e
def Cnt.z (c:Cnt):List Int:=(c.key.length:Int) :: (c.key++(be 8 c.n++be 8 c.e))
def flat:List Cnt→List Int
 | []=>[]
 | c :: l=>c.z++flat l
theorem zf8:∀ l m,flat (l++m)=flat l++flat m
 | [],_=>rfl
 | c :: l,m=>by rw [List.cons_append,flat,flat,zf8 l m,List.append_assoc]
theorem Cnt.z_length (c:Cnt):c.z.length=17+c.key.length:=by unfold Cnt.z;simp [zaq];omega
theorem Cnt.z_byt {c:Cnt} (h:c.ok):byt c.z:=by
 obtain ⟨h1,h2,_,_⟩:=h
 intro z hz
 unfold Cnt.z at hz
 simp only [List.mem_cons,List.mem_append] at hz
 rcases hz with rfl | hz | hz | hz
 ·omega
 ·exact h2 z hz
 ·exact zbL _ _ z hz
 ·exact zbL _ _ z hz
def oks (l:List Cnt):Prop:=∀ c ∈ l,c.ok
theorem zf9:∀ {l:List Cnt},oks l→byt (flat l)
 | [],_=>by intro z hz;cases hz
 | c :: l,h=>zaO (Cnt.z_byt (h c (by simp))) (zf9 (fun x hx=>h x (by simp [hx])))
theorem zcp:∀ {l:List Cnt},oks l→(flat l).length≤81*l.length
 | [],_=>by simp [flat]
 | c :: l,h=>by
  have h1:=zcp (l:=l) (fun x hx=>h x (by simp [hx]))
  have h2:=(h c (by simp)).1
  rw [flat,List.length_append,Cnt.z_length,List.length_cons]
  omega
def sumL:List Cnt→Nat
 | []=>0
 | c :: l=>17+c.key.length+sumL l
theorem zdH:∀ l,(flat l).length=sumL l
 | []=>rfl
 | c :: l=>by rw [flat,List.length_append,Cnt.z_length,zdH l,sumL]
def ansZ (op v rem ret:Int):List Int:=(128+op) :: v :: (be 8 rem++be 8 ret)
def totZ (rule a d b c wt:Int):List Int:=131 :: rule :: (be 8 a++(be 8 d++(be 8 b++(be 8 c++be 8 wt))))
def topZ (rule:Int) (l:List Cnt):List Int:=132 :: rule :: (l.length:Int) :: flat l
def errZ (e:Int):List Int:=[255,e]
def frmZ (b:List Int):List Int:=168 :: 1 :: (be 2 (b.length:Int)++b)
theorem zbt (b:List Int):(frmZ b).length=4+b.length:=by unfold frmZ;simp [zaq];omega
theorem zmi (x:Int):be 2 x=[x / 256 % 256,x % 256]:=by simp [be]
end Go.Proofs.YtannniobeanhlaaGreat
