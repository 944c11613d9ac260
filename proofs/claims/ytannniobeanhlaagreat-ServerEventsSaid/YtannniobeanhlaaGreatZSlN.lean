import Derived.Test.YtannniobeanhlaaGreatZIx
import Derived.Test.YtannniobeanhlaaGreatZGen
import Derived.Test.YtannniobeanhlaaGreatZHa
set_option linter.unusedSimpArgs false
set_option linter.unusedVariables false
set_option maxRecDepth 100000
set_option maxHeartbeats 9000000
namespace Go.Proofs.YtannniobeanhlaaGreat
open Go.ChangeShapes Go.WideShapes Go.ChangeAt Go.RowKit
section
open Ar (inR)
theorem zdW {P:Program} (w:World) (dT sT ty elem:TypeId) (m g o dLen dCap:Nat) (a:Addr) (sLen sCap:Nat) (cur:Array Value) (t:TypeId) (cs:List Value)
  (hu:P.underlying dT=some (.slice elem)) (hs:(P.info? elem).map (·.size)=some m)
  (hg:w.heap[g]?=some (.cells cur t (0,0))) (hn:cs.length=Nat.min sLen dLen*m)
  (hsrc:∀ j v,cs[j]?=some v→w.cell? (a.add j)=some v) (hfit:o+cs.length≤cur.size) (h1:∀ v ∈ cs,v.oneCell'=true) :
  (Builtin.copy_ #[dT,sT] ty #[.slice (some ⟨g,o,none⟩) dLen dCap,.slice (some a) sLen sCap]).run P w =
   .ok (goInt (Nat.min sLen dLen)) (w.setRow g (cur.toList.take o++cs++cur.toList.drop (o+cs.length)).toArray):=by
 have hl:=run_loadCells_list (P:=P) w a cs hsrc
 have hst:=run_storeCells_at P g o t cs 0 cur w hg (by simpa using hfit) h1
 cases hq:P.info? elem with
 | none=>simp [hq] at hs
 | some i =>
  have hi:i.size=m:=by simpa [hq] using hs
  rw [hn] at hl
  simp [Builtin.copy_,run_underlying hu,Builtin.lenOf,Builtin.firstCells,sizeOf,typeInfo,hq,hi,hl,hst]
theorem zho {w:World} {g:Nat} {cur c:Array Value} {t:TypeId} {f:Nat × Nat} (h:w.heap[g]?=some (.cells cur t f)):w.setRow g c=setObj w g (.cells c t f):=by
 have:=setRow_heap w g cur c t f h
 unfold World.setRow setObj at *
 congr 1
 apply Array.ext_getElem?
 intro k
 by_cases hk:g=k
 ·subst hk
  rw [this];simp [lt_of_block h]
 ·simp [Array.getElem?_modify,hk]
theorem zgA:(Tryz.prog.info? 192).map (·.size)=some 3:=by kernel_rfl
theorem zdj (k W:Nat) (h:8*(k*W)≤2147483647) (hk:k≤1000000) (hW:W≤2147483647) (w:World) :
  Calls Tryz.prog 121 #[.int .i64 (k:Int),.int .i64 (W:Int)] w fun e w'=>e=.returned (.int .i64 (8*((k*W:Nat):Int)))∧Below w.heap.size w w':=by
 obtain ⟨m,hm⟩:=zeq (k*W)
 rw [← hm] at h ⊢
 have c1:=fun w=>zaK (k:Int) (W:Int) (by unfold inR;omega) (by unfold inR;omega) w
 have c2:=fun w=>zaK 8 (m:Int) (by unfold inR;omega) (by unfold inR;omega) w
 rw [show (k:Int)*(W:Int)=(m:Int) by rw [hm,Int.natCast_mul],show clamp (m:Int)=(m:Int) by unfold clamp;split;omega;split <;> omega] at c1
 rw [show clamp (8*(m:Int))=8*(m:Int) by unfold clamp;split;omega;split <;> omega] at c2
 have C1:=zhz c1
 have C2:=zhz c2
 clear c1 c2 hm
 go_enter Tryz.func121,Tryz.ntmps121
 go_wp2_with (go_at_call 120;first
  | ((with_reducible refine (C1.out _).mono ?_);rintro e w' ⟨rfl,rfl⟩)
  | ((with_reducible refine (C2.out _).mono ?_);rintro e w' ⟨rfl,rfl⟩))
 go_ret
 exact ⟨rfl,Below.refl _ _⟩
end
structure Ent where
 k:ByteArray
 n:Int
 e:Int
 p:Nat
def encE (x:Ent):List Value:=[.int .i64 x.n,.int .i64 x.e,.int .i64 (x.p:Int)]
theorem zav (x:Ent):(encE x).length=3:=rfl
structure SmN where
 s:Nat
 g:Nat
 N:IxN
def SmN.F (Q:SmN) (k:Nat):Prop:=Q.N.F k∨k=Q.s∨k=Q.g
def SmN.all (Q:SmN) (k:Nat):Prop:=Q.F k∨k=Q.N.x
abbrev smC (Q:SmN) (m:Nat) (tot:Int):Array Value:=#[.pointer (some ⟨Q.N.b,0,none⟩),.pointer (some ⟨Q.N.x,0,none⟩),.slice (some ⟨Q.g,0,none⟩) m Q.N.n,.int .i64 tot]
structure SmOK (n:Nat) (L:List Ent) (tot:Int) (σ:KSt):Prop where
 key:∀ x ∈ L,σ.K x.p=some x.k
 has:∀ i s,σ.K i=some s→∃ x ∈ L,x.p=i
 nd:(L.map Ent.p).Nodup
 cnt:L.length+σ.fl.length=n
 bd:∀ x ∈ L,0≤x.n∧x.n≤tot∧0≤x.e∧x.e≤tot
 tb:0≤tot∧tot<4611686018427387904
structure SmAt (w:World) (Q:SmN) (L:List Ent) (tot:Int) (σ:KSt):Prop where
 hs:Blk w Q.s 176 (smC Q L.length tot)
 hg:∃ R:List Ent,Blk w Q.g 218 (rws encE (L++R)).toArray∧(L++R).length=Q.N.n
 ix:IdxAt w Q.N σ
 n1:1≤Q.N.n∧Q.N.n≤64
 ne:Q.s≠Q.g∧(∀ k,Q.N.F k∨k=Q.N.x→k≠Q.g∧k≠Q.s)
 ok:SmOK Q.N.n L tot σ
section
variable {w W:World} {Q:SmN} {L:List Ent} {tot:Int} {σ:KSt}
theorem SmAt.fr {F:Nat→Prop} (h:SmAt W Q L tot σ) (hf:Fr F W w) (hF:∀ k,Q.all k→¬ F k):SmAt w Q L tot σ:=by
 obtain ⟨R,h1,h2⟩:=h.hg
 exact ⟨h.hs.fr hf (hF _ (Or.inl (Or.inr (Or.inl rfl)))),⟨R,h1.fr hf (hF _ (Or.inl (Or.inr (Or.inr rfl)))),h2⟩,h.ix.fr hf (fun k hk=>hF k (by rcases hk with hk | hk;exact Or.inl (Or.inl hk);exact Or.inr hk)),h.n1,h.ne,h.ok⟩
theorem SmAt.keep (h:SmAt W Q L tot σ) (hb:Below W.heap.size W w):SmAt w Q L tot σ:=h.fr (F:=fun _=>False) (Fr.of_below hb) (fun _ _=>id)
theorem SmAt.lt (h:SmAt w Q L tot σ):∀ k,Q.all k→k<w.heap.size:=by
 obtain ⟨R,h1,h2⟩:=h.hg
 rintro k ((hk | hk | hk) | hk)
 ·exact h.ix.lt k (Or.inl hk)
 ·rw [hk];exact lt_of_block h.hs
 ·rw [hk];exact lt_of_block h1
 ·exact h.ix.lt k (Or.inr hk)
theorem SmAt.le (h:SmAt w Q L tot σ):L.length≤Q.N.n:=by have:=h.ok.cnt;omega
theorem SmAt.cell (h:SmAt w Q L tot σ) {i:Nat} {x:Ent} (hi:L[i]?=some x):w.cell? ⟨Q.g,i*3,none⟩=some (.int .i64 x.n)∧w.cell? ⟨Q.g,i*3+1,none⟩=some (.int .i64 x.e)∧w.cell? ⟨Q.g,i*3+2,none⟩=some (.int .i64 (x.p:Int)):=by
 obtain ⟨R,h1,h2⟩:=h.hg
 have hi':(L++R)[i]?=some x:=by rw [List.getElem?_append_left (zgs.1 hi).1];exact hi
 exact ⟨zas zav h1 hi' (j:=0) (by omega),zas zav h1 hi' (j:=1) (by omega),zas zav h1 hi' (j:=2) (by omega)⟩
/-! #### Len,Total,Least -/
theorem zfJ (w:World) (h:SmAt w Q L tot σ):Calls Tryz.prog 58 #[.pointer (some ⟨Q.s,0,none⟩)] w fun e w'=>e=.returned (.int .i64 tot)∧w=w':=by
 have k:=h.hs.rd
 clear h
 go_enter Tryz.func58,Tryz.ntmps58
 go_wp2
 go_ret
 exact ⟨rfl,rfl⟩
def leastE (n:Nat) (L:List Ent):Int:=if L.length<n then 0 else match L.getLast? with
 | some x=>x.n
 | none=>0
theorem zbI (w:World) (h:SmAt w Q L tot σ):Calls Tryz.prog 247 #[.pointer (some ⟨Q.s,0,none⟩)] w fun e w'=>e=.returned (.int .i64 (leastE Q.N.n L))∧Below w.heap.size w w':=by
 have k:=h.hs.rd
 have hn:=h.n1
 have hle:=h.le
 have CL:=zhz (fun wx (hb:Below w.heap.size w wx)=>zb3 wx ((h.ix.keep hb).ks))
 by_cases hm:L.length<Q.N.n
 ·have t1:decide ((L.length:Int)<(Q.N.n:Int))=true:=by rw [decide_eq_true_iff];omega
  have e1:leastE Q.N.n L=0:=by unfold leastE;rw [if_pos hm]
  rw [e1]
  have HS:=zhz h.hs
  clear h hn hle e1
  go_enter Tryz.func247,Tryz.ntmps247
  go_upto_region 1 with (fail)
  have hS:(fun w':World=>∀ i,w'.cell? ⟨Q.s,i,none⟩=(smC Q L.length tot)[i]?) w.drew:=fun i=>(show Blk w.drew Q.s 176 _ from HS.out.keep (zaa (Below.refl _ _) 1)).rd i
  refine wp_region_held_drew (S:=(fun w':World=>∀ i,w'.cell? ⟨Q.s,i,none⟩=(smC Q L.length tot)[i]?)) (by kernel_rfl) hS (fun hHeld=>?_)
  refine wR 0 ?_
  refine wR 1 ?_
  refine wR 2 ?_
  refine wR 3 ?_
  refine wR 4 ?_
  refine wR 5 ?_
  refine wR 6 ?_
  refine wR 7 ?_
  refine wR 8 ?_
  refine wR 9 ?_
  refine wR 10 ?_
  refine wR 11 ?_
  refine wC 12 fun K hK=>?_
  go_simp
  ((with_reducible refine (CL.out w.drew (zaa (Below.refl _ _) 1)).mono ?_);rintro e wx ⟨rfl,rfl⟩)
  refine hK.out _ _ hHeld fun hHeld=>?_
  clear hK K
  try simp only [Act.put,zs1,zs2,zs3]
  refine wR 13 ?_
  refine wR 14 ?_
  refine wpAnyH_done (by kernel_rfl) ?_ _
  clear hHeld hS
  have k:=(show Blk w.drew Q.s 176 _ from HS.out.keep (zaa (Below.refl _ _) 1)).rd
  go_wp2
  go_ret
  exact ⟨rfl,zaa (Below.refl _ _) _⟩
 ·have hlen:L.length=Q.N.n:=by omega
  obtain ⟨j,hj⟩:=zeq (L.length - 1)
  have hjl:j<L.length:=by omega
  have e1:leastE Q.N.n L=(L[j]).n:=by
   unfold leastE
   rw [if_neg hm,List.getLast?_eq_getElem?,← hj,zge hjl]
  obtain ⟨x,hx⟩:=zeq (L[j])
  have hxj:L[j]?=some x:=by rw [hx];exact zge hjl
  obtain ⟨c0,c1,c2⟩:=h.cell hxj
  have HC:=zhz (fun wx (hb:Below w.heap.size w wx)=>(h.keep hb).cell hxj)
  rw [e1,← hx]
  have HS:=zhz h.hs
  rw [hlen] at k HS
  have t1:decide ((Q.N.n:Int)<(Q.N.n:Int))=false:=by rw [zdn];omega
  have e2:IntKind.i64.wrap ((Q.N.n:Int) - 1)=(j:Int):=by rw [IntKind.wrap_i64];omega
  have t2:(0:Int)≤(j:Int):=by omega
  have t3:(j:Int)<(Q.N.n:Int):=by omega
  clear h hn hle hm e1 hlen hj hjl hx hxj
  go_enter Tryz.func247,Tryz.ntmps247
  go_upto_region 1 with (fail)
  have hS:(fun w':World=>∀ i,w'.cell? ⟨Q.s,i,none⟩=(smC Q Q.N.n tot)[i]?) w.drew:=fun i=>(show Blk w.drew Q.s 176 _ from HS.out.keep (zaa (Below.refl _ _) 1)).rd i
  refine wp_region_held_drew (S:=(fun w':World=>∀ i,w'.cell? ⟨Q.s,i,none⟩=(smC Q Q.N.n tot)[i]?)) (by kernel_rfl) hS (fun hHeld=>?_)
  refine wR 0 ?_
  refine wR 1 ?_
  refine wR 2 ?_
  refine wR 3 ?_
  refine wR 4 ?_
  refine wR 5 ?_
  refine wR 6 ?_
  refine wR 7 ?_
  refine wR 8 ?_
  refine wR 9 ?_
  refine wR 10 ?_
  refine wR 11 ?_
  refine wC 12 fun K hK=>?_
  go_simp
  ((with_reducible refine (CL.out w.drew (zaa (Below.refl _ _) 1)).mono ?_);rintro e wx ⟨rfl,rfl⟩)
  refine hK.out _ _ hHeld fun hHeld=>?_
  clear hK K
  try simp only [Act.put,zs1,zs2,zs3]
  refine wR 13 ?_
  refine wR 14 ?_
  refine wpAnyH_done (by kernel_rfl) ?_ _
  clear hHeld hS
  clear k c0 c1 c2
  have k:=(show Blk w.drew Q.s 176 _ from HS.out.keep (zaa (Below.refl _ _) 1)).rd
  obtain ⟨c0,c1,c2⟩:=HC.out w.drew (zaa (Below.refl _ _) 1)
  go_upto_region 3 with (fail)
  have hS:(fun w':World=>(∀ i,w'.cell? ⟨Q.s,i,none⟩=(smC Q Q.N.n tot)[i]?)∧w'.cell? ⟨Q.g,j*3,none⟩=some (.int .i64 x.n)) w.drew.drew:=⟨(show Blk w.drew.drew Q.s 176 _ from HS.out.keep (zaa (Below.refl _ _) 2)).rd,(HC.out w.drew.drew (zaa (Below.refl _ _) 2)).1⟩
  refine wp_region_held_drew (S:=(fun w':World=>(∀ i,w'.cell? ⟨Q.s,i,none⟩=(smC Q Q.N.n tot)[i]?)∧w'.cell? ⟨Q.g,j*3,none⟩=some (.int .i64 x.n))) (by kernel_rfl) hS (fun hHeld=>?_)
  refine wR 0 ?_
  refine wR 1 ?_
  refine wR 2 ?_
  refine wR 3 ?_
  refine wR 4 ?_
  refine wR 5 ?_
  refine wR 6 ?_
  refine wR 7 ?_
  refine wR 8 ?_
  refine wR 9 ?_
  refine wR 10 ?_
  refine wR 11 ?_
  refine wR 12 ?_
  refine wR 13 ?_
  refine wpAnyH_done (by kernel_rfl) ?_ _
  clear hHeld hS
  go_wp2
  go_ret
  exact ⟨rfl,(show Below w.heap.size w w.drew.drew from zaa (Below.refl _ _) 2)⟩
end
section
variable {w W:World} {Q:SmN} {L:List Ent} {tot:Int} {σ:KSt}
theorem SmOK.pos {n:Nat} (h:SmOK n L tot σ) (hu:(∀ i j s,σ.K i=some s→σ.K j=some s→i=j)∧(∀ i s,σ.K i=some s→i<n∧s.size≤64)) {x:Ent} (hx:x ∈ L):posN n σ.K x.k=some x.p :=
 zlU (hu.2 _ _ (h.key x hx)).1 (h.key x hx) hu.1
theorem SmOK.no {n:Nat} (h:SmOK n L tot σ) {s:ByteArray} (hs:∀ x ∈ L,x.k≠s):posN n σ.K s=none :=
 zlV (fun i _ e=>by
  obtain ⟨x,hx,hp⟩:=h.has i s e
  have:=h.key x hx
  rw [hp,e] at this
  exact hs x hx (Option.some.inj this).symm)
theorem SmOK.other {n:Nat} (h:SmOK n L tot σ) {i j:Nat} {x y:Ent} (hi:L[i]?=some y) (hj:L[j]?=some x) (hij:i≠j):y.p≠x.p:=fun e=>by
 have hi':=zgs.1 hi
 have hj':=zgs.1 hj
 obtain ⟨li,ei⟩:=hi'
 obtain ⟨lj,ej⟩:=hj'
 have hp:=List.pairwise_iff_getElem.1 h.nd
 have key:∀ a b (la:a<L.length) (lb:b<L.length),a<b→L[a].p≠L[b].p:=fun a b la lb hab=>by
  have:=hp a b (by simpa using la) (by simpa using lb) hab
  simpa using this
 rcases Nat.lt_or_gt_of_ne hij with h1 | h1
 ·exact key i j li lj h1 (by rw [ei,ej];exact e)
 ·exact key j i lj li h1 (by rw [ei,ej];exact e.symm)
theorem zeJ (s:ByteArray) (hs:s.size≤maxLen) (w:World) (h:SmAt w Q L tot σ) (hk:∀ x ∈ L,x.k≠s):Calls Tryz.prog 228 #[.pointer (some ⟨Q.s,0,none⟩),.string s] w fun e w'=>e=.returned (.int .i64 (-1))∧Below w.heap.size w w':=by
 have CF:=zhz (zb1 s hs w h.ix)
 rw [h.ok.no hk] at CF
 have k:=h.hs.rd
 clear h hk
 go_enter Tryz.func228,Tryz.ntmps228
 go_wp2_with (go_at_call 89;refine (show Calls Tryz.prog 89 #[.pointer (some ⟨Q.N.x,0,none⟩),.string s] w (fun e w'=>e=.returned (.int .i64 (-1))∧Below w.heap.size w w') from CF.out).mono ?_;rintro e w1 ⟨rfl,b1⟩;have B1:=zhz b1;clear b1)
 go_ret
 exact ⟨rfl,B1.out⟩
theorem zdq (j:Nat) (x:Ent) (hs:x.k.size≤maxLen) (w:World) (h:SmAt w Q L tot σ) (hj:L[j]?=some x):Calls Tryz.prog 228 #[.pointer (some ⟨Q.s,0,none⟩),.string x.k] w fun e w'=>e=.returned (.int .i64 (j:Int))∧Below w.heap.size w w':=by
 have CF:=zhz (zb1 x.k hs w h.ix)
 have hu:=h.ix.uni
 rw [h.ok.pos ⟨hu.1,hu.2.1⟩ (List.mem_of_getElem? hj)] at CF
 have k:=h.hs.rd
 have hle:=h.le
 have hn:=h.n1
 have hjl:=(zgs.1 hj).1
 have t0:decide ((x.p:Int)<0)=false:=by rw [zdn];omega
 have HH:=zhz h
 have HJ:=zhz hj
 obtain ⟨m,hm⟩:=zeq (L.length)
 rw [← hm] at k hjl hle
 have HM:=zhz hm
 clear h hj hu hm
 go_enter Tryz.func228,Tryz.ntmps228
 go_upto_region 6 with (go_at_call 89;refine (show Calls Tryz.prog 89 #[.pointer (some ⟨Q.N.x,0,none⟩),.string x.k] w (fun e w'=>e=.returned (.int .i64 (x.p:Int))∧Below w.heap.size w w') from CF.out).mono ?_;rintro e w1 ⟨rfl,b1⟩;have B1:=zhz b1;clear b1)
 clear k
 have H1:=zhz (HH.out.keep B1.out)
 go_wp2
 go_loopg [6] m (fun k0 si wr=>∃ i:Nat,Hid (k0=m - i)∧si=.int .i64 (i:Int)∧i≤j∧Hid (wr=w1))
 case atStart=>exact ⟨0,zhz rfl,rfl,Nat.zero_le _,zhz rfl⟩
 case round =>
  obtain ⟨i,HK,rfl,hij,HW⟩:=hrel
  have hw:=HW.out
  subst hw
  have il:i<m:=by omega
  obtain ⟨y,hy⟩:∃ y,L[i]?=some y:=⟨_,zge (by rw [← HM.out];exact il)⟩
  obtain ⟨c0,c1,c2⟩:=H1.out.cell hy
  have k:=H1.out.hs.rd
  rw [← HM.out] at k
  have t1:(0:Int)≤(i:Int):=by omega
  have t2:(i:Int)<(m:Int):=by omega
  by_cases e:i=j
  ·have hxy:y=x:=by have:=HJ.out;rw [← e,hy] at this;exact Option.some.inj this
   rw [hxy] at c2
   have b1:((x.p:Int) != (x.p:Int))=false:=by simp
   subst e
   clear hy hxy c0 c1 hij il
   go_wp2
   go_ret
   exact ⟨rfl,B1.out⟩
  ·have hne:=HH.out.ok.other hy HJ.out e
   have b1:((y.p:Int) != (x.p:Int))=true:=by simp;omega
   have fi:IntKind.i64.wrap ((i:Int)+1)=((i+1:Nat):Int):=by rw [IntKind.wrap_i64];omega
   have HI:=zhz (show i+1≤j∧m - (i+1)<m - i by omega)
   clear hy c0 c1 hne hij il e
   go_wp2
   go_roundg (m - (i+1))
   case measure=>have:=HK.out;have:=HI.out;omega
   case rel=>exact ⟨i+1,zhz rfl,rfl,HI.out.1,zhz rfl⟩
theorem zhp (s:ByteArray) (hs:s.size≤maxLen) (w:World) (h:SmAt w Q L tot σ) (hk:∀ x ∈ L,x.k≠s):Calls Tryz.prog 249 #[.pointer (some ⟨Q.s,0,none⟩),.string s] w fun e w'=>e=.returned (.tuple #[.int .i64 0,.int .i64 0,.bool false])∧Below w.heap.size w w':=by
 have C:=zhz (zeJ s hs w h hk)
 clear h hk
 go_enter Tryz.func249,Tryz.ntmps249
 go_wp2_with (go_at_call 228;((with_reducible refine C.out.mono ?_);rintro e w1 ⟨rfl,b1⟩;have B1:=zhz b1;clear b1))
 go_ret3
 exact ⟨rfl,B1.out⟩
theorem zfG (j:Nat) (x:Ent) (hs:x.k.size≤maxLen) (w:World) (h:SmAt w Q L tot σ) (hj:L[j]?=some x):Calls Tryz.prog 249 #[.pointer (some ⟨Q.s,0,none⟩),.string x.k] w fun e w'=>e=.returned (.tuple #[.int .i64 x.n,.int .i64 x.e,.bool true])∧Below w.heap.size w w':=by
 have C:=zhz (zdq j x hs w h hj)
 have hjl:=(zgs.1 hj).1
 have hle:=h.le
 have hn:=h.n1
 have HH:=zhz h
 have t1:(0:Int)≤(j:Int):=by omega
 have t0:decide ((j:Int)<0)=false:=by rw [zdn];omega
 obtain ⟨m,hm⟩:=zeq (L.length)
 have t2:(j:Int)<(m:Int):=by omega
 have HM:=zhz hm
 have HJ:=zhz hj
 clear h hjl hle hn hm hj
 go_enter Tryz.func249,Tryz.ntmps249
 go_upto_region 4 with (go_at_call 228;((with_reducible refine C.out.mono ?_);rintro e w1 ⟨rfl,b1⟩;have B1:=zhz b1;clear b1))
 have H2:=zhz (HH.out.keep (show Below w.heap.size w w1.drew from zaa B1.out 1))
 have hS:(fun w':World=>(∀ i,w'.cell? ⟨Q.s,i,none⟩=(smC Q m tot)[i]?)∧w'.cell? ⟨Q.g,j*3,none⟩=some (.int .i64 x.n)∧w'.cell? ⟨Q.g,j*3+1,none⟩=some (.int .i64 x.e)) w1.drew:=⟨by rw [HM.out];exact H2.out.hs.rd,(H2.out.cell HJ.out).1,(H2.out.cell HJ.out).2.1⟩
 refine wp_region_held_drew (S:=(fun w':World=>(∀ i,w'.cell? ⟨Q.s,i,none⟩=(smC Q m tot)[i]?)∧w'.cell? ⟨Q.g,j*3,none⟩=some (.int .i64 x.n)∧w'.cell? ⟨Q.g,j*3+1,none⟩=some (.int .i64 x.e))) (by kernel_rfl) hS (fun hHeld=>?_)
 refine wR 0 ?_
 refine wR 1 ?_
 refine wR 2 ?_
 refine wR 3 ?_
 refine wR 4 ?_
 refine wR 5 ?_
 refine wR 6 ?_
 refine wR 7 ?_
 refine wR 8 ?_
 refine wR 9 ?_
 refine wR 10 ?_
 refine wR 11 ?_
 refine wR 12 ?_
 refine wR 13 ?_
 refine wR 14 ?_
 refine wR 15 ?_
 refine wR 16 ?_
 refine wR 17 ?_
 refine wR 18 ?_
 refine wpAnyH_done (by kernel_rfl) ?_ _
 clear hHeld hS
 go_wp2
 go_ret3
 exact ⟨rfl,zaa B1.out 1⟩
end
section
variable {w W:World} {Q:SmN} {L M:List Ent} {tot:Int} {σ:KSt}
def KSt.off (σ:KSt) (p:Nat):KSt:=⟨σ.fl++[p],fun j=>if j=p then none else σ.K j⟩
theorem SmOK.drop {n:Nat} {x:Ent} (h:SmOK n (M++[x]) tot σ):SmOK n M tot (σ.off x.p):=by
 have hlast:(M++[x])[M.length]?=some x:=by simp
 have hne:∀ y ∈ M,y.p≠x.p:=fun y hy=>by
  obtain ⟨i,hi,e⟩:=List.mem_iff_getElem.1 hy
  exact h.other (i:=i) (j:=M.length) (by rw [List.getElem?_append_left hi,zge hi,e]) hlast (by omega)
 refine ⟨fun y hy=>?_,fun i s hi=>?_,?_,?_,fun y hy=>h.bd y (List.mem_append_left _ hy),h.tb⟩
 ·show (if y.p=x.p then none else σ.K y.p)=some y.k
  rw [if_neg (hne y hy)]
  exact h.key y (List.mem_append_left _ hy)
 ·have hi:(if i=x.p then none else σ.K i)=some s:=hi
  by_cases e:i=x.p
  ·rw [if_pos e] at hi;cases hi
  ·rw [if_neg e] at hi
   obtain ⟨y,hy,hp⟩:=h.has i s hi
   rcases List.mem_append.1 hy with h1 | h1
   ·exact ⟨y,h1,hp⟩
   ·rw [List.mem_singleton.1 h1] at hp;exact absurd hp.symm e
 ·have:=h.nd
  rw [List.map_append] at this
  exact (List.nodup_append.1 this).1
 ·have:=h.cnt
  rw [List.length_append] at this
  show M.length+(σ.fl++[x.p]).length=n
  rw [List.length_append]
  simp only [List.length_singleton] at this ⊢
  omega
theorem zdp (x:Ent) (w:World) (h:SmAt w Q (M++[x]) tot σ):Calls Tryz.prog 246 #[.pointer (some ⟨Q.s,0,none⟩)] w fun e w'=>e=.returned (.tuple #[])∧SmAt w' Q M tot (σ.off x.p)∧Fr Q.F w w':=by
 obtain ⟨m,hm⟩:=zeq (M.length)
 have hlast:(M++[x])[m]?=some x:=by rw [hm];simp
 obtain ⟨m1,hm1⟩:=zeq (m+1)
 have hlen:(M++[x]).length=m1:=by rw [hm1,hm];simp
 have hu:=h.ix.uni
 have hx:x ∈ M++[x]:=by simp
 have hkey:=h.ok.key x hx
 have hsz:=hu.2.1 x.p x.k hkey
 have hle:=h.le
 have hn:=h.n1
 rw [hlen] at hle
 have HH:=zhz h
 have CK:=zhz (fun wx (hb:Below w.heap.size w wx)=>zdK x.p x.k wx ((h.ix.keep hb).ks) hsz.1 hkey)
 have CR:=zhz (fun wx (hb:Below w.heap.size w wx)=>zcf x.k (by have:=hsz.2;unfold maxLen;omega) wx (h.ix.keep hb))
 have hpos:=h.ok.pos ⟨hu.1,hu.2.1⟩ hx
 have hdel:σ.del Q.N.n x.k=(σ.off x.p,some x.p):=by unfold KSt.del;rw [hpos];rfl
 rw [hdel] at CR
 have HL:=zhz hlast
 have HM:=zhz (And.intro hm hlen)
 have k:=h.hs.rd
 rw [hlen] at k
 have e1:IntKind.i64.wrap ((m1:Int) - 1)=(m:Int):=by rw [IntKind.wrap_i64];omega
 have t1:(0:Int)≤(m:Int):=by omega
 have t2:(m:Int)<(m1:Int):=by omega
 have HLE:=zhz (show m+1≤Q.N.n∧1≤Q.N.n∧Q.N.n≤64 by omega)
 clear h hu hx hkey hsz hle hn hpos hdel hlast hm hlen hm1
 go_enter Tryz.func246,Tryz.ntmps246
 go_upto_region 1 with (fail)
 clear k
 have HS:=zhz (show ∀ wx,Below w.heap.size w wx→(fun w':World=>(∀ i,w'.cell? ⟨Q.s,i,none⟩=(smC Q m1 tot)[i]?)∧w'.cell? ⟨Q.g,m*3+2,none⟩=some (.int .i64 (x.p:Int))) wx from fun wx hb=>⟨by have:=(HH.out.keep hb).hs.rd;rw [HM.out.2] at this;exact this,((HH.out.keep hb).cell HL.out).2.2⟩)
 have B1:=zhz (show Below w.heap.size w w.drew from zaa (Below.refl _ _) 1)
 refine wp_region_held_drew (S:=(fun w':World=>(∀ i,w'.cell? ⟨Q.s,i,none⟩=(smC Q m1 tot)[i]?)∧w'.cell? ⟨Q.g,m*3+2,none⟩=some (.int .i64 (x.p:Int)))) (by kernel_rfl) (HS.out _ B1.out) (fun hHeld=>?_)
 refine wR 0 ?_
 refine wR 1 ?_
 refine wR 2 ?_
 refine wR 3 ?_
 refine wR 4 ?_
 refine wR 5 ?_
 refine wR 6 ?_
 refine wR 7 ?_
 refine wR 8 ?_
 refine wR 9 ?_
 refine wR 10 ?_
 refine wR 11 ?_
 refine wC 12 fun K hK=>?_
 go_simp
 ((with_reducible refine (CK.out w.drew B1.out).mono ?_);rintro e w2 ⟨rfl,b2⟩;have B2:=zhz (G.below_on B1.out b2);clear b2)
 refine hK.out _ _ (HS.out _ B2.out) fun hHeld=>?_
 clear hK K
 try simp only [Act.put,zs1,zs2,zs3]
 refine wR 13 ?_
 refine wR 14 ?_
 refine wR 15 ?_
 refine wR 16 ?_
 refine wR 17 ?_
 refine wpAnyH_done (by kernel_rfl) ?_ _
 have k:=hHeld.1
 clear hHeld
 go_upto_region 3 with (go_at_call 260;refine (show Calls Tryz.prog 260 #[.pointer (some ⟨Q.N.x,0,none⟩),.string x.k] w2 (fun e w'=>e=.returned (.int .i64 (x.p:Int))∧IdxAt w' Q.N (σ.off x.p)∧Fr Q.N.F w2 w') from CR.out _ B2.out).mono ?_;rintro e w3 ⟨rfl,i3,f3⟩;have I3:=zhz i3;have F3:=zhz f3;clear i3 f3)
 clear k
 have H2:=zhz (HH.out.keep B2.out)
 have h3:=H2.out.hs.fr F3.out (fun hF=>(H2.out.ne.2 _ (Or.inl hF)).2 rfl)
 rw [HM.out.2] at h3
 have H3:=zhz h3
 have k:=h3.rd
 have kw:=h3.wr
 obtain ⟨w4,e4,r4,f4,s4⟩:=G.box_set h3 2 (.slice (some ⟨Q.g,0,none⟩) m Q.N.n) (smC Q m tot) rfl
 have R4:=zhz r4
 have F4:=zhz f4
 have t3:(m:Int)≤(Q.N.n:Int):=by have:=HLE.out.1;omega
 have hmn:m≤Q.N.n:=by have:=HLE.out.1;omega
 clear h3 r4 f4 s4
 go_wp2
 go_end0
 have hh:=H2.out
 obtain ⟨R,hg,hl⟩:=hh.hg
 refine ⟨rfl,⟨by rw [← HM.out.1];exact R4.out,⟨x :: R,?_,?_⟩,I3.out.fr F4.out (fun k hk e=>(hh.ne.2 k hk).2 e),hh.n1,hh.ne,hh.ok.drop⟩,?_⟩
 ·have:=(hg.fr F3.out (fun hF=>(hh.ne.2 _ (Or.inl hF)).1 rfl)).fr F4.out (fun e=>hh.ne.1 e.symm)
  rw [List.append_assoc] at this
  exact this
 ·rw [List.append_assoc] at hl
  exact hl
 ·exact ((Fr.of_below B2.out).trans (F3.out.mono (fun k hk=>Or.inl hk))).trans (F4.out.mono (fun k hk=>Or.inr (Or.inl hk)))
end
section
variable {w W:World} {Q:SmN} {L M:List Ent} {tot:Int} {σ:KSt}
theorem zfE (w:World) (h:SmAt w Q L tot σ):Calls Tryz.prog 227 #[.pointer (some ⟨Q.s,0,none⟩)] w fun e w'=>e=.returned (.tuple #[])∧(∃ σ',SmAt w' Q [] 0 σ')∧Fr Q.F w w':=by
 have H0:=zhz h
 clear h
 go_enter Tryz.func227,Tryz.ntmps227
 go_upto_region 1 with (fail)
 go_loopg [] L.length (fun kk wr=>∃ (M:List Ent) (ρ:KSt),Hid (kk=M.length)∧Hid (SmAt wr Q M tot ρ)∧Hid (Fr Q.F w wr))
 case atStart=>exact ⟨L,σ,zhz rfl,H0,zhz (Fr.refl _ _)⟩
 case round =>
  obtain ⟨M,ρ,HK,HM,HF⟩:=hrel
  have k:=HM.out.hs.rd
  rcases List.eq_nil_or_concat M with e | ⟨N,x,e⟩
  ·rw [e] at k HM
   have kw:=HM.out.hs.wr
   obtain ⟨w4,e4,r4,f4,s4⟩:=G.box_set HM.out.hs 3 (.int .i64 0) (smC Q 0 0) rfl
   have R4:=zhz r4
   have F4:=zhz f4
   clear r4 f4 s4
   go_wp2
   go_end0
   have hh:=HM.out
   obtain ⟨R,hg,hl⟩:=hh.hg
   refine ⟨rfl,⟨ρ,R4.out,⟨R,hg.fr F4.out (fun e=>hh.ne.1 e.symm),hl⟩,hh.ix.fr F4.out (fun k hk e=>(hh.ne.2 k hk).2 e),hh.n1,hh.ne,⟨(fun x hx=>by cases hx),hh.ok.has,List.nodup_nil,hh.ok.cnt,(fun x hx=>by cases hx),by omega⟩⟩,HF.out.trans (F4.out.mono (fun k hk=>Or.inr (Or.inl hk)))⟩
  ·rw [List.concat_eq_append] at e
   have hlen:M.length=N.length+1:=by rw [e];simp
   rw [hlen] at k
   rw [e] at HM
   have HLEN:=zhz hlen
   have CD:=zhz (zdp x wr HM.out)
   have t1:(0:Int)<((N.length+1:Nat):Int):=by omega
   clear e hlen
   go_wp2_with (go_at_call 246;((with_reducible refine CD.out.mono ?_);rintro e w3 ⟨rfl,h3,f3⟩;have H3:=zhz h3;have F3:=zhz (HF.out.trans f3);clear h3 f3))
   go_roundg N.length
   case measure=>have:=HK.out;have:=HLEN.out;omega
   case rel=>exact ⟨N,_,zhz rfl,H3,F3⟩
end
def riseE:List Ent→Nat→List Ent
 | L,0=>L
 | L,i+1=>match L[i]?,L[i+1]? with
  | some y,some x=>if y.n<x.n then riseE ((L.set i x).set (i+1) y) i else L
  | _,_=>L
section
variable {w W:World} {Q:SmN} {L M:List Ent} {tot:Int} {σ:KSt}
theorem zjt {L:List Ent} {i:Nat} {x y:Ent} (hy:L[i]?=some y) (hx:L[i+1]?=some x):((L.set i x).set (i+1) y).Perm L:=by
 obtain ⟨l1,e1⟩:=zgs.1 hy
 obtain ⟨l2,e2⟩:=zgs.1 hx
 have hs:L=L.take i++y :: x :: L.drop (i+2):=by
  conv=>lhs;rw [← List.take_append_drop i L,List.drop_eq_getElem_cons l1,List.drop_eq_getElem_cons l2,e1,e2]
 have hlen:(L.take i).length=i:=by rw [List.length_take];omega
 have h2:(L.set i x).set (i+1) y=L.take i++x :: y :: L.drop (i+2):=by
  conv=>lhs;rw [hs]
  rw [List.set_append_right _ _ (by omega),hlen,Nat.sub_self,zs2,List.set_append_right _ _ (by omega),hlen,show i+1 - i=1 by omega]
  rfl
 rw [h2]
 conv=>rhs;rw [hs]
 exact List.Perm.append_left _ (List.Perm.swap _ _ _)
theorem SmOK.perm {n:Nat} (h:SmOK n L tot σ) (hp:M.Perm L):SmOK n M tot σ :=
 ⟨fun x hx=>h.key x (hp.mem_iff.1 hx),fun i s hi=>by
  obtain ⟨x,hx,e⟩:=h.has i s hi
  exact ⟨x,hp.mem_iff.2 hx,e⟩,(hp.map Ent.p).nodup_iff.2 h.nd,by rw [hp.length_eq];exact h.cnt,fun x hx=>h.bd x (hp.mem_iff.1 hx),h.tb⟩
theorem zhs (i:Nat) (w:World) (h:SmAt w Q L tot σ) (hi:i<L.length):Calls Tryz.prog 230 #[.pointer (some ⟨Q.s,0,none⟩),.int .i64 (i:Int)] w fun e w'=>e=.returned (.tuple #[])∧SmAt w' Q (riseE L i) tot σ∧Fr Q.F w w':=by
 have H0:=zhz h
 have HI:=zhz hi
 obtain ⟨T,hT⟩:=zeq (riseE L i)
 rw [← hT]
 have HT:=zhz hT
 clear h hT hi
 go_enter Tryz.func230,Tryz.ntmps230
 go_wp2
 go_loopg [1] i (fun kk si wr=>∃ (j:Nat) (M:List Ent),Hid (kk=j)∧si=.int .i64 (j:Int)∧Hid (SmAt wr Q M tot σ)∧Hid (Fr Q.F w wr)∧Hid (j<M.length∧T=riseE M j))
 case atStart=>exact ⟨i,L,zhz rfl,rfl,H0,zhz (Fr.refl _ _),zhz ⟨HI.out,HT.out⟩⟩
 case round =>
  obtain ⟨j,M,HK,rfl,HM,HF,HJ⟩:=hrel
  obtain ⟨m,hm⟩:=zeq (M.length)
  have HMM:=zhz hm
  have hle:=HM.out.le
  have hn:=HM.out.n1
  have hj:=HJ.out.1
  have HS:=zhz (show ∀ wx,Below wr.heap.size wr wx→(fun w':World=>(∀ i,w'.cell? ⟨Q.s,i,none⟩=(smC Q m tot)[i]?)) wx from fun wx hb=>by rw [hm];exact (HM.out.keep hb).hs.rd)
  have B1:=zhz (show Below wr.heap.size wr wr.drew from zaa (Below.refl _ _) 1)
  cases j with
  | zero =>
   have t1:decide ((0:Int)<((0:Nat):Int))=false:=by decide
   clear hm hle hn hj
   go_upto_region 0 with (fail)
   refine wp_region_held_drew (S:=(fun w':World=>(∀ i,w'.cell? ⟨Q.s,i,none⟩=(smC Q m tot)[i]?))) (by kernel_rfl) (HS.out _ B1.out) (fun hHeld=>?_)
   refine wR 0 ?_
   refine wR 1 ?_
   refine wR 2 ?_
   refine wO 3 ?_
   refine wO 4 ?_
   refine wO 5 ?_
   refine wO 6 ?_
   refine wO 7 ?_
   refine wO 8 ?_
   refine wO 9 ?_
   refine wO 10 ?_
   refine wO 11 ?_
   refine wO 12 ?_
   refine wO 13 ?_
   refine wO 14 ?_
   refine wO 15 ?_
   refine wO 16 ?_
   refine wO 17 ?_
   refine wO 18 ?_
   refine wO 19 ?_
   refine wO 20 ?_
   refine wR 21 ?_
   refine wpAnyH_done (by kernel_rfl) ?_ _
   clear hHeld
   go_wp2
   go_end0
   have:=HJ.out.2
   unfold riseE at this
   rw [this]
   exact ⟨rfl,HM.out.keep B1.out,HF.out.trans (Fr.of_below B1.out)⟩
  | succ j =>
   have jl:j<M.length:=by omega
   obtain ⟨y,hy⟩:∃ y,M[j]?=some y:=⟨_,zge jl⟩
   obtain ⟨x,hx⟩:∃ x,M[j+1]?=some x:=⟨_,zge hj⟩
   obtain ⟨j1,hj1⟩:=zeq (j+1)
   rw [← hj1] at hx HK HJ ⊢
   have t1:decide ((0:Int)<(j1:Int))=true:=by rw [decide_eq_true_iff];omega
   have t1':0<j1:=by omega
   have e1:IntKind.i64.wrap ((j1:Int) - 1)=(j:Int):=by rw [IntKind.wrap_i64];omega
   have t2:(0:Int)≤(j:Int):=by omega
   have t3:(j:Int)<(m:Int):=by omega
   have t4:(0:Int)≤(j1:Int):=by omega
   have t5:(j1:Int)<(m:Int):=by omega
   have HXY:=zhz (And.intro hy hx)
   have HJJ:=zhz (show j1=j+1∧j<M.length∧j1<M.length by omega)
   have HS2:=zhz (show ∀ wx,Below wr.heap.size wr wx→(fun w':World=>(∀ i,w'.cell? ⟨Q.s,i,none⟩=(smC Q m tot)[i]?)∧(w'.cell? ⟨Q.g,j*3,none⟩=some (.int .i64 y.n)∧w'.cell? ⟨Q.g,j*3+1,none⟩=some (.int .i64 y.e)∧w'.cell? ⟨Q.g,j*3+2,none⟩=some (.int .i64 (y.p:Int)))∧(w'.cell? ⟨Q.g,j1*3,none⟩=some (.int .i64 x.n)∧w'.cell? ⟨Q.g,j1*3+1,none⟩=some (.int .i64 x.e)∧w'.cell? ⟨Q.g,j1*3+2,none⟩=some (.int .i64 (x.p:Int)))) wx from fun wx hb=>⟨HS.out wx hb,(HM.out.keep hb).cell hy,(HM.out.keep hb).cell hx⟩)
   have hunf:riseE M j1=if y.n<x.n then riseE ((M.set j x).set j1 y) j else M:=by
    rw [hj1]
    conv=>lhs;unfold riseE
    rw [hy,← hj1,hx]
   have HU:=zhz hunf
   clear hm hle hn hj jl hy hx hj1 hunf
   go_upto_region 0 with (fail)
   refine wp_region_held_drew (S:=(fun w':World=>(∀ i,w'.cell? ⟨Q.s,i,none⟩=(smC Q m tot)[i]?)∧(w'.cell? ⟨Q.g,j*3,none⟩=some (.int .i64 y.n)∧w'.cell? ⟨Q.g,j*3+1,none⟩=some (.int .i64 y.e)∧w'.cell? ⟨Q.g,j*3+2,none⟩=some (.int .i64 (y.p:Int)))∧(w'.cell? ⟨Q.g,j1*3,none⟩=some (.int .i64 x.n)∧w'.cell? ⟨Q.g,j1*3+1,none⟩=some (.int .i64 x.e)∧w'.cell? ⟨Q.g,j1*3+2,none⟩=some (.int .i64 (x.p:Int))))) (by kernel_rfl) (HS2.out _ B1.out) (fun hHeld=>?_)
   refine wR 0 ?_
   refine wR 1 ?_
   refine wR 2 ?_
   refine wR 3 ?_
   refine wR 4 ?_
   refine wR 5 ?_
   refine wR 6 ?_
   refine wR 7 ?_
   refine wR 8 ?_
   refine wR 9 ?_
   refine wR 10 ?_
   refine wR 11 ?_
   refine wR 12 ?_
   refine wR 13 ?_
   refine wR 14 ?_
   refine wR 15 ?_
   refine wR 16 ?_
   refine wR 17 ?_
   refine wR 18 ?_
   refine wR 19 ?_
   refine wR 20 ?_
   refine wR 21 ?_
   refine wpAnyH_done (by kernel_rfl) ?_ _
   clear hHeld
   by_cases hlt:y.n<x.n
   ·as_aux_lemma =>
     have b1:decide (y.n<x.n)=true:=by rw [decide_eq_true_iff];exact hlt
     have HLT:=zhz hlt
     have B2:=zhz (show Below wr.heap.size wr wr.drew.drew from zaa (Below.refl _ _) 2)
     obtain ⟨R,hg,hl⟩:=(HM.out.keep B2.out).hg
     obtain ⟨w2,hw2⟩:=zeq (wr.drew.drew)
     have hjR:j<(M++R).length:=by have:=HJJ.out.2.1;rw [List.length_append];omega
     have hxR:(M++R)[j1]?=some x:=by rw [List.getElem?_append_left HJJ.out.2.2];exact HXY.out.2
     have hyR:(M++R)[j]?=some y:=by rw [List.getElem?_append_left HJJ.out.2.1];exact HXY.out.1
     rw [← hw2] at hg
     have hS2:(fun w':World=>(∀ i,w'.cell? ⟨Q.s,i,none⟩=(smC Q m tot)[i]?)∧(w'.cell? ⟨Q.g,j*3,none⟩=some (.int .i64 y.n)∧w'.cell? ⟨Q.g,j*3+1,none⟩=some (.int .i64 y.e)∧w'.cell? ⟨Q.g,j*3+2,none⟩=some (.int .i64 (y.p:Int)))∧(w'.cell? ⟨Q.g,j1*3,none⟩=some (.int .i64 x.n)∧w'.cell? ⟨Q.g,j1*3+1,none⟩=some (.int .i64 x.e)∧w'.cell? ⟨Q.g,j1*3+2,none⟩=some (.int .i64 (x.p:Int)))) w2:=by rw [hw2];exact HS2.out _ B2.out
     have st1:=zbw zav hg hjR x (v0:=.int .i64 x.n) (v1:=.int .i64 x.e) (v2:=.int .i64 (x.p:Int)) rfl
     have g3:Blk (setObj w2 Q.g (.cells (rws encE ((M++R).set j x)).toArray 218 (0,0))) Q.g 218 (rws encE ((M++R).set j x)).toArray:=zab (lt_of_block hg) _
     have f3:Fr (fun k=>k=Q.g) w2 (setObj w2 Q.g (.cells (rws encE ((M++R).set j x)).toArray 218 (0,0))):=Fr.setObj (F:=fun k=>k=Q.g) (Fr.refl _ _) rfl _
     obtain ⟨w3,hw3⟩:=zeq (setObj w2 Q.g (.cells (rws encE ((M++R).set j x)).toArray 218 (0,0)))
     rw [← hw3] at st1 g3 f3
     have hj1R:j1<((M++R).set j x).length:=by have:=HJJ.out.2.2;rw [List.length_set,List.length_append];omega
     have st2:=zbw zav g3 hj1R y (v0:=.int .i64 y.n) (v1:=.int .i64 y.e) (v2:=.int .i64 (y.p:Int)) rfl
     have hx3:((M++R).set j x)[j1]?=some x:=by rw [List.getElem?_set_ne (by have:=HJJ.out.1;omega)];exact hxR
     have d0:w3.cell? ⟨Q.g,j1*3,none⟩=some (.int .i64 x.n):=zas zav g3 hx3 (j:=0) (by omega)
     have d1:w3.cell? ⟨Q.g,j1*3+1,none⟩=some (.int .i64 x.e):=zas zav g3 hx3 (j:=1) (by omega)
     have d2:w3.cell? ⟨Q.g,j1*3+2,none⟩=some (.int .i64 (x.p:Int)):=zas zav g3 hx3 (j:=2) (by omega)
     have gw:=hg.wr
     have gw3:=g3.wr
     have HG:=zhz (And.intro hg hl)
     have G3:=zhz g3
     have F3:=zhz f3
     clear hjR hxR hyR hj1R hx3 hg hl g3 f3
     go_upto_region 1 with (fail)
     clear hlt
     refine Ph.start [27] (Ph.pick [(fun w':World=>(∀ i,w'.cell? ⟨Q.s,i,none⟩=(smC Q m tot)[i]?)∧(w'.cell? ⟨Q.g,j*3,none⟩=some (.int .i64 y.n)∧w'.cell? ⟨Q.g,j*3+1,none⟩=some (.int .i64 y.e)∧w'.cell? ⟨Q.g,j*3+2,none⟩=some (.int .i64 (y.p:Int)))∧(w'.cell? ⟨Q.g,j1*3,none⟩=some (.int .i64 x.n)∧w'.cell? ⟨Q.g,j1*3+1,none⟩=some (.int .i64 x.e)∧w'.cell? ⟨Q.g,j1*3+2,none⟩=some (.int .i64 (x.p:Int)))),(fun w':World=>(∀ i,w'.cell? ⟨Q.s,i,none⟩=(smC Q m tot)[i]?))]) (by kernel_rfl) (Ph.pick0 (by rw [← hw2];exact hS2)) (fun hHeld hOrd=>?_)
     rw [← hw2]
     clear hw3
     rw [← hw2] at hHeld
     have B2:Hid (Below wr.heap.size wr w2):=zhz (by rw [hw2];exact B2.out)
     obtain ⟨q0,q1,q2⟩:=hS2.2.1
     clear hw2 hS2
     have HS3:=zhz (show (fun w':World=>(∀ i,w'.cell? ⟨Q.s,i,none⟩=(smC Q m tot)[i]?)) w3 from by rw [HMM.out];exact ((HM.out.keep B2.out).hs.fr F3.out HM.out.ne.1).rd)
     have HS4:=zhz (show (fun w':World=>(∀ i,w'.cell? ⟨Q.s,i,none⟩=(smC Q m tot)[i]?)) (setObj w3 Q.g (.cells (rws encE (((M++R).set j x).set j1 y)).toArray 218 (0,0))) from by rw [HMM.out];exact (((HM.out.keep B2.out).hs.fr F3.out HM.out.ne.1).fr (Fr.setObj (F:=fun k=>k=Q.g) (Fr.refl _ _) rfl _) HM.out.ne.1).rd)
     have HT:=zhz (show ∀ p,p≤1→∀ w',Ph.pick [(fun w':World=>(∀ i,w'.cell? ⟨Q.s,i,none⟩=(smC Q m tot)[i]?)∧(w'.cell? ⟨Q.g,j*3,none⟩=some (.int .i64 y.n)∧w'.cell? ⟨Q.g,j*3+1,none⟩=some (.int .i64 y.e)∧w'.cell? ⟨Q.g,j*3+2,none⟩=some (.int .i64 (y.p:Int)))∧(w'.cell? ⟨Q.g,j1*3,none⟩=some (.int .i64 x.n)∧w'.cell? ⟨Q.g,j1*3+1,none⟩=some (.int .i64 x.e)∧w'.cell? ⟨Q.g,j1*3+2,none⟩=some (.int .i64 (x.p:Int)))),(fun w':World=>(∀ i,w'.cell? ⟨Q.s,i,none⟩=(smC Q m tot)[i]?))] p w'→(fun w':World=>(∀ i,w'.cell? ⟨Q.s,i,none⟩=(smC Q m tot)[i]?)) w' from fun p hp w' h=>by
      match p,hp,h with
      | 0,_,h=>exact h.1
      | 1,_,h=>exact h)
     refine Ph.takeAll (i:=6) (oi:=?_) (v:=?_) (p:=0) ((fun w':World=>(∀ i,w'.cell? ⟨Q.s,i,none⟩=(smC Q m tot)[i]?))) (HT.out) ?_ ?_ ?_ ?_ hOrd ?_ ?_ ?_ ?_ ?_ ?_
     rotate_left 2
     ·simp only [List.getElem?_toArray,List.getElem?_cons_succ,List.getElem?_cons_zero];rfl
     ·kernel_rfl
     ·kernel_rfl
     ·kernel_rfl
     ·kernel_rfl
     ·kernel_rfl
     ·exact fun _ _ _ h=>h
     ·refine Or.inl ⟨by rfl,?_⟩
      intro w' hSw
      (try dsimp only at hSw)
      go_simp
      all_goals (with_reducible rfl)
     ·assumption
     clear hOrd
     intro hOrd
     try simp only [Act.put,zs1,zs2,zs3] at hOrd ⊢
     refine Ph.takeAll (i:=7) (oi:=?_) (v:=?_) (p:=0) ((fun w':World=>(∀ i,w'.cell? ⟨Q.s,i,none⟩=(smC Q m tot)[i]?))) (HT.out) ?_ ?_ ?_ ?_ hOrd ?_ ?_ ?_ ?_ ?_ ?_
     rotate_left 2
     ·simp only [List.getElem?_toArray,List.getElem?_cons_succ,List.getElem?_cons_zero];rfl
     ·kernel_rfl
     ·kernel_rfl
     ·kernel_rfl
     ·kernel_rfl
     ·kernel_rfl
     ·exact fun _ _ _ h=>h
     ·refine Or.inl ⟨by rfl,?_⟩
      intro w' hSw
      (try dsimp only at hSw)
      go_simp
      all_goals (with_reducible rfl)
     ·assumption
     clear hOrd
     intro hOrd
     try simp only [Act.put,zs1,zs2,zs3] at hOrd ⊢
     refine Ph.takeAll (i:=8) (oi:=?_) (v:=?_) (p:=0) ((fun w':World=>(∀ i,w'.cell? ⟨Q.s,i,none⟩=(smC Q m tot)[i]?))) (HT.out) ?_ ?_ ?_ ?_ hOrd ?_ ?_ ?_ ?_ ?_ ?_
     rotate_left 2
     ·simp only [List.getElem?_toArray,List.getElem?_cons_succ,List.getElem?_cons_zero];rfl
     ·kernel_rfl
     ·kernel_rfl
     ·kernel_rfl
     ·kernel_rfl
     ·kernel_rfl
     ·exact fun _ _ _ h=>h
     ·refine Or.inl ⟨by rfl,?_⟩
      intro w' hSw
      (try dsimp only at hSw)
      go_simp
      all_goals (with_reducible rfl)
     ·assumption
     clear hOrd
     intro hOrd
     try simp only [Act.put,zs1,zs2,zs3] at hOrd ⊢
     refine Ph.takeAll (i:=9) (oi:=?_) (v:=?_) (p:=0) ((fun w':World=>(∀ i,w'.cell? ⟨Q.s,i,none⟩=(smC Q m tot)[i]?))) (HT.out) ?_ ?_ ?_ ?_ hOrd ?_ ?_ ?_ ?_ ?_ ?_
     rotate_left 2
     ·simp only [List.getElem?_toArray,List.getElem?_cons_succ,List.getElem?_cons_zero];rfl
     ·kernel_rfl
     ·kernel_rfl
     ·kernel_rfl
     ·kernel_rfl
     ·kernel_rfl
     ·exact fun _ _ _ h=>h
     ·refine Or.inl ⟨by rfl,?_⟩
      intro w' hSw
      (try dsimp only at hSw)
      go_simp
      all_goals (with_reducible rfl)
     ·assumption
     clear hOrd
     intro hOrd
     try simp only [Act.put,zs1,zs2,zs3] at hOrd ⊢
     refine Ph.takeAll (i:=10) (oi:=?_) (v:=?_) (p:=0) ((fun w':World=>(∀ i,w'.cell? ⟨Q.s,i,none⟩=(smC Q m tot)[i]?))) (HT.out) ?_ ?_ ?_ ?_ hOrd ?_ ?_ ?_ ?_ ?_ ?_
     rotate_left 2
     ·simp only [List.getElem?_toArray,List.getElem?_cons_succ,List.getElem?_cons_zero];rfl
     ·kernel_rfl
     ·kernel_rfl
     ·kernel_rfl
     ·kernel_rfl
     ·kernel_rfl
     ·exact fun _ _ _ h=>h
     ·refine Or.inl ⟨by rfl,?_⟩
      intro w' hSw
      (try dsimp only at hSw)
      go_simp
      all_goals (with_reducible rfl)
     ·assumption
     clear hOrd
     intro hOrd
     try simp only [Act.put,zs1,zs2,zs3] at hOrd ⊢
     refine Ph.pR 0 0 hOrd ?_;clear hOrd;intro hOrd
     refine Ph.pR 1 0 hOrd ?_;clear hOrd;intro hOrd
     refine Ph.pR 2 0 hOrd ?_;clear hOrd;intro hOrd
     refine Ph.pR 3 0 hOrd ?_;clear hOrd;intro hOrd
     refine Ph.pR 4 0 hOrd ?_;clear hOrd;intro hOrd
     refine Ph.pR 5 0 hOrd ?_;clear hOrd;intro hOrd
     refine Ph.pR 11 0 hOrd ?_;clear hOrd;intro hOrd
     refine Ph.pR 12 0 hOrd ?_;clear hOrd;intro hOrd
     refine Ph.pR 13 0 hOrd ?_;clear hOrd;intro hOrd
     refine Ph.pR 14 0 hOrd ?_;clear hOrd;intro hOrd
     refine Ph.pR 15 0 hOrd ?_;clear hOrd;intro hOrd
     refine Ph.pR 16 0 hOrd ?_;clear hOrd;intro hOrd
     refine Ph.pR 17 0 hOrd ?_;clear hOrd;intro hOrd
     refine Ph.pR 18 0 hOrd ?_;clear hOrd;intro hOrd
     refine Ph.pR 19 0 hOrd ?_;clear hOrd;intro hOrd
     refine Ph.pR 20 0 hOrd ?_;clear hOrd;intro hOrd
     refine Ph.pR 21 0 hOrd ?_;clear hOrd;intro hOrd
     refine Ph.pR 22 0 hOrd ?_;clear hOrd;intro hOrd
     refine Ph.pR 23 0 hOrd ?_;clear hOrd;intro hOrd
     refine Ph.pR 24 0 hOrd ?_;clear hOrd;intro hOrd
     refine Ph.pR 25 0 hOrd ?_;clear hOrd;intro hOrd
     refine Ph.pR 26 0 hOrd ?_;clear hOrd;intro hOrd
     refine Ph.pC 27 1 hOrd ?_;clear hOrd;intro K hK
     go_simp
     skip
     refine hK.out _ _ (Ph.pick1 HS3.out) fun hHeld hOrd=>?_
     clear hK K
     try simp only [Act.put,zs1,zs2,zs3] at hOrd ⊢
     try rw [st1]
     refine Ph.pR 28 1 hOrd ?_;clear hOrd;intro hOrd
     refine Ph.pC 29 1 hOrd ?_;clear hOrd;intro K hK
     go_simp
     skip
     refine hK.out _ _ (Ph.pick1 HS4.out) fun hHeld hOrd=>?_
     clear hK K
     try simp only [Act.put,zs1,zs2,zs3] at hOrd ⊢
     try rw [st2]
     refine Ph.done (by kernel_rfl) ?_ _
     clear hHeld hOrd d0 d1 d2 q0 q1 q2 gw gw3 st1 st2
     have g4:Blk (setObj w3 Q.g (.cells (rws encE (((M++R).set j x).set j1 y)).toArray 218 (0,0))) Q.g 218 (rws encE (((M++R).set j x).set j1 y)).toArray:=zab (lt_of_block G3.out) _
     have f4:Fr (fun k=>k=Q.g) w3 (setObj w3 Q.g (.cells (rws encE (((M++R).set j x).set j1 y)).toArray 218 (0,0))):=Fr.setObj (F:=fun k=>k=Q.g) (Fr.refl _ _) rfl _
     generalize setObj w3 Q.g (.cells (rws encE (((M++R).set j x).set j1 y)).toArray 218 (0,0))=w4 at g4 f4 ⊢
     have hh:=HM.out.keep B2.out
     have f24:=F3.out.trans f4
     have hset:((M++R).set j x).set j1 y=(M.set j x).set j1 y++R:=by
      rw [List.set_append_left _ _ HJJ.out.2.1,List.set_append_left _ _ (by rw [List.length_set];exact HJJ.out.2.2)]
     have hperm:((M.set j x).set j1 y).Perm M:=by rw [HJJ.out.1];exact zjt HXY.out.1 (by have:=HXY.out.2;rw [HJJ.out.1] at this;exact this)
     have H4:=zhz (show SmAt w4 Q ((M.set j x).set j1 y) tot σ from ⟨by rw [hperm.length_eq];exact hh.hs.fr f24 hh.ne.1,⟨R,by rw [← hset];exact g4,by rw [List.length_append,hperm.length_eq,← List.length_append];exact HG.out.2⟩,hh.ix.fr f24 (fun k hk e=>(hh.ne.2 k hk).1 e),hh.n1,hh.ne,hh.ok.perm hperm⟩)
     have F4:=zhz ((HF.out.trans (Fr.of_below B2.out)).trans (f24.mono (fun k hk=>Or.inr (Or.inr hk))))
     have HN:=zhz (show j<((M.set j x).set j1 y).length∧T=riseE ((M.set j x).set j1 y) j from ⟨by rw [hperm.length_eq];exact HJJ.out.2.1,by have:=HJ.out.2;rw [HU.out,if_pos HLT.out] at this;exact this⟩)
     clear g4 f4 f24 hset hperm hh
     go_wp2
     go_roundg j
     case measure=>have:=HK.out;have:=HJJ.out.1;omega
     case rel=>exact ⟨j,_,zhz rfl,rfl,H4,F4,HN⟩
   ·have b1:decide (y.n<x.n)=false:=by rw [zdn];exact hlt
    go_wp2
    go_end0
    have:=HJ.out.2
    rw [HU.out,if_neg (Int.not_lt.2 hlt)] at this
    rw [this]
    exact ⟨rfl,HM.out.keep B1.out,HF.out.trans (Fr.of_below B1.out)⟩
end
section
variable {w W:World} {Q:SmN} {L M:List Ent} {tot:Int} {σ:KSt}
def KSt.on (σ:KSt) (fl:List Nat) (i:Nat) (s:ByteArray):KSt:=⟨fl,fun j=>if j=i then some s else σ.K j⟩
theorem SmOK.put {n i:Nat} {fl:List Nat} {s:ByteArray} {a b:Int} (h:SmOK n L tot σ) (hf:σ.fl=fl++[i]) (hk:σ.K i=none) (ha:0≤a∧a≤tot) (hb:0≤b∧b≤tot):SmOK n (L++[⟨s,a,b,i⟩]) tot (σ.on fl i s):=by
 have hne:∀ x ∈ L,x.p≠i:=fun x hx e=>by
  have:=h.key x hx
  rw [e,hk] at this
  cases this
 refine ⟨fun x hx=>?_,fun j t hj=>?_,?_,?_,fun x hx=>?_,h.tb⟩
 ·show (if x.p=i then some s else σ.K x.p)=some x.k
  rcases List.mem_append.1 hx with h1 | h1
  ·rw [if_neg (hne x h1)];exact h.key x h1
  ·rw [List.mem_singleton.1 h1];exact if_pos rfl
 ·have hj:(if j=i then some s else σ.K j)=some t:=hj
  by_cases e:j=i
  ·exact ⟨⟨s,a,b,i⟩,by simp,e.symm⟩
  ·rw [if_neg e] at hj
   obtain ⟨x,hx,hp⟩:=h.has j t hj
   exact ⟨x,List.mem_append_left _ hx,hp⟩
 ·rw [List.map_append,List.nodup_append]
  refine ⟨h.nd,by simp,fun p hp q hq=>?_⟩
  obtain ⟨x,hx,e⟩:=List.mem_map.1 hp
  have hq:q=i:=by simpa using hq
  rw [← e,hq]
  exact hne x hx
 ·have:=h.cnt
  rw [hf,List.length_append] at this
  rw [List.length_append]
  show L.length+1+fl.length=n
  simp only [List.length_singleton] at this
  omega
 ·rcases List.mem_append.1 hx with h1 | h1
  ·exact h.bd x h1
  ·rw [List.mem_singleton.1 h1];exact ⟨ha.1,ha.2,hb.1,hb.2⟩
theorem zhq (s:ByteArray) (hs:s.size≤64) (w:World) (h:SmAt w Q L tot σ) (hk:∀ x ∈ L,x.k≠s) (hm:L.length<Q.N.n):Calls Tryz.prog 229 #[.pointer (some ⟨Q.s,0,none⟩),.string s] w fun e w'=>e=.returned (.int .i64 (L.length:Int))∧(∃ i σ',SmAt w' Q (L++[⟨s,0,0,i⟩]) tot σ')∧Fr Q.F w w':=by
 obtain ⟨m,hmm⟩:=zeq (L.length)
 have CL:=zhz (zbI w h)
 rw [show leastE Q.N.n L=0 from by unfold leastE;rw [if_pos hm]] at CL
 obtain ⟨fl,i,hfl⟩:∃ fl i,σ.fl=fl++[i]:=by
  have:=h.ok.cnt
  rcases List.eq_nil_or_concat σ.fl with e | ⟨fl,i,e⟩
  ·rw [e] at this;simp at this;omega
  ·exact ⟨fl,i,by rw [e,List.concat_eq_append]⟩
 have hput:σ.put Q.N.n s=(σ.on fl i s,some i):=by
  unfold KSt.put
  rw [h.ok.no hk]
  simp only [if_neg (show ¬ 64<s.size by omega)]
  rw [hfl]
  simp [KSt.on]
 have hfree:=h.ix.uni.2.2.2.free (i:=i) (by rw [hfl];simp)
 have CP:=zhz (fun wx (hb:Below w.heap.size w wx)=>zcE s (by unfold maxLen;omega) wx (h.ix.keep hb))
 rw [hput] at CP
 have HF:=zhz (show SmOK Q.N.n (L++[⟨s,0,0,i⟩]) tot (σ.on fl i s) from h.ok.put hfl hfree.2 (by have:=h.ok.tb;omega) (by have:=h.ok.tb;omega))
 have HH:=zhz h
 have CN:=zhz (fun wx (hb:Below w.heap.size w wx)=>zb3 wx ((h.ix.keep hb).ks))
 have hn:=h.n1
 rw [← hmm] at hm ⊢
 have HM:=zhz (And.intro hmm hm)
 have b1:((m:Int)==(Q.N.n:Int))=false:=by rw [beq_eq_false_iff_ne];omega
 clear h hk hfl hput hfree hmm
 go_enter Tryz.func229,Tryz.ntmps229
 go_upto_region 2 with (go_at_call 247;((with_reducible refine CL.out.mono ?_);rintro e w1 ⟨rfl,b⟩;have B1:=zhz b;clear b))
 have HS:=zhz (show ∀ wx,Below w.heap.size w wx→(fun w':World=>(∀ i,w'.cell? ⟨Q.s,i,none⟩=(smC Q m tot)[i]?)) wx from fun wx hb=>by rw [HM.out.1];exact (HH.out.keep hb).hs.rd)
 have B2:=zhz (show Below w.heap.size w w1.drew from zaa B1.out 1)
 refine wp_region_held_drew (S:=(fun w':World=>(∀ i,w'.cell? ⟨Q.s,i,none⟩=(smC Q m tot)[i]?))) (by kernel_rfl) (HS.out _ B2.out) (fun hHeld=>?_)
 refine wR 0 ?_
 refine wR 1 ?_
 refine wR 2 ?_
 refine wR 3 ?_
 refine wR 4 ?_
 refine wR 5 ?_
 refine wR 6 ?_
 refine wR 7 ?_
 refine wR 8 ?_
 refine wC 9 fun K hK=>?_
 go_simp
 ((with_reducible refine (CN.out w1.drew B2.out).mono ?_);rintro e wx ⟨rfl,rfl⟩)
 refine hK.out _ _ hHeld fun hHeld=>?_
 clear hK K
 try simp only [Act.put,zs1,zs2,zs3]
 refine wR 10 ?_
 refine wpAnyH_done (by kernel_rfl) ?_ _
 clear hHeld
 have hne:¬ m=Q.N.n:=by omega
 go_upto_region 4 with (fail)
 have B3:=zhz (show Below w.heap.size w w1.drew.drew from zaa B1.out 2)
 obtain ⟨w3,hw3⟩:=zeq (w1.drew.drew)
 refine Ph.start [18] (Ph.pick [(fun w':World=>(∀ i,w'.cell? ⟨Q.s,i,none⟩=(smC Q m tot)[i]?)),(fun _:World=>True)]) (by kernel_rfl) (Ph.pick0 (HS.out _ B3.out)) (fun hHeld hOrd=>?_)
 rw [← hw3] at hHeld ⊢
 have B3:Hid (Below w.heap.size w w3):=zhz (by rw [hw3];exact B3.out)
 clear hw3
 have CPQ:=zhz (show Calls Tryz.prog 248 #[.pointer (some ⟨Q.N.x,0,none⟩),.string s] w3 (fun e w'=>e=.returned (.int .i64 (i:Int))∧IdxAt w' Q.N (σ.on fl i s)∧Fr Q.N.F w3 w') from CP.out _ B3.out)
 have H3:=zhz (HH.out.keep B3.out)
 refine Ph.pR 0 0 hOrd ?_;clear hOrd;intro hOrd
 refine Ph.pR 1 0 hOrd ?_;clear hOrd;intro hOrd
 refine Ph.pR 2 0 hOrd ?_;clear hOrd;intro hOrd
 refine Ph.pR 3 0 hOrd ?_;clear hOrd;intro hOrd
 refine Ph.pR 4 0 hOrd ?_;clear hOrd;intro hOrd
 refine Ph.pR 5 0 hOrd ?_;clear hOrd;intro hOrd
 refine Ph.pR 6 0 hOrd ?_;clear hOrd;intro hOrd
 refine Ph.pR 7 0 hOrd ?_;clear hOrd;intro hOrd
 refine Ph.pR 8 0 hOrd ?_;clear hOrd;intro hOrd
 refine Ph.pR 9 0 hOrd ?_;clear hOrd;intro hOrd
 refine Ph.pR 10 0 hOrd ?_;clear hOrd;intro hOrd
 refine Ph.pR 11 0 hOrd ?_;clear hOrd;intro hOrd
 refine Ph.pC 12 0 hOrd ?_;clear hOrd;intro K hK
 go_simp
 ((with_reducible refine CPQ.out.mono ?_);rintro e w4 ⟨rfl,i4,f4⟩;have I4:=zhz i4;have F4:=zhz f4;have K4:=zhz (H3.out.hs.fr f4 (fun hF=>(H3.out.ne.2 _ (Or.inl hF)).2 rfl));have S4:=zhz (show (fun w':World=>(∀ i,w'.cell? ⟨Q.s,i,none⟩=(smC Q m tot)[i]?)) w4 from by rw [HM.out.1];exact K4.out.rd);clear i4 f4)
 refine hK.out _ _ (Ph.pick0 S4.out) fun hHeld hOrd=>?_
 clear hK K
 try simp only [Act.put,zs1,zs2,zs3] at hOrd ⊢
 refine Ph.pR 13 0 hOrd ?_;clear hOrd;intro hOrd
 refine Ph.pC 14 0 hOrd ?_;clear hOrd;intro K hK
 go_simp
 (have S5:=zhz (show (fun w':World=>(∀ i,w'.cell? ⟨Q.s,i,none⟩=(smC Q m tot)[i]?)) (w4.alloc (.cells #[.int .i64 0,.int .i64 0,.int .i64 (i:Int)] 218)) from by rw [HM.out.1];exact (K4.out.alloc _).rd))
 refine hK.out _ _ (Ph.pick0 S5.out) fun hHeld hOrd=>?_
 clear hK K
 try simp only [Act.put,zs1,zs2,zs3] at hOrd ⊢
 obtain ⟨R,hg,hl⟩:=H3.out.hg
 have hg4:=hg.fr F4.out (fun hF=>(H3.out.ne.2 _ (Or.inl hF)).1 rfl)
 have hg5:=hg4.alloc (.cells #[.int .i64 0,.int .i64 0,.int .i64 (i:Int)] 218)
 have hn5:=heap_alloc_new w4 (.cells #[.int .i64 0,.int .i64 0,.int .i64 (i:Int)] 218)
 have k5:=K4.out.alloc (.cells #[.int .i64 0,.int .i64 0,.int .i64 (i:Int)] 218)
 have f5:Fr (fun _=>False) w4 (w4.alloc (.cells #[.int .i64 0,.int .i64 0,.int .i64 (i:Int)] 218)):=Fr.of_below ((Below.refl _ _).alloc (Nat.le_refl _) _)
 obtain ⟨nb,hnb⟩:=zeq (w4.heap.size)
 have hgl:Q.g<nb:=by rw [hnb];exact lt_of_block hg4
 rw [← hnb] at hn5 ⊢
 generalize w4.alloc (.cells #[.int .i64 0,.int .i64 0,.int .i64 (i:Int)] 218)=w5 at hg5 hn5 k5 f5 S5 hHeld ⊢
 have hg5:Blk w5 Q.g _ _:=hg5
 have hn5:Blk w5 nb _ #[.int .i64 0,.int .i64 0,.int .i64 (i:Int)]:=hn5
 have hmR:m<(L++R).length:=by rw [hl];exact HM.out.2
 obtain ⟨z,hz⟩:∃ z,(L++R)[m]?=some z:=⟨_,zge hmR⟩
 have q0:w5.cell? ⟨Q.g,m*3,none⟩=some (.int .i64 z.n):=zas zav hg5 hz (j:=0) (by omega)
 have q1:w5.cell? ⟨Q.g,m*3+1,none⟩=some (.int .i64 z.e):=zas zav hg5 hz (j:=1) (by omega)
 have q2:w5.cell? ⟨Q.g,m*3+2,none⟩=some (.int .i64 (z.p:Int)):=zas zav hg5 hz (j:=2) (by omega)
 have gw:=hg5.wr
 have rn:=hn5.rd
 have t1:m+1≤Q.N.n:=by have:=HM.out.2;omega
 have t2:((m:Int)+1≤(Q.N.n:Int)):=by omega
 have nne:Q.g≠nb:=by omega
 have HNB:=zhz (And.intro hnb hgl)
 clear hnb hgl
 have st:=zbw zav hg5 hmR ⟨s,0,0,i⟩ (v0:=.int .i64 0) (v1:=.int .i64 0) (v2:=.int .i64 (i:Int)) rfl
 have g6:Blk (setObj w5 Q.g (.cells (rws encE ((L++R).set m ⟨s,0,0,i⟩)).toArray 218 (0,0))) Q.g 218 (rws encE ((L++R).set m ⟨s,0,0,i⟩)).toArray:=zab (lt_of_block hg5) _
 have f6:Fr (fun k=>k=Q.g) w5 (setObj w5 Q.g (.cells (rws encE ((L++R).set m ⟨s,0,0,i⟩)).toArray 218 (0,0))):=Fr.setObj (F:=fun k=>k=Q.g) (Fr.refl _ _) rfl _
 generalize setObj w5 Q.g (.cells (rws encE ((L++R).set m ⟨s,0,0,i⟩)).toArray 218 (0,0))=w6 at st g6 f6
 have k6:=k5.fr f6 HH.out.ne.1
 rw [← HM.out.1] at k6
 have G6:=zhz g6
 have K6:=zhz k6
 have F46:=zhz f6
 have F5:=zhz f5
 have S6:=zhz (show (fun w':World=>(∀ i,w'.cell? ⟨Q.s,i,none⟩=(smC Q m tot)[i]?)) w6 from k6.rd)
 have HRR:=zhz (And.intro hl hmR)
 clear g6 f6 k6 hl hg hg4 hg5 k5 f5 hn5 hz hmR
 refine Ph.pC 15 0 hOrd ?_;clear hOrd;intro K hK
 go_simp
 skip
 refine hK.out _ _ (Ph.pick0 S6.out) fun hHeld hOrd=>?_
 clear hK K
 try simp only [Act.put,zs1,zs2,zs3] at hOrd ⊢
 try rw [st]
 have kr6:=K6.out.rd
 have kw6:=K6.out.wr
 refine Ph.pR 16 0 hOrd ?_;clear hOrd;intro hOrd
 refine Ph.pR 17 0 hOrd ?_;clear hOrd;intro hOrd
 refine Ph.pC 18 1 hOrd ?_;clear hOrd;intro K hK
 go_simp
 skip
 refine hK.out _ _ (Ph.pick1 trivial) fun hHeld hOrd=>?_
 clear hK K
 try simp only [Act.put,zs1,zs2,zs3] at hOrd ⊢
 refine Ph.done (by kernel_rfl) ?_ _
 clear hHeld hOrd st q0 q1 q2 gw rn
 obtain ⟨w7,e7,r7,f7,s7⟩:=G.box_set K6.out 2 (.slice (some ⟨Q.g,0,none⟩) (m+1) Q.N.n) (smC Q (m+1) tot) rfl
 have e7':=e7
 try rw [e7]
 have R7:=zhz r7
 have F7:=zhz f7
 have k7:=r7.rd
 have e8:IntKind.i64.wrap (((m+1:Nat):Int) - 1)=(m:Int):=by rw [IntKind.wrap_i64];omega
 clear e7 e7' r7 f7 s7 kr6 kw6
 go_wp2
 go_ret
 have hh:=H3.out
 have f47:Fr Q.F w3 w7:=(((F4.out.mono (fun k hk=>Or.inl hk)).trans (F5.out.mono (fun k hk=>hk.elim))).trans (F46.out.mono (fun k hk=>Or.inr (Or.inr hk)))).trans (F7.out.mono (fun k hk=>Or.inr (Or.inl hk)))
 have hset:(L++R).set m ⟨s,0,0,i⟩=(L++[⟨s,0,0,i⟩])++R.drop 1:=by
  rw [HM.out.1,List.set_append_right _ _ (Nat.le_refl _),Nat.sub_self]
  cases R with
  | nil=>have:=HRR.out.2;rw [HM.out.1,List.append_nil] at this;omega
  | cons r R=>simp
 refine ⟨rfl,⟨i,σ.on fl i s,⟨by rw [List.length_append,← HM.out.1];exact R7.out,⟨R.drop 1,by rw [← hset];exact G6.out.fr F7.out (fun e=>hh.ne.1 e.symm),by rw [← hset,List.length_set];exact HRR.out.1⟩,((I4.out.fr F5.out (fun _ _=>id)).fr F46.out (fun k hk e=>(hh.ne.2 k hk).1 e)).fr F7.out (fun k hk e=>(hh.ne.2 k hk).2 e),hh.n1,hh.ne,HF.out⟩⟩,(Fr.of_below B3.out).trans f47⟩
end
section
variable {w W:World} {Q:SmN} {L M:List Ent} {tot:Int} {σ:KSt}
theorem zeI (s:ByteArray) (x:Ent) (hs:s.size≤64) (w:World) (h:SmAt w Q (M++[x]) tot σ) (hk:∀ y ∈ M++[x],y.k≠s) (hm:M.length+1=Q.N.n):Calls Tryz.prog 229 #[.pointer (some ⟨Q.s,0,none⟩),.string s] w fun e w'=>e=.returned (.int .i64 (M.length:Int))∧(∃ i σ',SmAt w' Q (M++[⟨s,x.n,x.n,i⟩]) tot σ')∧Fr Q.F w w':=by
 obtain ⟨m,hmm⟩:=zeq (M.length)
 have CL:=zhz (zbI w h)
 have hlen:(M++[x]).length=Q.N.n:=by rw [List.length_append];exact hm
 rw [show leastE Q.N.n (M++[x])=x.n from by unfold leastE;rw [if_neg (by omega)];simp] at CL
 obtain ⟨fl,i,hfl,hpi⟩:∃ fl i,fl=σ.fl∧i=x.p:=⟨_,_,rfl,rfl⟩
 obtain ⟨σ1,hσ⟩:=zeq (σ.off x.p)
 have hok:=h.ok.drop
 rw [← hσ] at hok
 have hf1:σ1.fl=fl++[i]:=by rw [hσ,hfl,hpi];rfl
 have hK1:σ1.K i=none:=by rw [hσ,hpi];exact if_pos rfl
 have hput:σ1.put Q.N.n s=(σ1.on fl i s,some i):=by
  unfold KSt.put
  rw [hok.no (fun y hy=>hk y (List.mem_append_left _ hy))]
  simp only [if_neg (show ¬ 64<s.size by omega)]
  rw [hf1]
  simp [KSt.on]
 have CP:=zhz (fun wx (hi:IdxAt wx Q.N σ1)=>zcE s (by unfold maxLen;omega) wx hi)
 rw [hput] at CP
 have hbd:=h.ok.bd x (by simp)
 have HF:=zhz (show SmOK Q.N.n (M++[⟨s,x.n,x.n,i⟩]) tot (σ1.on fl i s) from hok.put hf1 hK1 ⟨hbd.1,hbd.2.1⟩ ⟨hbd.1,hbd.2.1⟩)
 have CD:=zhz (fun wx (hb:Below w.heap.size w wx)=>zdp x wx (h.keep hb))
 have HH:=zhz h
 have CN:=zhz (fun wx (hb:Below w.heap.size w wx)=>zb3 wx ((h.ix.keep hb).ks))
 have hn:=h.n1
 have HL:=zhz hlen
 rw [← hmm] at hm ⊢
 have HM:=zhz (And.intro hmm (show m<Q.N.n by omega))
 have HSG:=zhz hσ
 have b1:((Q.N.n:Int)==(Q.N.n:Int))=true:=by simp
 clear h hk hfl hput hK1 hf1 hok hbd hlen hpi hmm hσ hm
 go_enter Tryz.func229,Tryz.ntmps229
 go_upto_region 2 with (go_at_call 247;((with_reducible refine CL.out.mono ?_);rintro e w1 ⟨rfl,b⟩;have B1:=zhz b;clear b))
 have HS:=zhz (show ∀ wx,Below w.heap.size w wx→(fun w':World=>(∀ i,w'.cell? ⟨Q.s,i,none⟩=(smC Q Q.N.n tot)[i]?)) wx from fun wx hb=>by have:=(HH.out.keep hb).hs.rd;rw [HL.out] at this;exact this)
 have B2:=zhz (show Below w.heap.size w w1.drew from zaa B1.out 1)
 refine wp_region_held_drew (S:=(fun w':World=>(∀ i,w'.cell? ⟨Q.s,i,none⟩=(smC Q Q.N.n tot)[i]?))) (by kernel_rfl) (HS.out _ B2.out) (fun hHeld=>?_)
 refine wR 0 ?_
 refine wR 1 ?_
 refine wR 2 ?_
 refine wR 3 ?_
 refine wR 4 ?_
 refine wR 5 ?_
 refine wR 6 ?_
 refine wR 7 ?_
 refine wR 8 ?_
 refine wC 9 fun K hK=>?_
 go_simp
 ((with_reducible refine (CN.out w1.drew B2.out).mono ?_);rintro e wx ⟨rfl,rfl⟩)
 refine hK.out _ _ hHeld fun hHeld=>?_
 clear hK K
 try simp only [Act.put,zs1,zs2,zs3]
 refine wR 10 ?_
 refine wpAnyH_done (by kernel_rfl) ?_ _
 clear hHeld HS
 go_upto_region 4 with (go_at_call 246;((with_reducible refine (CD.out _ B2.out).mono ?_);rintro e w2 ⟨rfl,h2,f2⟩;have H2:=zhz h2;have F2:=zhz f2;clear h2 f2))
 rw [← HSG.out] at H2
 have CP:=zhz (fun wx (hb:Below w2.heap.size w2 wx)=>CP.out wx (H2.out.ix.keep hb))
 have HS:=zhz (show ∀ wx,Below w2.heap.size w2 wx→(fun w':World=>(∀ i,w'.cell? ⟨Q.s,i,none⟩=(smC Q m tot)[i]?)) wx from fun wx hb=>by rw [HM.out.1];exact (H2.out.keep hb).hs.rd)
 have B3:=zhz (show Below w2.heap.size w2 w2.drew from zaa (Below.refl _ _) 1)
 obtain ⟨w3,hw3⟩:=zeq (w2.drew)
 refine Ph.start [18] (Ph.pick [(fun w':World=>(∀ i,w'.cell? ⟨Q.s,i,none⟩=(smC Q m tot)[i]?)),(fun _:World=>True)]) (by kernel_rfl) (Ph.pick0 (HS.out _ B3.out)) (fun hHeld hOrd=>?_)
 rw [← hw3] at hHeld ⊢
 have B3:Hid (Below w2.heap.size w2 w3):=zhz (by rw [hw3];exact B3.out)
 clear hw3
 have CPQ:=zhz (show Calls Tryz.prog 248 #[.pointer (some ⟨Q.N.x,0,none⟩),.string s] w3 (fun e w'=>e=.returned (.int .i64 (i:Int))∧IdxAt w' Q.N (σ1.on fl i s)∧Fr Q.N.F w3 w') from CP.out _ B3.out)
 have H3:=zhz (H2.out.keep B3.out)
 refine Ph.pR 0 0 hOrd ?_;clear hOrd;intro hOrd
 refine Ph.pR 1 0 hOrd ?_;clear hOrd;intro hOrd
 refine Ph.pR 2 0 hOrd ?_;clear hOrd;intro hOrd
 refine Ph.pR 3 0 hOrd ?_;clear hOrd;intro hOrd
 refine Ph.pR 4 0 hOrd ?_;clear hOrd;intro hOrd
 refine Ph.pR 5 0 hOrd ?_;clear hOrd;intro hOrd
 refine Ph.pR 6 0 hOrd ?_;clear hOrd;intro hOrd
 refine Ph.pR 7 0 hOrd ?_;clear hOrd;intro hOrd
 refine Ph.pR 8 0 hOrd ?_;clear hOrd;intro hOrd
 refine Ph.pR 9 0 hOrd ?_;clear hOrd;intro hOrd
 refine Ph.pR 10 0 hOrd ?_;clear hOrd;intro hOrd
 refine Ph.pR 11 0 hOrd ?_;clear hOrd;intro hOrd
 refine Ph.pC 12 0 hOrd ?_;clear hOrd;intro K hK
 go_simp
 ((with_reducible refine CPQ.out.mono ?_);rintro e w4 ⟨rfl,i4,f4⟩;have I4:=zhz i4;have F4:=zhz f4;have K4:=zhz (H3.out.hs.fr f4 (fun hF=>(H3.out.ne.2 _ (Or.inl hF)).2 rfl));have S4:=zhz (show (fun w':World=>(∀ i,w'.cell? ⟨Q.s,i,none⟩=(smC Q m tot)[i]?)) w4 from by rw [HM.out.1];exact K4.out.rd);clear i4 f4)
 refine hK.out _ _ (Ph.pick0 S4.out) fun hHeld hOrd=>?_
 clear hK K
 try simp only [Act.put,zs1,zs2,zs3] at hOrd ⊢
 refine Ph.pR 13 0 hOrd ?_;clear hOrd;intro hOrd
 refine Ph.pC 14 0 hOrd ?_;clear hOrd;intro K hK
 go_simp
 (have S5:=zhz (show (fun w':World=>(∀ i,w'.cell? ⟨Q.s,i,none⟩=(smC Q m tot)[i]?)) (w4.alloc (.cells #[.int .i64 x.n,.int .i64 x.n,.int .i64 (i:Int)] 218)) from by rw [HM.out.1];exact (K4.out.alloc _).rd))
 refine hK.out _ _ (Ph.pick0 S5.out) fun hHeld hOrd=>?_
 clear hK K
 try simp only [Act.put,zs1,zs2,zs3] at hOrd ⊢
 obtain ⟨R,hg,hl⟩:=H3.out.hg
 have hg4:=hg.fr F4.out (fun hF=>(H3.out.ne.2 _ (Or.inl hF)).1 rfl)
 have hg5:=hg4.alloc (.cells #[.int .i64 x.n,.int .i64 x.n,.int .i64 (i:Int)] 218)
 have hn5:=heap_alloc_new w4 (.cells #[.int .i64 x.n,.int .i64 x.n,.int .i64 (i:Int)] 218)
 have k5:=K4.out.alloc (.cells #[.int .i64 x.n,.int .i64 x.n,.int .i64 (i:Int)] 218)
 have f5:Fr (fun _=>False) w4 (w4.alloc (.cells #[.int .i64 x.n,.int .i64 x.n,.int .i64 (i:Int)] 218)):=Fr.of_below ((Below.refl _ _).alloc (Nat.le_refl _) _)
 obtain ⟨nb,hnb⟩:=zeq (w4.heap.size)
 have hgl:Q.g<nb:=by rw [hnb];exact lt_of_block hg4
 rw [← hnb] at hn5 ⊢
 generalize w4.alloc (.cells #[.int .i64 x.n,.int .i64 x.n,.int .i64 (i:Int)] 218)=w5 at hg5 hn5 k5 f5 S5 hHeld ⊢
 have hg5:Blk w5 Q.g _ _:=hg5
 have hn5:Blk w5 nb _ #[.int .i64 x.n,.int .i64 x.n,.int .i64 (i:Int)]:=hn5
 have hmR:m<(M++R).length:=by rw [hl];exact HM.out.2
 obtain ⟨z,hz⟩:∃ z,(M++R)[m]?=some z:=⟨_,zge hmR⟩
 have q0:w5.cell? ⟨Q.g,m*3,none⟩=some (.int .i64 z.n):=zas zav hg5 hz (j:=0) (by omega)
 have q1:w5.cell? ⟨Q.g,m*3+1,none⟩=some (.int .i64 z.e):=zas zav hg5 hz (j:=1) (by omega)
 have q2:w5.cell? ⟨Q.g,m*3+2,none⟩=some (.int .i64 (z.p:Int)):=zas zav hg5 hz (j:=2) (by omega)
 have gw:=hg5.wr
 have rn:=hn5.rd
 have t1:m+1≤Q.N.n:=by have:=HM.out.2;omega
 have t2:((m:Int)+1≤(Q.N.n:Int)):=by omega
 have nne:Q.g≠nb:=by omega
 have HNB:=zhz (And.intro hnb hgl)
 clear hnb hgl
 have st:=zbw zav hg5 hmR ⟨s,x.n,x.n,i⟩ (v0:=.int .i64 x.n) (v1:=.int .i64 x.n) (v2:=.int .i64 (i:Int)) rfl
 have g6:Blk (setObj w5 Q.g (.cells (rws encE ((M++R).set m ⟨s,x.n,x.n,i⟩)).toArray 218 (0,0))) Q.g 218 (rws encE ((M++R).set m ⟨s,x.n,x.n,i⟩)).toArray:=zab (lt_of_block hg5) _
 have f6:Fr (fun k=>k=Q.g) w5 (setObj w5 Q.g (.cells (rws encE ((M++R).set m ⟨s,x.n,x.n,i⟩)).toArray 218 (0,0))):=Fr.setObj (F:=fun k=>k=Q.g) (Fr.refl _ _) rfl _
 generalize setObj w5 Q.g (.cells (rws encE ((M++R).set m ⟨s,x.n,x.n,i⟩)).toArray 218 (0,0))=w6 at st g6 f6
 have k6:=k5.fr f6 H2.out.ne.1
 rw [← HM.out.1] at k6
 have G6:=zhz g6
 have K6:=zhz k6
 have F46:=zhz f6
 have F5:=zhz f5
 have S6:=zhz (show (fun w':World=>(∀ i,w'.cell? ⟨Q.s,i,none⟩=(smC Q m tot)[i]?)) w6 from k6.rd)
 have HRR:=zhz (And.intro hl hmR)
 clear g6 f6 k6 hl hg hg4 hg5 k5 f5 hn5 hz hmR
 refine Ph.pC 15 0 hOrd ?_;clear hOrd;intro K hK
 go_simp
 skip
 refine hK.out _ _ (Ph.pick0 S6.out) fun hHeld hOrd=>?_
 clear hK K
 try simp only [Act.put,zs1,zs2,zs3] at hOrd ⊢
 try rw [st]
 have kr6:=K6.out.rd
 have kw6:=K6.out.wr
 refine Ph.pR 16 0 hOrd ?_;clear hOrd;intro hOrd
 refine Ph.pR 17 0 hOrd ?_;clear hOrd;intro hOrd
 refine Ph.pC 18 1 hOrd ?_;clear hOrd;intro K hK
 go_simp
 skip
 refine hK.out _ _ (Ph.pick1 trivial) fun hHeld hOrd=>?_
 clear hK K
 try simp only [Act.put,zs1,zs2,zs3] at hOrd ⊢
 refine Ph.done (by kernel_rfl) ?_ _
 clear hHeld hOrd st q0 q1 q2 gw rn
 obtain ⟨w7,e7,r7,f7,s7⟩:=G.box_set K6.out 2 (.slice (some ⟨Q.g,0,none⟩) (m+1) Q.N.n) (smC Q (m+1) tot) rfl
 have e7':=e7
 try rw [e7]
 have R7:=zhz r7
 have F7:=zhz f7
 have k7:=r7.rd
 have e8:IntKind.i64.wrap (((m+1:Nat):Int) - 1)=(m:Int):=by rw [IntKind.wrap_i64];omega
 clear e7 e7' r7 f7 s7 kr6 kw6
 go_wp2
 go_ret
 have hh:=H3.out
 have f47:Fr Q.F w3 w7:=(((F4.out.mono (fun k hk=>Or.inl hk)).trans (F5.out.mono (fun k hk=>hk.elim))).trans (F46.out.mono (fun k hk=>Or.inr (Or.inr hk)))).trans (F7.out.mono (fun k hk=>Or.inr (Or.inl hk)))
 have hset:(M++R).set m ⟨s,x.n,x.n,i⟩=(M++[⟨s,x.n,x.n,i⟩])++R.drop 1:=by
  rw [HM.out.1,List.set_append_right _ _ (Nat.le_refl _),Nat.sub_self]
  cases R with
  | nil=>have:=HRR.out.2;rw [HM.out.1,List.append_nil] at this;omega
  | cons r R=>simp
 refine ⟨rfl,⟨i,σ1.on fl i s,⟨by rw [List.length_append,← HM.out.1];exact R7.out,⟨R.drop 1,by rw [← hset];exact G6.out.fr F7.out (fun e=>hh.ne.1 e.symm),by rw [← hset,List.length_set];exact HRR.out.1⟩,((I4.out.fr F5.out (fun _ _=>id)).fr F46.out (fun k hk e=>(hh.ne.2 k hk).1 e)).fr F7.out (fun k hk e=>(hh.ne.2 k hk).2 e),hh.n1,hh.ne,HF.out⟩⟩,(((Fr.of_below B2.out).trans F2.out).trans (Fr.of_below B3.out)).trans f47⟩
end
abbrev Tri:=ByteArray × Int × Int
def Ent.c (x:Ent):Tri:=(x.k,x.n,x.e)
def cutM (n:Nat) (M:List Tri):List Tri:=if M.length=n then M.dropLast else M
def leastM (n:Nat) (M:List Tri):Int:=if M.length<n then 0 else match M.getLast? with
 | some x=>x.2.1
 | none=>0
def preM (n:Nat) (M:List Tri) (s:ByteArray):List Tri × Nat:=match M.findIdx? (fun x=>decide (x.1=s)) with
 | some j=>(M,j)
 | none=>(cutM n M++[(s,leastM n M,leastM n M)],(cutM n M).length)
def incM (M:List Tri) (j:Nat) (d:Int):List Tri:=match M[j]? with
 | some x=>M.set j (x.1,x.2.1+d,x.2.2)
 | none=>M
def riseM:List Tri→Nat→List Tri
 | M,0=>M
 | M,i+1=>match M[i]?,M[i+1]? with
  | some y,some x=>if y.2.1<x.2.1 then riseM ((M.set i x).set (i+1) y) i else M
  | _,_=>M
def begM (M:List Tri) (tot d:Int):List Tri × Int:=if 4611686018427387904 - d≤tot then ([],0) else (M,tot)
def offerM (n:Nat) (M:List Tri) (tot:Int) (s:ByteArray) (d:Int):List Tri × Int :=
 if d<1∨4611686018427387904≤d∨64<s.size then (M,tot)
 else (riseM (incM (preM n (begM M tot d).1 s).1 (preM n (begM M tot d).1 s).2 d) (preM n (begM M tot d).1 s).2,(begM M tot d).2+d)
theorem zgx:∀ (i:Nat) (L:List Ent),(riseE L i).map Ent.c=riseM (L.map Ent.c) i
 | 0,L=>by unfold riseE riseM;rfl
 | i+1,L=>by
  unfold riseE riseM
  rw [List.getElem?_map,List.getElem?_map]
  cases hy:L[i]? with
  | none=>rfl
  | some y =>
   cases hx:L[i+1]? with
   | none=>rfl
   | some x =>
    show (if y.n<x.n then riseE ((L.set i x).set (i+1) y) i else L).map Ent.c=if y.n<x.n then riseM (((L.map Ent.c).set i x.c).set (i+1) y.c) i else L.map Ent.c
    split
    ·rw [zgx i,List.map_set,List.map_set]
    ·rfl
section
variable {w W:World} {Q:SmN} {L M:List Ent} {tot:Int} {σ:KSt}
theorem SmOK.more {n:Nat} {d:Int} (h:SmOK n L tot σ) (hd:0≤d) (hs:tot+d<4611686018427387904):SmOK n L (tot+d) σ :=
 ⟨h.key,h.has,h.nd,h.cnt,fun x hx=>by have:=h.bd x hx;omega,by have:=h.tb;omega⟩
theorem zky {α:Type} {l:List α} {j:Nat} {x:α} (hj:l[j]?=some x):l.set j x=l:=by
 obtain ⟨h,e⟩:=zgs.1 hj
 rw [← e];exact List.set_getElem_self h
theorem SmOK.inc {n j:Nat} {x:Ent} {d:Int} (h:SmOK n L tot σ) (hj:L[j]?=some x) (hd:0≤d) (hs:x.n+d≤tot):SmOK n (L.set j ⟨x.k,x.n+d,x.e,x.p⟩) tot σ:=by
 have hmem:∀ y ∈ L.set j ⟨x.k,x.n+d,x.e,x.p⟩,y ∈ L∨y=⟨x.k,x.n+d,x.e,x.p⟩:=fun y hy=>List.mem_or_eq_of_mem_set hy
 have hx:x ∈ L:=List.mem_of_getElem? hj
 have hp:(L.set j ⟨x.k,x.n+d,x.e,x.p⟩).map Ent.p=L.map Ent.p:=by
  rw [List.map_set]
  exact zky (by rw [List.getElem?_map,hj];rfl)
 refine ⟨fun y hy=>?_,fun i s hi=>?_,by rw [hp];exact h.nd,by rw [List.length_set];exact h.cnt,fun y hy=>?_,h.tb⟩
 ·rcases hmem y hy with h1 | h1
  ·exact h.key y h1
  ·rw [h1];exact h.key x hx
 ·obtain ⟨y,hy,e⟩:=h.has i s hi
  have:i ∈ L.map Ent.p:=List.mem_map.2 ⟨y,hy,e⟩
  rw [← hp] at this
  obtain ⟨z,hz,e2⟩:=List.mem_map.1 this
  exact ⟨z,hz,e2⟩
 ·rcases hmem y hy with h1 | h1
  ·exact h.bd y h1
  ·rw [h1]
   have:=h.bd x hx
   exact ⟨by show 0≤x.n+d;omega,hs,this.2.2.1,this.2.2.2⟩
theorem zlD {j:Nat} {x:Ent} {d:Int} (hj:L[j]?=some x):(L.set j ⟨x.k,x.n+d,x.e,x.p⟩).map Ent.c=incM (L.map Ent.c) j d:=by
 unfold incM
 rw [List.getElem?_map,hj,List.map_set]
 rfl
theorem zlW {n j:Nat} {x:Ent} {s:ByteArray} (hj:L[j]?=some x) (hk:x.k=s) (hu:∀ i y,L[i]?=some y→y.k=s→i=j):preM n (L.map Ent.c) s=(L.map Ent.c,j):=by
 have hf:(L.map Ent.c).findIdx? (fun x=>decide (x.1=s))=some j:=by
  obtain ⟨hl,e⟩:=zgs.1 hj
  rw [List.findIdx?_eq_some_iff_getElem]
  refine ⟨by simpa using hl,by simp [e,Ent.c,hk],fun i hi=>?_⟩
  simp only [List.getElem_map,Ent.c,decide_eq_true_eq]
  intro e2
  have:=hu i L[i] (zge (by omega)) e2
  omega
 unfold preM
 rw [hf]
theorem zk8 {n:Nat} {s:ByteArray} (hk:∀ x ∈ L,x.k≠s):preM n (L.map Ent.c) s=(cutM n (L.map Ent.c)++[(s,leastM n (L.map Ent.c),leastM n (L.map Ent.c))],(cutM n (L.map Ent.c)).length):=by
 have hf:(L.map Ent.c).findIdx? (fun x=>decide (x.1=s))=none:=by
  rw [List.findIdx?_eq_none_iff]
  intro x hx
  obtain ⟨y,hy,e⟩:=List.mem_map.1 hx
  rw [← e,zdn]
  exact hk y hy
 unfold preM
 rw [hf]
theorem ziY {n:Nat} {s:ByteArray} {i:Nat} (hk:∀ x ∈ L,x.k≠s) (hl:L.length<n):preM n (L.map Ent.c) s=((L++[(⟨s,0,0,i⟩:Ent)]).map Ent.c,L.length):=by
 rw [zk8 hk]
 unfold cutM leastM
 rw [List.length_map,if_neg (by omega),if_pos hl,List.map_append,List.length_map]
 rfl
theorem zkj {n:Nat} {s:ByteArray} {i:Nat} {x:Ent} (hk:∀ y ∈ M++[x],y.k≠s) (hl:M.length+1=n):preM n ((M++[x]).map Ent.c) s=((M++[(⟨s,x.n,x.n,i⟩:Ent)]).map Ent.c,M.length):=by
 rw [zk8 hk]
 unfold cutM leastM
 rw [List.length_map,List.length_append,List.length_singleton,if_pos hl,if_neg (by omega),List.map_append,List.map_append]
 have e1:(List.map Ent.c M++List.map Ent.c [x]).dropLast=List.map Ent.c M:=by simp
 have e2:(List.map Ent.c M++List.map Ent.c [x]).getLast?=some x.c:=by simp
 rw [e1,e2,List.length_map]
 rfl
end
section
variable {w W:World} {Q:SmN} {L M:List Ent} {tot:Int} {σ:KSt}
theorem SmAt.keyuni (h:SmAt w Q L tot σ) {i j:Nat} {x y:Ent} (hj:L[j]?=some x) (hi:L[i]?=some y) (hk:y.k=x.k):i=j:=by
 have h1:=h.ok.key x (List.mem_of_getElem? hj)
 have h2:=h.ok.key y (List.mem_of_getElem? hi)
 rw [hk] at h2
 have hp:=h.ix.uni.1 _ _ _ h2 h1
 rcases Nat.decEq i j with hne | he
 ·exact absurd hp (h.ok.other hi hj hne)
 ·exact he
theorem zhr (s:ByteArray) (hs:s.size≤64) (d:Int) (hd:1≤d∧d<4611686018427387904) (w:World) (h:SmAt w Q L tot σ) :
  Calls Tryz.prog 218 #[.pointer (some ⟨Q.s,0,none⟩),.string s,.int .i64 d] w fun e w'=>e=.returned (.tuple #[])∧(∃ L' σ',SmAt w' Q L' (offerM Q.N.n (L.map Ent.c) tot s d).2 σ'∧L'.map Ent.c=(offerM Q.N.n (L.map Ent.c) tot s d).1)∧Fr Q.F w w':=by
 have hoff:offerM Q.N.n (L.map Ent.c) tot s d=(riseM (incM (preM Q.N.n (begM (L.map Ent.c) tot d).1 s).1 (preM Q.N.n (begM (L.map Ent.c) tot d).1 s).2 d) (preM Q.N.n (begM (L.map Ent.c) tot d).1 s).2,(begM (L.map Ent.c) tot d).2+d):=by
  unfold offerM;rw [if_neg (by omega)]
 rw [hoff]
 clear hoff
 have t1:decide (d<(1:Int))=false:=by rw [zdn];omega
 have t2:decide ((4611686018427387904:Int)≤d)=false:=by rw [zdn];omega
 have t3:decide ((64:Int)<(s.size:Int))=false:=by rw [zdn];omega
 obtain ⟨e,he⟩:=zeq (4611686018427387904 - d)
 have e1:IntKind.i64.wrap (4611686018427387904 - d)=e:=by rw [IntKind.wrap_i64];omega
 have H:=zhz h
 have HD:=zhz (And.intro hd (And.intro he hs))
 have k:=h.hs.rd
 clear h hd he hs
 go_enter Tryz.func218,Tryz.ntmps218
 go_upto_if 28 with (fail)
 go_cut [] from 28 to 30 (fun wx=>∃ (L0:List Ent) (σ0:KSt) (t0:Int),Hid (SmAt wx Q L0 t0 σ0)∧Hid (Fr Q.F w wx)∧Hid ((L0.map Ent.c,t0)=begM (L.map Ent.c) tot d)∧Hid (t0+d<4611686018427387904))
 case first =>
  by_cases hb:e≤tot
  ·have b1:decide (e≤tot)=true:=by rw [decide_eq_true_iff];exact hb
   have CC:=zhz (zfE w H.out)
   have HB:=zhz (show (([]:List Ent).map Ent.c,(0:Int))=begM (L.map Ent.c) tot d from by unfold begM;rw [if_pos (by have:=HD.out;omega)];rfl)
   go_wp2_with (go_at_call 227;((with_reducible refine CC.out.mono ?_);rintro e' w1 ⟨rfl,⟨ρ,h1⟩,f1⟩;have H1:=zhz h1;have F1:=zhz f1;clear h1 f1))
   go_meet
   case rel=>exact ⟨[],ρ,0,H1,F1,HB,zhz (by have:=HD.out;omega)⟩
  ·have b1:decide (e≤tot)=false:=by rw [zdn];exact hb
   have HB:=zhz (show (L.map Ent.c,tot)=begM (L.map Ent.c) tot d from by unfold begM;rw [if_neg (by have:=HD.out;omega)])
   have HT:=zhz (show tot+d<4611686018427387904 by have:=HD.out;omega)
   go_wp2
   go_meet
   case rel=>exact ⟨L,σ,tot,H,zhz (Fr.refl _ _),HB,HT⟩
 case rest =>
 obtain ⟨L0,σ0,t0,H0,F0,HB,HT⟩:=hcut
 clear k t1 t2 t3 e1
 have hb:=H0.out.ok.tb
 have hd:=HD.out.1
 have hn:=H0.out.n1
 obtain ⟨m,hm⟩:=zeq (L0.length)
 have h0:=H0.out.hs
 rw [← hm] at h0
 have k:=h0.rd
 have kw:=h0.wr
 obtain ⟨t1,ht1⟩:=zeq (t0+d)
 have e1:IntKind.i64.wrap (t0+d)=t1:=by rw [IntKind.wrap_i64,ht1];have:=HT.out;omega
 obtain ⟨w2,e2,r2,f2,s2⟩:=G.box_set h0 3 (.int .i64 t1) (smC Q m t1) rfl
 have hok:=H0.out.ok.more (d:=d) (by omega) HT.out
 rw [← ht1] at hok
 have H2:=zhz (show SmAt w2 Q L0 t1 σ0 from by
  obtain ⟨R,hg,hl⟩:=H0.out.hg
  exact ⟨by rw [← hm];exact r2,⟨R,hg.fr f2 (fun e=>H0.out.ne.1 e.symm),hl⟩,H0.out.ix.fr f2 (fun k hk e=>(H0.out.ne.2 k hk).2 e),H0.out.n1,H0.out.ne,hok⟩)
 have F2:=zhz (F0.out.trans (f2.mono (fun k hk=>Or.inr (Or.inl hk))))
 have HT1:=zhz (And.intro ht1 HT.out)
 clear r2 f2 s2 hok hb hn hd ht1
 go_upto_region 4 with (fail)
 clear e1 e2 k kw h0 hm
 go_cut [6] from 39 to 41 (fun s6 wx=>∃ z:Int,s6=.int .i64 z∧Hid (SmAt wx Q L0 t1 σ0)∧Hid (Fr Q.F w wx)∧Hid ((∃ (j:Nat) (x:Ent),z=(j:Int)∧L0[j]?=some x∧x.k=s)∨(z = -1∧∀ x ∈ L0,x.k≠s)))
 case first =>
  by_cases hf:∃ (j:Nat) (x:Ent),L0[j]?=some x∧x.k=s
  ·obtain ⟨j,x,hj,rfl⟩:=hf
   have CF:=zhz (zdq j x (by have:=HD.out.2.2;unfold maxLen;omega) w2 H2.out hj)
   have HJ:=zhz hj
   clear hj
   go_wp2_with (go_at_call 228;((with_reducible refine CF.out.mono ?_);rintro e' w3 ⟨rfl,b3⟩;have H3:=zhz (H2.out.keep b3);have F3:=zhz (F2.out.trans (Fr.of_below b3));clear b3))
   go_meet
   case rel=>exact ⟨(j:Int),rfl,H3,F3,zhz (Or.inl ⟨j,x,rfl,HJ.out,rfl⟩)⟩
  ·have hk:∀ x ∈ L0,x.k≠s:=fun x hx e=>by
    obtain ⟨i,hi,e2⟩:=List.mem_iff_getElem.1 hx
    exact hf ⟨i,x,by rw [zge hi,e2],e⟩
   have CF:=zhz (zeJ s (by have:=HD.out.2.2;unfold maxLen;omega) w2 H2.out hk)
   have HK:=zhz hk
   clear hf hk
   go_wp2_with (go_at_call 228;((with_reducible refine CF.out.mono ?_);rintro e' w3 ⟨rfl,b3⟩;have H3:=zhz (H2.out.keep b3);have F3:=zhz (F2.out.trans (Fr.of_below b3));clear b3))
   go_meet
   case rel=>exact ⟨-1,rfl,H3,F3,zhz (Or.inr ⟨rfl,HK.out⟩)⟩
 case rest =>
 obtain ⟨z,rfl,H3,F3,HZ⟩:=hcut
 clear H2 F2
 go_upto_if 43 with (fail)
 go_cut [6] from 43 to 46 (fun s6 wx=>∃ (j:Nat) (L1:List Ent) (σ1:KSt) (x:Ent),s6=.int .i64 (j:Int)∧Hid (SmAt wx Q L1 t1 σ1)∧Hid (L1[j]?=some x)∧Hid (Fr Q.F w wx)∧Hid ((L1.map Ent.c,j)=preM Q.N.n (L0.map Ent.c) s)∧Hid (x.n≤t0))
 case first =>
  rcases HZ.out with ⟨j,x,rfl,hj,rfl⟩ | ⟨rfl,hk⟩
  ·have HP:=zhz (zlW (n:=Q.N.n) hj rfl (fun i y hi hk=>H3.out.keyuni hj hi hk)).symm
   have HX:=zhz (H0.out.ok.bd x (List.mem_of_getElem? hj)).2.1
   have HJ:=zhz hj
   have b1:decide ((j:Int)<0)=false:=by rw [zdn];omega
   clear hj
   go_wp2
   go_meet
   case rel=>exact ⟨j,L0,σ0,x,rfl,H3,HJ,F3,zhz HP.out,HX⟩
  ·have hle:=H0.out.le
   rcases Nat.lt_or_ge L0.length Q.N.n with hl | hl
   ·have CE:=zhz (zhq s HD.out.2.2 _ H3.out hk hl)
    have HP:=zhz (fun i=>(ziY (n:=Q.N.n) (i:=i) hk hl).symm)
    have HTB:=zhz H0.out.ok.tb
    clear hk hle hl
    go_wp2_with (go_at_call 229;((with_reducible refine CE.out.mono ?_);rintro e' w4 ⟨rfl,⟨i,ρ,h4⟩,f4⟩;have H4:=zhz h4;have F4:=zhz (F3.out.trans f4);clear h4 f4))
    go_meet
    case rel=>exact ⟨L0.length,_,ρ,⟨s,0,0,i⟩,rfl,H4,zhz (by simp),F4,zhz (HP.out i),zhz HTB.out.1⟩
   ·obtain ⟨M,x,hMx⟩:∃ M x,L0=M++[x]:=by
     rcases List.eq_nil_or_concat L0 with e | ⟨M,x,e⟩
     ·have:=H0.out.n1;rw [e] at hl;simp at hl;omega
     ·exact ⟨M,x,by rw [e,List.concat_eq_append]⟩
    have h3:=H3.out
    have h0:=H0.out
    rw [hMx] at h3 h0 hk hle hl
    have hlm:M.length+1=Q.N.n:=by rw [List.length_append] at hl hle;simp only [List.length_singleton] at hl hle;omega
    have CE:=zhz (zeI s x HD.out.2.2 _ h3 hk hlm)
    have HP:=zhz (fun i=>(zkj (n:=Q.N.n) (i:=i) hk hlm).symm)
    have HX:=zhz (h0.ok.bd x (by simp)).2.1
    have HMX:=zhz hMx
    clear hk hle hl hlm h3 h0 hMx
    go_wp2_with (go_at_call 229;((with_reducible refine CE.out.mono ?_);rintro e' w4 ⟨rfl,⟨i,ρ,h4⟩,f4⟩;have H4:=zhz h4;have F4:=zhz (F3.out.trans f4);clear h4 f4))
    go_meet
    case rel=>exact ⟨M.length,_,ρ,⟨s,x.n,x.n,i⟩,rfl,H4,zhz (by simp),F4,zhz (by rw [HMX.out];exact HP.out i),HX⟩
 case rest =>
 obtain ⟨j,L1,σ1,x,rfl,H5,HJ,F5,HP,HX⟩:=hcut
 clear H3 F3 HZ
 obtain ⟨R,hg,hl⟩:=H5.out.hg
 have hj:=HJ.out
 have hjl:=(zgs.1 hj).1
 have hle:=H5.out.le
 have hn:=H5.out.n1
 have hjR:(L1++R)[j]?=some x:=by rw [List.getElem?_append_left hjl];exact hj
 obtain ⟨v,hv⟩:=zeq (x.n+d)
 have hbx:=H5.out.ok.bd x (List.mem_of_getElem? hj)
 have hvb:0≤v∧v≤t1:=by have h1:=HX.out;have h2:=HT1.out;have h3:=HD.out;omega
 have e1:IntKind.i64.wrap (x.n+d)=v:=by rw [IntKind.wrap_i64,hv];have h1:=HX.out;have h2:=HT1.out;have h3:=HD.out;omega
 obtain ⟨m,hm⟩:=zeq (L1.length)
 have k:=H5.out.hs.rd
 rw [← hm] at k
 have c0:=(H5.out.cell hj).1
 have gw:=hg.wr
 have t2:(0:Int)≤(j:Int):=by omega
 have t3:(j:Int)<(m:Int):=by omega
 have st:=zbf zav hg (i:=j) (j:=0) (a:=x) (a':=⟨x.k,v,x.e,x.p⟩) (v:=.int .i64 v) hjR rfl (by omega)
 simp only [Nat.add_zero] at st
 have hset:(L1++R).set j ⟨x.k,v,x.e,x.p⟩=L1.set j ⟨x.k,v,x.e,x.p⟩++R:=by rw [List.set_append_left _ _ hjl]
 rw [hset] at st
 have g6:=zab (lt_of_block hg) (.cells (rws encE (L1.set j ⟨x.k,v,x.e,x.p⟩++R)).toArray 218 (0,0))
 have f6:=Fr.setObj (F:=fun k=>k=Q.g) (Fr.refl _ _) rfl (.cells (rws encE (L1.set j ⟨x.k,v,x.e,x.p⟩++R)).toArray 218 (0,0)) (w:=wc)
 generalize setObj wc Q.g (.cells (rws encE (L1.set j ⟨x.k,v,x.e,x.p⟩++R)).toArray 218 (0,0))=w6 at st g6 f6
 have f6:Fr (fun k=>k=Q.g) wc w6:=f6
 have hinc:=H5.out.ok.inc (d:=d) hj (by have:=HD.out;omega) (by have h1:=HX.out;have h2:=HT1.out;omega)
 have hmap:=zlD (d:=d) hj
 rw [← hv] at hinc hmap
 have hlen:(L1.set j ⟨x.k,v,x.e,x.p⟩).length=L1.length:=List.length_set
 have H6:=zhz (show SmAt w6 Q (L1.set j ⟨x.k,v,x.e,x.p⟩) t1 σ1 from ⟨by rw [hlen];exact H5.out.hs.fr f6 H5.out.ne.1,⟨R,g6,by rw [List.length_append,hlen,← List.length_append];exact hl⟩,H5.out.ix.fr f6 (fun k hk e=>(H5.out.ne.2 k hk).1 e),H5.out.n1,H5.out.ne,hinc⟩)
 have F6:=zhz (F5.out.trans (f6.mono (fun k hk=>Or.inr (Or.inr hk))))
 have CR:=zhz (zhs j w6 H6.out (by rw [hlen];exact hjl))
 have HR:=zhz (show (riseE (L1.set j ⟨x.k,v,x.e,x.p⟩) j).map Ent.c=riseM (incM (preM Q.N.n (L0.map Ent.c) s).1 (preM Q.N.n (L0.map Ent.c) s).2 d) (preM Q.N.n (L0.map Ent.c) s).2 from by rw [zgx,hmap,← HP.out])
 clear hg hl hj hjl hle hn hjR hv hbx hvb hm hset g6 f6 hinc hmap hlen
 go_wp2_with (go_at_call 230;((with_reducible refine CR.out.mono ?_);rintro e' w7 ⟨rfl,h7,f7⟩;have H7:=zhz h7;have F7:=zhz (F6.out.trans f7);clear h7 f7))
 go_end0
 rw [← HB.out]
 refine ⟨rfl,⟨_,σ1,?_,HR.out⟩,F7.out⟩
 show SmAt w7 Q _ (t0+d) σ1
 rw [← HT1.out.1]
 exact H7.out
theorem zfI (s:ByteArray) (hs:s.size≤maxLen) (d:Int) (hd:d<1∨4611686018427387904≤d∨64<s.size) (w:World):Calls Tryz.prog 218 #[.pointer (some ⟨Q.s,0,none⟩),.string s,.int .i64 d] w fun e w'=>e=.returned (.tuple #[])∧w=w':=by
 by_cases h1:d<1
 ·have t1:decide (d<(1:Int))=true:=by rw [decide_eq_true_iff];omega
  clear hd
  go_enter Tryz.func218,Tryz.ntmps218
  go_wp2
  refine bodyPost_ret (results_none rfl _ _ _) rfl ?_
  exact ⟨rfl,rfl⟩
 have t1:decide (d<(1:Int))=false:=by rw [zdn];omega
 by_cases h2:4611686018427387904≤d
 ·have t2:decide ((4611686018427387904:Int)≤d)=true:=by rw [decide_eq_true_iff];omega
  clear hd
  go_enter Tryz.func218,Tryz.ntmps218
  go_wp2
  refine bodyPost_ret (results_none rfl _ _ _) rfl ?_
  exact ⟨rfl,rfl⟩
 have t2:decide ((4611686018427387904:Int)≤d)=false:=by rw [zdn];omega
 have h3:64<s.size:=by omega
 have t3:decide ((64:Int)<(s.size:Int))=true:=by rw [decide_eq_true_iff];omega
 clear hd
 go_enter Tryz.func218,Tryz.ntmps218
 go_wp2
 refine bodyPost_ret (results_none rfl _ _ _) rfl ?_
 exact ⟨rfl,rfl⟩
def SmM (w:World) (Q:SmN) (M:List Tri) (tot:Int):Prop:=∃ L σ,SmAt w Q L tot σ∧L.map Ent.c=M
theorem SmM.fr {M:List Tri} {F:Nat→Prop} (h:SmM W Q M tot) (hf:Fr F W w) (hF:∀ k,Q.all k→¬ F k):SmM w Q M tot:=by
 obtain ⟨L,σ,h1,h2⟩:=h
 exact ⟨L,σ,h1.fr hf hF,h2⟩
theorem SmM.keep {M:List Tri} (h:SmM W Q M tot) (hb:Below W.heap.size W w):SmM w Q M tot:=h.fr (F:=fun _=>False) (Fr.of_below hb) (fun _ _=>id)
theorem zfH {M:List Tri} (s:ByteArray) (hs:s.size≤maxLen) (d:Int) (w:World) (h:SmM w Q M tot) :
  Calls Tryz.prog 218 #[.pointer (some ⟨Q.s,0,none⟩),.string s,.int .i64 d] w fun e w'=>e=.returned (.tuple #[])∧SmM w' Q (offerM Q.N.n M tot s d).1 (offerM Q.N.n M tot s d).2∧Fr Q.F w w':=by
 by_cases hd:d<1∨4611686018427387904≤d∨64<s.size
 ·have e:offerM Q.N.n M tot s d=(M,tot):=by unfold offerM;rw [if_pos hd]
  rw [e]
  exact (zfI s hs d hd w).mono (fun e w' ⟨h1,h2⟩=>⟨h1,by rw [← h2];exact h,by rw [← h2];exact Fr.refl _ _⟩)
 ·obtain ⟨L,σ,h1,rfl⟩:=h
  exact (zhr s (by omega) d (by omega) w h1).mono (fun e w' ⟨h2,⟨L',σ',h3,h4⟩,h5⟩=>⟨h2,⟨L',σ',h3,h4⟩,h5⟩)
end
theorem ziw {α:Type} {enc:α→List Value} {m:Nat} (h:∀ a,(enc a).length=m) (hm:0<m) (a:α) {P:Program} {t e:TypeId} {i:TypeInfo} {z:Value} {B:Nat} (hc:z.cells=(enc a).toArray) (ht:P.underlying t=some (.slice e)) (hi:P.info? e=some i) (hz:i.zero=some z) (hs:i.size=m) (hb:i.bytes=B) (n:Nat) (hn:B*n≤281474976710656) (hn2:n≤281474976710656) (w:World) :
  (Instr.makeSlice t (.int .i64 0) (.int .i64 (n:Int))).run P w=.ok (.slice (some ⟨w.heap.size,0,none⟩) 0 n) (w.alloc (.cells (rws enc (List.replicate n a)).toArray e)):=by
 have h2:=run_make w t e i z ht hi hz .i64 .i64 0 (n:Int) (by omega) (by omega) (by rw [hb];omega) (by omega)
 rw [h2,hs,hc]
 simp only [Int.toNat_natCast,Int.toNat_zero]
 rw [zgB h hm]
def ent0:Ent:=⟨⟨#[]⟩,0,0,0⟩
theorem zk6 (n:Nat):SmOK n [] 0 (kNew n):=⟨(fun x hx=>by cases hx),(fun i s e=>by cases e),List.nodup_nil,by simp [kNew],(fun x hx=>by cases hx),by omega⟩
theorem zjX:(Tryz.prog.info? 218).map (fun i=>(i.zero,i.size,i.bytes))=some (some (.agg #[.int .i64 0,.int .i64 0,.int .i64 0]),3,24):=by kernel_rfl
theorem zjj (X A B:Nat) (hX:X<2305843009213693951) (hA:A<2305843009213693951) (hB:B<2305843009213693951) (n:Nat) (h1:1≤n) (hn:n≤64) (w:World) :
  Calls Tryz.prog 94 #[.int .i64 (n:Int),.agg #[.int .u64 X,.int .u64 A,.int .u64 B]] w fun e w'=>∃ Q:SmN,e=.returned (.pointer (some ⟨Q.s,0,none⟩))∧SmAt w' Q [] 0 (kNew n)∧Q.N.n=n∧(∀ k,Q.all k→w.heap.size≤k)∧Below w.heap.size w w':=by
 obtain ⟨i0,hi,hz0,hz1,hz2⟩:=info_parts zjX
 have hmk:=ziw zav (by omega) ent0 (P:=Tryz.prog) (t:=174) (e:=218) rfl Tryz.underlying174 hi hz0 hz1 hz2 n (by omega) (by omega)
 have CK:=zhz (fun w=>ziD n (by omega) w)
 have t1:decide ((n:Int)<1)=false:=by rw [zdn];omega
 have t2:decide ((64:Int)<(n:Int))=false:=by rw [zdn];omega
 have t0:(n:Int)≤64:=by omega
 have HN:=zhz (And.intro h1 hn)
 clear hi hz0 hz1 hz2 h1 hn
 go_enter Tryz.func94,Tryz.ntmps94
 go_upto_region 1 with (fail)
 obtain ⟨w1,hw1,hbk,hbl,hsz⟩:=zad w #[.int .u64 (X:Int),.int .u64 (A:Int),.int .u64 (B:Int)] 192
 rw [hw1]
 obtain ⟨rb,hrb⟩:=zeq (w.heap.size)
 rw [← hrb] at hbk ⊢
 have BK:=zhz hbk
 have HB:=zhz hbl
 have HS:=zhz (And.intro hsz hrb)
 clear hbk hbl hsz hw1 hrb
 go_upto_region 4 with (go_at_call 118;((with_reducible refine (CK.out _).mono ?_);rintro e w2 ⟨sb,sgb,sgs,sgf,rfl,hk,bk,hb⟩;have KK:=zhz hk;have HBB:=zhz hb;have K2:=zhz (BK.out.keep bk);have HB2:=zhz (zae HB.out bk);have HZ:=zhz bk.size;clear hk bk hb))
 have k:∀ j,w2.drew.cell? ⟨rb,j,none⟩=(#[.int .u64 (X:Int),.int .u64 (A:Int),.int .u64 (B:Int)]:Array Value)[j]?:=K2.out.drew.rd
 have y2:Below w2.heap.size w2 w2.drew:=zaa (Below.refl _ _) 1
 have RL:=zhz (lt_of_block K2.out)
 have CI:=zhz (fun wx (hx:Below w2.heap.size w2 wx)=>show Calls Tryz.prog 119 #[.pointer (some ⟨sb,0,none⟩),.agg #[.int .u64 X,.int .u64 A,.int .u64 B]] wx (fun e w'=>∃ x g,e=.returned (.pointer (some ⟨x,0,none⟩))∧IdxAt w' ⟨x,sb,X,A,B,g,sgb,sgs,sgf,n⟩ (kNew n)∧(∀ j,w'.cell? ⟨rb,j,none⟩=(#[.int .u64 (X:Int),.int .u64 (A:Int),.int .u64 (B:Int)]:Array Value)[j]?)∧Below w2.heap.size w2 w'∧Below wx.heap.size wx w'∧wx.heap.size≤x∧wx.heap.size≤g) from (zgc X A B hX hA hB sb sgb sgs sgf n wx (KK.out.keep hx)).mono (fun e w' ⟨x,g,he,hi,hb,hx1,hg1⟩=>⟨x,g,he,hi,((K2.out.keep hx).keep hb).rd,zae hx hb,hb,hx1,hg1⟩))
 go_region_held3 (fun w'=>(∀ j,w'.cell? ⟨rb,j,none⟩=(#[.int .u64 (X:Int),.int .u64 (A:Int),.int .u64 (B:Int)]:Array Value)[j]?)∧Below w2.heap.size w2 w') (first | (refine ⟨?_,?_⟩ <;> assumption) | exact za9 (by assumption) (by assumption) RL.out _ | exact za9 (za9 (by assumption) (by assumption) RL.out _).1 (za9 (by assumption) (by assumption) RL.out _).2 RL.out _)
   ((go_at_call 119;((with_reducible refine (CI.out _ (by first | assumption | exact And.right (by assumption))).mono ?_);rintro e w3 ⟨x,g,rfl,hi,z1,z2,z3,z4,z5⟩;have I3:=zhz hi;have B3:=zhz z3;have X3:=zhz (And.intro z4 z5);clear hi z3 z4 z5)))
 all_goals
   go_wp2
   go_ret
 all_goals
   have hn:=HN.out
   have hkl:=KK.out.lt
   have hbb:=HBB.out
   have hx:=X3.out
   have hil:=I3.out.lt
   have l1:=hil x (Or.inr rfl)
   have l2:=hil g (Or.inl (Or.inl rfl))
   have l3:=z2.size
   have l4:=HZ.out
   have l5:=HS.out
   have l6:=HB.out.size
   have l7:w2.drew.heap.size=w2.heap.size:=rfl
 ·obtain ⟨w4,hw4,k4,b4,s4⟩:=zad w3 (rws encE (List.replicate n ent0)).toArray 218
  rw [hw4]
  obtain ⟨w5,hw5,k5,b5,s5⟩:=zad w4 #[.pointer (some ⟨sb,0,none⟩),.pointer (some ⟨x,0,none⟩),.slice (some ⟨w3.heap.size,0,none⟩) 0 n,.int .i64 0] 176
  rw [hw5]
  rw [s4] at k5
  have bb:=zae (zae (zae HB2.out z2) b4) b5
  refine ⟨⟨w3.heap.size+1,w3.heap.size,⟨x,sb,X,A,B,g,sgb,sgs,sgf,n⟩⟩,rfl,⟨k5,⟨List.replicate n ent0,k4.keep b5,by simp⟩,(I3.out.keep b4).keep b5,hn,⟨by simp only;omega,?_⟩,zk6 n⟩,rfl,?_,bb⟩
  ·rintro k ((hk | hk | hk | hk | hk) | hk) <;> simp only at hk ⊢ <;> omega
  ·rintro k (((hk | hk | hk | hk | hk) | hk | hk) | hk) <;> simp only at hk ⊢ <;> omega
 ·obtain ⟨w5,hw5,k5,b5,s5⟩:=zad w3 #[.pointer (some ⟨sb,0,none⟩),.pointer (some ⟨x,0,none⟩),.slice (some ⟨w2.heap.size,0,none⟩) 0 n,.int .i64 0] 176
  rw [hw5]
  have k4:Blk w3 w2.heap.size 218 (rws encE (List.replicate n ent0)).toArray:=by
   obtain ⟨w4,hw4,k4,b4,s4⟩:=zad w2 (rws encE (List.replicate n ent0)).toArray 218
   have b3:=B3.out
   rw [hw4] at b3
   exact k4.drew.keep b3
  have l8:(w2.alloc (Obj.cells (rws encE (List.replicate n ent0)).toArray 218)).drew.heap.size=w2.heap.size+1:=by
   show (w2.heap.push _).size=_
   simp
  rw [l8] at hx
  have bb:=zae (zae HB2.out z2) b5
  refine ⟨⟨w3.heap.size,w2.heap.size,⟨x,sb,X,A,B,g,sgb,sgs,sgf,n⟩⟩,rfl,⟨k5,⟨List.replicate n ent0,k4.keep b5,by simp⟩,I3.out.keep b5,hn,⟨by simp only;omega,?_⟩,zk6 n⟩,rfl,?_,bb⟩
  ·rintro k ((hk | hk | hk | hk | hk) | hk) <;> simp only at hk ⊢ <;> omega
  ·rintro k (((hk | hk | hk | hk | hk) | hk | hk) | hk) <;> simp only at hk ⊢ <;> omega
section
variable {w W:World} {Q:SmN} {M:List Tri} {tot:Int}
theorem smtotalM (w:World) (h:SmM w Q M tot):Calls Tryz.prog 58 #[.pointer (some ⟨Q.s,0,none⟩)] w fun e w'=>e=.returned (.int .i64 tot)∧w=w':=by
 obtain ⟨L,σ,h1,rfl⟩:=h
 exact zfJ w h1
theorem zeH (j:Nat) (t:Tri) (hs:t.1.size≤maxLen) (w:World) (h:SmM w Q M tot) (hj:M[j]?=some t):Calls Tryz.prog 249 #[.pointer (some ⟨Q.s,0,none⟩),.string t.1] w fun e w'=>e=.returned (.tuple #[.int .i64 t.2.1,.int .i64 t.2.2,.bool true])∧Below w.heap.size w w':=by
 obtain ⟨L,σ,h1,rfl⟩:=h
 rw [List.getElem?_map] at hj
 cases hx:L[j]? with
 | none=>rw [hx] at hj;cases hj
 | some x =>
  rw [hx] at hj
  have:x.c=t:=Option.some.inj hj
  subst this
  exact zfG j x hs w h1 hx
theorem zfF (s:ByteArray) (hs:s.size≤maxLen) (w:World) (h:SmM w Q M tot) (hk:∀ t ∈ M,t.1≠s):Calls Tryz.prog 249 #[.pointer (some ⟨Q.s,0,none⟩),.string s] w fun e w'=>e=.returned (.tuple #[.int .i64 0,.int .i64 0,.bool false])∧Below w.heap.size w w':=by
 obtain ⟨L,σ,h1,rfl⟩:=h
 exact zhp s hs w h1 (fun x hx=>hk x.c (List.mem_map.2 ⟨x,hx,rfl⟩))
end
def tellM (M:List Tri) (s:ByteArray):Int × Int × Bool:=match M.find? (fun t=>decide (t.1=s)) with
 | some t=>(t.2.1,t.2.2,true)
 | none=>(0,0,false)
section
variable {w W:World} {Q:SmN} {M:List Tri} {tot:Int}
theorem zcj (s:ByteArray) (hs:s.size≤maxLen) (w:World) (h:SmM w Q M tot):Calls Tryz.prog 249 #[.pointer (some ⟨Q.s,0,none⟩),.string s] w fun e w'=>e=.returned (.tuple #[.int .i64 (tellM M s).1,.int .i64 (tellM M s).2.1,.bool (tellM M s).2.2])∧Below w.heap.size w w':=by
 unfold tellM
 cases hf:M.find? (fun t=>decide (t.1=s)) with
 | none =>
  rw [List.find?_eq_none] at hf
  exact zfF s hs w h (fun t ht e=>hf t ht (decide_eq_true e))
 | some t =>
  have h1:=List.find?_some hf
  have h2:=List.mem_of_find?_eq_some hf
  have h3:t.1=s:=of_decide_eq_true h1
  obtain ⟨j,hj⟩:=List.getElem?_of_mem h2
  subst h3
  exact zeH j t hs w h hj
end
section
open Ar (inR)
structure RowsGe (w:World) (b:Nat) (k:Nat) (X A B:Nat→Nat):Prop where
 blk:∃ C:Array Value,w.heap[b]?=some (.cells C 192 (0,0))∧3*k≤C.size∧∀ j,j<k→C[3*j]?=some (.int .u64 (X j))∧C[3*j+1]?=some (.int .u64 (A j))∧C[3*j+2]?=some (.int .u64 (B j))
theorem RowsAt.ge {w:World} {b k m:Nat} {X A B:Nat→Nat} (h:RowsAt w b m X A B) (hk:k≤m):RowsGe w b k X A B:=by
 obtain ⟨C,h1,h2,h3⟩:=h.blk
 exact ⟨C,h1,by omega,fun j hj=>h3 j (by omega)⟩
theorem RowsGe.fr {w w':World} {b k:Nat} {X A B:Nat→Nat} {F:Nat→Prop} (h:RowsGe w b k X A B) (hf:Fr F w w') (hF:¬ F b):RowsGe w' b k X A B:=by
 obtain ⟨C,h1,h2,h3⟩:=h.blk
 exact ⟨C,(hf.block b (lt_of_block h1) hF).trans h1,h2,h3⟩
theorem RowsGe.keep {w w':World} {b k:Nat} {X A B:Nat→Nat} (h:RowsGe w b k X A B) (hb:Below w.heap.size w w'):RowsGe w' b k X A B:=h.fr (F:=fun _=>False) (Fr.of_below hb) id
theorem RowsGe.bl {w:World} {b k:Nat} {X A B:Nat→Nat} (h:RowsGe w b k X A B):b<w.heap.size:=by obtain ⟨C,h1,_⟩:=h.blk;exact lt_of_block h1
theorem zeE (a:Addr) (c:Nat) (w:World):(Builtin.append_ #[139,139] 139 #[.slice none 0 0,.slice (some a) 0 c]).run Tryz.prog w=.ok (.slice none 0 0) w:=by
 have hq:=zgA
 cases hi:Tryz.prog.info? 192 with
 | none=>rw [hi] at hq;cases hq
 | some i =>
  rw [hi] at hq
  have h3:i.size=3:=by simpa using hq
  have hl:∀ (x:Addr),(loadCells x 0).run Tryz.prog w=.ok #[] w:=fun x=>by simpa using run_loadCells_list (P:=Tryz.prog) w x [] (by simp)
  simp [Builtin.append_,run_underlying Tryz.underlying139,Builtin.lenOf,Builtin.firstCells,sizeOf,typeInfo,hi,h3,hl,storeCells]
theorem zkA (k W:Nat) (hk:1≤k∧k≤8) (hW:1≤W∧8*(k*W)≤2147483647) (b0:Nat) (X A B:Nat→Nat) (w:World) (hr:RowsGe w b0 k X A B) (hl:∀ j,j<k→X j<2305843009213693951∧A j<2305843009213693951∧B j<2305843009213693951) :
  Calls Tryz.prog 122 #[.slice (some ⟨b0,0,none⟩) k (k+1),.int .i64 (W:Int)] w fun e w'=>∃ N:SlN,e=.returned (.pointer (some ⟨N.b,0,none⟩))∧SlAt w' N (fun _ _=>0)∧N.k=k∧N.W=W∧N.X=X∧N.A=A∧N.B=B∧w.heap.size≤N.b∧w.heap.size≤N.g∧Below w.heap.size w w':=by
 have hWm:W≤k*W:=Nat.le_mul_of_pos_left _ (by omega)
 have CB:=zhz (zdj k W hW.2 (by omega) (by omega) w)
 obtain ⟨m,hm⟩:=zeq (k*W)
 rw [← hm] at CB hW hWm
 have em:(k:Int)*(W:Int)=(m:Int):=by rw [hm,Int.natCast_mul]
 have hmk:=fun w=>G.make_one (P:=Tryz.prog) (t:=94) (e:=2) (z:=.int .i64 0) (B:=8) Tryz.underlying94 (i:=(Tryz.prog.info? 2).get (by kernel_rfl)) (by rfl) (by kernel_rfl) rfl (by kernel_rfl) (by kernel_rfl) m (by omega) (by omega) w
 have t1:((k:Int)==0)=false:=by simp;omega
 have t2:decide ((W:Int)<1)=false:=by rw [zdn];omega
 have t3:decide ((2147483647:Int)<8*(m:Int))=false:=by rw [zdn];omega
 have t4:(k:Int)≤8:=by omega
 have t5:(m:Int)≤2147483647:=by omega
 have HR:=zhz hr
 have HL:=zhz hl
 have HK:=zhz (And.intro hk (And.intro hW hm))
 clear hr hl hm hWm
 go_enter Tryz.func122,Tryz.ntmps122
 go_upto_region 3 with (go_at_call 121;((with_reducible refine CB.out.mono ?_);rintro e w1 ⟨rfl,b1⟩;have B1:=zhz b1;clear b1))
 go_upto_region 4 with (fail)
 clear hmk em t1 t2 t3
 obtain ⟨w2,hw2,k2,l2,s2⟩:=zad w1 (Array.replicate m (.int .i64 0)) 2
 obtain ⟨R0,hR0⟩:∃ R0:List Value,R0=List.replicate 24 (Value.int .u64 0):=⟨_,rfl⟩
 obtain ⟨C3,hC3⟩:∃ C3:Array Value,C3=(R0++[Value.slice none 0 0,Value.int .i64 (k:Int),Value.int .i64 (W:Int),Value.slice (some ⟨w1.heap.size,0,none⟩) m m]).toArray:=⟨_,rfl⟩
 obtain ⟨w3,hw3,k3,l3,s3⟩:=zad w2 C3 266
 rw [hw2]
 rw [show w2.alloc (.cells #[Value.int .u64 0,Value.int .u64 0,Value.int .u64 0,Value.int .u64 0,Value.int .u64 0,Value.int .u64 0,Value.int .u64 0,Value.int .u64 0,Value.int .u64 0,Value.int .u64 0,Value.int .u64 0,Value.int .u64 0,Value.int .u64 0,Value.int .u64 0,Value.int .u64 0,Value.int .u64 0,Value.int .u64 0,Value.int .u64 0,Value.int .u64 0,Value.int .u64 0,Value.int .u64 0,Value.int .u64 0,Value.int .u64 0,Value.int .u64 0,Value.slice none 0 0,Value.int .i64 (k:Int),Value.int .i64 (W:Int),Value.slice (some ⟨w1.heap.size,0,none⟩) m m] 266)=w3 from by rw [← hw3,hC3,hR0];rfl]
 obtain ⟨bb,hbb⟩:=zeq (w1.heap.size+1)
 obtain ⟨g,hg⟩:=zeq (w1.heap.size)
 rw [s2,← hbb] at k3
 rw [← hg] at k2 hC3
 rw [← hbb,← hg]
 have hB3:=(B1.out.trans (l2.mono B1.out.size)).trans (l3.mono (by have:=B1.out.size;omega))
 obtain ⟨C,hC,hCs0,hCj0⟩:=HR.out.blk
 obtain ⟨CL,hCL⟩:∃ CL:List Value,CL=C.toList.take (3*k):=⟨_,rfl⟩
 have hCs:CL.length=3*k:=by rw [hCL,List.length_take,Array.length_toList];omega
 have hCg:∀ n,n<3*k→CL[n]?=C[n]?:=fun n hn=>by rw [hCL,List.getElem?_take_of_lt hn,Array.getElem?_toList]
 have hCj:∀ j,j<k→CL[3*j]?=some (.int .u64 (X j))∧CL[3*j+1]?=some (.int .u64 (A j))∧CL[3*j+2]?=some (.int .u64 (B j)):=fun j hj=>by rw [hCg _ (by omega),hCg _ (by omega),hCg _ (by omega)];exact hCj0 j hj
 have hC':Blk w3 b0 192 C:=(show Blk w b0 192 C from hC).keep hB3
 have hR0l:R0.length=24:=by rw [hR0,List.length_replicate]
 have hk:=HK.out.1
 have hone:∀ v ∈ CL,v.oneCell'=true:=by
  intro v hv
  obtain ⟨n,hn,he⟩:=List.getElem_of_mem hv
  have hn3:n<3*k:=by rw [← hCs];exact hn
  have hj:=hCj (n / 3) (by omega)
  have hh:CL[n]?=some v:=by rw [zge hn,he]
  have h3:n=3*(n / 3)∨n=3*(n / 3)+1∨n=3*(n / 3)+2:=by omega
  rcases h3 with e | e | e
  ·rw [e,hj.1] at hh;injection hh with hh;rw [← hh];rfl
  ·rw [e,hj.2.1] at hh;injection hh with hh;rw [← hh];rfl
  ·rw [e,hj.2.2] at hh;injection hh with hh;rw [← hh];rfl
 have hcp:=zdW (P:=Tryz.prog) w3 139 139 3 192 3 bb 0 8 8 ⟨b0,0,none⟩ k (k+1) C3 266 CL Tryz.underlying139 zgA k3
   (by rw [hCs,show Nat.min k 8=k from Nat.min_eq_left hk.2];omega)
   (fun j v hv=>by rw [show (⟨b0,0,none⟩:Addr).add j=⟨b0,j,none⟩ by (simp [Addr.add];omega),zag hC',← hCg j (by rw [← hCs];exact (zgs.1 hv).1)];exact hv)
   (by rw [hCs,hC3];simp [hR0l];omega) hone
 rw [show Nat.min k 8=k from Nat.min_eq_left hk.2,zho k3] at hcp
 obtain ⟨C4,hC4⟩:∃ C4:Array Value,C4=(C3.toList.take 0++CL++C3.toList.drop (0+CL.length)).toArray:=⟨_,rfl⟩
 rw [← hC4] at hcp
 replace hcp:(Builtin.copy_ #[139,139] 3 #[.slice (some ⟨bb,0,none⟩) 8 8,.slice (some ⟨b0,0,none⟩) k (k+1)]).run Tryz.prog w3=.ok (.int .i64 (k:Int)) (setObj w3 bb (.cells C4 266 (0,0))):=hcp
 have k4:Blk (setObj w3 bb (.cells C4 266 (0,0))) bb 266 C4:=zab (lt_of_block k3) _
 have f4:Fr (fun i=>i=bb) w3 (setObj w3 bb (.cells C4 266 (0,0))):=Fr.setObj (F:=fun i=>i=bb) (Fr.refl _ _) rfl _
 generalize (setObj w3 bb (.cells C4 266 (0,0)))=w4 at hcp k4 f4
 have hne:g≠bb:=by omega
 have HBB:=zhz (And.intro hbb (And.intro hg hne))
 have k24:w4.cell? ⟨bb,24,none⟩=some (.slice none 0 0):=by
  rw [zag k4,hC4,hC3]
  have hl:CL.length=3*k:=hCs
  simp only [List.take_zero,List.nil_append,List.getElem?_toArray]
  rw [List.getElem?_append_right (by omega),List.getElem?_drop,hl,show 0+3*k+(24 - 3*k)=24 by omega,List.getElem?_append_right (by omega),hR0l];rfl
 have hap:=zeE
 have k24w:=k4.wr
 have H4:=zhz (And.intro k4 (And.intro f4 (And.intro hC4 (And.intro hC3 (And.intro hCs (And.intro hCj (And.intro hR0l hk)))))))
 have H3:=zhz (And.intro k2 (And.intro l3 hB3))
 clear hbb hg hne k4 f4 hC4 hC3 hCs hCj hR0l hR0 hk hone hC hC' hCs0 hCj0 hCL hCg k3 k2 l3 l2 hB3 hw2 hw3 s2 s3
 go_upto_region 5 with (fail)
 clear hcp
 have t6:(0:Int)≤(k:Int):=by omega
 go_region
 rw [zac H4.out.1]
 obtain ⟨C5,hC5⟩:∃ C5:Array Value,C5=C4.setIfInBounds 24 (.slice none 0 0):=⟨_,rfl⟩
 rw [← hC5]
 have k5:Blk (setObj w4 bb (.cells C5 266 (0,0))) bb 266 C5:=zab (lt_of_block H4.out.1) _
 have f5:Fr (fun i=>i=bb) w3 (setObj w4 bb (.cells C5 266 (0,0))):=H4.out.2.1.trans (Fr.setObj (F:=fun i=>i=bb) (Fr.refl _ _) rfl _)
 have H5:=zhz (And.intro k5 (And.intro f5 hC5))
 clear k5 f5 hC5 k24 k24w hap
 generalize (setObj w4 bb (.cells C5 266 (0,0)))=w5 at H5 ⊢
 go_wp2
 go_ret
 obtain ⟨k4,f4,hC4,hC3,hCs,hCj,hR0l,hk⟩:=H4.out
 obtain ⟨k5,f5,hC5⟩:=H5.out
 obtain ⟨hbb,hg,hne⟩:=HBB.out
 obtain ⟨k2,l3,hB3⟩:=H3.out
 have hl:CL.length=3*k:=hCs
 have h4s:C4.size=28:=by rw [hC4,hC3];simp [hR0l,hl];omega
 have hget:∀ i,24≤i→C4[i]?=([Value.slice none 0 0,Value.int .i64 (k:Int),Value.int .i64 (W:Int),Value.slice (some ⟨g,0,none⟩) m m]:List Value)[i - 24]?:=by
  intro i hi
  rw [hC4,hC3]
  simp only [List.take_zero,List.nil_append,List.getElem?_toArray]
  rw [List.getElem?_append_right (by omega),List.getElem?_drop,hl,show 0+3*k+(i - 3*k)=i by omega,List.getElem?_append_right (by omega),hR0l]
 have hrow:∀ i,i<3*k→C4[i]?=CL[i]?:=by
  intro i hi
  rw [hC4]
  simp only [List.take_zero,List.nil_append,List.getElem?_toArray]
  rw [List.getElem?_append_left (by omega)]
 have h5o:∀ i,i≠24→C5[i]?=C4[i]?:=fun i hi=>by rw [hC5,Array.getElem?_setIfInBounds_ne (Ne.symm hi)]
 have hD:Below w5.heap.size w5 w5.drew:=zaa (Below.refl _ _) 1
 refine ⟨⟨bb,g,k,W,X,A,B⟩,rfl,⟨⟨C5,k5.keep hD,⟨by rw [hC5];simpa using h4s,by rw [hC5,Array.getElem?_setIfInBounds_self_of_lt (by omega)],by rw [h5o 25 (by omega),hget 25 (by omega)];rfl,by rw [h5o 26 (by omega),hget 26 (by omega)];rfl,by rw [h5o 27 (by omega),hget 27 (by omega),HK.out.2.2];rfl,fun j hj=>?_⟩⟩,?_,Ne.symm hne,⟨hk,HK.out.2.1.1,by show 8*(k*W)≤_;rw [← HK.out.2.2];exact HK.out.2.1.2⟩,HL.out,fun _ _=>by show (0:Int)≤0∧(0:Int)≤9223372036854775807;omega⟩,rfl,rfl,rfl,rfl,rfl,by show _≤bb;have:=B1.out.size;omega,by show _≤g;have:=B1.out.size;omega,?_⟩
 ·have hj:j<k:=hj
  have h3:=hCj j hj
  rw [Nat.mul_comm 3 j] at h3
  rw [h5o (j*3) (by omega),h5o (j*3+1) (by omega),h5o (j*3+2) (by omega),hrow _ (by omega),hrow _ (by omega),hrow _ (by omega)]
  exact h3
 ·have q:Blk w5 g 2 (Array.replicate m (.int .i64 0)):=(Blk.keep k2 l3).fr f5 hne
  have e:Array.replicate m (Value.int .i64 0)=numC .i64 (Sk.tab (fun _ _=>0) k W):=by
   unfold numC;rw [Sk.tab_zero,← HK.out.2.2,List.map_replicate];rfl
  rw [e] at q
  exact q.keep hD
 ·exact (hB3.trans (f5.below hB3.size (fun i hi=>by have:=B1.out.size;omega))).trans (hD.mono (by have:=hB3.size;have:=f5.size;omega))
end
end Go.Proofs.YtannniobeanhlaaGreat
