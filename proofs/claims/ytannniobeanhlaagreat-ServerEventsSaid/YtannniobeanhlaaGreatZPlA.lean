import Derived.Shelf.RegionOpen
import Derived.OwnWalkIn
import Derived.LoopNIn
import Derived.LoopIn
import Derived.Test.YtannniobeanhlaaGreatKpB
import Derived.Test.YtannniobeanhlaaGreatZSlN
set_option linter.unusedSimpArgs false
set_option linter.unusedVariables false
set_option maxRecDepth 100000
set_option maxHeartbeats 9000000
namespace Go.Proofs.YtannniobeanhlaaGreat
open Go.ChangeShapes Go.WideShapes Go.ChangeAt Go.RowKit
section
open Go.Shelf
attribute [local go_sem] Oper.semAt_some
def plL (K:Nat→Option ByteArray) (C:List Cel) (k:Nat):List (ByteArray × Cel):=(List.range k).filterMap fun i=>(K i).map fun s=>(s,C.getD i (0,0,0,0))
theorem zmC {K:Nat→Option ByteArray} {C:List Cel} {k:Nat} (h:K k=none):plL K C (k+1)=plL K C k:=by
 simp [plL,List.range_succ,h]
theorem zlT {K:Nat→Option ByteArray} {C:List Cel} {k:Nat} {s:ByteArray} {c:Cel} (h:K k=some s) (hc:C[k]?=some c):plL K C (k+1)=plL K C k++[(s,c)]:=by
 simp [plL,List.range_succ,h,hc]
theorem zde {K:Nat→Option ByteArray} {C:List Cel} {k n:Nat} (h:k≤n):plL K C k <+: plL K C n:=by
 obtain ⟨m,rfl⟩:∃ m,n=k+m:=⟨n - k,by omega⟩
 unfold plL
 rw [List.range_add,List.filterMap_append]
 exact List.prefix_append _ _
theorem KeepB.pl {W w:World} {Q:PlN} {σ:KSt} {C:List Cel} (hk:KeepB Q.all W w) (h:PlAt W Q σ C):PlAt w Q σ C :=
 ⟨hk _ _ _ (Or.inr (Or.inr rfl)) h.hp,hk _ _ _ (Or.inl (Or.inr rfl)) h.hc,h.len,hk.idx h.ix (fun k hk=>by rcases hk with hk | hk;exact Or.inl (Or.inl hk);exact Or.inr (Or.inl hk)),h.n1,h.ne⟩
abbrev plEnc (x:ByteArray × Cel):Array Value:=#[.string x.1,celV x.2]
theorem zey (Q:PlN) (σ:KSt) (C:List Cel) (w0:World) (h:PlAt w0 Q σ C):IterB Tryz.prog 257 #[.pointer (some ⟨Q.p,0,none⟩)] plEnc (KeepB Q.all) (plL σ.K C Q.N.n) w0:=by
 intro l J Jx W hW hJ hY h0
 have H0:=zhz (h.keep hW)
 clear h
 have hn:=H0.out.n1
 have HY:=zhz hY
 have HJ:=zhz hJ
 have t0:(Q.N.n:Int)≤1024:=by omega
 have k:=H0.out.hp.rd
 clear hn hY hJ hW
 refine callsIn_of_wp Tryz.func257 rfl trivial ?_ rfl
 simp only [Tryz.ntmps257,List.size_toArray,List.length_cons,List.length_nil,Nat.reduceAdd,Nat.reduceSub,Array.replicate_succ,Array.replicate_zero,List.push_toArray,List.append_toArray,List.nil_append,List.cons_append]
 have hnf:∀ w:World,(binOp BinOp.eql 338 (Value.func (Fn.yield l) #[] #[]) Value.nilFunc).run Tryz.prog w=.ok (.bool false) w:=fun w=>by
  first | rfl | (simp [binOp,go_sem]) 
 gi_wp2
 gi_loopw [19] (fun i wr=>∃ k:Nat,k≤Q.N.n∧i=.int .i64 (k:Int)∧J (plL σ.K C k) wr∧Hid (PlAt wr Q σ C)) (fun i _=>Q.N.n - (intOf i).toNat)
 case atStart=>exact ⟨0,by omega,rfl,h0,H0⟩
 case round =>
  obtain ⟨i,hi,rfl,hj,HP⟩:=hrel
  clear k h0
  by_cases hlt:i<Q.N.n
  ·have hil:i<C.length:=by rw [HP.out.len];exact hlt
   obtain ⟨c0,hc0⟩:∃ c0,C[i]?=some c0:=⟨_,zge hil⟩
   obtain ⟨kc0,kc1,kc2,kc3⟩:=HP.out.cell hc0
   obtain ⟨w1,hw1,k1,l1,s1⟩:=zad wr #[.int .i64 0,.int .i64 0,.int .i64 0,.int .i64 0] 105
   have hset:=zaj (v0:=.int .i64 c0.1) (v1:=.int .i64 c0.2.1) (v2:=.int .i64 c0.2.2.1) (v3:=.int .i64 c0.2.2.2) k1
   obtain ⟨w2,hw2⟩:=zeq (setObj w1 wr.heap.size (.cells #[.int .i64 c0.1,.int .i64 c0.2.1,.int .i64 c0.2.2.1,.int .i64 c0.2.2.2] 105 (0,0)))
   rw [← hw2] at hset
   have k2:Blk w2 wr.heap.size 105 #[.int .i64 c0.1,.int .i64 c0.2.1,.int .i64 c0.2.2.1,.int .i64 c0.2.2.2]:=by rw [hw2];exact zab (lt_of_block k1) _
   have b2:Below wr.heap.size wr w2:=by
    rw [hw2];exact l1.trans ((Fr.setObj (F:=fun k=>k=wr.heap.size) (Fr.refl _ _) rfl _).below l1.size (fun k hk=>by omega))
   have B2:=zhz b2
   have K2:=zhz k2
   have P2:=zhz (HP.out.keep b2)
   have HW2:=zhz hset
   have k:=HP.out.hp.rd
   have kp1:=(HP.out.keep l1).hp.rd
   have n1:Q.p≠wr.heap.size:=fun e=>by have:=HP.out.lt _ (Or.inr (Or.inr rfl));omega
   have n2:wr.heap.size≠Q.p:=fun e=>n1 e.symm
   have kw:=k1.wr
   have kr:=k1.rd
   have t1:(i:Int)<(Q.N.n:Int):=by omega
   have HC:=zhz hc0
   have HL:=zhz hlt
   have HJr:=zhz hj
   have HJK:=zhz (show ∀ s wx,J s wr→Below wr.heap.size wr wx→J s wx from fun s wx hs hb=>HJ.out s wr wx none hs ⟨hb.os,hb.tape,hb.output,hb.size,fun k hk _=>hb.block k hk⟩ (fun r e=>by cases e))
   clear hset k2 b2 hil hlt hc0 hj k1 l1 s1 hw2
   cases hK:σ.K i with
   | none =>
    have CK:=zhz (zmu (i:Int) w2 P2.out.ix.ks (by unfold hasB;simp [hK]))
    have HKK:=zhz hK
    clear hK
    gi_wp2_with (refine ⟨trivial,rfl,?_⟩;gi_at_call 112;rw [HW2.out];refine (callsIn_wide.2 CK.out).mono ?_;rintro e w3 ⟨rfl,rfl⟩)
    refine ⟨fun _ h=>(by cases h),?_⟩
    gi_wp2
    go_roundw
    case rel=>exact ⟨i+1,HL.out,by go_num,by rw [zmC HKK.out];exact HJK.out _ _ HJr.out B2.out,P2⟩
    case measure=>have:=HL.out;simp [intOf];omega
   | some s =>
    have CK:=zhz (zdK i s w2 P2.out.ix.ks HL.out hK)
    have HKK:=zhz hK
    clear hK
    gi_wp2
    refine ⟨trivial,rfl,?_⟩
    rw [HW2.out]
    refine (callsIn_wide.2 CK.out).mono ?_
    rintro e w3 ⟨rfl,b3⟩
    have B3:=zhz (zae B2.out b3)
    have P3:=zhz (P2.out.keep b3)
    have k3:=(K2.out.keep b3).rd
    have e3:=zlT HKK.out HC.out
    obtain ⟨fn,tmps,assign,body,hy,hR⟩:=HY.out (plL σ.K C i) (s,c0) w3 (HJK.out _ _ HJr.out B3.out) (by rw [← e3];exact zde HL.out)
    rw [← e3] at hR
    have HR:=zhz hR
    clear b3 hR e3
    try dsimp only at hy
    gi_wp2
    refine ⟨rfl,HR.out.mono ?_⟩
    rintro e w4 (⟨rfl,hJ3,hk3⟩ | ⟨rfl,hJx3⟩)
    ·have P4:=zhz (hk3.pl P3.out)
     have HJ4:=zhz hJ3
     clear hJ3 hk3
     gi_wp2
     go_roundw
     case rel=>exact ⟨i+1,HL.out,by go_num,HJ4.out,P4⟩
     case measure=>have:=HL.out;simp [intOf];omega
    ·have HJ4:=zhz hJx3
     clear hJx3
     gi_wp2
     refine bodyPost_ret (results_none rfl _ _ _) rfl ?_
     exact ⟨⟨_,rfl⟩,.inr ⟨plL σ.K C (i+1),_,zde HL.out,HJ4.out,Below.refl _ _⟩⟩
  ·obtain rfl:i=Q.N.n:=by omega
   gi_wp2
   go_end0
   exact ⟨⟨_,rfl⟩,.inl hj⟩
end
section
open Go.Shelf
attribute [local go_sem] Oper.semAt_some
abbrev smEnc (x:Tri):Array Value:=#[.agg #[.string x.1,.int .i64 x.2.1,.int .i64 x.2.2]]
theorem KeepB.sm {W w:World} {Q:SmN} {L:List Ent} {tot:Int} {σ:KSt} (hk:KeepB Q.all W w) (h:SmAt W Q L tot σ):SmAt w Q L tot σ:=by
 obtain ⟨R,h1,h2⟩:=h.hg
 exact ⟨hk _ _ _ (Or.inl (Or.inr (Or.inl rfl))) h.hs,⟨R,hk _ _ _ (Or.inl (Or.inr (Or.inr rfl))) h1,h2⟩,hk.idx h.ix (fun k hk=>by rcases hk with hk | hk;exact Or.inl (Or.inl hk);exact Or.inr hk),h.n1,h.ne,h.ok⟩
theorem KeepB.smM {W w:World} {Q:SmN} {M:List Tri} {tot:Int} (hk:KeepB Q.all W w) (h:SmM W Q M tot):SmM w Q M tot:=by
 obtain ⟨L,σ,h1,h2⟩:=h
 exact ⟨L,σ,hk.sm h1,h2⟩
theorem zju {α:Type} {l:List α} {i:Nat} {x:α} (h:l[i]?=some x):l.take (i+1)=l.take i++[x]:=by
 rw [List.take_add_one,h];rfl
def YGo (J:World→Prop) (K:World→World→Prop) (Jx:World→Prop) (W W':World) (b:Bool):Prop:=(b=true∧J W'∧K W W')∨(b=false∧Jx W')
theorem zji (Q:SmN) (L:List Ent) (tot:Int) (σ:KSt) (w0:World) (h:SmAt w0 Q L tot σ):IterB Tryz.prog 86 #[.pointer (some ⟨Q.s,0,none⟩)] smEnc (KeepB Q.all) (L.map Ent.c) w0:=by
 intro l J Jx W hW hJ hY h0
 have H0:=zhz (h.keep hW)
 clear h
 have hn:=H0.out.n1
 have hle:=H0.out.le
 have HY:=zhz hY
 have HJ:=zhz hJ
 obtain ⟨m,hm⟩:=zeq (L.length)
 have HM:=zhz hm
 have t0:(m:Int)≤64:=by omega
 clear hn hle hY hJ hW hm
 refine callsIn_of_wp Tryz.func86 rfl trivial ?_ rfl
 simp only [Tryz.ntmps86,List.size_toArray,List.length_cons,List.length_nil,Nat.reduceAdd,Nat.reduceSub,Array.replicate_succ,Array.replicate_zero,List.push_toArray,List.append_toArray,List.nil_append,List.cons_append]
 have hnf:∀ w:World,(binOp BinOp.eql 214 (Value.func (Fn.yield l) #[] #[]) Value.nilFunc).run Tryz.prog w=.ok (.bool false) w:=fun w=>by
  first | rfl | (simp [binOp,go_sem]) 
 gi_wp2
 gi_loopw [4] (fun i wr=>∃ k:Nat,k≤m∧i=.int .i64 (k:Int)∧J ((L.map Ent.c).take k) wr∧Hid (SmAt wr Q L tot σ)) (fun i _=>m - (intOf i).toNat)
 case atStart=>exact ⟨0,by omega,rfl,h0,H0⟩
 case round =>
  obtain ⟨i,hi,rfl,hj,HP⟩:=hrel
  clear h0
  by_cases hlt:i<m
  ·obtain ⟨x,hx⟩:∃ x,L[i]?=some x:=⟨_,zge (by rw [← HM.out];exact hlt)⟩
   have hu:=HP.out.ix.uni
   have hkey:=HP.out.ok.key x (List.mem_of_getElem? hx)
   have hsz:=hu.2.1 x.p x.k hkey
   have CK:=zhz (fun wx (hb:Below wr.heap.size wr wx)=>zdK x.p x.k wx ((HP.out.keep hb).ix.ks) hsz.1 hkey)
   have HX:=zhz hx
   have HLT:=zhz hlt
   have HJr:=zhz hj
   have HJK:=zhz (show ∀ s wx,J s wr→Below wr.heap.size wr wx→J s wx from fun s wx hs hb=>HJ.out s wr wx none hs ⟨hb.os,hb.tape,hb.output,hb.size,fun k hk _=>hb.block k hk⟩ (fun r e=>by cases e))
   have k:=HP.out.hs.rd
   rw [← HM.out] at k
   have t1:(0:Int)≤(i:Int):=by omega
   have t2:(i:Int)<(m:Int):=by omega
   clear hu hkey hsz hx hj hlt
   gi_wp2
   clear k
   refine wpIn_wide.2 ?_
   have HS:=zhz (show ∀ wx,Below wr.heap.size wr wx→(fun w':World=>(∀ i,w'.cell? ⟨Q.s,i,none⟩=(smC Q m tot)[i]?)∧w'.cell? ⟨Q.g,i*3+2,none⟩=some (.int .i64 (x.p:Int))) wx from fun wx hb=>⟨by have:=(HP.out.keep hb).hs.rd;rw [← HM.out] at this;exact this,((HP.out.keep hb).cell HX.out).2.2⟩)
   have B1:=zhz (show Below wr.heap.size wr wr.drew from zaa (Below.refl _ _) 1)
   refine wp_region_held_drew (S:=(fun w':World=>(∀ i,w'.cell? ⟨Q.s,i,none⟩=(smC Q m tot)[i]?)∧w'.cell? ⟨Q.g,i*3+2,none⟩=some (.int .i64 (x.p:Int)))) (by kernel_rfl) (HS.out _ B1.out) (fun hHeld=>?_)
   refine wR 0 ?_
   refine wR 1 ?_
   refine wR 2 ?_
   refine wR 3 ?_
   refine wR 4 ?_
   refine wR 5 ?_
   refine wR 6 ?_
   refine wR 7 ?_
   refine wR 8 ?_
   refine wR 9 ?_
   refine wR 10 ?_
   refine wR 11 ?_
   refine wC 12 fun K hK=>?_
   go_simp
   ((with_reducible refine (CK.out wr.drew B1.out).mono ?_);rintro e w2 ⟨rfl,b2⟩;have B2:=zhz (G.below_on B1.out b2);clear b2)
   refine hK.out _ _ (HS.out _ B2.out) fun hHeld=>?_
   clear hK K
   try simp only [Act.put,zs1,zs2,zs3]
   refine wR 13 ?_
   refine wR 14 ?_
   refine wR 15 ?_
   refine wR 16 ?_
   refine wR 17 ?_
   refine wpAnyH_done (by kernel_rfl) ?_ _
   clear hHeld
   have P2:=zhz (HP.out.keep B2.out)
   have HJ2:=zhz (HJK.out _ _ HJr.out B2.out)
   have hxM:(L.map Ent.c)[i]?=some x.c:=by rw [List.getElem?_map,HX.out];rfl
   have e3:=zju hxM
   have hpre:(L.map Ent.c).take i++[x.c] <+: L.map Ent.c:=by rw [← e3];exact List.take_prefix _ _
   have HE3:=zhz e3
   have HPR:=zhz hpre
   clear hxM e3 hpre
   gi_wp2
   have B3:=zhz (show Below wr.heap.size wr w2.drew from zaa B2.out 1)
   have P3:=zhz (HP.out.keep B3.out)
   have k:=P3.out.hs.rd
   rw [← HM.out] at k
   obtain ⟨c0,c1,c2⟩:=P3.out.cell HX.out
   obtain ⟨fn,tmps,assign,body,hy,hR⟩:=HY.out ((L.map Ent.c).take i) x.c w2.drew (HJK.out _ _ HJr.out B3.out) HPR.out
   rw [← HE3.out] at hR
   have HR:=zhz (hR.mono (fun e w' h=>show ∃ b,e=.returned (.bool b)∧YGo (J ((L.map Ent.c).take (i+1))) (KeepB Q.all) (Jx ((L.map Ent.c).take (i+1))) w2.drew w' b from by
    rcases h with ⟨rfl,h1,h2⟩ | ⟨rfl,h1⟩
    ·exact ⟨true,rfl,.inl ⟨rfl,h1,h2⟩⟩
    ·exact ⟨false,rfl,.inr ⟨rfl,h1⟩⟩))
   clear hR c2 HJK
   have hy:(Instr.yield l #[.agg #[.string x.k,.int .i64 x.n,.int .i64 x.e]]).run Tryz.prog w2.drew=_:=hy
   gi_region_with (refine ⟨rfl,HR.out.mono ?_⟩;rintro e w4 ⟨b,rfl,hb⟩;have HB:=zhz hb;clear hb)
   all_goals
     clear k c0 c1 hy
     cases b with
     | true =>
      have HJ4:=zhz (show J ((L.map Ent.c).take (i+1)) w4∧KeepB Q.all w2.drew w4 from by
       rcases HB.out with h | h
       ·exact h.2
       ·cases h.1)
      gi_wp2
      go_roundw
      case rel=>exact ⟨i+1,HLT.out,by go_num,HJ4.out.1,zhz (HJ4.out.2.sm P3.out)⟩
      case measure=>have:=HLT.out;simp [intOf];omega
     | false =>
      have HJ4:=zhz (show Jx ((L.map Ent.c).take (i+1)) w4 from by
       rcases HB.out with h | h
       ·cases h.1
       ·exact h.2)
      gi_wp2
      refine bodyPost_ret (results_none rfl _ _ _) rfl ?_
      exact ⟨⟨_,rfl⟩,.inr ⟨(L.map Ent.c).take (i+1),_,List.take_prefix _ _,HJ4.out,Below.refl _ _⟩⟩
  ·obtain rfl:i=m:=by omega
   have k:=HP.out.hs.rd
   rw [← HM.out] at k
   have t2:decide ((i:Int)<(i:Int))=false:=by rw [zdn];omega
   have HJ2:=zhz hj
   clear hj
   gi_wp2
   go_end0
   have:=HJ2.out
   rw [HM.out,show L.length=(L.map Ent.c).length from (List.length_map ..).symm,List.take_length] at this
   exact ⟨⟨_,rfl⟩,.inl this⟩
end
end Go.Proofs.YtannniobeanhlaaGreat
