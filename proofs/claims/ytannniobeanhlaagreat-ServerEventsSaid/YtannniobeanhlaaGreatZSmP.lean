import Derived.Test.YtannniobeanhlaaGreatZPlA
import Derived.Test.YtannniobeanhlaaGreatZLiftS
set_option linter.unusedSimpArgs false
set_option linter.unusedVariables false
set_option maxRecDepth 100000
set_option maxHeartbeats 9000000
namespace Go.Proofs.YtannniobeanhlaaGreat
open Go.ChangeShapes Go.WideShapes Go.ChangeAt Go.RowKit
section
open Go.Shelf
attribute [local go_sem] Oper.semAt_some
def topN (k:Int) (n:Nat):Nat:=(min (max k 1) (n:Int)).toNat
theorem zd0 (k:Int) {n:Nat} (hn:1≤n):1≤topN k n∧topN k n≤n:=by unfold topN;omega
def triV (a:Tri):List Value:=[.string a.1,.int .i64 a.2.1,.int .i64 a.2.2]
theorem zjW:(Tryz.prog.info? 183).map (fun i=>(i.zero,i.size,i.bytes))=some (some (.agg #[.string ⟨#[]⟩,.int .i64 0,.int .i64 0]),3,32):=by kernel_rfl
theorem zj8 {β:Type} {l pre:List β} {x:β} (h:pre++[x] <+: l):pre.length<l.length∧l[pre.length]?=some x:=by
 have h1:=h.length_le
 simp at h1
 obtain ⟨t,ht⟩:=h
 exact ⟨by omega,by rw [← ht];simp⟩
theorem zkE (M:List Tri):(M.flatMap triV).length=M.length*3:=by
 induction M with
 | nil=>rfl
 | cons x M ih=>rw [List.flatMap_cons,List.length_append,ih];simp [triV];omega
structure TopS (w wx:World) (Q:SmN) (L:List Ent) (tot:Int) (σ:KSt) (kb lb N:Nat) (pre:List Tri):Prop where
 at_:SmAt wx Q L tot σ
 kb:Blk wx kb 3 #[.int .i64 (N:Int)]
 lb:∃ v,Blk wx lb 88 #[v]∧wx.ownsRow (lb+1) 183 3 v pre.length (pre.flatMap triV)
 bl:Below w.heap.size w wx
theorem TopS.turn {w X Y:World} {Q:SmN} {L:List Ent} {tot:Int} {σ:KSt} {kb lb N B:Nat} {pre:List Tri} (h:TopS w X Q L tot σ kb lb N pre) (ht:Turn B X Y) (hB:w.heap.size≤B):TopS w Y Q L tot σ kb lb N pre:=by
 obtain ⟨v,h1,h2⟩:=h.lb
 exact ⟨KeepB.sm (KeepB.turn ht) h.at_,h.kb.turn ht,⟨v,h1.turn ht,zdS h2 ht⟩,ht.below h.bl hB⟩
theorem TopS.keep {w X Y:World} {Q:SmN} {L:List Ent} {tot:Int} {σ:KSt} {kb lb N:Nat} {pre:List Tri} (h:TopS w X Q L tot σ kb lb N pre) (hb:Below X.heap.size X Y):TopS w Y Q L tot σ kb lb N pre:=by
 obtain ⟨v,h1,h2⟩:=h.lb
 exact ⟨h.at_.keep hb,h.kb.keep hb,⟨v,h1.keep hb,G.own_below h2 hb⟩,zae h.bl hb⟩
theorem zjk (Q:SmN) (M:List Tri) (tot:Int) (kq:Int) (hk : -9223372036854775808≤kq∧kq≤9223372036854775807) (w:World) (h:SmM w Q M tot) :
  Calls Tryz.prog 60 #[.pointer (some ⟨Q.s,0,none⟩),.int .i64 kq] w fun e w'=>∃ v,e=.returned v∧w'.ownsRow w.heap.size 183 3 v (min (topN kq Q.N.n) M.length) ((M.take (topN kq Q.N.n)).flatMap triV)∧Below w.heap.size w w':=by
 obtain ⟨N,hN⟩:=zeq (topN kq Q.N.n)
 rw [← hN]
 obtain ⟨L0,σ0,h0,hL0⟩:=h
 have hn1:=h0.n1
 have hNb:=zd0 kq hn1.1
 rw [← hN] at hNb
 obtain ⟨kx,hkx⟩:=zeq (max kq 1)
 have hmin:min kx (Q.N.n:Int)=(N:Int):=by rw [hkx,hN];unfold topN;omega
 have hmax:max kq 1=kx:=hkx.symm
 obtain ⟨w1,hw1,k1,l1,s1⟩:=zad w #[.int .i64 kq] 3
 obtain ⟨kb,hkb⟩:=zeq (w.heap.size)
 rw [← hkb] at k1
 have H1:=zhz (h0.keep l1)
 have CL:=zhz (fun wx (hb:Below w1.heap.size w1 wx)=>zb3 wx (((h0.keep l1).keep hb).ix.ks))
 have K1:=zhz k1
 have HB:=zhz (And.intro hkb (And.intro l1 s1))
 have HQ:=zhz (show ∀ k,Q.all k→k<kb from fun k hk=>by rw [hkb];exact h0.lt k hk)
 have HL:=zhz hL0
 have HN:=zhz (And.intro hNb hn1)
 have k1r:=k1.rd
 have k1w:=k1.wr
 have kr:=(h0.keep l1).hs.rd
 clear hL0 h0 hN hn1 hNb hkx k1 l1 s1
 refine callsM Tryz.func60 rfl ?_
 simp only [Tryz.ntmps60,List.size_toArray,List.length_cons,List.length_nil,Nat.reduceAdd,Nat.reduceSub,Array.replicate_succ,Array.replicate_zero,List.push_toArray,List.append_toArray,List.nil_append,List.cons_append]
 go_upto_region 3 with (fail)
 rw [← hkb]
 clear hkb hw1
 have B1:=zhz (show Below w1.heap.size w1 w1.drew from zaa (Below.refl _ _) 1)
 have k1d:w1.drew.cell? ⟨kb,0,none⟩=some (.int .i64 kq):=k1r 0
 have k2:=(K1.out.keep B1.out).wr
 have HS:=zhz (show ∀ v,∃ w3,w1.drew.setCell ⟨kb,0,none⟩ v=w3∧Blk w3 kb 3 #[v]∧Fr (fun k=>k=kb) w1.drew w3∧w3.heap.size=w1.drew.heap.size from fun v=>G.box_set (K1.out.keep B1.out) 0 v #[v] rfl)
 obtain ⟨w3,hw3,k3,f3,s3⟩:=HS.out (.int .i64 (N:Int))
 have H3:=zhz ((H1.out.keep B1.out).fr f3 (fun k hk e=>by have:=HQ.out k hk;omega))
 have K3:=zhz k3
 have HB3:=zhz (show Below w.heap.size w w3∧w3.heap.size=kb+1 from ⟨(zae HB.out.2.1 B1.out).trans (f3.below (by have:=HB.out;have:w1.drew.heap.size=w1.heap.size:=rfl;omega) (fun k hk=>by have:=HB.out.1;omega)),by have:=HB.out;have:w1.drew.heap.size=w1.heap.size:=rfl;omega⟩)
 clear k3 f3 s3 HS
 refine wp_region_held_drew (S:=(fun w':World=>∀ i,w'.cell? ⟨Q.s,i,none⟩=(smC Q L0.length tot)[i]?)) (by kernel_rfl) (show ∀ i,w1.drew.cell? ⟨Q.s,i,none⟩=_ from kr) (fun hHeld=>?_)
 refine wR 2 ?_
 refine wR 3 ?_
 refine wR 4 ?_
 refine wR 5 ?_
 refine wpAnyH_ready (rs:=[0,6]) (by kernel_rfl) (by simp) ?_
 refine AllReadyH.cons (o:=?_) ?_ ?_ ?_
 rotate_left 1
 ·simp only [List.getElem?_toArray,List.getElem?_cons_succ,List.getElem?_cons_zero];rfl
 focus
   intro K hK
   go_simp
   skip
   refine hK.out _ _ hHeld (fun hHeld=>?_)
   clear hK K
   try simp only [Act.put,zs1,zs2,zs3]
   refine wR 1 ?_
   refine wC 6 fun K hK=>?_
   go_simp
   ((with_reducible refine (CL.out w1.drew B1.out).mono ?_);rintro e wx ⟨rfl,rfl⟩)
   refine hK.out _ _ hHeld fun hHeld=>?_
   clear hK K
   try simp only [Act.put,zs1,zs2,zs3]
   refine wR 7 ?_
   refine wC 8 fun K hK=>?_
   go_simp
   skip
   refine hK.out _ _ H3.out.hs.rd fun hHeld=>?_
   clear hK K
   try simp only [Act.put,zs1,zs2,zs3]
   refine wpAnyH_done (by kernel_rfl) ?_ _
   clear hHeld
 rotate_left 1
 focus
   refine AllReadyH.cons (o:=?_) ?_ ?_ ?_
   rotate_left 1
   ·simp only [List.getElem?_toArray,List.getElem?_cons_succ,List.getElem?_cons_zero];rfl
   rotate_left 1
   ·exact AllReadyH.nil
   intro K hK
   go_simp
   ((with_reducible refine (CL.out w1.drew B1.out).mono ?_);rintro e wx ⟨rfl,rfl⟩)
   refine hK.out _ _ hHeld (fun hHeld=>?_)
   clear hK K
   try simp only [Act.put,zs1,zs2,zs3]
   refine wC 0 fun K hK=>?_
   go_simp
   skip
   refine hK.out _ _ hHeld fun hHeld=>?_
   clear hK K
   try simp only [Act.put,zs1,zs2,zs3]
   refine wR 1 ?_
   refine wR 7 ?_
   refine wC 8 fun K hK=>?_
   go_simp
   skip
   refine hK.out _ _ H3.out.hs.rd fun hHeld=>?_
   clear hK K
   try simp only [Act.put,zs1,zs2,zs3]
   refine wpAnyH_done (by kernel_rfl) ?_ _
   clear hHeld
 all_goals
   clear k1d k2 hmax hmin k1r k1w kr CL hw3
   obtain ⟨w4,hw4,k4,l4,s4⟩:=zad w3 #[.slice none 0 0] 88
   have hs3:w3.heap.size=kb+1:=HB3.out.2
   obtain ⟨lb,hlb⟩:=zeq (w3.heap.size)
   rw [← hlb] at k4
   have H4:=zhz (H3.out.keep l4)
   have K4:=zhz k4
   have K43:=zhz (K3.out.keep l4)
   have HLB:=zhz (show lb=kb+1∧w4.heap.size=kb+2∧Below w.heap.size w w4∧w.heap.size=kb from ⟨by omega,by omega,zae HB3.out.1 l4,HB.out.1.symm⟩)
   clear k4 l4 s4 hs3
   go_upto_region 6 with (fail)
   rw [← hlb]
   clear hlb hw4
   go_wp2
   have hit:=zji Q L0 tot σ0 w4 H4.out
   rw [HL.out] at hit
   obtain ⟨is0,hi0,hz0,hz1,hz2⟩:=info_parts zjW
   have HI0:=zhz (And.intro hi0 (And.intro hz0 (And.intro hz1 hz2)))
   clear hi0 hz0 hz1 hz2
   refine (wpIn_wide (n:=0)).1 (zi2 (gf:=86) (fb:=#[.pointer (some ⟨Q.s,0,none⟩)]) rfl (enters_of Tryz.func86 (by kernel_rfl) rfl) hit (Below.refl _ _) (fun _=>rfl) KeepB.trans (fun _ _ h=>KeepB.turn h)
     (fun pre W'=>TopS w W' Q L0 tot σ0 kb lb N pre∧pre.length≤N∧w4.heap.size≤W'.heap.size)
     (fun c pre W'=>c=.exit 0∧∃ pre',TopS w W' Q L0 tot σ0 kb lb N pre'∧pre' <+: pre∧pre'.length=N∧w4.heap.size≤W'.heap.size)
     ?hI ?hIx ?h0 ?round ?done ?stop)
   case hI=>exact fun s X Y hs hT=>⟨hs.1.turn hT HLB.out.2.2.1.size,hs.2.1,Nat.le_trans hs.2.2 hT.size⟩
   case hIx =>
    rintro c s X Y ⟨rfl,pre',h1,h2,h3,h4⟩ hT
    exact ⟨rfl,pre',h1.turn hT HLB.out.2.2.1.size,h2,h3,Nat.le_trans h4 hT.size⟩
   case h0=>exact ⟨⟨H4.out,K43.out,⟨_,K4.out,World.ownsRow_nil _ _ _ _⟩,HLB.out.2.2.1⟩,Nat.zero_le _,Nat.le_refl _⟩
   case round =>
    rintro l pre ⟨s,nn,ee⟩ X K hl hpx ⟨hT0,hpn,hsz⟩ hK
    obtain ⟨hpl,hpa⟩:=zj8 hpx
    obtain ⟨x1,x2,e1,kr,kw,e2,bl2,kc2⟩:=box3 X 183 (.string ⟨#[]⟩) (.int .i64 0) (.int .i64 0) (.string s) (.int .i64 nn) (.int .i64 ee)
    have HW:=zhz (And.intro e2 (And.intro bl2 kc2))
    have HS:=zhz (And.intro (hT0.keep bl2) (show w4.heap.size≤x2.heap.size by have:=bl2.size;omega))
    have HK2:=zhz hK
    have HP:=zhz (And.intro hpn hpl)
    clear e2 bl2 kc2 hT0 hsz hK hpn hpx hl hit hpl hpa
    gi_wp2
    rw [HW.out.1]
    refine HK2.out _ _ (zat HW.out.2.1) (KeepB.below HW.out.2.1) ?_
    clear kr kw e1
    intro W2 hT
    have T2:=zhz (And.intro (HS.out.1.turn hT HLB.out.2.2.1.size) (And.intro (HW.out.2.2.turn hT) (show w4.heap.size≤W2.heap.size by have:=hT.size;have:=HS.out.2;omega)))
    clear hT HK2
    obtain ⟨v,hv1,hv2⟩:=T2.out.1.lb
    obtain ⟨Av,cv,rfl,hcv,hcm,hget⟩:=G.own_at hv2
    have HV:=zhz (And.intro hv1 hv2)
    have z0:=T2.out.1.kb.rd
    have z1:=hv1.rd
    have z2:=T2.out.2.1.rd
    clear hv1 hv2 hget hcm hcv
    by_cases hst:pre.length=N
    ·have t3:((pre.length:Int)==(N:Int))=true:=by rw [beq_iff_eq];omega
     have HST:=zhz hst
     clear hst
     gi_wp2
     exact ⟨KeepsFrom.refl _ _,rfl,pre,T2.out.1,List.prefix_append _ _,HST.out,T2.out.2.2⟩
    ·have t3:((pre.length:Int)==(N:Int))=false:=by rw [beq_eq_false_iff_ne];omega
     have HST:=zhz (show pre.length<N by have:=HP.out.1;omega)
     clear hst
     have hN64:pre.length<64:=by have:=HST.out;have:=HN.out;omega
     have hob:=G.own_base HV.out.2
     gi_wp2_with (gi_at_builtin;refine zhk (w0:=W2) (v:=.slice Av pre.length cv) rfl _ _ rfl rfl rfl Tryz.underlying88 HI0.out.1 HI0.out.2.1 HI0.out.2.2.1 HI0.out.2.2.2 (by rfl) (by omega) HV.out.2 (by have:=T2.out.2.2;have:=HLB.out;omega) [.string s,.int .i64 nn,.int .i64 ee] rfl (by intro u hu;simp at hu;rcases hu with rfl | rfl | rfl <;> rfl) (by omega) (by unfold maxLen;omega) ?_;intro gl cl w9 hown9 hf9 hgl9;replace hf9:Fr (fun k=>(Value.slice Av pre.length cv).ownBlock=some k) W2 w9:=hf9;have O9:=zhz hown9;have F9:=zhz hf9;have B9:=zhz (HV.out.1.fr hf9 (fun e=>by have:=hob _ e;omega));have z9:=B9.out.rd;have z9w:=B9.out.wr;clear hown9 hf9 hgl9)
     rw [zac B9.out]
     have f10:=zmq w9 lb (.cells ((#[.slice Av pre.length cv]:Array Value).setIfInBounds 0 (.slice (some ⟨gl,0,none⟩) (pre.length+1) cl)) 88 (0,0))
     have hb:=HLB.out
     have hq:=HQ.out
     have hsz:=T2.out.2.2
     refine ⟨(za1 F9.out (fun k o hk _ ho=>by obtain ⟨o',h1,h2⟩:=ziL HV.out.2 k hk;rw [ho] at h1;cases h1;exact h2)).trans (za1 f10 (fun k o hk hB=>by omega)),(KeepB.fr F9.out (fun k hk e=>by have:=hob k e;have:=hq k hk;omega)).trans (KeepB.fr f10 (fun k hk e=>by have:=hq k hk;omega)),⟨?_,?_,⟨_,zab (lt_of_block B9.out) _,?_⟩,?_⟩,?_,Nat.le_trans hsz (Nat.le_trans F9.out.size f10.size)⟩
     ·exact (T2.out.1.at_.fr F9.out (fun k hk e=>by have:=hob k e;have:=hq k hk;omega)).fr f10 (fun k hk e=>by have:=hq k hk;omega)
     ·exact (T2.out.1.kb.fr F9.out (fun e=>by have:=hob _ e;omega)).fr f10 (by omega)
     ·rw [List.length_append,List.flatMap_append]
      exact G.own_fr O9.out f10 (fun g hg e=>by have:=G.own_base O9.out g hg;omega)
     ·have hbl:=T2.out.1.bl
      exact (hbl.trans (F9.out.below hbl.size (fun k hk=>by have:=hob k hk;omega))).trans (f10.below (by have:=F9.out.size;have:=hbl.size;omega) (fun k hk=>by omega))
     ·rw [List.length_append];have:=HST.out;simp;omega
   case done =>
    rintro D X hD ⟨hT0,hpn,hsz⟩ hd
    obtain ⟨v,hv1,hv2⟩:=hT0.lb
    have HX:=zhz (And.intro hT0.bl (And.intro hv2 hpn))
    have HD:=zhz (And.intro hD hd)
    have z1:=hv1.rd
    clear hT0 hpn hsz hd hD hit hv1 hv2
    go_wp2
    have hx:=HX.out
    have hb:=HLB.out
    have hd:=HD.out
    have hT:=Turn.putObj X w4.heap.size D (.deferred none) hd.1 hd.2 rfl
    refine za6 rfl hd.2 (v:=v) (by simp [results,Tryz.func60]) ⟨v,rfl,?_,hT.below hx.1 (by omega)⟩
    rw [show min N M.length=M.length by omega,List.take_of_length_le hx.2.2]
    exact G.own_more (zdS hx.2.1 hT) (by omega)
   case stop =>
    rintro D c pre X hD hpre ⟨rfl,pre',hT0,h2,h3,h4⟩ hd
    obtain ⟨v,hv1,hv2⟩:=hT0.lb
    have HX:=zhz (And.intro hT0.bl (And.intro hv2 (And.intro h2 h3)))
    have HD:=zhz (And.intro hD hd)
    have z1:=hv1.rd
    clear hT0 h2 h3 h4 hd hD hit hv1 hv2
    gi_wp2
    go_wp2
    have hx:=HX.out
    have hb:=HLB.out
    have hd:=HD.out
    have hT:=Turn.putObj X w4.heap.size D (.deferred none) hd.1 hd.2 rfl
    refine za6 rfl hd.2 (v:=v) (by simp [results,Tryz.func60]) ⟨v,rfl,?_,hT.below hx.1 (by omega)⟩
    have hp:pre' <+: M:=hx.2.2.1.trans hpre
    have hl:=hp.length_le
    rw [show min N M.length=pre'.length by omega,← hx.2.2.2,← List.prefix_iff_eq_take.1 hp]
    exact G.own_more (zdS hx.2.1 hT) (by omega)
end
structure RdT (B:Nat) (w:World) (A:Option Addr) (n c:Nat) (L:List Tri):Prop where
 len:L.length=n
 cap:n≤c
 max:c≤maxLen
 at_:0<n→∃ g C,A=some ⟨g,0,none⟩∧B≤g∧Blk w g 183 C∧∀ (i:Nat) (a:Tri),L[i]?=some a→C[i*3]?=some (.string a.1)∧C[i*3+1]?=some (.int .i64 a.2.1)∧C[i*3+2]?=some (.int .i64 a.2.2)
section
variable {B:Nat} {w w':World} {A:Option Addr} {n c:Nat} {L:List Tri}
theorem zd1:∀ (L:List Tri) (i:Nat) (a:Tri),L[i]?=some a→(L.flatMap triV)[i*3]?=some (.string a.1)∧(L.flatMap triV)[i*3+1]?=some (.int .i64 a.2.1)∧(L.flatMap triV)[i*3+2]?=some (.int .i64 a.2.2)
 | [],i,a,h=>by simp at h
 | x :: L,0,a,h=>by
  simp at h;subst h
  simp [triV]
 | x :: L,i+1,a,h=>by
  have:=zd1 L i a (by simpa using h)
  rw [List.flatMap_cons]
  have e:∀ j,(triV x++L.flatMap triV)[(i+1)*3+j]?=(L.flatMap triV)[i*3+j]?:=fun j=>by
   rw [List.getElem?_append_right (by show 3≤_;omega)]
   congr 1
   show (i+1)*3+j - 3=_
   omega
  exact ⟨by have:=e 0;rw [Nat.add_zero,Nat.add_zero] at this;rw [this];exact (zd1 L i a (by simpa using h)).1,by rw [e];exact this.2.1,by rw [e];exact this.2.2⟩
theorem zl2 {v:Value} (h:w.ownsRow B 183 3 v n (L.flatMap triV)):∃ A c,v=.slice A n c∧RdT B w A n c L:=by
 have hl:=h.1
 rw [zkE] at hl
 rcases h.2 with ⟨rfl,h0⟩ | ⟨g,cap,cur,rfl,hb,hg,hnc,hcm,hcs,htake⟩
 ·exact ⟨none,0,by rw [h0],by omega,by omega,by unfold maxLen;omega,fun h=>absurd h (by omega)⟩
 ·refine ⟨_,_,rfl,by omega,hnc,hcm,fun _=>⟨g,cur,rfl,hb,hg,fun i a hi=>?_⟩⟩
  have hil:=(zgs.1 hi).1
  have hc:∀ j,j<n*3→cur[j]?=(L.flatMap triV)[j]?:=fun j hj=>by
   rw [← htake]
   simp [hj]
  obtain ⟨c0,c1,c2⟩:=zd1 L i a hi
  exact ⟨by rw [hc _ (by omega)];exact c0,by rw [hc _ (by omega)];exact c1,by rw [hc _ (by omega)];exact c2⟩
end
theorem smtopM {w:World} {Q:SmN} {M:List Tri} {tot:Int} (kq:Int) (hk : -9223372036854775808≤kq∧kq≤9223372036854775807) (h:SmM w Q M tot) :
  Calls Tryz.prog 60 #[.pointer (some ⟨Q.s,0,none⟩),.int .i64 kq] w fun e w'=>∃ A c,e=.returned (.slice A (min (topN kq Q.N.n) M.length) c)∧RdT w.heap.size w' A (min (topN kq Q.N.n) M.length) c (M.take (topN kq Q.N.n))∧Below w.heap.size w w' :=
 (zjk Q M tot kq hk w h).mono (fun e w' ⟨v,h1,h2,h3⟩=>by
  obtain ⟨A,c,rfl,h4⟩:=zl2 h2
  exact ⟨A,c,h1,h4,h3⟩)
end Go.Proofs.YtannniobeanhlaaGreat
