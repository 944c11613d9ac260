import Derived.Test.YtannniobeanhlaaGreatZFrN
import Derived.Test.YtannniobeanhlaaGreatZGen
import Derived.Deep.CutRange
set_option linter.unusedSimpArgs false
set_option linter.unusedVariables false
set_option maxRecDepth 100000
set_option maxHeartbeats 9000000
namespace Go.Proofs.YtannniobeanhlaaGreat
open Go.ChangeShapes Go.WideShapes Go.ChangeAt Go.RowKit
theorem ziQ (A:Option Addr) (n c:Nat) (z:List Int) (rules:Int) (q:Req) (m e:Int) (w:World) (hr:RdI w .u8 A n c z) (h:parseZ z rules=(q,m,e)) :
  Calls Tryz.prog 153 #[.slice A n c,.int .i64 rules] w fun e' w'=>e'=.returned (.tuple #[reqV q.op q.rule q.cost (strOfNums q.key) q.k,.int .i64 m,.int .i64 e])∧Below w.heap.size w w':=by
 have:=ziO A n c z rules w hr
 rw [ziR h] at this
 exact this
def decC (bs:List Int) (n:Nat) (rules err:Int):Array Value:=(bs.map (Value.int .u8)++[Value.int .i64 (n:Int),Value.int .i64 rules,Value.int .i64 err]).toArray
theorem zaQ (bs:List Int) (n:Nat) (rules err:Int) (h:bs.length=75):(decC bs n rules err)[75]?=some (.int .i64 (n:Int))∧(decC bs n rules err)[76]?=some (.int .i64 rules)∧(decC bs n rules err)[77]?=some (.int .i64 err)∧∀ i,i<75→(decC bs n rules err)[i]?=some (.int .u8 (bs.getD i 0)):=by
 unfold decC
 have hl:(bs.map (Value.int .u8)).length=75:=by rw [List.length_map,h]
 refine ⟨?_,?_,?_,fun i hi=>?_⟩
 ·rw [List.getElem?_toArray,List.getElem?_append_right (by omega),hl];rfl
 ·rw [List.getElem?_toArray,List.getElem?_append_right (by omega),hl];rfl
 ·rw [List.getElem?_toArray,List.getElem?_append_right (by omega),hl];rfl
 ·rw [List.getElem?_toArray,List.getElem?_append_left (by omega),List.getElem?_map]
  simp [List.getD,show i<bs.length by omega]
theorem zh2 (bs:List Int) (n:Nat) (rules err x:Int) (i:Nat) (h:bs.length=75) (hi:i<75):(decC bs n rules err).setIfInBounds i (.int .u8 x)=decC (bs.set i x) n rules err:=by
 unfold decC
 rw [zs1,List.set_append_left _ _ (by rw [List.length_map];omega),List.map_set]
theorem zkU (bs:List Int) (n m:Nat) (rules err:Int) (h:bs.length=75):(decC bs n rules err).setIfInBounds 75 (.int .i64 (m:Int))=decC bs m rules err:=by
 unfold decC
 have hl:(bs.map (Value.int .u8)).length=75:=by rw [List.length_map,h]
 rw [zs1,List.set_append_right _ _ (by omega),hl];rfl
theorem zjJ (bs:List Int) (n:Nat) (rules err e:Int) (h:bs.length=75):(decC bs n rules err).setIfInBounds 77 (.int .i64 e)=decC bs n rules e:=by
 unfold decC
 have hl:(bs.map (Value.int .u8)).length=75:=by rw [List.length_map,h]
 rw [zs1,List.set_append_right _ _ (by omega),hl];rfl
structure DecIn (bs z:List Int) (rules:Int):Prop where
 len:bs.length=75
 byt:byt bs
 take:bs.take z.length=z
 clean:cleanZ z rules z.length
theorem DecIn.short {bs z:List Int} {rules:Int} (h:DecIn bs z rules):z.length≤74:=ze1 h.clean
theorem DecIn.next {bs z:List Int} {rules:Int} (h:DecIn bs z rules) {c:Int} (hc:0≤c∧c≤255):(bs.set z.length c).take (z.length+1)=z++[c]∧Go.Proofs.YtannniobeanhlaaGreat.byt (bs.set z.length c):=by
 have hs:=h.short
 have hl:=h.len
 refine ⟨?_,fun x hx=>?_⟩
 ·rw [List.take_succ_eq_append_getElem (by simp;omega),List.getElem_set_self,List.take_set_of_le (Nat.le_refl _),h.take]
 ·rcases List.mem_or_eq_of_mem_set hx with g | rfl
  ·exact h.byt x g
  ·exact hc
def DecAt (w:World) (b:Nat) (z:List Int) (rules err:Int):Prop:=∃ bs,DecIn bs z rules∧Blk w b 130 (decC bs z.length rules err)
theorem zmF {w:World} {b m k:Nat} {bs zs:List Int} {rules e:Int} (h:Blk w b 130 (decC bs m rules e)) (hl:bs.length=75) (hk:k≤75) (ht:bs.take k=zs) (hb:byt bs):RdI w .u8 (some ⟨b,0,none⟩) k k zs:=by
 subst ht
 refine ⟨by rw [List.length_take];omega,Nat.le_refl _,by unfold maxLen;omega,fun h0=>⟨b,0,rfl,lt_of_block h,fun i hi=>?_⟩,fun z hz=>zbK (hb z (List.mem_of_mem_take hz))⟩
 rw [Nat.zero_add,zag h,(zaQ _ _ _ _ hl).2.2.2 i (by omega),zec hi]
theorem zly (b:Nat) (z:List Int) (rules c:Int) (w:World) (h:DecAt w b z rules 0) (hc:0≤c∧c≤255) (q:Req) (m e:Int) (hp:parseZ (z++[c]) rules=(q,m,e)) :
  Calls Tryz.prog 129 #[.pointer (some ⟨b,0,none⟩),.int .u8 c] w fun e' w'=>e'=.returned (.tuple #[reqV q.op q.rule q.cost (strOfNums q.key) q.k,.bool (decide (0<m)),.int .i64 e])∧DecAt w' b (nextZ rules z c) rules e∧Fr (fun k=>k=b) w w':=by
 have hnc:=zhz (show cleanZ (nextZ rules z c) rules (nextZ rules z c).length from by obtain ⟨bs,h1,_⟩:=h;exact zdb h1.clean c)
 obtain ⟨bs,h1,h2⟩:=h
 have hs:=h1.short
 have hl:=h1.len
 obtain ⟨hn1,hn2⟩:=h1.next hc
 have H1:=zhz h1
 have H2:=zhz h2
 have HN1:=zhz hn1
 have HN2:=zhz hn2
 have HP:=zhz hp
 have HBL:=zhz (lt_of_block h2)
 have HLB:=zhz hl
 obtain ⟨n,hn⟩:=zeq (z.length)
 rw [← hn] at hs H2 HN1 HN2
 have HN:=zhz hn
 obtain ⟨d1,d2,d3,d4⟩:=zaQ bs n rules 0 hl
 have H2':=H2.out
 have k1:w.cell? ⟨b,75,none⟩=some (.int .i64 (n:Int)):=by rw [zag H2'];exact d1
 have k3:w.cell? ⟨b,77,none⟩=some (.int .i64 0):=by rw [zag H2'];exact d3
 clear h1 h2 hn1 hn2 hp hl hn d1 d2 d3 H2'
 go_enter Tryz.func129,Tryz.ntmps129
 go_upto_region 1 with (fail)
 obtain ⟨w1,hw1,hbk,hbl,hsz1⟩:=zad w (reqC 0 0 0 ⟨#[]⟩ 0) 76
 change Code.wp _ _ _ _ (w.alloc (.cells (reqC 0 0 0 ⟨#[]⟩ 0) 76))
 rw [hw1]
 obtain ⟨b0,hb0⟩:=zeq (w.heap.size)
 rw [← hb0] at hbk ⊢
 have HB0:=zhz hb0
 have BK:=zhz hbk
 have BL:=zhz hbl
 have H3:=zhz (H2.out.keep hbl)
 have k1':w1.cell? ⟨b,75,none⟩=some (.int .i64 (n:Int)):=by rw [zag H3.out];exact (zaQ _ _ _ _ HLB.out).1
 have k3':w1.cell? ⟨b,77,none⟩=some (.int .i64 0):=by rw [zag H3.out];exact (zaQ _ _ _ _ HLB.out).2.2.1
 have k4:w1.cell? ⟨b,n,none⟩=some (.int .u8 (bs.getD n 0)):=by rw [zag H3.out];exact (zaQ _ _ _ _ HLB.out).2.2.2 n (by omega)
 have p3:=H3.out.wr
 have t1:(0:Int)≤(n:Int):=by omega
 have t2:(n:Int)<75:=by omega
 have t3:¬ n=75:=by omega
 have t4:¬ 75=n:=by omega
 clear k1 k3 d4 hbk hbl hsz1 hw1 hb0
 go_upto_region 3 with (fail)
 clear k3'
 have kk:(w1.setCell ⟨b,n,none⟩ (.int .u8 c)).drew.cell? ⟨b,75,none⟩=some (.int .i64 (n:Int)):=(World.cell?_setCell_other w1 _ _ _ (fun e=>by injection e with e1 e2;omega)).trans k1'
 go_region_held3 (fun w'=>w'.cell? ⟨b,75,none⟩=some (.int .i64 (n:Int))) (first | exact kk | go_keep) (fail)
 obtain ⟨w2,e2,r2,f2,s2⟩:=G.box_set H3.out n (.int .u8 c) (decC (bs.set n c) n rules 0) (zh2 _ _ _ _ _ _ HLB.out (by omega))
 change Exit.then _ _ _ _ ((w1.setCell ⟨b,n,none⟩ (.int .u8 c)).drew)
 rw [e2]
 have hlb:(bs.set n c).length=75:=by rw [List.length_set];exact HLB.out
 have HLB2:=zhz hlb
 obtain ⟨w3,hw3⟩:∃ x:World,x=w2.drew:=⟨_,rfl⟩
 rw [← hw3]
 have R3:=zhz (show Blk w3 b _ (decC (bs.set n c) n rules 0) from by rw [hw3];exact r2)
 have F3:=zhz (show Fr (fun k=>k=b) w1 w3 from by rw [hw3];exact f2.drew)
 have k75:w3.cell? ⟨b,75,none⟩=some (.int .i64 (n:Int)):=by rw [zag R3.out];exact (zaQ _ _ _ _ hlb).1
 have p3':=R3.out.wr
 clear kk k1' k4 p3 e2 r2 f2 s2 hw3 hlb
 obtain ⟨N1,hN1⟩:∃ k:Nat,k=n+1:=⟨_,rfl⟩
 have eN1:(n:Int)+1=(N1:Int):=by omega
 have HN1E:=zhz hN1
 rw [← hN1] at HN1
 have hN1b:N1≤75:=by omega
 clear hN1
 go_upto_region 5 with (fail)
 obtain ⟨w4,e4,r4,f4,s4⟩:=G.box_set R3.out 75 (.int .i64 (N1:Int)) (decC (bs.set n c) N1 rules 0) (zkU _ _ _ _ _ HLB2.out)
 rw [e4]
 have R4:=zhz r4
 have F4:=zhz (F3.out.trans f4)
 have c75:w4.cell? ⟨b,75,none⟩=some (.int .i64 (N1:Int)):=by rw [zag r4];exact (zaQ _ _ _ _ HLB2.out).1
 have c76:w4.cell? ⟨b,76,none⟩=some (.int .i64 rules):=by rw [zag r4];exact (zaQ _ _ _ _ HLB2.out).2.1
 have RD:=zhz (zmF r4 HLB2.out hN1b HN1.out HN2.out)
 have CP:=zhz (fun W (hW:Below w4.heap.size w4 W)=>ziQ (some ⟨b,0,none⟩) N1 N1 (z++[c]) rules q m e W (RD.out.below hW) HP.out)
 have t5:(0:Int)≤(N1:Int):=by omega
 have t6:(N1:Int)≤75:=by omega
 have t7:N1≤75:=by omega
 clear e4 r4 f4 s4 k75 p3'
 have hb4:=lt_of_block R4.out
 go_cut [7,8,9] from 36 (fun s7 s8 s9 wx=>∃ b7:Nat,s7=.pointer (some ⟨b7,0,none⟩)∧s8=.int .i64 m∧s9=.int .i64 e∧w4.heap.size≤b7∧Blk wx b7 76 (reqC q.op q.rule q.cost (strOfNums q.key) q.k)∧Below w4.heap.size w4 wx)
 case first =>
  refine wp_region_held_drew (S:=fun w'=>w'.cell? ⟨b,75,none⟩=some (.int .i64 (N1:Int))∧w'.cell? ⟨b,76,none⟩=some (.int .i64 rules)) (by kernel_rfl) ⟨c75,c76⟩ (fun hHeld=>?_)
  have SS:=zhz (fun W (h:Below w4.heap.size w4 W)=>show W.cell? ⟨b,75,none⟩=some (.int .i64 (N1:Int))∧W.cell? ⟨b,76,none⟩=some (.int .i64 rules) from ⟨(zag (R4.out.keep h)).trans (zaQ _ _ _ _ HLB2.out).1,(zag (R4.out.keep h)).trans (zaQ _ _ _ _ HLB2.out).2.1⟩)
  have BD:=zhz (show Below w4.heap.size w4 w4.drew from zaa (Below.refl _ _) 1)
  clear c75 c76
  refine wR 0 ?_
  refine wR 1 ?_
  refine wR 2 ?_
  refine wR 3 ?_
  refine wR 4 ?_
  refine wR 5 ?_
  refine wR 6 ?_
  refine wR 7 ?_
  refine wR 8 ?_
  refine wR 9 ?_
  refine wR 10 ?_
  refine wR 11 ?_
  refine wR 12 ?_
  refine wR 13 ?_
  refine wR 14 ?_
  refine wR 15 ?_
  refine wpAnyH_ready (rs:=[16,21]) (by kernel_rfl) (by simp) ?_
  refine AllReadyH.cons (o:=?_) ?_ ?_ ?_
  rotate_left 1
  ·simp only [List.getElem?_toArray,List.getElem?_cons_succ,List.getElem?_cons_zero];rfl
  ·skip
   intro K hK
   go_simp
   ((with_reducible refine (CP.out _ BD.out).mono ?_);rintro e' w5 ⟨rfl,b5⟩;have B5:=zhz (G.below_on BD.out b5);clear b5)
   refine hK.out _ _ (SS.out _ B5.out) (fun hHeld=>?_)
   clear hK K
   try simp only [Act.put,zs1,zs2,zs3]
   refine wR 17 ?_
   refine wR 18 ?_
   refine wR 19 ?_
   refine wR 20 ?_
   refine wC 21 fun K hK=>?_
   go_simp
   skip
   refine hK.out _ _ (SS.out _ (B5.out.alloc B5.out.size _)) fun hHeld=>?_
   clear hK K
   try simp only [Act.put,zs1,zs2,zs3]
   refine wC 22 fun K hK=>?_
   go_simp
   skip
   refine hK.out _ _ (SS.out _ (B5.out.alloc B5.out.size _)) fun hHeld=>?_
   clear hK K
   try simp only [Act.put,zs1,zs2,zs3]
   refine wR 23 ?_
   refine wR 24 ?_
   refine wpAnyH_done (by kernel_rfl) ?_ _
   clear hHeld
   go_wp2
   go_meet
   case rel=>exact ⟨w5.heap.size,rfl,rfl,rfl,B5.out.size,heap_alloc_new w5 _,B5.out.alloc B5.out.size _⟩
  ·skip
   have BA:=zhz (show Below w4.heap.size w4 ((w4.alloc (.cells (reqC 0 0 0 ⟨#[]⟩ 0) 76)).drew) from zaa ((Below.refl _ _).alloc (Nat.le_refl _) _) 1)
   have Z4:=zhz (Blk.drew (heap_alloc_new w4 (.cells (reqC 0 0 0 ⟨#[]⟩ 0) 76)))
   refine AllReadyH.cons (o:=?_) ?_ ?_ ?_
   rotate_left 1
   ·simp only [List.getElem?_toArray,List.getElem?_cons_succ,List.getElem?_cons_zero];rfl
   rotate_left 1
   ·exact AllReadyH.nil
   intro K hK
   go_simp
   skip
   refine hK.out _ _ (SS.out _ BA.out) (fun hHeld=>?_)
   clear hK K
   try simp only [Act.put,zs1,zs2,zs3]
   refine wC 16 fun K hK=>?_
   go_simp
   ((with_reducible refine (CP.out _ BA.out).mono ?_);rintro e' w5 ⟨rfl,b5⟩;have B5:=zhz (G.below_on BA.out b5);have Z5:=zhz (Z4.out.keep b5);clear b5)
   refine hK.out _ _ (SS.out _ B5.out) fun hHeld=>?_
   clear hK K
   try simp only [Act.put,zs1,zs2,zs3]
   have zr:=Z5.out.rd
   have zw:=Z5.out.wr
   refine wR 17 ?_
   refine wR 18 ?_
   refine wR 19 ?_
   refine wR 20 ?_
   refine wC 22 fun K hK=>?_
   go_simp
   skip
   refine hK.out _ _ (by rw [zaw Z5.out];exact SS.out _ (B5.out.trans ((Fr.setObj (F:=fun k=>k=w4.heap.size) (Fr.refl _ _) rfl _).below B5.out.size (fun k hk=>by omega)))) fun hHeld=>?_
   clear hK K
   try simp only [Act.put,zs1,zs2,zs3]
   refine wR 23 ?_
   refine wR 24 ?_
   refine wpAnyH_done (by kernel_rfl) ?_ _
   clear hHeld zr zw
   go_wp2
   go_meet
   case rel =>
    rw [zaw Z5.out]
    exact ⟨w4.heap.size,rfl,rfl,rfl,Nat.le_refl _,zab (lt_of_block Z5.out) _,B5.out.trans ((Fr.setObj (F:=fun k=>k=w4.heap.size) (Fr.refl _ _) rfl _).below B5.out.size (fun k hk=>by omega))⟩
 case rest =>
  obtain ⟨b7,rfl,rfl,rfl,hb7,hq7,hbw⟩:=hcut
  obtain ⟨w6,hw6⟩:∃ w6:World,w6=wc:=⟨_,rfl⟩
  rw [← hw6] at hq7 hbw ⊢
  have Q7:=zhz hq7
  have R6:=zhz (R4.out.keep hbw)
  have BK6:=zhz ((BK.out.fr F4.out (fun h=>by have:=HB0.out;have:=HBL.out;omega)).keep hbw)
  have hbl:=HBL.out
  have hb0e:=HB0.out
  have hbw4:=hbw.size
  have h04:=BL.out.size
  have h14:=F4.out.size
  have hb0l:=lt_of_block BK.out
  have NB:=zhz (show b7≠b∧b7≠b0∧b0≠b from by omega)
  have FW:=zhz (show Fr (fun k=>k=b) w w6 from (Fr.of_below BL.out).trans (F4.out.trans (Fr.of_below hbw)))
  have k7:=hq7.rd
  have p6:=R6.out.wr
  have p0:=BK6.out.wr
  clear hw6 hq7 hbw hb7 hbl hb0e hbw4 h04 h14 hb0l c75 c76
  by_cases hx:e≠0∨0<m
  ·have hnil:=HP.out
   have HNX:=zhz (show nextZ rules z c=[] from by unfold nextZ;rw [hnil];exact if_pos hx)
   clear hnil
   have r75:w6.cell? ⟨b,75,none⟩=some (.int .i64 (N1:Int)):=by rw [zag R6.out];exact (zaQ _ _ _ _ HLB2.out).1
   have r77:w6.cell? ⟨b,77,none⟩=some (.int .i64 0):=by rw [zag R6.out];exact (zaQ _ _ _ _ HLB2.out).2.2.1
   rcases (show (e != 0)=true∨((e != 0)=false∧decide (0<m)=true) from by
    by_cases h:e=0
    ·right;refine ⟨by simp [h],?_⟩;rw [decide_eq_true_eq];rcases hx with g | g;exact absurd h g;exact g
    ·left;simp [h]) with g1 | ⟨g1,g2⟩
   all_goals
     have hund:undef=Value.tuple #[]:=rfl
     go_upto_region 8 with (fail)
     obtain ⟨w8,e8,r8,f8,s8⟩:=G.box_set R6.out 75 (.int .i64 ((0:Nat):Int)) (decC (bs.set n c) 0 rules 0) (zkU _ _ _ _ _ HLB2.out)
     obtain ⟨w9,e9,r9,f9,s9⟩:=G.box_set r8 77 (.int .i64 e) (decC (bs.set n c) 0 rules e) (zjJ _ _ _ _ _ HLB2.out)
     have e8':w6.setCell ⟨b,75,none⟩ (.int .i64 0)=w8:=e8
     rw [e8',e9]
     have R9:=zhz r9
     have F9:=zhz (f8.trans f9)
     have Q9:=zhz ((Q7.out.fr f8 NB.out.1).fr f9 NB.out.1)
     have K9:=zhz ((BK6.out.fr f8 NB.out.2.2).fr f9 NB.out.2.2)
     have k9:=Q9.out.rd
     have k0:=K9.out.rd
     have p9:=K9.out.wr
     clear e8 r8 f8 s8 e9 r9 f9 s9 e8' r75 r77 k7 p6 p0
     go_wp2
     rw [zaw K9.out]
     refine bodyPost_ret (zar rfl _ _ b0 _ _ (0,0) _ rfl (zab (lt_of_block K9.out) _) Tryz.underlying76 rfl (by kernel_rfl)) rfl ⟨?_,?_,?_⟩
     ·first | rfl | (rw [g2];rfl)
     ·rw [HNX.out]
      exact ⟨bs.set n c,⟨HLB2.out,HN2.out,rfl,zbM rules⟩,R9.out.fr (Fr.setObj (F:=fun k=>k=b0) (Fr.refl _ _) rfl _) (fun h=>NB.out.2.2 h.symm)⟩
     ·have hb0e:=HB0.out
      exact Fr.drop_new (Fr.setObj (F:=fun k=>k=b∨k=b0) ((FW.out.trans F9.out).mono (fun k h=>Or.inl h)) (Or.inr rfl) _) (by omega)
  ·have g1:(e != 0)=false:=by
    by_cases h:e=0
    ·simp [h]
    ·exact absurd (Or.inl h) hx
   have g2:decide (0<m)=false:=by rw [zdn];exact fun h=>hx (Or.inr h)
   have HNX:=zhz (show nextZ rules z c=z++[c] from by unfold nextZ;rw [HP.out];exact if_neg hx)
   have k0:=BK6.out.rd
   have he0:e=0:=by simpa using g1
   have HE0:=zhz he0
   clear hx p6 he0
   go_wp2
   rw [zaw BK6.out]
   refine bodyPost_ret (zar rfl _ _ b0 _ _ (0,0) _ rfl (zab (lt_of_block BK6.out) _) Tryz.underlying76 rfl (by kernel_rfl)) rfl ⟨?_,?_,?_⟩
   ·first | rfl | (rw [g2];rfl)
   ·have hnc:=hnc.out
    have hl:(z++[c]).length=N1:=by have:=HN1E.out;have:=HN.out;simp;omega
    rw [HNX.out] at hnc ⊢
    rw [HE0.out]
    refine ⟨bs.set n c,⟨HLB2.out,HN2.out,by rw [hl];exact HN1.out,hnc⟩,?_⟩
    rw [hl]
    exact R6.out.fr (Fr.setObj (F:=fun k=>k=b0) (Fr.refl _ _) rfl _) (fun h=>NB.out.2.2 h.symm)
   ·have hb0e:=HB0.out
    exact Fr.drop_new (Fr.setObj (F:=fun k=>k=b∨k=b0) (FW.out.mono (fun k h=>Or.inl h)) (Or.inr rfl) _) (by omega)
end Go.Proofs.YtannniobeanhlaaGreat
