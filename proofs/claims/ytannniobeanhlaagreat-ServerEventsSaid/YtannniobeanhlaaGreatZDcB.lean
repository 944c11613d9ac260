import Derived.Test.YtannniobeanhlaaGreatDcA
import Derived.Deep.WholeRow
import Derived.Test.YtannniobeanhlaaGreatZBo
import Derived.Test.YtannniobeanhlaaGreatSvA
set_option linter.unusedSimpArgs false
set_option linter.unusedVariables false
set_option maxRecDepth 100000
set_option maxHeartbeats 9000000
namespace Go.Proofs.YtannniobeanhlaaGreat
open Go.ChangeShapes Go.WideShapes Go.ChangeAt Go.RowKit
def zero75:List Int:=List.replicate 75 0
theorem zgO (w:World):(zeroValue 130).run Tryz.prog w=.ok (.agg (decC zero75 0 0 0)) w:=by kernel_rfl
theorem zaD (bs:List Int) (n:Nat) (rules err:Int) (h:bs.length=75):(decC bs n rules err).size=78:=by unfold decC;simp [h]
theorem zam:zero75.length=75:=rfl
theorem zgS (bs:List Int) (n:Nat) (rules r err:Int) (h:bs.length=75):(decC bs n rules err).setIfInBounds 76 (.int .i64 r)=decC bs n r err:=by
 unfold decC
 have hl:(bs.map (Value.int .u8)).length=75:=by rw [List.length_map,h]
 rw [zs1,List.set_append_right _ _ (by omega),hl];rfl
theorem zf3 (bs:List Int) (n:Nat) (rules err:Int):(decC bs n rules err).all (·.oneCell')=true:=by
 unfold decC
 rw [List.all_toArray,List.all_append,Bool.and_eq_true]
 refine ⟨?_,rfl⟩
 rw [List.all_eq_true]
 intro x hx
 obtain ⟨z,_,rfl⟩:=List.mem_map.1 hx
 rfl
theorem infoDec:(Tryz.prog.info? 130).map (·.size)=some 78:=by kernel_rfl
theorem zeK (w:World) (bs bs':List Int) (n n':Nat) (r r' e e':Int) (h:bs.length=75) (h':bs'.length=75) :
  (storeCells ⟨w.heap.size,0,none⟩ (decC bs' n' r' e').toList 0).run Tryz.prog (w.alloc (.cells (decC bs n r e) 130))=.ok () (w.alloc (.cells (decC bs' n' r' e') 130)) :=
 run_storeCells_new w _ _ _ (by rw [zaD _ _ _ _ h'];exact infoDec) (by rw [zaD _ _ _ _ h,zaD _ _ _ _ h']) (zf3 _ _ _ _)
theorem zgj (rules:Int) (w:World):Calls Tryz.prog 64 #[.int .i64 rules] w fun e w'=>e=.returned (.agg (decC zero75 0 rules 0))∧Below w.heap.size w w':=by
 have hz:=zgO
 have hs1:=zaD zero75 0 0 0 zam
 have hs2:=zaD zero75 0 rules 0 zam
 have hr1:=zgS zero75 0 0 rules 0 zam
 have hr2:(decC zero75 0 0 0).toList.set 76 (.int .i64 rules)=(decC zero75 0 rules 0).toList:=by rw [← hr1];simp
 have hst:=zeK w zero75 zero75 0 0 0 rules 0 0 zam zam
 go_enter Tryz.func64,Tryz.ntmps64
 go_wp2
 refine bodyPost_ret (results_cell_row rfl _ _ w.heap.size _ _ (0,0) _ rfl (heap_alloc_new w _) Tryz.underlying130 rfl (by rw [hs2];exact infoDec)) rfl ⟨rfl,(Below.refl _ _).alloc (Nat.le_refl _) _⟩
def decX (bs:List Int) (n:Nat) (rules err:Int) (tl:List Value):Array Value:=(bs.map (Value.int .u8)++([Value.int .i64 (n:Int),Value.int .i64 rules,Value.int .i64 err]++tl)).toArray
theorem zdE (bs:List Int) (n:Nat) (rules err:Int) (tl:List Value):decX bs n rules err tl=((decC bs n rules err).toList++tl).toArray:=by unfold decX decC;simp
theorem zaJ (bs:List Int) (n:Nat) (rules err:Int) (tl:List Value) (h:bs.length=75):(decX bs n rules err tl)[75]?=some (.int .i64 (n:Int))∧(decX bs n rules err tl)[76]?=some (.int .i64 rules)∧(decX bs n rules err tl)[77]?=some (.int .i64 err)∧∀ i,i<75→(decX bs n rules err tl)[i]?=some (.int .u8 (bs.getD i 0)):=by
 unfold decX
 have hl:(bs.map (Value.int .u8)).length=75:=by rw [List.length_map,h]
 refine ⟨?_,?_,?_,fun i hi=>?_⟩
 ·rw [List.getElem?_toArray,List.getElem?_append_right (by omega),hl];rfl
 ·rw [List.getElem?_toArray,List.getElem?_append_right (by omega),hl];rfl
 ·rw [List.getElem?_toArray,List.getElem?_append_right (by omega),hl];rfl
 ·rw [List.getElem?_toArray,List.getElem?_append_left (by omega),List.getElem?_map]
  simp [List.getD,show i<bs.length by omega]
theorem zlt (bs:List Int) (n:Nat) (rules err:Int) (tl:List Value) (h:bs.length=75) (i:Nat):(decX bs n rules err tl)[78+i]?=tl[i]?:=by
 unfold decX
 have hl:(bs.map (Value.int .u8)).length=75:=by rw [List.length_map,h]
 rw [List.getElem?_toArray,List.getElem?_append_right (by omega),hl,show 78+i - 75=i+3 by omega,List.getElem?_append_right (by simp)]
 rfl
theorem zh3 (bs:List Int) (n:Nat) (rules err:Int) (tl:List Value) (x:Int) (i:Nat) (h:bs.length=75) (hi:i<75):(decX bs n rules err tl).setIfInBounds i (.int .u8 x)=decX (bs.set i x) n rules err tl:=by
 unfold decX
 rw [zs1,List.set_append_left _ _ (by rw [List.length_map];omega),List.map_set]
theorem zkV (bs:List Int) (n m:Nat) (rules err:Int) (tl:List Value) (h:bs.length=75):(decX bs n rules err tl).setIfInBounds 75 (.int .i64 (m:Int))=decX bs m rules err tl:=by
 unfold decX
 have hl:(bs.map (Value.int .u8)).length=75:=by rw [List.length_map,h]
 rw [zs1,List.set_append_right _ _ (by omega),hl];rfl
theorem zjK (bs:List Int) (n:Nat) (rules err e:Int) (tl:List Value) (h:bs.length=75):(decX bs n rules err tl).setIfInBounds 77 (.int .i64 e)=decX bs n rules e tl:=by
 unfold decX
 have hl:(bs.map (Value.int .u8)).length=75:=by rw [List.length_map,h]
 rw [zs1,List.set_append_right _ _ (by omega),hl];rfl
theorem zdF (bs:List Int) (n:Nat) (rules err:Int) (tl:List Value) (i:Nat) (v:Value) (h:bs.length=75):(decX bs n rules err tl).setIfInBounds (78+i) v=decX bs n rules err (tl.set i v):=by
 unfold decX
 have hl:(bs.map (Value.int .u8)).length=75:=by rw [List.length_map,h]
 rw [zs1,List.set_append_right _ _ (by omega),hl,show 78+i - 75=i+3 by omega];rfl
def DecX (T:TypeId) (tl:List Value) (w:World) (b:Nat) (z:List Int) (rules err:Int):Prop:=∃ bs,DecIn bs z rules∧Blk w b T (decX bs z.length rules err tl)
section
variable {w w':World} {T:TypeId} {tl:List Value} {b:Nat} {z:List Int} {rules err:Int}
theorem DecX.keep (h:DecX T tl w b z rules err) (hb:Below w.heap.size w w'):DecX T tl w' b z rules err:=by
 obtain ⟨bs,h1,h2⟩:=h
 exact ⟨bs,h1,h2.keep hb⟩
theorem DecX.fr {F:Nat→Prop} (h:DecX T tl w b z rules err) (hf:Fr F w w') (hF:¬ F b):DecX T tl w' b z rules err:=by
 obtain ⟨bs,h1,h2⟩:=h
 exact ⟨bs,h1,h2.fr hf hF⟩
theorem DecX.lt (h:DecX T tl w b z rules err):b<w.heap.size:=by
 obtain ⟨bs,h1,h2⟩:=h
 exact lt_of_block h2
theorem DecX.cell (h:DecX T tl w b z rules err) (i:Nat):w.cell? ⟨b,78+i,none⟩=tl[i]?:=by
 obtain ⟨bs,h1,h2⟩:=h
 rw [zag h2];exact zlt _ _ _ _ _ h1.len i
theorem DecX.free (h:DecX T tl w b z rules err) (i:Nat):w.frozen? ⟨b,i,none⟩=false:=by
 obtain ⟨bs,h1,h2⟩:=h
 exact h2.wr i
theorem DecX.set (h:DecX T tl w b z rules err) (i:Nat) (v:Value):∃ w',w.setCell ⟨b,78+i,none⟩ v=w'∧DecX T (tl.set i v) w' b z rules err∧Fr (fun k=>k=b) w w'∧w'.heap.size=w.heap.size:=by
 obtain ⟨bs,h1,h2⟩:=h
 obtain ⟨w2,e,r,f,s⟩:=G.box_set h2 (78+i) v _ (zdF _ _ _ _ _ _ _ h1.len)
 exact ⟨w2,e,⟨bs,h1,r⟩,f,s⟩
theorem DecX.copy (h:DecX T tl w b z rules err):∃ bs,bs.length=75∧Blk w b T (decX bs z.length rules err tl)∧∀ w' b',Blk w' b' 130 (decC bs z.length rules err)→DecAt w' b' z rules err:=by
 obtain ⟨bs,h1,h2⟩:=h
 exact ⟨bs,h1.len,h2,fun w' b' h'=>⟨bs,h1,h'⟩⟩
end
theorem zl3 {T:TypeId} {tl:List Value} {w:World} {b m k:Nat} {bs zs:List Int} {rules e:Int} (h:Blk w b T (decX bs m rules e tl)) (hl:bs.length=75) (hk:k≤75) (ht:bs.take k=zs) (hb:byt bs):RdI w .u8 (some ⟨b,0,none⟩) k k zs:=by
 subst ht
 refine ⟨by rw [List.length_take];omega,Nat.le_refl _,by unfold maxLen;omega,fun h0=>⟨b,0,rfl,lt_of_block h,fun i hi=>?_⟩,fun z hz=>zbK (hb z (List.mem_of_mem_take hz))⟩
 rw [Nat.zero_add,zag h,(zaJ _ _ _ _ _ hl).2.2.2 i (by omega),zec hi]
theorem errx (T:TypeId) (tl:List Value) (b:Nat) (z:List Int) (rules err:Int) (w:World) (h:DecX T tl w b z rules err):Calls Tryz.prog 126 #[.pointer (some ⟨b,0,none⟩)] w fun e w'=>e=.returned (.int .i64 err)∧w=w':=by
 obtain ⟨bs,h1,h2⟩:=h
 have k:w.cell? ⟨b,77,none⟩=some (.int .i64 err):=by rw [zag h2];exact (zaJ _ _ _ _ _ h1.len).2.2.1
 clear h1 h2
 go_enter Tryz.func126,Tryz.ntmps126
 go_wp2
 go_ret
 exact ⟨rfl,rfl⟩
theorem zjN (T:TypeId) (tl:List Value) (b:Nat) (z:List Int) (rules c:Int) (w:World) (h:DecX T tl w b z rules 0) (hc:0≤c∧c≤255) (q:Req) (m e:Int) (hp:parseZ (z++[c]) rules=(q,m,e)) :
  Calls Tryz.prog 129 #[.pointer (some ⟨b,0,none⟩),.int .u8 c] w fun e' w'=>e'=.returned (.tuple #[reqV q.op q.rule q.cost (strOfNums q.key) q.k,.bool (decide (0<m)),.int .i64 e])∧DecX T tl w' b (nextZ rules z c) rules e∧Fr (fun k=>k=b) w w':=by
 have hnc:=zhz (show cleanZ (nextZ rules z c) rules (nextZ rules z c).length from by obtain ⟨bs,h1,_⟩:=h;exact zdb h1.clean c)
 obtain ⟨bs,h1,h2⟩:=h
 have hs:=h1.short
 have hl:=h1.len
 obtain ⟨hn1,hn2⟩:=h1.next hc
 have H1:=zhz h1
 have H2:=zhz h2
 have HN1:=zhz hn1
 have HN2:=zhz hn2
 have HP:=zhz hp
 have HBL:=zhz (lt_of_block h2)
 have HLB:=zhz hl
 obtain ⟨n,hn⟩:=zeq (z.length)
 rw [← hn] at hs H2 HN1 HN2
 have HN:=zhz hn
 obtain ⟨d1,d2,d3,d4⟩:=zaJ bs n rules 0 tl hl
 have H2':=H2.out
 have k1:w.cell? ⟨b,75,none⟩=some (.int .i64 (n:Int)):=by rw [zag H2'];exact d1
 have k3:w.cell? ⟨b,77,none⟩=some (.int .i64 0):=by rw [zag H2'];exact d3
 clear h1 h2 hn1 hn2 hp hl hn d1 d2 d3 H2'
 go_enter Tryz.func129,Tryz.ntmps129
 go_upto_region 1 with (fail)
 obtain ⟨w1,hw1,hbk,hbl,hsz1⟩:=zad w (reqC 0 0 0 ⟨#[]⟩ 0) 76
 change Code.wp _ _ _ _ (w.alloc (.cells (reqC 0 0 0 ⟨#[]⟩ 0) 76))
 rw [hw1]
 obtain ⟨b0,hb0⟩:=zeq (w.heap.size)
 rw [← hb0] at hbk ⊢
 have HB0:=zhz hb0
 have BK:=zhz hbk
 have BL:=zhz hbl
 have H3:=zhz (H2.out.keep hbl)
 have k1':w1.cell? ⟨b,75,none⟩=some (.int .i64 (n:Int)):=by rw [zag H3.out];exact (zaJ _ _ _ _ _ HLB.out).1
 have k3':w1.cell? ⟨b,77,none⟩=some (.int .i64 0):=by rw [zag H3.out];exact (zaJ _ _ _ _ _ HLB.out).2.2.1
 have k4:w1.cell? ⟨b,n,none⟩=some (.int .u8 (bs.getD n 0)):=by rw [zag H3.out];exact (zaJ _ _ _ _ _ HLB.out).2.2.2 n (by omega)
 have p3:=H3.out.wr
 have t1:(0:Int)≤(n:Int):=by omega
 have t2:(n:Int)<75:=by omega
 have t3:¬ n=75:=by omega
 have t4:¬ 75=n:=by omega
 clear k1 k3 d4 hbk hbl hsz1 hw1 hb0
 go_upto_region 3 with (fail)
 clear k3'
 have kk:(w1.setCell ⟨b,n,none⟩ (.int .u8 c)).drew.cell? ⟨b,75,none⟩=some (.int .i64 (n:Int)):=(World.cell?_setCell_other w1 _ _ _ (fun e=>by injection e with e1 e2;omega)).trans k1'
 go_region_held3 (fun w'=>w'.cell? ⟨b,75,none⟩=some (.int .i64 (n:Int))) (first | exact kk | go_keep) (fail)
 obtain ⟨w2,e2,r2,f2,s2⟩:=G.box_set H3.out n (.int .u8 c) (decX (bs.set n c) n rules 0 tl) (zh3 _ _ _ _ _ _ _ HLB.out (by omega))
 change Exit.then _ _ _ _ ((w1.setCell ⟨b,n,none⟩ (.int .u8 c)).drew)
 rw [e2]
 have hlb:(bs.set n c).length=75:=by rw [List.length_set];exact HLB.out
 have HLB2:=zhz hlb
 obtain ⟨w3,hw3⟩:∃ x:World,x=w2.drew:=⟨_,rfl⟩
 rw [← hw3]
 have R3:=zhz (show Blk w3 b _ (decX (bs.set n c) n rules 0 tl) from by rw [hw3];exact r2)
 have F3:=zhz (show Fr (fun k=>k=b) w1 w3 from by rw [hw3];exact f2.drew)
 have k75:w3.cell? ⟨b,75,none⟩=some (.int .i64 (n:Int)):=by rw [zag R3.out];exact (zaJ _ _ _ _ _ hlb).1
 have p3':=R3.out.wr
 clear kk k1' k4 p3 e2 r2 f2 s2 hw3 hlb
 obtain ⟨N1,hN1⟩:∃ k:Nat,k=n+1:=⟨_,rfl⟩
 have eN1:(n:Int)+1=(N1:Int):=by omega
 have HN1E:=zhz hN1
 rw [← hN1] at HN1
 have hN1b:N1≤75:=by omega
 clear hN1
 go_upto_region 5 with (fail)
 obtain ⟨w4,e4,r4,f4,s4⟩:=G.box_set R3.out 75 (.int .i64 (N1:Int)) (decX (bs.set n c) N1 rules 0 tl) (zkV _ _ _ _ _ _ HLB2.out)
 rw [e4]
 have R4:=zhz r4
 have F4:=zhz (F3.out.trans f4)
 have c75:w4.cell? ⟨b,75,none⟩=some (.int .i64 (N1:Int)):=by rw [zag r4];exact (zaJ _ _ _ _ _ HLB2.out).1
 have c76:w4.cell? ⟨b,76,none⟩=some (.int .i64 rules):=by rw [zag r4];exact (zaJ _ _ _ _ _ HLB2.out).2.1
 have RD:=zhz (zl3 r4 HLB2.out hN1b HN1.out HN2.out)
 have CP:=zhz (fun W (hW:Below w4.heap.size w4 W)=>ziQ (some ⟨b,0,none⟩) N1 N1 (z++[c]) rules q m e W (RD.out.below hW) HP.out)
 have t5:(0:Int)≤(N1:Int):=by omega
 have t6:(N1:Int)≤75:=by omega
 have t7:N1≤75:=by omega
 clear e4 r4 f4 s4 k75 p3'
 have hb4:=lt_of_block R4.out
 go_cut [7,8,9] from 36 (fun s7 s8 s9 wx=>∃ b7:Nat,s7=.pointer (some ⟨b7,0,none⟩)∧s8=.int .i64 m∧s9=.int .i64 e∧w4.heap.size≤b7∧Blk wx b7 76 (reqC q.op q.rule q.cost (strOfNums q.key) q.k)∧Below w4.heap.size w4 wx)
 case first =>
  refine wp_region_held_drew (S:=fun w'=>w'.cell? ⟨b,75,none⟩=some (.int .i64 (N1:Int))∧w'.cell? ⟨b,76,none⟩=some (.int .i64 rules)) (by kernel_rfl) ⟨c75,c76⟩ (fun hHeld=>?_)
  have SS:=zhz (fun W (h:Below w4.heap.size w4 W)=>show W.cell? ⟨b,75,none⟩=some (.int .i64 (N1:Int))∧W.cell? ⟨b,76,none⟩=some (.int .i64 rules) from ⟨(zag (R4.out.keep h)).trans (zaJ _ _ _ _ _ HLB2.out).1,(zag (R4.out.keep h)).trans (zaJ _ _ _ _ _ HLB2.out).2.1⟩)
  have BD:=zhz (show Below w4.heap.size w4 w4.drew from zaa (Below.refl _ _) 1)
  clear c75 c76
  refine wR 0 ?_
  refine wR 1 ?_
  refine wR 2 ?_
  refine wR 3 ?_
  refine wR 4 ?_
  refine wR 5 ?_
  refine wR 6 ?_
  refine wR 7 ?_
  refine wR 8 ?_
  refine wR 9 ?_
  refine wR 10 ?_
  refine wR 11 ?_
  refine wR 12 ?_
  refine wR 13 ?_
  refine wR 14 ?_
  refine wR 15 ?_
  refine wpAnyH_ready (rs:=[16,21]) (by kernel_rfl) (by simp) ?_
  refine AllReadyH.cons (o:=?_) ?_ ?_ ?_
  rotate_left 1
  ·simp only [List.getElem?_toArray,List.getElem?_cons_succ,List.getElem?_cons_zero];rfl
  ·skip
   intro K hK
   go_simp
   ((with_reducible refine (CP.out _ BD.out).mono ?_);rintro e' w5 ⟨rfl,b5⟩;have B5:=zhz (G.below_on BD.out b5);clear b5)
   refine hK.out _ _ (SS.out _ B5.out) (fun hHeld=>?_)
   clear hK K
   try simp only [Act.put,zs1,zs2,zs3]
   refine wR 17 ?_
   refine wR 18 ?_
   refine wR 19 ?_
   refine wR 20 ?_
   refine wC 21 fun K hK=>?_
   go_simp
   skip
   refine hK.out _ _ (SS.out _ (B5.out.alloc B5.out.size _)) fun hHeld=>?_
   clear hK K
   try simp only [Act.put,zs1,zs2,zs3]
   refine wC 22 fun K hK=>?_
   go_simp
   skip
   refine hK.out _ _ (SS.out _ (B5.out.alloc B5.out.size _)) fun hHeld=>?_
   clear hK K
   try simp only [Act.put,zs1,zs2,zs3]
   refine wR 23 ?_
   refine wR 24 ?_
   refine wpAnyH_done (by kernel_rfl) ?_ _
   clear hHeld
   go_wp2
   go_meet
   case rel=>exact ⟨w5.heap.size,rfl,rfl,rfl,B5.out.size,heap_alloc_new w5 _,B5.out.alloc B5.out.size _⟩
  ·skip
   have BA:=zhz (show Below w4.heap.size w4 ((w4.alloc (.cells (reqC 0 0 0 ⟨#[]⟩ 0) 76)).drew) from zaa ((Below.refl _ _).alloc (Nat.le_refl _) _) 1)
   have Z4:=zhz (Blk.drew (heap_alloc_new w4 (.cells (reqC 0 0 0 ⟨#[]⟩ 0) 76)))
   refine AllReadyH.cons (o:=?_) ?_ ?_ ?_
   rotate_left 1
   ·simp only [List.getElem?_toArray,List.getElem?_cons_succ,List.getElem?_cons_zero];rfl
   rotate_left 1
   ·exact AllReadyH.nil
   intro K hK
   go_simp
   skip
   refine hK.out _ _ (SS.out _ BA.out) (fun hHeld=>?_)
   clear hK K
   try simp only [Act.put,zs1,zs2,zs3]
   refine wC 16 fun K hK=>?_
   go_simp
   ((with_reducible refine (CP.out _ BA.out).mono ?_);rintro e' w5 ⟨rfl,b5⟩;have B5:=zhz (G.below_on BA.out b5);have Z5:=zhz (Z4.out.keep b5);clear b5)
   refine hK.out _ _ (SS.out _ B5.out) fun hHeld=>?_
   clear hK K
   try simp only [Act.put,zs1,zs2,zs3]
   have zr:=Z5.out.rd
   have zw:=Z5.out.wr
   refine wR 17 ?_
   refine wR 18 ?_
   refine wR 19 ?_
   refine wR 20 ?_
   refine wC 22 fun K hK=>?_
   go_simp
   skip
   refine hK.out _ _ (by rw [zaw Z5.out];exact SS.out _ (B5.out.trans ((Fr.setObj (F:=fun k=>k=w4.heap.size) (Fr.refl _ _) rfl _).below B5.out.size (fun k hk=>by omega)))) fun hHeld=>?_
   clear hK K
   try simp only [Act.put,zs1,zs2,zs3]
   refine wR 23 ?_
   refine wR 24 ?_
   refine wpAnyH_done (by kernel_rfl) ?_ _
   clear hHeld zr zw
   go_wp2
   go_meet
   case rel =>
    rw [zaw Z5.out]
    exact ⟨w4.heap.size,rfl,rfl,rfl,Nat.le_refl _,zab (lt_of_block Z5.out) _,B5.out.trans ((Fr.setObj (F:=fun k=>k=w4.heap.size) (Fr.refl _ _) rfl _).below B5.out.size (fun k hk=>by omega))⟩
 case rest =>
  obtain ⟨b7,rfl,rfl,rfl,hb7,hq7,hbw⟩:=hcut
  obtain ⟨w6,hw6⟩:∃ w6:World,w6=wc:=⟨_,rfl⟩
  rw [← hw6] at hq7 hbw ⊢
  have Q7:=zhz hq7
  have R6:=zhz (R4.out.keep hbw)
  have BK6:=zhz ((BK.out.fr F4.out (fun h=>by have:=HB0.out;have:=HBL.out;omega)).keep hbw)
  have hbl:=HBL.out
  have hb0e:=HB0.out
  have hbw4:=hbw.size
  have h04:=BL.out.size
  have h14:=F4.out.size
  have hb0l:=lt_of_block BK.out
  have NB:=zhz (show b7≠b∧b7≠b0∧b0≠b from by omega)
  have FW:=zhz (show Fr (fun k=>k=b) w w6 from (Fr.of_below BL.out).trans (F4.out.trans (Fr.of_below hbw)))
  have k7:=hq7.rd
  have p6:=R6.out.wr
  have p0:=BK6.out.wr
  clear hw6 hq7 hbw hb7 hbl hb0e hbw4 h04 h14 hb0l c75 c76
  by_cases hx:e≠0∨0<m
  ·have hnil:=HP.out
   have HNX:=zhz (show nextZ rules z c=[] from by unfold nextZ;rw [hnil];exact if_pos hx)
   clear hnil
   have r75:w6.cell? ⟨b,75,none⟩=some (.int .i64 (N1:Int)):=by rw [zag R6.out];exact (zaJ _ _ _ _ _ HLB2.out).1
   have r77:w6.cell? ⟨b,77,none⟩=some (.int .i64 0):=by rw [zag R6.out];exact (zaJ _ _ _ _ _ HLB2.out).2.2.1
   rcases (show (e != 0)=true∨((e != 0)=false∧decide (0<m)=true) from by
    by_cases h:e=0
    ·right;refine ⟨by simp [h],?_⟩;rw [decide_eq_true_eq];rcases hx with g | g;exact absurd h g;exact g
    ·left;simp [h]) with g1 | ⟨g1,g2⟩
   all_goals
     have hund:undef=Value.tuple #[]:=rfl
     go_upto_region 8 with (fail)
     obtain ⟨w8,e8,r8,f8,s8⟩:=G.box_set R6.out 75 (.int .i64 ((0:Nat):Int)) (decX (bs.set n c) 0 rules 0 tl) (zkV _ _ _ _ _ _ HLB2.out)
     obtain ⟨w9,e9,r9,f9,s9⟩:=G.box_set r8 77 (.int .i64 e) (decX (bs.set n c) 0 rules e tl) (zjK _ _ _ _ _ _ HLB2.out)
     have e8':w6.setCell ⟨b,75,none⟩ (.int .i64 0)=w8:=e8
     rw [e8',e9]
     have R9:=zhz r9
     have F9:=zhz (f8.trans f9)
     have Q9:=zhz ((Q7.out.fr f8 NB.out.1).fr f9 NB.out.1)
     have K9:=zhz ((BK6.out.fr f8 NB.out.2.2).fr f9 NB.out.2.2)
     have k9:=Q9.out.rd
     have k0:=K9.out.rd
     have p9:=K9.out.wr
     clear e8 r8 f8 s8 e9 r9 f9 s9 e8' r75 r77 k7 p6 p0
     go_wp2
     rw [zaw K9.out]
     refine bodyPost_ret (zar rfl _ _ b0 _ _ (0,0) _ rfl (zab (lt_of_block K9.out) _) Tryz.underlying76 rfl (by kernel_rfl)) rfl ⟨?_,?_,?_⟩
     ·first | rfl | (rw [g2];rfl)
     ·rw [HNX.out]
      exact ⟨bs.set n c,⟨HLB2.out,HN2.out,rfl,zbM rules⟩,R9.out.fr (Fr.setObj (F:=fun k=>k=b0) (Fr.refl _ _) rfl _) (fun h=>NB.out.2.2 h.symm)⟩
     ·have hb0e:=HB0.out
      exact Fr.drop_new (Fr.setObj (F:=fun k=>k=b∨k=b0) ((FW.out.trans F9.out).mono (fun k h=>Or.inl h)) (Or.inr rfl) _) (by omega)
  ·have g1:(e != 0)=false:=by
    by_cases h:e=0
    ·simp [h]
    ·exact absurd (Or.inl h) hx
   have g2:decide (0<m)=false:=by rw [zdn];exact fun h=>hx (Or.inr h)
   have HNX:=zhz (show nextZ rules z c=z++[c] from by unfold nextZ;rw [HP.out];exact if_neg hx)
   have k0:=BK6.out.rd
   have he0:e=0:=by simpa using g1
   have HE0:=zhz he0
   clear hx p6 he0
   go_wp2
   rw [zaw BK6.out]
   refine bodyPost_ret (zar rfl _ _ b0 _ _ (0,0) _ rfl (zab (lt_of_block BK6.out) _) Tryz.underlying76 rfl (by kernel_rfl)) rfl ⟨?_,?_,?_⟩
   ·first | rfl | (rw [g2];rfl)
   ·have hnc:=hnc.out
    have hl:(z++[c]).length=N1:=by have:=HN1E.out;have:=HN.out;simp;omega
    rw [HNX.out] at hnc ⊢
    rw [HE0.out]
    refine ⟨bs.set n c,⟨HLB2.out,HN2.out,by rw [hl];exact HN1.out,hnc⟩,?_⟩
    rw [hl]
    exact R6.out.fr (Fr.setObj (F:=fun k=>k=b0) (Fr.refl _ _) rfl _) (fun h=>NB.out.2.2 h.symm)
   ·have hb0e:=HB0.out
    exact Fr.drop_new (Fr.setObj (F:=fun k=>k=b∨k=b0) (FW.out.mono (fun k h=>Or.inl h)) (Or.inr rfl) _) (by omega)
theorem feedx_err (T:TypeId) (tl:List Value) (b:Nat) (z:List Int) (rules c err:Int) (w:World) (h:DecX T tl w b z rules err) (he:err≠0) :
  Calls Tryz.prog 129 #[.pointer (some ⟨b,0,none⟩),.int .u8 c] w fun e' w'=>e'=.returned (.tuple #[reqV 0 0 0 ⟨#[]⟩ 0,.bool false,.int .i64 err])∧Below w.heap.size w w':=by
 obtain ⟨bs,h1,h2⟩:=h
 have hl:=h1.len
 have HL:=zhz hl
 have H2:=zhz h2
 have g1:(err != 0)=true:=by simpa using he
 clear h1 h2 he hl
 go_enter Tryz.func129,Tryz.ntmps129
 go_upto_region 1 with (fail)
 obtain ⟨w1,hw1,hbk,hbl,hsz1⟩:=zad w (reqC 0 0 0 ⟨#[]⟩ 0) 76
 change Code.wp _ _ _ _ (w.alloc (.cells (reqC 0 0 0 ⟨#[]⟩ 0) 76))
 rw [hw1]
 obtain ⟨b0,hb0⟩:=zeq (w.heap.size)
 rw [← hb0] at hbk ⊢
 have HB0:=zhz hb0
 have BK:=zhz hbk
 have BL:=zhz hbl
 have H3:=zhz (H2.out.keep hbl)
 have k3':w1.cell? ⟨b,77,none⟩=some (.int .i64 err):=by rw [zag H3.out];exact (zaJ _ _ _ _ _ HL.out).2.2.1
 have k0:=hbk.rd
 have p0:=hbk.wr
 have NB:=zhz (show b0≠b from by have:=lt_of_block H2.out;omega)
 clear hbk hbl hsz1 hw1 hb0
 go_upto_region 2 with (fail)
 have kk:∀ W,Fr (fun k=>k=b0) w1 W→W.cell? ⟨b,77,none⟩=some (.int .i64 err):=fun W hW=>by rw [zag (H3.out.fr hW (fun h=>NB.out h.symm))];exact (zaJ _ _ _ _ _ HL.out).2.2.1
 have KK:=zhz kk
 clear kk
 refine wp_region_held_drew (S:=fun w'=>w'.cell? ⟨b,77,none⟩=some (.int .i64 err)) (by kernel_rfl) k3' (fun hHeld=>?_)
 have D0:=zhz (show Blk w1.drew b0 _ (reqC 0 0 0 ⟨#[]⟩ 0) from BK.out)
 have k1:=D0.out.rd
 have p1:=D0.out.wr
 refine wR 0 ?_
 refine wR 1 ?_
 refine wR 2 ?_
 refine wR 3 ?_
 refine wR 4 ?_
 refine wC 5 fun K hK=>?_
 go_simp
 skip
 refine hK.out _ _ (by rw [zaw BK.out];exact KK.out _ (Fr.setObj (F:=fun k=>k=b0) (Fr.refl _ _) rfl _).drew) fun hHeld=>?_
 clear hK K
 try simp only [Act.put,zs1,zs2,zs3]
 refine wR 6 ?_
 refine wR 7 ?_
 refine wpAnyH_done (by kernel_rfl) ?_ _
 clear hHeld k0 p0 k1 p1
 go_wp2
 rw [zaw BK.out]
 refine bodyPost_ret (zar rfl _ _ b0 _ _ (0,0) _ rfl (zab (lt_of_block BK.out) _) Tryz.underlying76 rfl (by kernel_rfl)) rfl ⟨?_,?_⟩
 ·rfl
 ·exact zaa (BL.out.trans ((Fr.setObj (F:=fun k=>k=b0) (Fr.refl _ _) rfl _).below BL.out.size (fun k hk=>by have:=HB0.out;omega))) 1
theorem zgT {w:World} {b:Nat} {T:TypeId} {bs:List Int} {n:Nat} {rules err:Int} {tl:List Value} (h:Blk w b T (decX bs n rules err tl)) (hl:bs.length=75):w.rangeAt b 0 (decC bs n rules err).toList:=fun j v hj=>by
 have hj2:j<(decC bs n rules err).toList.length:=(zgs.1 hj).1
 rw [Nat.zero_add,zag h,zdE,List.getElem?_toArray,List.getElem?_append_left hj2]
 exact hj
theorem infoDecL (bs:List Int) (n:Nat) (rules err:Int) (h:bs.length=75):(Tryz.prog.info? 130).map (·.size)=some (decC bs n rules err).toList.length:=by
 rw [infoDec,Array.length_toList,zaD _ _ _ _ h]
theorem zjI (bs:List Int) (n:Nat) (rules err:Int):(decC bs n rules err).toList.toArray=decC bs n rules err:=by simp
theorem tryx (T:TypeId) (tl:List Value) (b:Nat) (z:List Int) (rules c err:Int) (w:World) (h:DecX T tl w b z rules err) (R:Value)
  (hf:∀ w' b',DecAt w' b' z rules err→Calls Tryz.prog 129 #[.pointer (some ⟨b',0,none⟩),.int .u8 c] w' fun e' w''=>e'=.returned R∧Fr (fun k=>k=b') w' w'')
  (op rule cost k:Int) (s:ByteArray) (B:Bool) (E:Int) (hR:R=.tuple #[reqV op rule cost s k,.bool B,.int .i64 E]) :
  Calls Tryz.prog 127 #[.pointer (some ⟨b,0,none⟩),.int .u8 c] w fun e' w'=>e'=.returned R∧Below w.heap.size w w':=by
 subst hR
 obtain ⟨bs,hbl,hb,hc⟩:=h.copy
 have HB:=zhz hb
 have HC:=zhz hc
 have HF:=zhz hf
 have hz:=zgO
 have hs1:=zaD zero75 0 0 0 zam
 have hs2:=zaD bs z.length rules err hbl
 have hst:=fun w=>zeK w zero75 bs 0 z.length 0 rules 0 err zam hbl
 have HBL:=zhz hbl
 clear h hb hc hf hbl
 go_enter Tryz.func127,Tryz.ntmps127
 go_upto_region 1 with (fail)
 obtain ⟨w1,hw1,hbk,hbl,hsz1⟩:=zad w (reqC 0 0 0 ⟨#[]⟩ 0) 76
 change Code.wp _ _ _ _ (w.alloc (.cells (reqC 0 0 0 ⟨#[]⟩ 0) 76))
 rw [hw1]
 obtain ⟨b0,hb0⟩:=zeq (w.heap.size)
 rw [← hb0] at hbk ⊢
 have HB0:=zhz hb0
 have BK:=zhz hbk
 have BL:=zhz hbl
 have H3:=zhz (HB.out.keep hbl)
 clear hbk hbl hsz1 hw1 hb0
 go_upto_region 2 with (refine wpList_load_mid (by rfl) 130 _ (by rfl) b 0 (by rfl) _ _ (zgT H3.out HBL.out) Tryz.underlying130 rfl (infoDecL _ _ _ _ HBL.out) ?_;rw [zjI])
 obtain ⟨w2,hw2,hbk,hbl,hsz⟩:=zad w1 (decC bs z.length rules err) 130
 rw [hw2]
 obtain ⟨b7,hb7⟩:=zeq (w1.heap.size)
 rw [← hb7] at hbk ⊢
 have HB7:=zhz hb7
 have D2:=zhz (HC.out _ _ hbk)
 have K2:=zhz (BK.out.keep hbl)
 have B2:=zhz (G.below_on BL.out hbl)
 have NB:=zhz (show b0≠b7 from by have:=lt_of_block BK.out;omega)
 have NW:=zhz (show w.heap.size≤b7 from by have:=BL.out.size;omega)
 clear hw2 hbk hbl hsz hb7 hz hs1 hs2 hst
 go_wp2_with (go_at_call 129;((with_reducible refine (HF.out _ _ D2.out).mono ?_);rintro e' w3 ⟨rfl,f3⟩;have F3:=zhz f3;have K3:=zhz (K2.out.fr f3 NB.out);have k3:=K3.out.rd;have p3:=K3.out.wr;clear f3))
 rw [zaw K3.out]
 refine bodyPost_ret (zar rfl _ _ b0 _ _ (0,0) _ rfl (zab (lt_of_block K3.out) _) Tryz.underlying76 rfl (by kernel_rfl)) rfl ⟨?_,?_⟩
 ·rfl
 ·have hb0e:=HB0.out
  have hnw:=NW.out
  exact B2.out.trans ((F3.out.below B2.out.size (fun k hk=>by omega)).trans ((Fr.setObj (F:=fun k=>k=b0) (Fr.refl _ _) rfl _).below (Nat.le_trans B2.out.size F3.out.size) (fun k hk=>by omega)))
structure CnN where
 c:Nat
 ob:Nat
 og:Nat
 size:Nat
 rules:Int
structure CnS where
 z:List Int
 err:Int
 out:List Int
 op:Bool
abbrev cnT (K:CnN) (op:Bool):List Value:=[.pointer (some ⟨K.ob,0,none⟩),.int .i64 K.rules,.bool op]
structure CnAt (w:World) (K:CnN) (σ:CnS):Prop where
 d:DecX 133 (cnT K σ.op) w K.c σ.z K.rules σ.err
 b:BufAt w K.ob K.og K.size σ.out
 ne:K.c≠K.ob∧K.c≠K.og
def CnN.F (K:CnN) (b:Nat):Prop:=b=K.c∨b=K.ob∨b=K.og
section
variable {w w':World} {K:CnN} {σ:CnS}
theorem CnAt.fr {F:Nat→Prop} (h:CnAt w K σ) (hf:Fr F w w') (hF:∀ b,K.F b→¬ F b):CnAt w' K σ :=
 ⟨h.d.fr hf (hF _ (Or.inl rfl)),h.b.fr hf (hF _ (Or.inr (Or.inl rfl))) (hF _ (Or.inr (Or.inr rfl))),h.ne⟩
theorem CnAt.keep (h:CnAt w K σ) (hb:Below w.heap.size w w'):CnAt w' K σ:=h.fr (F:=fun _=>False) (Fr.of_below hb) (fun _ _=>id)
theorem CnAt.lt (h:CnAt w K σ):∀ b,K.F b→b<w.heap.size:=by
 rintro b (rfl | rfl | rfl)
 ·exact h.d.lt
 ·exact h.b.lt.1
 ·exact h.b.lt.2
theorem CnAt.cells (h:CnAt w K σ):w.cell? ⟨K.c,78,none⟩=some (.pointer (some ⟨K.ob,0,none⟩))∧w.cell? ⟨K.c,79,none⟩=some (.int .i64 K.rules)∧w.cell? ⟨K.c,80,none⟩=some (.bool σ.op) :=
 ⟨h.d.cell 0,h.d.cell 1,h.d.cell 2⟩
theorem CnAt.setOp (h:CnAt w K σ) (v:Bool):∃ w',w.setCell ⟨K.c,80,none⟩ (.bool v)=w'∧CnAt w' K ⟨σ.z,σ.err,σ.out,v⟩∧Fr (fun k=>k=K.c) w w':=by
 obtain ⟨w2,e,d,f,s⟩:=h.d.set 2 (.bool v)
 exact ⟨w2,e,⟨d,h.b.fr f (fun e=>h.ne.1 e.symm) (fun e=>h.ne.2 e.symm),h.ne⟩,f⟩
theorem zaI (w:World) (h:CnAt w K σ):Calls Tryz.prog 24 #[.pointer (some ⟨K.c,0,none⟩)] w fun e w'=>e=.returned (.bool σ.op)∧w=w':=by
 have k:=h.cells.2.2
 clear h
 go_enter Tryz.func24,Tryz.ntmps24
 go_wp2
 go_ret
 exact ⟨rfl,rfl⟩
theorem zh0 (w:World) (h:CnAt w K σ):Calls Tryz.prog 128 #[.pointer (some ⟨K.c,0,none⟩)] w fun e w'=>e=.returned (.int .i64 ((K.size - σ.out.length:Nat):Int))∧Below w.heap.size w w':=by
 have k:=h.cells.1
 have C:=zhz (zdd _ _ _ _ w h.b)
 obtain ⟨r,hr⟩:∃ r:Nat,r=K.size - σ.out.length:=⟨_,rfl⟩
 rw [← hr] at C ⊢
 clear h hr
 go_enter Tryz.func128,Tryz.ntmps128
 go_wp2_with (go_at_call 152;((with_reducible refine C.out.mono ?_);rintro e w1 ⟨rfl,b1⟩;have B1:=zhz b1;clear b1))
 go_ret
 exact ⟨rfl,B1.out⟩
def Drained (w:World) (K:CnN) (σ:CnS) (m:Nat) (e:Ending) (w':World):Prop :=
 ∃ s,e=.returned (.slice (some ⟨s,0,none⟩) m m)∧Blk w' s 5 (obbyC (σ.out.take m))∧CnAt w' K ⟨σ.z,σ.err,σ.out.drop m,σ.op⟩∧Fr K.F w w'∧w.heap.size≤s
theorem zgP (n:Int) (m:Nat) (w:World) (h:CnAt w K σ) (ho:σ.op=true) (hm:(m:Int)=max 0 (min n (σ.out.length:Int))):Calls Tryz.prog 76 #[.pointer (some ⟨K.c,0,none⟩),.int .i64 n] w (Drained w K σ m):=by
 have k:=h.cells.1
 have C:=zhz (zaI w h)
 rw [ho] at C
 have CT:=zhz (zhe K.ob K.og K.size σ.out n m w h.b hm)
 have H:=zhz h
 clear h hm
 go_enter Tryz.func76,Tryz.ntmps76
 go_wp2_with (first
  | (go_at_call 24;((with_reducible refine C.out.mono ?_);rintro e w1 ⟨rfl,rfl⟩))
  | (go_at_call 100;((with_reducible refine CT.out.mono ?_);rintro e w2 ⟨s,rfl,t1,t2,t3,t4,t5,t6⟩;have T:=zhz (And.intro t1 (And.intro t2 (And.intro t3 t4)));clear t1 t2 t3 t4 t5 t6)))
 go_ret
 obtain ⟨t1,t2,t3,t4⟩:=T.out
 exact ⟨s,rfl,t1,⟨H.out.d.fr t3 (fun e=>by have:=H.out.ne;omega),t2,H.out.ne⟩,t3.mono (fun k hk=>Or.inr hk),t4⟩
theorem zjG (w:World) (h:CnAt w K σ) (ho:σ.op=false):Calls Tryz.prog 75 #[.pointer (some ⟨K.c,0,none⟩)] w fun e w'=>e=.returned (.bool false)∧w=w':=by
 have C:=zhz (zaI w h)
 rw [ho] at C
 clear h ho
 go_enter Tryz.func75,Tryz.ntmps75
 go_wp2_with (go_at_call 24;((with_reducible refine C.out.mono ?_);rintro e w1 ⟨rfl,rfl⟩))
 go_ret
 exact ⟨rfl,rfl⟩
theorem zh1 (w:World) (h:CnAt w K σ) (ho:σ.op=true):Calls Tryz.prog 75 #[.pointer (some ⟨K.c,0,none⟩)] w fun e w'=>e=.returned (.bool true)∧CnAt w' K ⟨σ.z,σ.err,[],false⟩∧Fr K.F w w':=by
 have k:=h.cells.1
 have C:=zhz (zaI w h)
 rw [ho] at C
 have CT:=zhz (zfo K.ob K.og K.size σ.out w h.b)
 have H:=zhz h
 clear h
 go_enter Tryz.func75,Tryz.ntmps75
 go_upto_region 4 with (first
  | (go_at_call 24;((with_reducible refine C.out.mono ?_);rintro e w1 ⟨rfl,rfl⟩))
  | (go_at_call 99;((with_reducible refine CT.out.mono ?_);rintro e w2 ⟨rfl,t2,t3⟩;have T:=zhz (show CnAt w2 K ⟨σ.z,σ.err,[],σ.op⟩∧Fr K.F w w2 from ⟨⟨H.out.d.fr t3 (fun e=>by have:=H.out.ne;omega),t2,H.out.ne⟩,t3.mono (fun k hk=>Or.inr hk)⟩);clear t2 t3)))
 clear k
 have k3:=T.out.1.cells.2.2
 have k4:=T.out.1.d.free
 obtain ⟨w3,e3,a3,f3⟩:=T.out.1.setOp false
 have A3:=zhz (And.intro a3 f3)
 clear a3 f3
 go_wp2
 go_ret
 exact ⟨rfl,A3.out.1,T.out.2.trans (A3.out.2.mono (fun k hk=>Or.inl hk))⟩
theorem zjF (w:World) (h:CnAt w K σ) (ho:σ.op=true):Calls Tryz.prog 74 #[.pointer (some ⟨K.c,0,none⟩)] w fun e w'=>e=.returned (.bool false)∧w=w':=by
 have k:=h.cells.2.2
 rw [ho] at k
 clear h ho
 go_enter Tryz.func74,Tryz.ntmps74
 go_wp2
 go_ret
 exact ⟨rfl,rfl⟩
theorem zbU {b:Nat} {T:TypeId}:∀ (vs xs pre tl:List Value) (w:World),w.heap[b]?=some (.cells (pre++(xs++tl)).toArray T (0,0))→xs.length=vs.length→w.setCells b pre.length vs=setObj w b (.cells (pre++(vs++tl)).toArray T (0,0))
 | [],xs,pre,tl,w,h,hl=>by
  have:xs=[]:=List.eq_nil_of_length_eq_zero hl
  subst this
  exact (zcP h).symm
 | v :: r,[],pre,tl,w,h,hl=>by simp at hl
 | v :: r,x :: xs,pre,tl,w,h,hl=>by
  rw [World.setCells,zac h]
  have e:(pre++(x :: xs++tl)).toArray.setIfInBounds pre.length v=((pre++[v])++(xs++tl)).toArray:=by
   rw [zs1,List.set_append_right _ _ (Nat.le_refl _),Nat.sub_self]
   simp
  rw [e]
  have ih:=zbU r xs (pre++[v]) tl (setObj w b (.cells ((pre++[v])++(xs++tl)).toArray T (0,0))) (zab (lt_of_block h) _) (by simpa using hl)
  rw [List.length_append] at ih
  rw [show pre.length+1=pre.length+[v].length from rfl,ih,zbg]
  simp
theorem zco (bs:List Int) (n:Nat) (rules err:Int) (h:bs.length=75):(decC bs n rules err).toList.length=78:=by rw [Array.length_toList];exact zaD _ _ _ _ h
theorem zh4 {w:World} {b:Nat} {T:TypeId} {bs bs':List Int} {n n':Nat} {r r' e e':Int} {tl:List Value} (h:Blk w b T (decX bs n r e tl)) (hl:bs.length=75) (hl':bs'.length=75):w.setCells b 0 (decC bs' n' r' e').toList=setObj w b (.cells (decX bs' n' r' e' tl) T (0,0)):=by
 rw [zdE] at h
 have:=zbU (decC bs' n' r' e').toList (decC bs n r e).toList [] tl w h (by rw [zco _ _ _ _ hl,zco _ _ _ _ hl'])
 rw [zdE]
 exact this
theorem zf4 (rules:Int):DecIn zero75 [] rules:=⟨zam,(fun z hz=>by rw [zero75,List.mem_replicate] at hz;omega),rfl,zbM rules⟩
theorem zhZ (w:World) (h:CnAt w K σ) (ho:σ.op=false):Calls Tryz.prog 74 #[.pointer (some ⟨K.c,0,none⟩)] w fun e w'=>e=.returned (.bool true)∧CnAt w' K ⟨[],0,σ.out,true⟩∧Fr K.F w w':=by
 have k1:=h.cells.2.1
 have k2:=h.cells.2.2
 rw [ho] at k2
 have H:=zhz h
 have CN:=zhz (zgj K.rules w)
 clear h
 go_enter Tryz.func74,Tryz.ntmps74
 go_upto_region 4 with (first
  | (go_at_call 64;((with_reducible refine CN.out.mono ?_);rintro e w1 ⟨rfl,b1⟩;have H1:=zhz (H.out.keep b1);have B1:=zhz b1;clear b1))
  | (refine wpList_store_mid (by rfl) 130 _ _ (by rfl) K.c 0 (decC zero75 0 K.rules 0) (by rfl) (by rfl) ?_ (by rw [zaD _ _ _ _ zam];exact infoDec) (zf3 _ _ _ _) ?_))
 ·obtain ⟨bs,h1,h2⟩:=H1.out.d
  intro j hj
  rw [zaD _ _ _ _ zam] at hj
  refine ⟨?_,by rw [Nat.zero_add];exact h2.wr j⟩
  rw [Nat.zero_add,zag h2,zdE,List.getElem?_toArray,List.getElem?_append_left (by rw [zco _ _ _ _ h1.len];exact hj),zge (by rw [zco _ _ _ _ h1.len];exact hj)]
  rfl
 ·obtain ⟨bs,h1,h2⟩:=H1.out.d
  rw [zh4 h2 h1.len zam]
  have hf:Fr (fun k=>k=K.c) w1 (setObj w1 K.c (.cells (decX zero75 0 K.rules 0 (cnT K σ.op)) 133 (0,0))):=Fr.setObj (F:=fun k=>k=K.c) (Fr.refl _ _) rfl _
  have ha:CnAt (setObj w1 K.c (.cells (decX zero75 0 K.rules 0 (cnT K σ.op)) 133 (0,0))) K ⟨[],0,σ.out,σ.op⟩:=⟨⟨zero75,zf4 K.rules,zab (lt_of_block h2) _⟩,H1.out.b.fr hf (fun e=>H1.out.ne.1 e.symm) (fun e=>H1.out.ne.2 e.symm),H1.out.ne⟩
  have F2:=zhz (Fr.trans (Fr.of_below (F:=fun k=>k=K.c) B1.out) hf)
  have A2:=zhz ha
  generalize setObj w1 K.c (.cells (decX zero75 0 K.rules 0 (cnT K σ.op)) 133 (0,0))=w2 at A2 F2 ⊢
  clear h1 h2 hf ha k1 k2
  have k3:=A2.out.cells.2.2
  have k4:=A2.out.d.free
  obtain ⟨w3,e3,a3,f3⟩:=A2.out.setOp true
  have A3:=zhz (And.intro a3 f3)
  clear a3 f3
  go_wp2
  go_ret
  exact ⟨rfl,A3.out.1,(F2.out.trans A3.out.2).mono (fun k hk=>Or.inl hk)⟩
end
theorem zhY (w:World):(zeroValue 133).run Tryz.prog w=.ok (.agg (decX zero75 0 0 0 [.pointer none,.int .i64 0,.bool false])) w:=by kernel_rfl
theorem zhX (rules:Int):Array.foldl (fun (cs:Array Value) (x:Value × Nat)=>cs.setIfInBounds x.2 x.1) (decX zero75 0 0 0 [.pointer none,.int .i64 0,.bool false]) (decC zero75 0 rules 0).zipIdx 0 78=decX zero75 0 rules 0 [.pointer none,.int .i64 0,.bool false]:=by kernel_rfl
theorem zcv (bs:List Int) (n:Nat) (rules err:Int) (tl:List Value) (h:bs.length=75):(decX bs n rules err tl).size=78+tl.length:=by unfold decX;simp [h];omega
theorem zf1 (rules:Int) (n:Nat) (h1:1≤n) (h2:n≤65536) (w:World):Calls Tryz.prog 36 #[.int .i64 rules,.int .i64 (n:Int)] w fun e w'=>∃ K:CnN,e=.returned (.pointer (some ⟨K.c,0,none⟩))∧K.size=n∧K.rules=rules∧CnAt w' K ⟨[],0,[],false⟩∧(∀ b,K.F b→w.heap.size≤b)∧Below w.heap.size w w':=by
 have C:=zhz (ziE n h1 h2 w)
 have CN:=fun wx=>zgj rules wx
 have hz:=zhY
 have hf:=zhX rules
 have hs:=zaD zero75 0 rules 0 zam
 obtain ⟨p,hp⟩:=zeq (w.heap.size+1)
 have e1:(decX zero75 0 rules 0 [.pointer none,.int .i64 0,.bool false]).setIfInBounds 78 (.pointer (some ⟨p,0,none⟩))=decX zero75 0 rules 0 [.pointer (some ⟨p,0,none⟩),.int .i64 0,.bool false]:=zdF zero75 0 rules 0 _ 0 _ zam
 have e2:(decX zero75 0 rules 0 [.pointer (some ⟨p,0,none⟩),.int .i64 0,.bool false]).setIfInBounds 79 (.int .i64 rules)=decX zero75 0 rules 0 [.pointer (some ⟨p,0,none⟩),.int .i64 rules,.bool false]:=zdF zero75 0 rules 0 _ 1 _ zam
 have s0:=zcv zero75 0 0 0 [.pointer none,.int .i64 0,.bool false] zam
 have s1:=zcv zero75 0 rules 0 [.pointer none,.int .i64 0,.bool false] zam
 have s2:=zcv zero75 0 rules 0 [.pointer (some ⟨p,0,none⟩),.int .i64 0,.bool false] zam
 simp only [List.length_cons,List.length_nil] at s0 s1 s2
 obtain ⟨D,hD⟩:=zeq (decC zero75 0 rules 0)
 obtain ⟨Z,hZ⟩:=zeq (decX zero75 0 0 0 [.pointer none,.int .i64 0,.bool false])
 obtain ⟨Y,hY⟩:=zeq (decX zero75 0 rules 0 [.pointer none,.int .i64 0,.bool false])
 obtain ⟨Y2,hY2⟩:=zeq (decX zero75 0 rules 0 [.pointer (some ⟨p,0,none⟩),.int .i64 0,.bool false])
 obtain ⟨X,hX⟩:=zeq (decX zero75 0 rules 0 [.pointer (some ⟨p,0,none⟩),.int .i64 rules,.bool false])
 simp only [← hD] at CN
 rw [← hD] at hs
 rw [← hD,← hZ,← hY] at hf
 simp only [← hZ] at hz
 rw [← hZ] at s0
 rw [← hY] at s1
 rw [← hY2] at s2
 rw [← hY,← hY2] at e1
 rw [← hY2,← hX] at e2
 have CN:=zhz CN
 have HX:=zhz hX
 have HP:=zhz hp
 rw [← hp] at C
 clear h1 h2 hD hX hZ hY hY2 hp
 go_enter Tryz.func36,Tryz.ntmps36
 go_wp2_with (first
  | (go_at_call 63;((with_reducible refine C.out.mono ?_);rintro e w1 ⟨rfl,s1,b1⟩;have S1:=zhz (And.intro s1 b1);clear s1 b1))
  | (go_at_call 64;((with_reducible refine (CN.out _).mono ?_);rintro e w2 ⟨rfl,b2⟩;have B2:=zhz b2;clear b2)))
 go_ret
 have hl:=S1.out.1.lt
 have hb:=S1.out.2.size
 have hb2:=B2.out.size
 have hpe:=HP.out
 have bl:Below w.heap.size w (w2.alloc (.cells X 133)):=(S1.out.2.trans (B2.out.mono hb)).alloc (by omega) _
 refine ⟨⟨w2.heap.size,p,w.heap.size,n,rules⟩,rfl,rfl,rfl,⟨⟨zero75,zf4 rules,?_⟩,(S1.out.1.keep B2.out).keep ((Below.refl _ _).alloc (Nat.le_refl _) _),by show w2.heap.size≠p∧w2.heap.size≠w.heap.size;omega⟩,?_,bl⟩
 ·show Blk _ _ _ (decX zero75 0 rules 0 [.pointer (some ⟨p,0,none⟩),.int .i64 rules,.bool false])
  rw [← HX.out];exact heap_alloc_new w2 _
 ·rintro b (h | h | h)
  ·have h:b=w2.heap.size:=h
   omega
  ·have h:b=p:=h
   omega
  ·have h:b=w.heap.size:=h
   omega
section
variable {w w' W:World} {s:Nat} {c c':SvC} {K:CnN} {σ:CnS}
theorem zeO {i:Nat} (hi:i<16) {p:Option Addr} (hv:c.K[i]?=some (.pointer p)) (w:World) (h:Sv w s c) :
  Calls Tryz.prog 23 #[.pointer (some ⟨s,0,none⟩),.int .i64 (i:Int)] w fun e w'=>e=.returned (.pointer p)∧w=w':=by
 have k0:=(h.cK hi).trans hv
 have t1:decide ((i:Int)<0)=false:=by rw [zdn];omega
 have t2:decide ((16:Int)≤(i:Int))=false:=by rw [zdn];omega
 have t3:¬ (i:Int)<0:=by omega
 have t4:(i:Int)<16:=by omega
 clear h hv
 go_enter Tryz.func23,Tryz.ntmps23
 go_wp2
 go_ret
 exact ⟨rfl,rfl⟩
theorem zeT {i:Nat} (hi:i<8) {p:Option Addr} (hv:c.J[i]?=some (.pointer p)) (w:World) (h:Sv w s c) :
  Calls Tryz.prog 26 #[.pointer (some ⟨s,0,none⟩),.int .i64 (i:Int)] w fun e w'=>e=.returned (.pointer p)∧w=w':=by
 have k0:=(h.cJ hi).trans hv
 have t1:decide ((i:Int)<0)=false:=by rw [zdn];omega
 have t2:decide ((8:Int)≤(i:Int))=false:=by rw [zdn];omega
 have t3:¬ (i:Int)<0:=by omega
 have t4:(i:Int)<8:=by omega
 clear h hv
 go_enter Tryz.func26,Tryz.ntmps26
 go_wp2
 go_ret
 exact ⟨rfl,rfl⟩
def SvC.end (c:SvC):SvC:={ c with ac:=false,nt:=.slice none 0 0 }
theorem zbx (u:FrameMode) (w:World) (h:Sv w s c) :
  CallsD Tryz.prog 46 #[.pointer (some ⟨s,0,none⟩)] u w fun e u' w'=>u'=u∧(e=.returned (.tuple #[])∧Sv w' s c.end∧Fr (fun k=>k=s) w w'):=by
 obtain ⟨w1,e1,h1,f1⟩:=h.setAc false
 obtain ⟨w2,e2,h2,f2⟩:=h1.setNt (.slice none 0 0)
 have H2:=zhz (And.intro h2 (f1.trans f2))
 have kA:=h.cA
 have kN:=h1.cN
 have kw:=h.wr
 have kw1:=h1.wr
 clear h h1 h2 f1 f2
 go_enter_d Tryz.func46,Tryz.ntmps46
 go_wp2
 go_end0
 exact ⟨rfl,H2.out.1,H2.out.2⟩
abbrev stepV (e:Int):Value:=.agg #[.int .i64 e,.int .i64 0,.slice none 0 0,.slice none 0 0]
theorem box4S (X:World) (a b c d:Value):∃ w1 w2,X.alloc (.cells #[.int .i64 0,.int .i64 0,.slice none 0 0,.slice none 0 0] 46)=w1 ∧
  (∀ j,w1.cell? ⟨X.heap.size,j,none⟩=(#[.int .i64 0,.int .i64 0,.slice none 0 0,.slice none 0 0]:Array Value)[j]?)∧(∀ j,w1.frozen? ⟨X.heap.size,j,none⟩=false) ∧
  (((w1.setCell ⟨X.heap.size,0,none⟩ a).setCell ⟨X.heap.size,1,none⟩ b).setCell ⟨X.heap.size,2,none⟩ c).setCell ⟨X.heap.size,3,none⟩ d=w2 ∧
  Below X.heap.size X w2∧Blk w2 X.heap.size 46 #[a,b,c,d]:=by
 obtain ⟨w1,hw1,k1,b1,s1⟩:=zad X #[.int .i64 0,.int .i64 0,.slice none 0 0,.slice none 0 0] 46
 refine ⟨w1,_,hw1,k1.rd,k1.wr,rfl,?_,?_⟩
 ·rw [zaj k1]
  exact b1.trans ((Fr.setObj (F:=fun k=>k=X.heap.size) (Fr.refl _ _) rfl _).below b1.size (fun k hk=>by omega))
 ·rw [zaj k1]
  exact zab (lt_of_block k1) _
theorem za5 (b:Bool) (w:World) :
  Calls Tryz.prog 73 #[.bool b] w fun e w'=>e=.returned (stepV (if b then 0 else 11))∧Below w.heap.size w w':=by
 obtain ⟨w1,w2,hw1,k1,f1,hw2,b2,k2⟩:=box4S w (.int .i64 (if b then 0 else 11)) (.int .i64 0) (.slice none 0 0) (.slice none 0 0)
 obtain ⟨bx,hbx⟩:=zeq (w.heap.size)
 rw [← hbx] at k1 f1 hw2 k2
 have H2:=zhz (And.intro b2 k2)
 have HB:=zhz hbx
 clear b2 k2 hbx
 cases b
 all_goals
   simp only [if_true,Bool.false_eq_true,if_false] at hw2 H2 ⊢
   go_enter Tryz.func73,Tryz.ntmps73
   go_upto_region 1 with (fail)
   rw [← HB.out]
   clear hw1
   go_wp2
   refine bodyPost_ret (results_cell_row rfl _ _ bx _ _ (0,0) _ rfl H2.out.2 Tryz.underlying46 rfl (by kernel_rfl)) rfl ?_
   exact ⟨rfl,H2.out.1⟩
end
section
variable {w w' W:World} {s:Nat} {c c':SvC} {K:CnN} {σ:CnS}
abbrev actC (kd ck cn:Int) (dat:Value) (n:Int) (sed:Value):Array Value:=#[.int .i64 kd,.int .i64 ck,.int .i64 cn,dat,.int .i64 n,sed]
abbrev actV (kd ck cn:Int) (dat:Value) (n:Int) (sed:Value):Value:=.agg (actC kd ck cn dat n sed)
def onS (kd:Int) (σ:CnS):Int × CnS :=
 if kd=0 then (if σ.op then (11,σ) else (0,⟨[],0,σ.out,true⟩))
 else if kd=1 then (if σ.op then (0,⟨σ.z,σ.err,[],false⟩) else (11,σ))
 else if kd=2∨kd=3 then (11,σ)
 else (1,σ)
theorem zkC (kd ck cn n:Int) (dat sed sp:Value) (hk:kd=2∨kd=3→σ.op=false) (w:World) (h:CnAt w K σ) :
  Calls Tryz.prog 50 #[sp,.pointer (some ⟨K.c,0,none⟩),actV kd ck cn dat n sed] w fun e w'=>e=.returned (stepV (onS kd σ).1)∧CnAt w' K (onS kd σ).2∧Fr K.F w w':=by
 obtain ⟨w1,hw1,k1,b1,s1⟩:=zad w (actC kd ck cn dat n sed) 42
 obtain ⟨w2,hw2,k2,b2,s2⟩:=zad w1 #[.int .i64 0,.int .i64 0,.slice none 0 0,.slice none 0 0] 46
 have HLT:=zhz (show (∀ b,K.F b→b<w.heap.size) from h.lt)
 have H2:=zhz ((h.keep b1).keep b2)
 have B2:=zhz (show Below w.heap.size w w2 from b1.trans (b2.mono b1.size))
 obtain ⟨ab,hab⟩:=zeq (w.heap.size)
 obtain ⟨rb,hrb⟩:=zeq (w1.heap.size)
 rw [← hab] at k1
 rw [← hrb] at k2
 have K1:=zhz (k1.keep b2)
 have K2:=zhz k2
 have HA:=zhz hab
 have HR:=zhz hrb
 have HSZ:=zhz (show w.heap.size≤rb∧rb<w2.heap.size from by rw [hrb];exact ⟨b1.size,by rw [s2];omega⟩)
 have kr:=(k1.keep b2).rd
 have done:∀ (wz:World) (e0:Int) (σ':CnS),Blk wz rb 46 #[.int .i64 0,.int .i64 0,.slice none 0 0,.slice none 0 0]→CnAt wz K σ'→Fr K.F w2 wz →
   Blk (setObj wz rb (.cells #[.int .i64 e0,.int .i64 0,.slice none 0 0,.slice none 0 0] 46 (0,0))) rb 46 #[.int .i64 e0,.int .i64 0,.slice none 0 0,.slice none 0 0]∧CnAt (setObj wz rb (.cells #[.int .i64 e0,.int .i64 0,.slice none 0 0,.slice none 0 0] 46 (0,0))) K σ'∧Fr K.F w (setObj wz rb (.cells #[.int .i64 e0,.int .i64 0,.slice none 0 0,.slice none 0 0] 46 (0,0))):=by
  intro wz e0 σ' hz hc hf
  have fe:=Fr.setObj (F:=fun k=>k=rb) (Fr.refl _ wz) rfl (.cells #[.int .i64 e0,.int .i64 0,.slice none 0 0,.slice none 0 0] 46 (0,0))
  refine ⟨zab (lt_of_block hz) _,hc.fr fe (fun b hb e=>by have h1:=HLT.out b hb;have h2:=HSZ.out.1;omega),?_⟩
  exact Fr.drop_new (F:=K.F) (s:=rb) (((Fr.of_below B2.out).mono (fun k (hk:False)=>hk.elim)).trans ((hf.mono (fun k hk=>Or.inl hk)).trans (fe.mono (fun k hk=>Or.inr hk)))) HSZ.out.1
 have DN:=zhz done
 have NRB:=zhz (show ¬ K.F rb from fun hb=>by have h1:=HLT.out rb hb;have h2:=HSZ.out.1;omega)
 clear h k1 k2 b1 b2 s1 s2 done
 by_cases hk0:kd=0
 ·subst hk0
  cases ho:σ.op with
  | false =>
   have er:onS 0 σ=(0,⟨[],0,σ.out,true⟩):=by unfold onS;rw [if_pos rfl,ho];rfl
   have CO:=zhz (zhZ w2 H2.out ho)
   rw [er]
   dsimp only
   clear er ho
   clear hk
   go_enter Tryz.func50,Tryz.ntmps50
   go_upto_region 1 with (fail)
   rw [← HR.out,← HA.out]
   clear hw1 hw2 hab hrb
   go_wp2_with (first
    | (go_at_call 74;((with_reducible refine CO.out.mono ?_);rintro e w3 ⟨rfl,h3,f3⟩;have H3:=zhz (And.intro h3 f3);have K3:=zhz (K2.out.fr f3 NRB.out);clear h3 f3))
    | (go_at_call 73;((with_reducible refine (za5 true _).mono ?_);rintro e w4 ⟨rfl,b4⟩;have H4:=zhz (And.intro (H3.out.1.keep b4) (H3.out.2.trans ((Fr.of_below b4).mono (fun k (hk:False)=>hk.elim))));have K4:=zhz (K3.out.keep b4);have kz:=K4.out.rd;have kzw:=K4.out.wr;clear b4)))
   rw [zaj K4.out]
   obtain ⟨d1,d2,d3⟩:=DN.out _ 0 _ K4.out H4.out.1 H4.out.2
   refine bodyPost_ret (results_cell_row rfl _ _ rb _ _ (0,0) _ rfl d1 Tryz.underlying46 rfl (by kernel_rfl)) rfl ?_
   exact ⟨rfl,d2,d3⟩
  | true =>
   have er:onS 0 σ=(11,σ):=by unfold onS;rw [if_pos rfl,ho];rfl
   have CO:=zhz (zjF w2 H2.out ho)
   rw [er]
   dsimp only
   clear er ho
   clear hk
   go_enter Tryz.func50,Tryz.ntmps50
   go_upto_region 1 with (fail)
   rw [← HR.out,← HA.out]
   clear hw1 hw2 hab hrb
   go_wp2_with (first
    | (go_at_call 74;((with_reducible refine CO.out.mono ?_);rintro e w3 ⟨rfl,rfl⟩;have H3:=zhz (show CnAt w2 K σ∧Fr K.F w2 w2 from ⟨H2.out,Fr.refl _ _⟩);have K3:=K2))
    | (go_at_call 73;((with_reducible refine (za5 false _).mono ?_);rintro e w4 ⟨rfl,b4⟩;have H4:=zhz (And.intro (H3.out.1.keep b4) (H3.out.2.trans ((Fr.of_below b4).mono (fun k (hk:False)=>hk.elim))));have K4:=zhz (K3.out.keep b4);have kz:=K4.out.rd;have kzw:=K4.out.wr;clear b4)))
   rw [zaj K4.out]
   obtain ⟨d1,d2,d3⟩:=DN.out _ 11 _ K4.out H4.out.1 H4.out.2
   refine bodyPost_ret (results_cell_row rfl _ _ rb _ _ (0,0) _ rfl d1 Tryz.underlying46 rfl (by kernel_rfl)) rfl ?_
   exact ⟨rfl,d2,d3⟩
 by_cases hk1:kd=1
 ·subst hk1
  cases ho:σ.op with
  | false =>
   have er:onS 1 σ=(11,σ):=by unfold onS;rw [if_neg (by decide),if_pos rfl,ho];rfl
   have CO:=zhz (zjG w2 H2.out ho)
   rw [er]
   dsimp only
   clear er ho
   clear hk
   go_enter Tryz.func50,Tryz.ntmps50
   go_upto_region 1 with (fail)
   rw [← HR.out,← HA.out]
   clear hw1 hw2 hab hrb
   go_wp2_with (first
    | (go_at_call 75;((with_reducible refine CO.out.mono ?_);rintro e w3 ⟨rfl,rfl⟩;have H3:=zhz (show CnAt w2 K σ∧Fr K.F w2 w2 from ⟨H2.out,Fr.refl _ _⟩);have K3:=K2))
    | (go_at_call 73;((with_reducible refine (za5 false _).mono ?_);rintro e w4 ⟨rfl,b4⟩;have H4:=zhz (And.intro (H3.out.1.keep b4) (H3.out.2.trans ((Fr.of_below b4).mono (fun k (hk:False)=>hk.elim))));have K4:=zhz (K3.out.keep b4);have kz:=K4.out.rd;have kzw:=K4.out.wr;clear b4)))
   rw [zaj K4.out]
   obtain ⟨d1,d2,d3⟩:=DN.out _ 11 _ K4.out H4.out.1 H4.out.2
   refine bodyPost_ret (results_cell_row rfl _ _ rb _ _ (0,0) _ rfl d1 Tryz.underlying46 rfl (by kernel_rfl)) rfl ?_
   exact ⟨rfl,d2,d3⟩
  | true =>
   have er:onS 1 σ=(0,⟨σ.z,σ.err,[],false⟩):=by unfold onS;rw [if_neg (by decide),if_pos rfl,ho];rfl
   have CO:=zhz (zh1 w2 H2.out ho)
   rw [er]
   dsimp only
   clear er ho
   clear hk
   go_enter Tryz.func50,Tryz.ntmps50
   go_upto_region 1 with (fail)
   rw [← HR.out,← HA.out]
   clear hw1 hw2 hab hrb
   go_wp2_with (first
    | (go_at_call 75;((with_reducible refine CO.out.mono ?_);rintro e w3 ⟨rfl,h3,f3⟩;have H3:=zhz (And.intro h3 f3);have K3:=zhz (K2.out.fr f3 NRB.out);clear h3 f3))
    | (go_at_call 73;((with_reducible refine (za5 true _).mono ?_);rintro e w4 ⟨rfl,b4⟩;have H4:=zhz (And.intro (H3.out.1.keep b4) (H3.out.2.trans ((Fr.of_below b4).mono (fun k (hk:False)=>hk.elim))));have K4:=zhz (K3.out.keep b4);have kz:=K4.out.rd;have kzw:=K4.out.wr;clear b4)))
   rw [zaj K4.out]
   obtain ⟨d1,d2,d3⟩:=DN.out _ 0 _ K4.out H4.out.1 H4.out.2
   refine bodyPost_ret (results_cell_row rfl _ _ rb _ _ (0,0) _ rfl d1 Tryz.underlying46 rfl (by kernel_rfl)) rfl ?_
   exact ⟨rfl,d2,d3⟩
 by_cases hk2:kd=2∨kd=3
 ·have ho:=hk hk2
  have er:onS kd σ=(11,σ):=by unfold onS;rw [if_neg hk0,if_neg hk1,if_pos hk2]
  have CO:=zhz (show Calls Tryz.prog 24 #[.pointer (some ⟨K.c,0,none⟩)] w2 (fun e w'=>e=.returned (.bool false)∧w2=w') from by have:=zaI w2 H2.out;rw [ho] at this;exact this)
  have H4:=zhz (show CnAt w2 K σ∧Fr K.F w2 w2 from ⟨H2.out,Fr.refl _ _⟩)
  have K4:=K2
  have kz:=K4.out.rd
  have kzw:=K4.out.wr
  rw [er]
  dsimp only
  clear er ho hk0 hk1
  rcases hk2 with rfl | rfl
  all_goals
    clear hk
    go_enter Tryz.func50,Tryz.ntmps50
    go_upto_region 1 with (fail)
    rw [← HR.out,← HA.out]
    clear hw1 hw2 hab hrb
    go_wp2_with (go_at_call 24;((with_reducible refine CO.out.mono ?_);rintro e w3 ⟨rfl,rfl⟩))
    rw [zaj K4.out]
    obtain ⟨d1,d2,d3⟩:=DN.out _ 11 _ K4.out H4.out.1 H4.out.2
    refine bodyPost_ret (results_cell_row rfl _ _ rb _ _ (0,0) _ rfl d1 Tryz.underlying46 rfl (by kernel_rfl)) rfl ?_
    exact ⟨rfl,d2,d3⟩
 have er:onS kd σ=(1,σ):=by unfold onS;rw [if_neg hk0,if_neg hk1,if_neg hk2]
 have H4:=zhz (show CnAt w2 K σ∧Fr K.F w2 w2 from ⟨H2.out,Fr.refl _ _⟩)
 have K4:=K2
 have kz:=K4.out.rd
 have kzw:=K4.out.wr
 have u0:(kd==0)=false:=by simpa using hk0
 have u1:(kd==1)=false:=by simpa using hk1
 have u2:(kd==2)=false:=by simp;exact fun e=>hk2 (Or.inl e)
 have u3:(kd==3)=false:=by simp;exact fun e=>hk2 (Or.inr e)
 rw [er]
 dsimp only
 clear er hk0 hk1 hk2
 clear hk
 go_enter Tryz.func50,Tryz.ntmps50
 go_upto_region 1 with (fail)
 rw [← HR.out,← HA.out]
 clear hw1 hw2 hab hrb
 go_wp2
 rw [zaj K4.out]
 obtain ⟨d1,d2,d3⟩:=DN.out _ 1 _ K4.out H4.out.1 H4.out.2
 refine bodyPost_ret (results_cell_row rfl _ _ rb _ _ (0,0) _ rfl d1 Tryz.underlying46 rfl (by kernel_rfl)) rfl ?_
 exact ⟨rfl,d2,d3⟩
end
section
variable {w w' W:World} {s:Nat} {c c':SvC} {K:CnN} {σ:CnS}
theorem zmc (kd ck cn n:Int) (dat sed:Value) (hk4:kd≠4) (hk:kd=2∨kd=3→σ.op=false) (w:World) (h:Sv w s c) (hc:CnAt w K σ) (hn:¬ K.F s)
  (hcn:∀ wx c',Sv wx s c'→c'.K=c.K→Calls Tryz.prog 23 #[.pointer (some ⟨s,0,none⟩),.int .i64 cn] wx fun e w'=>e=.returned (.pointer (some ⟨K.c,0,none⟩))∧wx=w') :
  Calls Tryz.prog 20 #[.pointer (some ⟨s,0,none⟩),actV kd ck cn dat n sed] w fun e w'=>e=.returned (stepV (onS kd σ).1)∧CnAt w' K (onS kd σ).2∧Sv w' s (c.read ck).end∧Fr (fun k=>K.F k∨k=s) w w':=by
 obtain ⟨w1,hw1,k1,b1,s1⟩:=zad w (actC kd ck cn dat n sed) 42
 obtain ⟨w2,hw2,k2,b2,s2⟩:=zad w1 #[.int .i64 0,.int .i64 0,.slice none 0 0,.slice none 0 0] 46
 have HLT:=zhz (show (∀ b,K.F b→b<w.heap.size)∧s<w.heap.size from ⟨hc.lt,h.lt⟩)
 obtain ⟨ab,hab⟩:=zeq (w.heap.size)
 obtain ⟨rb,hrb⟩:=zeq (w1.heap.size)
 rw [← hab] at k1
 rw [← hrb] at k2
 have HA:=zhz hab
 have HR:=zhz hrb
 have HSZ:=zhz (show w.heap.size≤ab∧ab<rb∧rb<w2.heap.size from by rw [hrb,hab,s2,s1];omega)
 obtain ⟨w3,e3,h3,f3⟩:=((h.keep b1).keep b2).setAc true
 have H3:=zhz h3
 have F3:=zhz (show Fr (fun k=>k=s) w w3 from ((Fr.of_below (show Below w.heap.size w w2 from b1.trans (b2.mono b1.size))).mono (fun k (hk:False)=>hk.elim)).trans f3)
 have C3:=zhz (((hc.keep b1).keep b2).fr f3 (fun b hb e=>hn (by rw [← e];exact hb)))
 have K1:=zhz ((k1.keep b2).fr f3 (fun e=>by have h1:=HLT.out.2;have h2:=HSZ.out;omega))
 have K2:=zhz (k2.fr f3 (fun e=>by have h1:=HLT.out.2;have h2:=HSZ.out;omega))
 have kA:=((h.keep b1).keep b2).cA
 have kw:=((h.keep b1).keep b2).wr
 have kr:=K1.out.rd
 have u4:(kd==4)=false:=by simpa using hk4
 have HN:=zhz hn
 have HK:=zhz hk
 have HCN:=zhz hcn
 have HZ3:=zhz f3.size
 clear h hc k1 k2 b1 b2 s1 s2 h3 f3 hn hk hcn hk4
 obtain ⟨oe,hoe⟩:=zeq ((onS kd σ).1)
 rw [← hoe]
 have HOE:=zhz hoe
 clear hoe
 go_enter_defers Tryz.func20,Tryz.ntmps20
 go_upto_region 1 with (fail)
 rw [← HR.out,← HA.out]
 clear hw1 hab hrb
 go_upto_region 10 with (fail)
 try rw [e3]
 clear hw2 e3 kA kw u4 kr
 have N0:=zhz (show Below w3.heap.size w3 w3.drew from zaa (Below.refl _ _) 1)
 have CRd:=zhz (fun wx (hx:Sv wx s { c with ac:=true })=>zby ck wx hx)
 have st:=(K1.out.keep N0.out).rd
 refine wp_region_held_drew (S:=fun wx=>∀ j,wx.cell? ⟨ab,j,none⟩=(actC kd ck cn dat n sed)[j]?) (by kernel_rfl) st (fun hHeld=>?_)
 clear st
 refine wR 0 ?_ (hQ:=by exact putD (fn:=Tryz.f20) rfl (by decide))
 refine wR 1 ?_ (hQ:=by exact putD (fn:=Tryz.f20) rfl (by decide))
 refine wR 2 ?_ (hQ:=by exact putD (fn:=Tryz.f20) rfl (by decide))
 refine wR 3 ?_ (hQ:=by exact putD (fn:=Tryz.f20) rfl (by decide))
 refine wR 4 ?_ (hQ:=by exact putD (fn:=Tryz.f20) rfl (by decide))
 refine wC 5 fun K hK=>?_
 go_simp
 ((with_reducible refine (CRd.out _ (H3.out.keep N0.out)).mono ?_);rintro v w4 ⟨rfl,h4,f4⟩;have H4:=zhz h4;have K4:=zhz ((K1.out.keep N0.out).fr f4 (fun e=>by have h1:=HLT.out.2;have h2:=HSZ.out;omega));have R4:=zhz ((K2.out.keep N0.out).fr f4 (fun e=>by have h1:=HLT.out.2;have h2:=HSZ.out;omega));have C4:=zhz ((C3.out.keep N0.out).fr f4 (fun b hb e=>HN.out (by rw [← e];exact hb)));have F4:=zhz (show Fr (fun k=>k=s) w w4 from F3.out.trans (((Fr.of_below N0.out).mono (fun k (hk:False)=>hk.elim)).trans f4));clear h4 f4)
 refine hK.out _ _ K4.out.rd fun hHeld=>?_
 clear hK K
 try simp only [Act.put,zs1,zs2,zs3]
 refine wpAnyH_done (by kernel_rfl) ?_ _
 clear hHeld CRd K1 K2 C3
 have kr:=K4.out.rd
 have CCn:=zhz (HCN.out w4 _ H4.out rfl)
 have COn:=zhz (fun sp=>zkC kd ck cn n dat sed sp HK.out w4 C4.out)
 rw [← HOE.out] at COn
 go_wp2_with (first
  | (go_at_call 23;((with_reducible refine CCn.out.mono ?_);rintro v w5 ⟨rfl,rfl⟩))
  | (go_at_call 50;((with_reducible refine (COn.out _).mono ?_);rintro v w6 ⟨rfl,c6,f6⟩;have C6:=zhz c6;have F6:=zhz f6;have H6:=zhz (H4.out.fr f6 HN.out);have R6:=zhz (R4.out.fr f6 (fun hb=>by have h1:=HLT.out.1 rb hb;have h2:=HSZ.out;omega));have kz:=R6.out.rd;have kzw:=R6.out.wr;clear c6 f6)))
 rw [zaj R6.out]
 have fe:=Fr.setObj (F:=fun k=>k=rb) (Fr.refl _ w6) rfl (.cells #[.int .i64 oe,.int .i64 0,.slice none 0 0,.slice none 0 0] 46 (0,0))
 have k7:Blk (setObj w6 rb (.cells #[.int .i64 oe,.int .i64 0,.slice none 0 0,.slice none 0 0] 46 (0,0))) rb 46 #[.int .i64 oe,.int .i64 0,.slice none 0 0,.slice none 0 0]:=zab (lt_of_block R6.out) _
 generalize setObj w6 rb (.cells #[.int .i64 oe,.int .i64 0,.slice none 0 0,.slice none 0 0] 46 (0,0))=w7 at fe k7 ⊢
 have H7:=H6.out.fr fe (fun e=>by have h1:=HLT.out.2;have h2:=HSZ.out;omega)
 have C7:=C6.out.fr fe (fun b hb e=>by have h1:=HLT.out.1 b hb;have h2:=HSZ.out;omega)
 refine leaves_cons (f:=46) (args:=#[.pointer (some ⟨s,0,none⟩)]) (by simp) (by simp [go_sem]) ?_
 refine (zbx .returning _ H7).mono ?_
 rintro e u' w8 ⟨rfl,rfl,h8,f8⟩
 refine ⟨_,results_cell_row rfl _ _ rb _ _ (0,0) _ rfl (Blk.fr k7 f8 (fun e=>by have h1:=HLT.out.2;have h2:=HSZ.out;omega)) Tryz.underlying46 rfl (by kernel_rfl),rfl,C7.fr f8 (fun b hb e=>HN.out (by rw [← e];exact hb)),h8,?_⟩
 exact Fr.drop_new (F:=fun k=>K.F k∨k=s) (s:=rb) (((F4.out.mono (fun k hk=>Or.inl (Or.inr hk))).trans ((F6.out.mono (fun k hk=>Or.inl (Or.inl hk))).trans (fe.mono (fun k hk=>Or.inr hk)))).trans (f8.mono (fun k hk=>Or.inl (Or.inr hk)))) (by have h2:=HSZ.out;omega)
theorem zjq (kd ck cn n:Int) (dat sed:Value) (hk4:kd≠4) (w:World) (h:Sv w s c)
  (hcn:∀ wx c',Sv wx s c'→c'.K=c.K→Calls Tryz.prog 23 #[.pointer (some ⟨s,0,none⟩),.int .i64 cn] wx fun e w'=>e=.returned (.pointer none)∧wx=w') :
  Calls Tryz.prog 20 #[.pointer (some ⟨s,0,none⟩),actV kd ck cn dat n sed] w fun e w'=>e=.returned (stepV 1)∧Sv w' s (c.read ck).end∧Fr (fun k=>k=s) w w':=by
 obtain ⟨w1,hw1,k1,b1,s1⟩:=zad w (actC kd ck cn dat n sed) 42
 obtain ⟨w2,hw2,k2,b2,s2⟩:=zad w1 #[.int .i64 0,.int .i64 0,.slice none 0 0,.slice none 0 0] 46
 have HLT:=zhz (show True∧s<w.heap.size from ⟨trivial,h.lt⟩)
 obtain ⟨ab,hab⟩:=zeq (w.heap.size)
 obtain ⟨rb,hrb⟩:=zeq (w1.heap.size)
 rw [← hab] at k1
 rw [← hrb] at k2
 have HA:=zhz hab
 have HR:=zhz hrb
 have HSZ:=zhz (show w.heap.size≤ab∧ab<rb∧rb<w2.heap.size from by rw [hrb,hab,s2,s1];omega)
 obtain ⟨w3,e3,h3,f3⟩:=((h.keep b1).keep b2).setAc true
 have H3:=zhz h3
 have F3:=zhz (show Fr (fun k=>k=s) w w3 from ((Fr.of_below (show Below w.heap.size w w2 from b1.trans (b2.mono b1.size))).mono (fun k (hk:False)=>hk.elim)).trans f3)
 have K1:=zhz ((k1.keep b2).fr f3 (fun e=>by have h1:=HLT.out.2;have h2:=HSZ.out;omega))
 have K2:=zhz (k2.fr f3 (fun e=>by have h1:=HLT.out.2;have h2:=HSZ.out;omega))
 have kA:=((h.keep b1).keep b2).cA
 have kw:=((h.keep b1).keep b2).wr
 have kr:=K1.out.rd
 have u4:(kd==4)=false:=by simpa using hk4
 have HCN:=zhz hcn
 have HZ3:=zhz f3.size
 clear h k1 k2 b1 b2 s1 s2 h3 f3 hcn hk4
 go_enter_defers Tryz.func20,Tryz.ntmps20
 go_upto_region 1 with (fail)
 rw [← HR.out,← HA.out]
 clear hw1 hab hrb
 go_upto_region 10 with (fail)
 try rw [e3]
 clear hw2 e3 kA kw u4 kr
 have N0:=zhz (show Below w3.heap.size w3 w3.drew from zaa (Below.refl _ _) 1)
 have CRd:=zhz (fun wx (hx:Sv wx s { c with ac:=true })=>zby ck wx hx)
 have st:=(K1.out.keep N0.out).rd
 refine wp_region_held_drew (S:=fun wx=>∀ j,wx.cell? ⟨ab,j,none⟩=(actC kd ck cn dat n sed)[j]?) (by kernel_rfl) st (fun hHeld=>?_)
 clear st
 refine wR 0 ?_ (hQ:=by exact putD (fn:=Tryz.f20) rfl (by decide))
 refine wR 1 ?_ (hQ:=by exact putD (fn:=Tryz.f20) rfl (by decide))
 refine wR 2 ?_ (hQ:=by exact putD (fn:=Tryz.f20) rfl (by decide))
 refine wR 3 ?_ (hQ:=by exact putD (fn:=Tryz.f20) rfl (by decide))
 refine wR 4 ?_ (hQ:=by exact putD (fn:=Tryz.f20) rfl (by decide))
 refine wC 5 fun K hK=>?_
 go_simp
 ((with_reducible refine (CRd.out _ (H3.out.keep N0.out)).mono ?_);rintro v w4 ⟨rfl,h4,f4⟩;have H4:=zhz h4;have K4:=zhz ((K1.out.keep N0.out).fr f4 (fun e=>by have h1:=HLT.out.2;have h2:=HSZ.out;omega));have R4:=zhz ((K2.out.keep N0.out).fr f4 (fun e=>by have h1:=HLT.out.2;have h2:=HSZ.out;omega));have F4:=zhz (show Fr (fun k=>k=s) w w4 from F3.out.trans (((Fr.of_below N0.out).mono (fun k (hk:False)=>hk.elim)).trans f4));clear h4 f4)
 refine hK.out _ _ K4.out.rd fun hHeld=>?_
 clear hK K
 try simp only [Act.put,zs1,zs2,zs3]
 refine wpAnyH_done (by kernel_rfl) ?_ _
 clear hHeld CRd K1 K2
 have kr:=K4.out.rd
 have CCn:=zhz (HCN.out w4 _ H4.out rfl)
 have kz:=R4.out.rd
 have kzw:=R4.out.wr
 go_wp2_with (go_at_call 23;((with_reducible refine CCn.out.mono ?_);rintro v w5 ⟨rfl,rfl⟩))
 rw [zaj R4.out]
 have fe:=Fr.setObj (F:=fun k=>k=rb) (Fr.refl _ w4) rfl (.cells #[.int .i64 1,.int .i64 0,.slice none 0 0,.slice none 0 0] 46 (0,0))
 have k7:Blk (setObj w4 rb (.cells #[.int .i64 1,.int .i64 0,.slice none 0 0,.slice none 0 0] 46 (0,0))) rb 46 #[.int .i64 1,.int .i64 0,.slice none 0 0,.slice none 0 0]:=zab (lt_of_block R4.out) _
 generalize setObj w4 rb (.cells #[.int .i64 1,.int .i64 0,.slice none 0 0,.slice none 0 0] 46 (0,0))=w7 at fe k7 ⊢
 have H7:=H4.out.fr fe (fun e=>by have h1:=HLT.out.2;have h2:=HSZ.out;omega)
 refine leaves_cons (f:=46) (args:=#[.pointer (some ⟨s,0,none⟩)]) (by simp) (by simp [go_sem]) ?_
 refine (zbx .returning _ H7).mono ?_
 rintro e u' w8 ⟨rfl,rfl,h8,f8⟩
 refine ⟨_,results_cell_row rfl _ _ rb _ _ (0,0) _ rfl (Blk.fr k7 f8 (fun e=>by have h1:=HLT.out.2;have h2:=HSZ.out;omega)) Tryz.underlying46 rfl (by kernel_rfl),rfl,h8,?_⟩
 exact Fr.drop_new (F:=fun k=>k=s) (s:=rb) ((F4.out.mono (fun k hk=>Or.inl hk)).trans ((fe.mono (fun k hk=>Or.inr hk)).trans (f8.mono (fun k hk=>Or.inl hk)))) (by have h2:=HSZ.out;omega)
end
end Go.Proofs.YtannniobeanhlaaGreat
