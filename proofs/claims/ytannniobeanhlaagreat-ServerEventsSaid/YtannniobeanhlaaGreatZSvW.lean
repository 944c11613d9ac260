import Derived.Test.YtannniobeanhlaaGreatZSvH
import Derived.Test.YtannniobeanhlaaGreatCnH
import Derived.Test.YtannniobeanhlaaGreatZFaL
import Derived.Test.YtannniobeanhlaaGreatAcL
import Derived.Test.YtannniobeanhlaaGreatEvK
set_option linter.unusedSimpArgs false
set_option linter.unusedVariables false
set_option maxRecDepth 100000
set_option maxHeartbeats 9000000
namespace Go.Proofs.YtannniobeanhlaaGreat
section
open Go.ChangeShapes Go.WideShapes Go.ChangeAt Go.RowKit
open Ar (inR)
theorem zg3 (op ru co k t:Int) (ky:ByteArray) (h:op=1∨op=2∨op=3) (w:World) :
  Calls Tryz.prog 68 #[reqV op ru co ky k,.int .i64 t] w fun e w'=>e=.returned (.int .i64 (if op=3 then 46 else 22))∧Below w.heap.size w w':=by
 have BOX:=zad w (reqC op ru co ky k) 76
 rcases h with rfl | rfl | rfl
 all_goals
   go_enter Tryz.func68,Tryz.ntmps68
   go_upto_region 1 with (fail)
   obtain ⟨w1,hw1,hbk,hbl,hsz1⟩:=BOX
   change Code.wp _ _ _ _ (w.alloc _)
   rw [hw1]
   obtain ⟨b0,hb0⟩:=zeq (w.heap.size)
   rw [← hb0] at hbk ⊢
   have k0:=hbk.rd
   have BL:=zhz hbl
   clear hbk hbl hsz1 hw1 hb0
   go_wp2
   go_ret
   exact ⟨rfl,BL.out⟩
theorem zeh (ru co k t m:Int) (ky:ByteArray) (hk:0≤k∧k≤255) (ht:1≤t∧t≤64) (hm:m=max 1 (min k t)) (w:World) :
  Calls Tryz.prog 68 #[reqV 4 ru co ky k,.int .i64 t] w fun e w'=>e=.returned (.int .i64 (7+81*m))∧Below w.heap.size w w':=by
 have hmb:1≤m∧m≤64:=by omega
 have e1:IntKind.i64.wrap (81*m)=81*m:=by rw [IntKind.wrap_i64];omega
 have HM:=zhz hm
 go_enter Tryz.func68,Tryz.ntmps68
 go_upto_region 1 with (fail)
 obtain ⟨w1,hw1,hbk,hbl,hsz1⟩:=zad w (reqC 4 ru co ky k) 76
 change Code.wp _ _ _ _ (w.alloc (.cells (reqC 4 ru co ky k) 76))
 rw [hw1]
 obtain ⟨b0,hb0⟩:=zeq (w.heap.size)
 rw [← hb0] at hbk ⊢
 have k0:=hbk.rd
 have BL:=zhz hbl
 clear hbk hbl hsz1 hw1 hb0 hm
 by_cases h1:t<k
 ·have f1:(t<k)=True:=eq_true h1
  have e2:m=t:=by have:=HM.out;omega
  subst e2
  by_cases h2:1<m
  ·have f2:(1<m)=True:=eq_true h2
   clear h1 h2
   go_wp2
   all_goals
     go_ret
     exact ⟨zau (by first | omega | (have:=HM.out;omega)),BL.out⟩
  ·have e3:m=1:=by omega
   subst e3
   clear h1 h2
   go_wp2
   all_goals
     go_ret
     exact ⟨zau (by first | omega | (have:=HM.out;omega)),BL.out⟩
 ·have f1:(t<k)=False:=eq_false h1
  by_cases h2:1<k
  ·have e2:m=k:=by have:=HM.out;omega
   have f2:(1<k)=True:=eq_true h2
   subst e2
   clear h1 h2
   go_wp2
   all_goals
     go_ret
     exact ⟨zau (by first | omega | (have:=HM.out;omega)),BL.out⟩
  ·have e2:m=1:=by have:=HM.out;omega
   have f2:(1<k)=False:=eq_false h2
   subst e2
   clear h1 h2
   go_wp2
   all_goals
     go_ret
     exact ⟨zau (by first | omega | (have:=HM.out;omega)),BL.out⟩
def largeZ (q:Req) (t:Int):Int:=if q.op=3 then 46 else if q.op=4 then 7+81*max 1 (min q.k t) else 22
theorem zlF (q:Req) (rules t:Int) (hq:okQ rules q) (ht:1≤t∧t≤64) (w:World) :
  Calls Tryz.prog 68 #[rqV q,.int .i64 t] w fun e w'=>e=.returned (.int .i64 (largeZ q t))∧Below w.heap.size w w':=by
 have hr:=hq.1
 have ho:1≤q.op∧q.op≤4:=by unfold rightP at hr;omega
 by_cases h4:q.op=4
 ·have hk:0≤q.k∧q.k≤255:=by unfold rightP at hr;omega
  have:=zeh q.rule q.cost q.k t (max 1 (min q.k t)) (strOfNums q.key) hk ht rfl w
  have e:largeZ q t=7+81*max 1 (min q.k t):=by unfold largeZ;rw [if_neg (by omega),if_pos h4]
  rw [e]
  show Calls _ _ #[reqV q.op _ _ _ _,_] _ _
  rw [h4]
  exact this
 ·have:=zg3 q.op q.rule q.cost q.k t (strOfNums q.key) (by omega) w
  have e:largeZ q t=(if q.op=3 then 46 else 22):=by unfold largeZ;rw [if_neg h4]
  rw [e]
  exact this
section
variable {w w' W:World} {s base:Nat} {c:SvC}
def SvC.held (c:SvC) (win:Int):Int:=if c.rs then max 0 (clamp (c.first+win) - c.now) else 0
theorem zhA (win:Int) (hn:0≤c.now∧c.now≤9223372036854775807) (hf:0≤c.first∧c.first≤9223372036854775807) (hw:0≤win∧win≤9223372036854775807) (w:World) (h:Sv w s c) :
  Calls Tryz.prog 33 #[.pointer (some ⟨s,0,none⟩),.int .i64 win] w fun e w'=>e=.returned (.int .i64 (c.held win))∧Below w.heap.size w w':=by
 have c0:=h.c0
 have c1:=h.c1
 have c3:=h.c3
 clear h
 cases hrs:c.rs with
 | false =>
  have e:c.held win=0:=by unfold SvC.held;rw [hrs];rfl
  rw [e]
  rw [hrs] at c3
  clear e hrs
  go_enter Tryz.func33,Tryz.ntmps33
  go_wp2
  go_ret
  exact ⟨rfl,Below.refl _ _⟩
 | true =>
  rw [hrs] at c3
  have hc:inR (clamp (c.first+win)):=by unfold inR clamp;split <;> (try split) <;> omega
  obtain ⟨sm,hs⟩:=zeq (clamp (c.first+win))
  have cs:=fun w=>zaS c.first win (by unfold inR;omega) (by unfold inR;omega) w
  rw [← hs] at cs hc
  have e:c.held win=max 0 (sm - c.now):=by unfold SvC.held;rw [hrs,hs];rfl
  rw [e]
  have CS:=zhz cs
  have hlo:0≤sm:=by rw [hs];unfold clamp;split <;> (try split) <;> omega
  unfold inR at hc
  obtain ⟨nw,hnw⟩:=zeq (c.now)
  obtain ⟨fi,hfi⟩:=zeq (c.first)
  rw [← hnw] at c0 hn ⊢
  rw [← hfi] at c1 CS
  clear cs hs e hnw hfi hrs hf
  go_enter Tryz.func33,Tryz.ntmps33
  go_wp2
  go_quiet ((go_at_call 61;exact Calls.quiet_of_same ((CS.out _).mono fun _ _ h=>⟨h.1,h.2.symm⟩)))
  go_wp2
  all_goals go_ret
  all_goals exact ⟨zau (by first | omega | (split <;> omega)),zaa (Below.refl _ _) nq⟩
end
end
section
open Go.ChangeShapes Go.WideShapes Go.ChangeAt Go.RowKit
section
variable {w w' W:World} {s base:Nat} {c:SvC} {rs:List RuZ} {Ns:List LmN} {On:Nat}
theorem zdP {q:Req} {n:Nat} (h:okQ (n:Int) q):∃ i:Nat,q.rule=(i:Int)∧i<n:=by
 have hr:=h.1
 unfold rightP at hr
 refine ⟨q.rule.toNat,?_,?_⟩
 ·rw [Int.toNat_of_nonneg (by omega)]
 ·omega
theorem SvOk.cell (h:SvOk c rs On) (hs:Sv w s c) {i:Nat} {r:RuZ} (hi:rs[i]?=some r) {j:Nat} (hj:j<9):w.cell? ⟨s,6+i*9+j,none⟩=r.c[j]?:=by
 have hil:i<rs.length:=(zgs.1 hi).1
 rw [show 6+i*9+j=6+(i*9+j) by omega]
 exact (hs.cR (by have:=h.l;omega)).trans (h.R i r hi j hj)
theorem zeS (hJ:c.J=Ns.map pcL++svZ.J.drop Ns.length) {i:Nat} {N:LmN} (hN:Ns[i]?=some N) (h8:i<8) (w:World) (h:Sv w s c) :
  Calls Tryz.prog 26 #[.pointer (some ⟨s,0,none⟩),.int .i64 (i:Int)] w fun e w'=>e=.returned (pcL N)∧w=w':=by
 refine zeT h8 ?_ w h
 have hl:i<Ns.length:=(zgs.1 hN).1
 rw [hJ,List.getElem?_append_left (by rw [List.length_map];exact hl),List.getElem?_map,hN]
 rfl
theorem zhB (q:Req) (i:Nat) (r:RuZ) (N:LmN) (hi:q.rule=(i:Int)) (hr:rs[i]?=some r) (hN:Ns[i]?=some N) (hok:SvOk c rs On) (hJ:c.J=Ns.map pcL++svZ.J.drop Ns.length) (hq:okQ (rs.length:Int) q) (w:World) (h:Sv w s c) :
  Calls Tryz.prog 208 #[.pointer (some ⟨s,0,none⟩),rqV q] w fun e w'=>e=.returned (.int .i64 (largeZ q r.Tr))∧Below w.heap.size w w':=by
 have hil:i<rs.length:=(zgs.1 hr).1
 have hi8:i<8:=by have:=hok.l;omega
 have hTr:1≤r.Tr∧r.Tr≤64:=(hok.p r (List.mem_of_getElem? hr)).2.2.2.2.2.2.2.2.1
 obtain ⟨w1,hw1,k1,b1,s1⟩:=zad w (reqC q.op q.rule q.cost (strOfNums q.key) q.k) 76
 obtain ⟨qb,hqb⟩:=zeq (w.heap.size)
 rw [← hqb] at k1
 have CR:=zhz (zeS hJ hN hi8 w1 (h.keep b1))
 have CL:=zhz (fun wx=>zlF q (rs.length:Int) r.Tr hq hTr wx)
 have ST:=zhz (fun wx (hx:Below w1.heap.size w1 wx)=>show (∀ j,wx.cell? ⟨qb,j,none⟩=(reqC q.op (i:Int) q.cost (strOfNums q.key) q.k)[j]?)∧wx.cell? ⟨s,6+i*9+7,none⟩=some (.int .i64 r.Tr) from ⟨by rw [← hi];exact (k1.keep hx).rd,(hok.cell ((h.keep b1).keep hx) hr (by omega)).trans rfl⟩)
 have HQ:=zhz hqb
 have B1:=zhz b1
 have kq:∀ j,w1.cell? ⟨qb,j,none⟩=(reqC q.op (i:Int) q.cost (strOfNums q.key) q.k)[j]?:=by rw [← hi];exact k1.rd
 obtain ⟨op,hop⟩:=zeq (q.op)
 obtain ⟨co,hco⟩:=zeq (q.cost)
 obtain ⟨ky,hky⟩:=zeq (strOfNums q.key)
 obtain ⟨kk,hkk⟩:=zeq (q.k)
 have CL2:=zhz (fun wx=>show Calls Tryz.prog 68 #[.agg #[.int .i64 op,.int .i64 (i:Int),.int .u32 co,.string ky,.int .i64 kk],.int .i64 r.Tr] wx (fun e w'=>e=.returned (.int .i64 (largeZ q r.Tr))∧Below wx.heap.size wx w') from by have:=CL.out wx;rw [show rqV q=.agg #[.int .i64 op,.int .i64 (i:Int),.int .u32 co,.string ky,.int .i64 kk] by rw [hop,hco,hky,hkk,← hi]] at this;exact this)
 have erq:rqV q=.agg #[.int .i64 op,.int .i64 (i:Int),.int .u32 co,.string ky,.int .i64 kk]:=by rw [hop,hco,hky,hkk,← hi]
 simp only [← hop,← hco,← hky,← hkk] at kq
 rw [erq]
 have hw1':w.alloc (.cells #[.int .i64 op,.int .i64 (i:Int),.int .u32 co,.string ky,.int .i64 kk] 76)=w1:=by rw [hop,hco,hky,hkk,← hi];exact hw1
 have ST2:=zhz (fun wx (hx:Below w1.heap.size w1 wx)=>show (∀ j,wx.cell? ⟨qb,j,none⟩=(#[.int .i64 op,.int .i64 (i:Int),.int .u32 co,.string ky,.int .i64 kk]:Array Value)[j]?)∧wx.cell? ⟨s,6+i*9+7,none⟩=some (.int .i64 r.Tr) from by rw [hop,hco,hky,hkk];exact ST.out wx hx)
 obtain ⟨lz,hlz⟩:=zeq (largeZ q r.Tr)
 rw [← hlz] at CL2 ⊢
 have t2:¬ (i:Int)<0:=by omega
 have t3:(i:Int)<8:=by omega
 clear hop hco hky hkk k1 b1 s1 hqb hw1 h hJ hN hok hq hr hi erq CL ST hil hTr hlz
 go_enter Tryz.func208,Tryz.ntmps208
 go_upto_region 1 with (fail)
 rw [← HQ.out]
 clear hw1'
 go_upto_region 3 with (go_at_call 26;((with_reducible refine CR.out.mono ?_);rintro v wz ⟨rfl,rfl⟩))
 clear CR kq
 have N0:=zhz (show Below w1.heap.size w1 w1.drew from zaa (Below.refl _ _) 1)
 have st:=ST2.out _ N0.out
 refine wp_region_held_drew (S:=fun wx=>(∀ j,wx.cell? ⟨qb,j,none⟩=(#[.int .i64 op,.int .i64 (i:Int),.int .u32 co,.string ky,.int .i64 kk]:Array Value)[j]?)∧wx.cell? ⟨s,6+i*9+7,none⟩=some (.int .i64 r.Tr)) (by kernel_rfl) st (fun hHeld=>?_)
 clear st
 refine wR 0 ?_
 refine wR 1 ?_
 refine wR 2 ?_
 refine wR 3 ?_
 refine wR 4 ?_
 refine wR 5 ?_
 refine wR 6 ?_
 refine wR 7 ?_
 refine wR 8 ?_
 refine wC 9 fun K hK=>?_
 go_simp
 ((with_reducible refine (CL2.out _).mono ?_);rintro v wz ⟨rfl,bz⟩;have N1:=zhz (G.below_on N0.out bz);clear bz)
 refine hK.out _ _ (ST2.out _ N1.out) fun hHeld=>?_
 clear hK K
 try simp only [Act.put,zs1,zs2,zs3]
 refine wR 10 ?_
 refine wpAnyH_done (by kernel_rfl) ?_ _
 clear hHeld
 go_wp2
 go_ret
 exact ⟨rfl,B1.out.trans (N1.out.mono B1.out.size)⟩
end
end
section
open Go.ChangeShapes Go.WideShapes Go.ChangeAt Go.RowKit
structure EvZ where
 rule:Int
 key:ByteArray
 up:Bool
 at_:Int
def encV (e:EvZ):List Value:=[.int .i64 e.rule,.string e.key,.bool e.up,.int .i64 e.at_]
theorem zbO:∀ a,(encV a).length=4:=fun _=>rfl
abbrev OwE (w:World) (base:Nat) (v:Value) (l:List EvZ):Prop:=OwR w base 101 4 encV v l
def mkE (rule now:Int) (ev:List (ByteArray × Bool)):List EvZ:=ev.map fun x=>⟨rule,x.1,x.2,now⟩
theorem zkY (now:Int):∀ ev:List (ByteArray × Bool),evL now ev=rws encV (mkE 0 now ev)
 | []=>rfl
 | x :: r=>by rw [evL,zkY now r];rfl
theorem zlQ {w:World} {base g c:Nat} {l:List EvZ} {e:EvZ} (h:w.ownsRow base 101 4 (.slice (some ⟨g,0,none⟩) (l.length+1) c) (l.length+1) (rws encV l++[.int .i64 e.rule,.string e.key,.bool e.up,.int .i64 e.at_])):OwE w base (.slice (some ⟨g,0,none⟩) (l.length+1) c) (l++[e]):=by
 unfold OwE OwR
 rw [zfB,List.length_append,List.length_singleton]
 exact h
theorem box4E (X:World) (a:Int) (k:ByteArray) (u:Bool) (d:Int):∃ w1 w2,X.alloc (.cells #[.int .i64 0,.string ⟨#[]⟩,.bool false,.int .i64 0] 101)=w1 ∧
  (∀ j,w1.cell? ⟨X.heap.size,j,none⟩=(#[.int .i64 0,.string ⟨#[]⟩,.bool false,.int .i64 0]:Array Value)[j]?)∧(∀ j,w1.frozen? ⟨X.heap.size,j,none⟩=false) ∧
  (((w1.setCell ⟨X.heap.size,0,none⟩ (.int .i64 a)).setCell ⟨X.heap.size,1,none⟩ (.string k)).setCell ⟨X.heap.size,2,none⟩ (.bool u)).setCell ⟨X.heap.size,3,none⟩ (.int .i64 d)=w2 ∧
  Below X.heap.size X w2∧Blk w2 X.heap.size 101 #[.int .i64 a,.string k,.bool u,.int .i64 d]:=by
 obtain ⟨w1,hw1,k1,b1,s1⟩:=zad X #[.int .i64 0,.string ⟨#[]⟩,.bool false,.int .i64 0] 101
 refine ⟨w1,_,hw1,k1.rd,k1.wr,rfl,?_,?_⟩
 ·rw [zaj k1]
  exact b1.trans ((Fr.setObj (F:=fun k=>k=X.heap.size) (Fr.refl _ _) rfl _).below b1.size (fun k hk=>by omega))
 ·rw [zaj k1]
  exact zab (lt_of_block k1) _
theorem set4z {w:World} {b:Nat} {t:TypeId} {c0 c1 c2 c3:Value} (h:Blk w b t #[c0,c1,c2,c3]) (v:Value) :
  ∃ w',w.setCell ⟨b,0,none⟩ v=w'∧Blk w' b t #[v,c1,c2,c3]∧Fr (fun k=>k=b) w w':=by
 have hb:=lt_of_block h
 refine ⟨_,rfl,?_,?_⟩
 ·rw [zac h]
  exact zab hb _
 ·rw [zac h]
  exact Fr.setObj (F:=fun k=>k=b) (Fr.refl _ _) rfl _
theorem zlB {F G:Nat→Prop} {a w w':World} (h:Fr F a w) (h2:Fr G w w') (hG:∀ k,G k→F k∨a.heap.size≤k):Fr F a w' :=
 ⟨h2.os.trans h.os,h2.tape.trans h.tape,h2.output.trans h.output,Nat.le_trans h.size h2.size,fun k hk hF=>(h2.block k (Nat.lt_of_lt_of_le hk h.size) (fun g=>by rcases hG k g with q | q;exact hF q;omega)).trans (h.block k hk hF)⟩
section
variable {w w' W:World} {s B:Nat} {c:SvC}
theorem zhC (rule now:Int) (v v2:Value) (L:List EvZ) (ev:List (ByteArray × Bool)) (b2:Nat) (hac:c.ac=true) (hL:L.length+ev.length≤1000000) (hB:s<B) (hev:ev.length≤1000) (w:World) (h:Sv w s { c with nt:=v }) (ho:OwE w B v L) (he:OwE w b2 v2 (mkE 0 now ev)) (hap:∀ g,v2.ownBlock=some g→¬ v.ownBlock=some g∧g≠s) (hBw:B≤w.heap.size) :
  Calls Tryz.prog 210 #[.pointer (some ⟨s,0,none⟩),.int .i64 rule,v2] w fun e w'=>e=.returned (.tuple #[])∧∃ v',Sv w' s { c with nt:=v' }∧OwE w' B v' (L++mkE rule now ev)∧Fr (fun k=>k=s∨v.ownBlock=some k) w w'∧(∀ g,v'.ownBlock=some g→v.ownBlock=some g∨w.heap.size≤g):=by
 have hel:(mkE 0 now ev).length=ev.length:=by unfold mkE;simp
 obtain ⟨A2,c2,rfl,hs1,hs2,hs3⟩:=OwR.slice he
 have HS3:=zhz hs3
 have kA:=h.cA
 have HS:=zhz h
 have HO:=zhz ho
 have HE:=zhz he
 have HAP:=zhz hap
 have HBB:=zhz (And.intro hB hBw)
 have HLL:=zhz (And.intro hL hev)
 rw [hel] at hs1 hs3 ⊢
 rw [show ({ c with nt:=v }:SvC).ac=true from hac] at kA
 obtain ⟨n,hn⟩:=zeq (ev.length)
 rw [← hn] at hs1 hs3 ⊢
 have HN:=zhz hn
 have hcp:n≤c2:=hs1
 have hmx:=hs2
 unfold maxLen at hmx
 have HEL:=zhz hel
 clear h ho he hap hB hBw hL hac hn hs1 hs2 hs3 hel hev
 go_enter Tryz.func210,Tryz.ntmps210
 go_wp2
 clear kA
 go_loopg [15] n (fun kk si wr=>∃ (i:Nat) (vc:Value),i≤n∧Hid (kk=n - i)∧si=.int .i64 (i:Int)∧Hid (Sv wr s { c with nt:=vc })∧Hid (OwE wr B vc (L++mkE rule now (ev.take i)))∧Hid (Fr (fun k=>k=s∨v.ownBlock=some k) w wr)∧Hid (∀ g,vc.ownBlock=some g→v.ownBlock=some g∨w.heap.size≤g))
 case atStart=>exact ⟨0,v,by omega,zhz rfl,rfl,HS,zhz (by rw [List.take_zero];show OwE w B v (L++[]);rw [List.append_nil];exact HO.out),zhz (Fr.refl _ _),zhz (fun g hg=>Or.inl hg)⟩
 case round =>
  obtain ⟨i,vc,hi,HKK,rfl,HSV,HOW,HF,HG⟩:=hrel
  by_cases hin:i<n
  ·have hie:i<ev.length:=by have:=HN.out;omega
   obtain ⟨g2,rfl,hgb,hgw⟩:=HS3.out (by rw [HEL.out];omega)
   obtain ⟨⟨ky,up⟩,hx⟩:∃ x,ev[i]?=some x:=⟨_,zge hie⟩
   have hme:(mkE 0 now ev)[i]?=some ⟨0,ky,up,now⟩:=by unfold mkE;rw [List.getElem?_map,hx];rfl
   have hne:¬ (g2=s∨v.ownBlock=some g2):=fun e=>by
    have h:=HAP.out g2 rfl
    rcases e with e | e
    ·exact h.2 e
    ·exact h.1 e
   have E':=zhz (OwR.fr HE.out HF.out (fun g hg=>by injection hg with hg;have hg:g2=g:=hg;rw [← hg];exact hne))
   have k0:wr.cell? ⟨g2,i*4,none⟩=some (.int .i64 0):=OwR.cell zbO E'.out hme (j:=0) (by omega)
   have k1:wr.cell? ⟨g2,i*4+1,none⟩=some (.string ky):=OwR.cell zbO E'.out hme (j:=1) (by omega)
   have k2:wr.cell? ⟨g2,i*4+2,none⟩=some (.bool up):=OwR.cell zbO E'.out hme (j:=2) (by omega)
   have k3:wr.cell? ⟨g2,i*4+3,none⟩=some (.int .i64 now):=OwR.cell zbO E'.out hme (j:=3) (by omega)
   obtain ⟨z1,z2,ez1,kz,kzw,ez2,bz,kz2⟩:=box4E wr 0 ky up now
   obtain ⟨eb,heb⟩:=zeq (wr.heap.size)
   rw [← heb] at kz2
   have HEB:=zhz heb
   have t1:(i:Int)<(n:Int):=by omega
   have HIN:=zhz hin
   have HX:=zhz hx
   have SV1:=zhz (HSV.out.keep bz)
   have OW1:=zhz (OwR.keep HOW.out bz)
   have KE1:=zhz kz2
   have BZ:=zhz bz
   clear bz kz2 heb hin hx hme hne hie hgb hgw
   go_upto_region 4 with (fail)
   rw [← HEB.out]
   clear k0 k1 k2 k3 ez1 kz kzw ez2
   obtain ⟨z3,e3,k3,f3⟩:=set4z KE1.out (.int .i64 rule)
   have KE3:=zhz k3
   have HVB:=zhz (show eb≠s∧(∀ g,vc.ownBlock=some g→B≤g∧g<eb)∧s<B from ⟨fun e=>by have h1:=HEB.out;have h2:=HSV.out.lt;omega,fun g hg=>⟨OwR.base_le HOW.out g hg,by rw [HEB.out];exact OwR.lt HOW.out g hg⟩,HBB.out.1⟩)
   have SV3:=zhz (SV1.out.fr f3 (fun e=>HVB.out.1 e.symm))
   have OW3:=zhz (OwR.fr OW1.out f3 (fun g hg e=>by have:=(HVB.out.2.1 g hg).2;omega))
   have F3:=zhz f3
   have kz:=KE1.out.rd
   have kzw:=KE1.out.wr
   clear k3 f3
   go_upto_region 5 with (fail)
   try rw [e3]
   clear e3 kz kzw
   have N0:=zhz (show Below z3.heap.size z3 z3.drew from zaa (Below.refl _ _) 1)
   have SV4:=zhz (SV3.out.keep N0.out)
   have KE4:=zhz (KE3.out.keep N0.out)
   have OW4:=zhz (OwR.keep OW3.out N0.out)
   have st:z3.drew.cell? ⟨s,103,none⟩=some vc∧(∀ j,z3.drew.cell? ⟨eb,j,none⟩=(#[.int .i64 rule,.string ky,.bool up,.int .i64 now]:Array Value)[j]?):=⟨SV4.out.cN,KE4.out.rd⟩
   obtain ⟨i0,hi0,hz0,hz1,hz2⟩:=info_parts infoEv
   have HI:=zhz (And.intro hi0 (And.intro hz0 (And.intro hz1 hz2)))
   clear hi0 hz0 hz1 hz2
   obtain ⟨l,hl⟩:=zeq (L++mkE rule now (ev.take i))
   rw [← hl] at OW4
   have HL:=zhz hl
   have HLN:=zhz (show l.length≤1000000 from by rw [hl,List.length_append];unfold mkE;rw [List.length_map];have h1:=HLL.out;have h2:=List.length_take_le i ev;have h3:=HIN.out;have h4:=HN.out;omega)
   have HSZ:=zhz (show B≤z3.heap.size∧wr.heap.size≤z3.heap.size∧eb<z3.heap.size from ⟨by have h1:=HBB.out.2;have h2:=HF.out.size;have h3:=BZ.out.size;have h4:=F3.out.size;omega,Nat.le_trans BZ.out.size F3.out.size,lt_of_block KE3.out⟩)
   clear hl
   refine Ph.start [10] (Ph.pick [fun wx=>wx.cell? ⟨s,103,none⟩=some vc∧(∀ j,wx.cell? ⟨eb,j,none⟩=(#[.int .i64 rule,.string ky,.bool up,.int .i64 now]:Array Value)[j]?),fun _=>True]) (by kernel_rfl) (Ph.pick0 st) (fun hHeld hOrd=>?_)
   clear st
   refine Ph.pR 0 0 hOrd ?_;clear hOrd;intro hOrd
   refine Ph.pR 1 0 hOrd ?_;clear hOrd;intro hOrd
   refine Ph.pR 2 0 hOrd ?_;clear hOrd;intro hOrd
   refine Ph.pR 3 0 hOrd ?_;clear hOrd;intro hOrd
   refine Ph.pR 4 0 hOrd ?_;clear hOrd;intro hOrd
   refine Ph.pR 5 0 hOrd ?_;clear hOrd;intro hOrd
   refine Ph.pC 6 0 hOrd ?_;clear hOrd;intro K hK
   go_simp
   (have A5:=zhz (show Below z3.drew.heap.size z3.drew (z3.drew.alloc (.cells #[.int .i64 rule,.string ky,.bool up,.int .i64 now] 101)) from (Below.refl _ _).alloc (Nat.le_refl _) _);have SV5:=zhz (SV4.out.keep A5.out);have KE5:=zhz (KE4.out.keep A5.out))
   refine hK.out _ _ (Ph.pick0 ⟨SV5.out.cN,KE5.out.rd⟩) fun hHeld hOrd=>?_
   clear hK K
   try simp only [Act.put,zs1,zs2,zs3] at hOrd ⊢
   refine Ph.pC 7 0 hOrd ?_;clear hOrd;intro K hK
   refine step_append_lies _ (by rfl) _ _ 44 (by rfl) B 101 i0 (.agg #[.int .i64 0,.string ⟨#[]⟩,.bool false,.int .i64 0]) 4 40 (by rfl) HI.out.1 HI.out.2.1 HI.out.2.2.1 HI.out.2.2.2 (by rfl) (by omega) vc l.length (rws encV l) (by rfl) (World.ownsRow.alloc OW4.out _) ⟨z3.drew.heap.size,0,none⟩ 1 1 [.int .i64 rule,.string ky,.bool up,.int .i64 now] (by rfl) (by rfl) (World.news_of_block (heap_alloc_new z3.drew _)) (by simp [Value.oneCell']) (by omega) (by have:=HLN.out;unfold maxLen;omega) (by have:=HLN.out;omega) (by have h1:=HSZ.out;simp;omega) _ rfl ?_;intro gl cl w11 hown11 hgr11 hat11 hlt11;have F11:=zhz (show Fr (fun j=>vc.ownBlock=some j) z3.drew w11 from ((Fr.refl _ _).alloc _).trans (G.fr_row hgr11));have SV6:=zhz (SV4.out.fr F11.out (fun e=>by have h1:=HVB.out.2.1 s e;have h2:=HVB.out.2.2;omega));have KE6:=zhz (KE4.out.fr F11.out (fun e=>by have h1:=HVB.out.2.1 eb e;omega));have O6:=zhz (zlQ (e:=⟨rule,ky,up,now⟩) hown11);have GL:=zhz (show B≤gl∧(vc.ownBlock=some gl∨wr.heap.size≤gl) from ⟨G.own_base hown11 gl rfl,by rcases hat11 with q | q;exact Or.inl q;exact Or.inr (by have h1:=HSZ.out;rw [q];simp;omega)⟩);have kz:=SV6.out.cN;have kzw:=SV6.out.wr;clear hown11 hgr11 hat11 hlt11
   refine hK.out _ _ (Ph.pick0 ⟨SV6.out.cN,KE6.out.rd⟩) fun hHeld hOrd=>?_
   clear hK K
   try simp only [Act.put,zs1,zs2,zs3] at hOrd ⊢
   refine Ph.pR 8 0 hOrd ?_;clear hOrd;intro hOrd
   refine Ph.pR 9 0 hOrd ?_;clear hOrd;intro hOrd
   refine Ph.pC 10 1 hOrd ?_;clear hOrd;intro K hK
   go_simp
   (obtain ⟨w12,e12,h12,f12⟩:=SV6.out.setNt (.slice (some ⟨gl,0,none⟩) (l.length+1) cl);(try rw [e12]);have SV7:=zhz h12;have F12:=zhz f12;clear e12 h12 f12 kz kzw)
   refine hK.out _ _ (Ph.pick1 trivial) fun hHeld hOrd=>?_
   clear hK K
   try simp only [Act.put,zs1,zs2,zs3] at hOrd ⊢
   refine Ph.done (by kernel_rfl) ?_ _
   clear hHeld hOrd
   have O7:=zhz (OwR.fr O6.out F12.out (fun g hg e=>by injection hg with hg;have hg:gl=g:=hg;have h1:=GL.out.1;have h2:=HVB.out.2.2;omega))
   have O8:=zhz (show OwE w12 B (.slice (some ⟨gl,0,none⟩) (l.length+1) cl) (L++mkE rule now (ev.take (i+1))) from by
    have hie:i<ev.length:=by have:=HN.out;have:=HIN.out;omega
    have hxe:ev[i]=(ky,up):=by have:=HX.out;rw [zge hie] at this;injection this
    have e:L++mkE rule now (ev.take (i+1))=l++[⟨rule,ky,up,now⟩]:=by
     rw [HL.out,List.take_succ_eq_append_getElem hie,hxe]
     unfold mkE
     rw [List.map_append,List.append_assoc];rfl
    rw [e];exact O7.out)
   have FX:=zhz (show Fr (fun k=>k=s∨v.ownBlock=some k) w w12 from by
    have h1:Fr (fun k=>vc.ownBlock=some k∨k=s) wr w12:=Fr.drop_new (F:=fun k=>vc.ownBlock=some k∨k=s) (s:=eb) (((Fr.of_below BZ.out).mono (fun k (hk:False)=>hk.elim)).trans ((F3.out.mono (fun k hk=>Or.inr hk)).trans (((Fr.of_below N0.out).mono (fun k (hk:False)=>hk.elim)).trans ((F11.out.mono (fun k hk=>Or.inl (Or.inl hk))).trans (F12.out.mono (fun k hk=>Or.inl (Or.inr hk))))))) (by have:=HEB.out;omega)
    exact zlB HF.out h1 (fun k hk=>by
     rcases hk with hk | hk
     ·rcases HG.out k hk with q | q
      ·exact Or.inl (Or.inr q)
      ·exact Or.inr q
     ·exact Or.inl (Or.inl hk)))
   have GX:=zhz (show ∀ g,(Value.slice (some ⟨gl,0,none⟩) (l.length+1) cl).ownBlock=some g→v.ownBlock=some g∨w.heap.size≤g from fun g hg=>by
    injection hg with hg
    have hg:gl=g:=hg
    rw [← hg]
    rcases GL.out.2 with q | q
    ·exact HG.out gl q
    ·exact Or.inr (Nat.le_trans HF.out.size q))
   have ti:(i:Int)≤1000:=by have h1:=HLL.out.2;have h2:=HIN.out;have h3:=HN.out;omega
   go_wp2
   go_roundg (n - (i+1))
   case measure=>have:=HKK.out;have:=HIN.out;omega
   case rel=>exact ⟨i+1,_,HIN.out,zhz rfl,by go_num,SV7,O8,FX,GX⟩
  ·have hie:i=n:=by omega
   subst hie
   go_wp2
   go_end0
   refine ⟨rfl,vc,HSV.out,?_,HF.out,HG.out⟩
   have:=HOW.out
   rw [HN.out,List.take_length] at this
   exact this
end
end
section
open Go.ChangeShapes Go.WideShapes Go.ChangeAt Go.RowKit
open Ar (inR)
structure HoZ where
 c:SvC
 Ss:List LmS
 evs:List EvZ
structure HoAt (w:World) (base s B:Nat) (rs:List RuZ) (Ns:List LmN) (On:Nat) (h:HoZ) (v:Value):Prop where
 sv:Sv w s { h.c with nt:=v }
 J:JdAt w base Ns h.Ss
 ev:OwE w B v h.evs
 ac:h.c.ac=true
 ok:SvOk h.c rs On
 cJ:h.c.J=Ns.map pcL++svZ.J.drop Ns.length
 nJ:∀ (i:Nat) N,Ns[i]?=some N→¬ N.all s
 sB:s<B
 JB:∀ (i:Nat) N,Ns[i]?=some N→∀ b,N.all b→b<B
 Bw:B≤w.heap.size
 nl:Ns.length=rs.length
def hoF (s:Nat) (Ns:List LmN) (v:Value) (k:Nat):Prop:=k=s∨(∃ (i:Nat) (N:LmN),Ns[i]?=some N∧N.all k)∨v.ownBlock=some k
section
variable {w w' W:World} {base s B On:Nat} {rs:List RuZ} {Ns:List LmN} {h:HoZ} {v:Value}
theorem HoAt.fr {F:Nat→Prop} (H:HoAt w base s B rs Ns On h v) (hf:Fr F w w') (hF:∀ k,hoF s Ns v k→¬ F k):HoAt w' base s B rs Ns On h v :=
 ⟨H.sv.fr hf (hF s (Or.inl rfl)),H.J.fr hf (fun i N hN b hb=>hF b (Or.inr (Or.inl ⟨i,N,hN,hb⟩))),OwR.fr H.ev hf (fun g hg=>hF g (Or.inr (Or.inr hg))),H.ac,H.ok,H.cJ,H.nJ,H.sB,H.JB,Nat.le_trans H.Bw hf.size,H.nl⟩
theorem HoAt.keep (H:HoAt w base s B rs Ns On h v) (hb:Below w.heap.size w w'):HoAt w' base s B rs Ns On h v:=H.fr (F:=fun _=>False) (Fr.of_below hb) (fun _ _=>id)
theorem HoAt.lt (H:HoAt w base s B rs Ns On h v) {k:Nat} (hk:hoF s Ns v k):k<w.heap.size:=by
 rcases hk with rfl | ⟨i,N,hN,hb⟩ | hg
 ·exact H.sv.lt
 ·exact H.J.lt hN k hb
 ·exact OwR.lt H.ev k hg
theorem JdAt.set {Ss:List LmS} (h:JdAt w base Ns Ss) {k:Nat} {N:LmN} {σ':LmS} (hN:Ns[k]?=some N) (hc:LmAt w' N σ') (hf:Fr N.all w w'):JdAt w' base Ns (Ss.set k σ'):=by
 refine ⟨by rw [List.length_set];exact h.ln,fun i M t hM ht=>?_,h.lo,h.ap⟩
 by_cases e:i=k
 ·subst e
  have hil:i<Ss.length:=by rw [← h.ln];exact (zgs.1 hN).1
  rw [List.getElem?_set_self hil] at ht
  injection ht with ht
  rw [hN] at hM
  injection hM with hM
  rw [← ht,← hM];exact hc
 ·rw [List.getElem?_set_ne (Ne.symm e)] at ht
  exact (h.at_ i M t hM ht).fr hf (h.ap i k M N e hM hN)
theorem HoAt.lim (H:HoAt w base s B rs Ns On h v) {k:Nat} {N:LmN} {σ':LmS} (hN:Ns[k]?=some N) (hc:LmAt w' N σ') (hf:Fr N.all w w'):HoAt w' base s B rs Ns On { h with Ss:=h.Ss.set k σ' } v :=
 ⟨H.sv.fr hf (H.nJ k N hN),H.J.set hN hc hf,OwR.fr H.ev hf (fun g hg hb=>by have h1:=OwR.base_le H.ev g hg;have h2:=H.JB k N hN g hb;omega),H.ac,H.ok,H.cJ,H.nJ,H.sB,H.JB,Nat.le_trans H.Bw hf.size,H.nl⟩
end
end
section
open Go.ChangeShapes Go.WideShapes Go.ChangeAt Go.RowKit
open Ar (inR)
def ansP (a:Int × Int × Int):Prop:=(1≤a.1∧a.1≤3)∧i64P a.2.1∧i64P a.2.2
section
variable {N:LmN} {s:LmS} {now m cost held:Int}
theorem zmI (h:(refZ N now held cost).2=true) (hh:0≤held∧held≤9223372036854775807):ansP (refZ N now held cost).1:=by
 unfold refZ ansP i64P at *
 split
 ·dsimp only;omega
 ·split
  ·dsimp only;omega
  ·split
   ·dsimp only;omega
   ·rename_i h1 h2 h3
    rw [if_neg h1,if_neg h2,if_neg h3] at h
    cases h
theorem zdh (h:(refZ N now held cost).2=false) (hh:0≤held):(1≤cost∧cost≤N.B)∧now<4611686018427387904∧held=0:=by
 unfold refZ at h
 split at h
 ·cases h
 ·split at h
  ·cases h
  ·split at h
   ·cases h
   ·omega
theorem LmI.wait_hi (h:LmI N s now m) (hb:LmB N) (key:ByteArray) (hc:1≤cost∧cost≤N.B):waitR N.R s.r key cost≤1152921504606846976:=by
 obtain ⟨w,hw⟩:=h.rg
 have hm:=h.m
 have hB:=h.B
 have ht:=h.t1
 have h0:=h.t0
 have hl:=hb.BL
 have hns:=hb.ns
 have hrl:=hb.RL
 have hf:=zdt (s:=key) hw h.few (c:=cost) (by omega) (by omega) (by omega)
 rcases hf with ⟨h1,h2⟩ | ⟨h1,nx,_,_,_,h2,h3,_⟩
 ·rw [h2];omega
 ·omega
theorem zhT {c:Cel} (hg:celG c N.U N.W N.B N.L now) (hc:1≤cost∧cost≤N.B):celW c N.U N.W N.B N.L now cost≤9223372036854775807:=by
 obtain ⟨hF,hS,hC,hD,hU,hW,hB,hL,ht⟩:=hg
 have f:=zbB (F:=c.1) (S:=c.2.1) (C:=c.2.2.1) (D:=c.2.2.2) (L:=N.L) (t:=now) hU.1 hW.1 hc rfl
 show waitP c.1 c.2.1 c.2.2.1 c.2.2.2 N.U N.W N.B N.L now cost≤_
 generalize waitP c.1 c.2.1 c.2.2.1 c.2.2.2 N.U N.W N.B N.L now cost=wt at *
 omega
theorem LmI.peek_p (h:LmI N s (min now 4611686018427387904) m) (hb:LmB N) (key:ByteArray) (hh:0≤held∧held≤9223372036854775807):ansP (s.peek N now held key cost):=by
 by_cases hr:(refZ N now held cost).2=true
 ·unfold LmS.peek;rw [if_pos hr];exact zmI hr hh
 ·have hr:(refZ N now held cost).2=false:=by simpa using hr
  obtain ⟨h1,h2,rfl⟩:=zdh hr hh.1
  rw [Int.min_eq_left (by omega)] at h
  have hB:=h.B
  have f:=(h.peek_ok hb key h1 h2).1
  have g:(s.peek N now 0 key cost).2.2≤9223372036854775807:=by
   unfold LmS.peek
   rw [hr]
   simp only [Bool.false_eq_true,if_false]
   cases hs:({ s with r:=⟨max s.r.t now,s.r.num,s.r.F⟩ }:LmS).resi N now key with
   | some c=>exact zhT (h.to.resi hs) h1
   | none=>have:=h.to.wait_hi hb key h1;dsimp only at this ⊢;omega
  obtain ⟨f1,f2,f3⟩:=f
  unfold ansP i64P
  rcases f1 with ⟨f1,f4⟩ | ⟨f1,f4,f5⟩
  ·omega
  ·omega
theorem LmI.check_p (h:LmI N s (min now 4611686018427387904) m) (hb:LmB N) (hm:m+2097153≤576460752303423488) (key:ByteArray) (hh:0≤held∧held≤9223372036854775807):ansP (s.check N now held key cost).2.1:=by
 by_cases hr:(refZ N now held cost).2=true
 ·unfold LmS.check;rw [if_pos hr];exact zmI hr hh
 ·have hr:(refZ N now held cost).2=false:=by simpa using hr
  obtain ⟨h1,h2,rfl⟩:=zdh hr hh.1
  rw [Int.min_eq_left (by omega)] at h
  have hB:=h.B
  have f:=h.check_ok hb hm key h1 h2
  have g:(s.check N now 0 key cost).2.1.2.2≤9223372036854775807:=by
   unfold LmS.check
   rw [hr]
   simp only [Bool.false_eq_true,if_false]
   have h2:=(h.seen key cost).adm (by omega) key
   generalize ((s.seen N now key cost).adm N now key).1=y at h2
   have hg:=h2.g
   unfold LmS.judge
   split
   ·rename_i i hi
    split
    ·show (0:Int)≤_;omega
    ·exact zhT (hg.rem (some i)) h1
   ·split
    ·show (0:Int)≤_;omega
    ·have:=h2.wait_hi hb key h1;dsimp only;omega
  obtain ⟨f1,f2,f3⟩:=f
  unfold ansP i64P
  rcases f1 with ⟨f1,f4⟩ | ⟨f1,f4,f5⟩
  ·omega
  ·omega
theorem LmI.check_any (h:LmI N s (min now 4611686018427387904) m) (hm:m+2097153≤576460752303423488) (hh:0≤held) (key:ByteArray):LmI N (s.check N now held key cost).1 (min now 4611686018427387904) (m+2097153):=by
 by_cases hr:(refZ N now held cost).2=true
 ·unfold LmS.check
  rw [if_pos hr]
  exact (h.count (by omega) _).mono ⟨Int.le_refl _,h.t0.2⟩ ⟨by omega,by omega⟩
 ·have hr:(refZ N now held cost).2=false:=by simpa using hr
  have h2:=(zdh hr hh).2.1
  rw [Int.min_eq_left (by omega)] at h ⊢
  exact h.check hm held key cost
theorem LmI.peek_any (h:LmI N s (min now 4611686018427387904) m) (hh:0≤held):LmI N (s.peeked N now held cost) (min now 4611686018427387904) m:=by
 by_cases hr:(refZ N now held cost).2=true
 ·unfold LmS.peeked
  rw [if_pos hr]
  exact h
 ·have hr:(refZ N now held cost).2=false:=by simpa using hr
  have h2:=(zdh hr hh).2.1
  rw [Int.min_eq_left (by omega)] at h ⊢
  exact h.peeked held cost
theorem zli (s:LmS) (N:LmN) (now:Int) (key:ByteArray):(s.adm N now key).2.length≤2:=by
 unfold LmS.adm
 split
 ·simp
 ·split
  ·split <;> simp
  ·simp
theorem zd3 (s:LmS) (N:LmN) (now held:Int) (key:ByteArray) (cost:Int):(s.check N now held key cost).2.2.length≤2:=by
 unfold LmS.check
 split
 ·simp
 ·exact zli _ _ _ _
theorem lmcheckT (key:ByteArray) (hs:key.size≤maxLen) (hn:0≤now∧now≤9223372036854775807) (hh:0≤held∧held≤9223372036854775807) (hc:inR cost) (w:World) (h:LmAt w N s) (hi:LmI N s (min now 4611686018427387904) m) (hm:m+2097153≤576460752303423488) :
  Calls Tryz.prog 209 #[.pointer (some ⟨N.l,0,none⟩),.int .i64 now,.int .i64 held,.string key,.int .i64 cost] w fun e w'=>∃ v,e=.returned (.tuple #[ansT (s.check N now held key cost).2.1,v]) ∧
   w'.ownsRow w.heap.size 101 4 v (s.check N now held key cost).2.2.length (evL now (s.check N now held key cost).2.2)∧LmAt w' N (s.check N now held key cost).1∧Fr N.all w w':=by
 have hmm:=hi.m
 refine zfe now held key cost hs (by unfold inR;omega) (by unfold inR;omega) hc w h ⟨by have:=hi.al;omega,by have:=hi.de;omega,by have:=hi.ba;omega⟩ (fun hr=>?_)
 have h2:=(zdh hr hh.1).2.1
 rw [Int.min_eq_left (by omega)] at hi
 refine ⟨(hi.seen key cost).g,fun x hx=>?_,((hi.seen key cost).adm (by omega) key).g⟩
 have:=h.keys x hx
 unfold maxLen
 omega
theorem lmpeekT (key:ByteArray) (hs:key.size≤maxLen) (hn:0≤now∧now≤9223372036854775807) (hh:0≤held∧held≤9223372036854775807) (hc:inR cost) (w:World) (h:LmAt w N s) (hi:LmI N s (min now 4611686018427387904) m) :
  Calls Tryz.prog 212 #[.pointer (some ⟨N.l,0,none⟩),.int .i64 now,.int .i64 held,.string key,.int .i64 cost] w fun e w'=>e=.returned (ansT (s.peek N now held key cost))∧LmAt w' N (s.peeked N now held cost)∧Fr N.parts w w':=by
 refine zg8 now held key cost hs (by unfold inR;omega) (by unfold inR;omega) hc w h (fun hr=>?_)
 have h2:=(zdh hr hh.1).2.1
 rw [Int.min_eq_left (by omega)] at hi
 exact ⟨hi.to.g,fun c hc=>hi.to.resi hc⟩
theorem LmAt.tracked {w:World} (h:LmAt w N s):(∀ x ∈ s.M,x.1.size≤64∧i64P x.2.1∧i64P x.2.2)∧i64P s.tot∧(1≤N.S.N.n∧N.S.N.n≤64):=by
 obtain ⟨L,σ,g,e⟩:=h.hm
 have ht:=g.ok.tb
 rw [← e]
 refine ⟨fun x hx=>?_,by unfold i64P;omega,g.n1⟩
 obtain ⟨y,hy,rfl⟩:=List.mem_map.1 hx
 have hb:=g.ok.bd y hy
 have hk:=g.ok.key y hy
 refine ⟨(g.ix.uni.2.1 _ _ hk).2,?_,?_⟩
 ·show i64P y.n
  unfold i64P;omega
 ·show i64P y.e
  unfold i64P;omega
theorem LmAt.len_bd {w:World} (h:LmAt w N s):i64P (s.len N):=by
 have:=h.hp.n1
 unfold LmS.len i64P
 omega
end
def triC (x:Tri):CV:=⟨x.1,x.2.1,x.2.2⟩
def ansQ (N:LmN) (now held:Int) (s:LmS) (q:Req):List Int :=
 if q.op=1 then frmZ (ansZ 1 (s.check N now held (strOfNums q.key) q.cost).2.1.1 (s.check N now held (strOfNums q.key) q.cost).2.1.2.1 (s.check N now held (strOfNums q.key) q.cost).2.1.2.2)
 else if q.op=2 then frmZ (ansZ 2 (s.peek N now held (strOfNums q.key) q.cost).1 (s.peek N now held (strOfNums q.key) q.cost).2.1 (s.peek N now held (strOfNums q.key) q.cost).2.2)
 else if q.op=3 then frmZ (totZ q.rule s.al s.de s.ba (s.len N) s.tot)
 else frmZ (topZ q.rule (zs ((s.M.take (topN q.k N.S.N.n)).map triC)))
def nxQ (N:LmN) (now held:Int) (s:LmS) (q:Req):LmS :=
 if q.op=1 then (s.check N now held (strOfNums q.key) q.cost).1 else if q.op=2 then s.peeked N now held q.cost else s
def evQ (N:LmN) (now held:Int) (s:LmS) (q:Req):List (ByteArray × Bool) :=
 if q.op=1 then (s.check N now held (strOfNums q.key) q.cost).2.2 else []
end
section
open Go.ChangeShapes Go.WideShapes Go.ChangeAt Go.RowKit
open Ar (inR)
section
variable {w w' W:World} {base s B On:Nat} {rs:List RuZ} {Ns:List LmN} {h:HoZ} {v:Value}
theorem zjH {B n c:Nat} {w:World} {A:Option Addr} {L:List Tri} (h:RdT B w A n c L):CvAt w A c (L.map triC):=by
 refine ⟨by rw [List.length_map,h.len];exact h.cap,h.max,fun hn=>?_⟩
 rw [List.length_map,h.len] at hn
 obtain ⟨g,C,h1,h2,h3,h4⟩:=h.at_ hn
 refine ⟨g,0,h1,lt_of_block h3,fun j hj i hi=>?_⟩
 rw [List.length_map] at hj
 obtain ⟨c0,c1,c2⟩:=h4 j L[j] (zge hj)
 rw [List.getElem_map,h3.rd,Nat.zero_add]
 match i,hi with
 | 0,_=>exact c0
 | 1,_=>exact c1
 | 2,_=>exact c2
theorem HoAt.note (H:HoAt w base s B rs Ns On h v) {v':Value} {l:List EvZ} (hs:Sv w' s { h.c with nt:=v' }) (ho:OwE w' B v' l) (hf:Fr (fun k=>k=s∨v.ownBlock=some k) w w'):HoAt w' base s B rs Ns On { h with evs:=l } v' :=
 ⟨hs,H.J.fr hf (fun i N hN b hb hh=>by
  rcases hh with rfl | hh
  ·exact H.nJ i N hN hb
  ·have h1:=OwR.base_le H.ev b hh
   have h2:=H.JB i N hN b hb
   omega),ho,H.ac,H.ok,H.cJ,H.nJ,H.sB,H.JB,Nat.le_trans H.Bw hf.size,H.nl⟩
theorem ziy (a b:Int) (ev:List (ByteArray × Bool)):(mkE a b ev).length=ev.length:=by unfold mkE;simp
theorem zmB {b n:Nat} {vv:Value} {now:Int} {ev:List (ByteArray × Bool)} (h:w.ownsRow b 101 4 vv ev.length (evL now ev)):OwE w b vv (mkE 0 now ev):=by
 unfold OwE OwR
 rw [ziy,← zkY]
 exact h
theorem zeN (q:Req) (i:Nat) (r:RuZ) (N:LmN) (σ:LmS) (m:Int) (hi:q.rule=(i:Int)) (hr:rs[i]?=some r) (hN:Ns[i]?=some N) (hσ:h.Ss[i]?=some σ) (hq:okQ (rs.length:Int) q)
  (hI:LmI N σ (min h.c.now 4611686018427387904) m) (hb:LmB N) (hm:m+2097153≤576460752303423488) (hE:h.evs.length+2≤1000000) (hn:0≤h.c.now∧h.c.now≤9223372036854775807) (hf:0≤h.c.first∧h.c.first≤9223372036854775807) (w:World) (H:HoAt w base s B rs Ns On h v) :
  Calls Tryz.prog 207 #[.pointer (some ⟨s,0,none⟩),rqV q] w fun e w'=>∃ v1 vr,e=.returned vr∧Own w' w.heap.size vr (ansQ N h.c.now (h.c.held r.W) σ q)∧HoAt w' base s B rs Ns On ⟨h.c,h.Ss.set i (nxQ N h.c.now (h.c.held r.W) σ q),h.evs++mkE (i:Int) h.c.now (evQ N h.c.now (h.c.held r.W) σ q)⟩ v1∧Fr (hoF s Ns v) w w'∧(∀ g,v1.ownBlock=some g→v.ownBlock=some g∨w.heap.size≤g):=by
 have hil:i<rs.length:=(zgs.1 hr).1
 have hi8:i<8:=by have:=H.ok.l;omega
 have hrp:=H.ok.p r (List.mem_of_getElem? hr)
 have hW:1≤r.W∧r.W≤1099511627776:=by unfold RuZ.p ruleP at hrp;omega
 have hop:q.op=1∨q.op=2∨q.op=3∨q.op=4:=by have:=hq.1;unfold rightP at this;omega
 have hk:0≤q.k∧q.k≤255:=by have:=hq.1;unfold rightP at this;omega
 have hky:(strOfNums q.key).size≤maxLen:=by have h1:=zgD q.key;have h2:=ziH hq;unfold maxLen;omega
 have hco:=hq.2.1
 obtain ⟨hd,hhd⟩:=zeq (h.c.held r.W)
 have hhb:0≤hd∧hd≤9223372036854775807:=by
  rw [hhd]
  unfold SvC.held clamp
  split
  ·split <;> (try split) <;> omega
  ·omega
 have eq1:h.Ss.set i σ=h.Ss:=by
  obtain ⟨h1,h2⟩:=zgs.1 hσ
  rw [← h2];exact List.set_getElem_self h1
 obtain ⟨nw,hnw⟩:=zeq (h.c.now)
 have CH:=zhz (fun wx (hx:Sv wx s { h.c with nt:=v })=>show Calls Tryz.prog 33 #[.pointer (some ⟨s,0,none⟩),.int .i64 r.W] wx (fun e w'=>e=.returned (.int .i64 hd)∧Below wx.heap.size wx w') from by rw [hhd];exact zhA (c:={ h.c with nt:=v }) r.W hn hf (by omega) wx hx)
 have CN:=zhz (fun wx (hx:Sv wx s { h.c with nt:=v })=>show Calls Tryz.prog 22 #[.pointer (some ⟨s,0,none⟩)] wx (fun e w'=>e=.returned (.int .i64 nw)∧wx=w') from by rw [hnw];exact zcS (c:={ h.c with nt:=v }) wx hx)
 rw [← hhd,← hnw]
 rw [← hnw] at hI hn
 have HNW:=zhz hnw
 obtain ⟨w1,hw1,k1,b1,s1⟩:=zad w (rqA q) 76
 obtain ⟨qb,hqb⟩:=zeq (w.heap.size)
 rw [← hqb] at k1
 have H1:=zhz (H.keep b1)
 have CR:=zhz (zeS (c:={ h.c with nt:=v }) H.cJ hN hi8 w1 H1.out.sv)
 have HQ:=zhz hqb
 have HH:=zhz H
 have B1:=zhz b1
 have HK:=zhz (And.intro hhb (And.intro hn hW))
 have HI:=zhz hI
 have HQQ:=zhz hq
 have HN:=zhz hN
 have HB:=zhz hb
 have HKY:=zhz hky
 have HKK:=zhz hk
 have HS:=zhz hσ
 have HEQ:=zhz eq1
 have ew:IntKind.i64.wrap q.cost=q.cost:=by rw [IntKind.wrap_i64];omega
 have HCO:=zhz (show inR q.cost from by unfold inR;omega)
 obtain ⟨op,hope⟩:=zeq (q.op)
 obtain ⟨co,hcoe⟩:=zeq (q.cost)
 obtain ⟨ky,hkye⟩:=zeq (strOfNums q.key)
 obtain ⟨kk,hkke⟩:=zeq (q.k)
 have ST:=zhz (fun wx (hx:Below w1.heap.size w1 wx)=>show (∀ j,wx.cell? ⟨qb,j,none⟩=(#[.int .i64 op,.int .i64 (i:Int),.int .u32 co,.string ky,.int .i64 kk]:Array Value)[j]?)∧wx.cell? ⟨s,6+i*9+1,none⟩=some (.int .i64 r.W) from ⟨by rw [hope,hcoe,hkye,hkke,← hi];exact (k1.keep hx).rd,(SvOk.cell (c:={ h.c with nt:=v }) (rs:=rs) (On:=On) ⟨H.ok.o,H.ok.m,H.ok.on,H.ok.l,H.ok.p,H.ok.R⟩ (H1.out.sv.keep hx) hr (by omega)).trans rfl⟩)
 have KB:=zhz (show Blk w1 qb 76 #[.int .i64 op,.int .i64 (i:Int),.int .u32 co,.string ky,.int .i64 kk] from by rw [hope,hcoe,hkye,hkke,← hi];exact k1)
 have erq:rqV q=.agg #[.int .i64 op,.int .i64 (i:Int),.int .u32 co,.string ky,.int .i64 kk]:=by rw [hope,hcoe,hkye,hkke,← hi]
 have kq:∀ j,w1.cell? ⟨qb,j,none⟩=(#[.int .i64 op,.int .i64 (i:Int),.int .u32 co,.string ky,.int .i64 kk]:Array Value)[j]?:=by rw [hope,hcoe,hkye,hkke,← hi];exact k1.rd
 have hw1':w.alloc (.cells #[.int .i64 op,.int .i64 (i:Int),.int .u32 co,.string ky,.int .i64 kk] 76)=w1:=by rw [hope,hcoe,hkye,hkke,← hi];exact hw1
 rw [erq]
 rw [← hcoe] at ew HCO
 rw [← hope] at hop
 rw [← hkye] at HKY
 rw [← hkke] at HKK
 obtain ⟨zs,hzs⟩:=zeq (ansQ N nw hd σ q)
 obtain ⟨σ',hσ'⟩:=zeq (nxQ N nw hd σ q)
 obtain ⟨ev,hev⟩:=zeq (evQ N nw hd σ q)
 rw [← hzs,← hσ',← hev]
 unfold ansQ at hzs
 unfold nxQ at hσ'
 unfold evQ at hev
 rw [← hope,← hcoe,← hkye,← hkke,hi] at hzs
 rw [← hope,← hcoe,← hkye] at hσ' hev
 have HZ:=zhz hzs
 have HS':=zhz hσ'
 have HEV:=zhz hev
 have HIB:=zhz (show 0≤(i:Int)∧(i:Int)≤255 from by omega)
 have t2:¬ (i:Int)<0:=by omega
 have t3:(i:Int)<8:=by omega
 have HCAP:=zhz (And.intro hm hE)
 clear hope hcoe hkye hkke k1 b1 s1 hqb hw1 H hN hq hr hi erq hil hzs hσ' hev hm hE hI hb hk hσ eq1 hhd hnw hn hf hW hhb hco hrp hky
 go_enter Tryz.func207,Tryz.ntmps207
 go_upto_region 1 with (fail)
 rw [← HQ.out]
 clear hw1'
 go_upto_region 4 with (go_at_call 26;((with_reducible refine CR.out.mono ?_);rintro e' wz ⟨rfl,rfl⟩))
 clear CR kq
 have N0:=zhz (show Below w1.heap.size w1 w1.drew from zaa (Below.refl _ _) 1)
 have st:=ST.out _ N0.out
 refine wp_region_held_drew (S:=fun wx=>(∀ j,wx.cell? ⟨qb,j,none⟩=(#[.int .i64 op,.int .i64 (i:Int),.int .u32 co,.string ky,.int .i64 kk]:Array Value)[j]?)∧wx.cell? ⟨s,6+i*9+1,none⟩=some (.int .i64 r.W)) (by kernel_rfl) st (fun hHeld=>?_)
 clear st
 refine wR 0 ?_
 refine wR 1 ?_
 refine wR 2 ?_
 refine wR 4 ?_
 refine wR 5 ?_
 refine wR 6 ?_
 refine wR 7 ?_
 refine wR 8 ?_
 refine wR 9 ?_
 refine wR 10 ?_
 refine wR 11 ?_
 refine wR 12 ?_
 refine wR 13 ?_
 refine wR 14 ?_
 refine wC 3 fun K hK=>?_
 go_simp
 ((with_reducible refine (CN.out _ (H1.out.keep N0.out).sv).mono ?_);rintro e' wz ⟨rfl,rfl⟩)
 refine hK.out _ _ (ST.out _ N0.out) fun hHeld=>?_
 clear hK K
 try simp only [Act.put,zs1,zs2,zs3]
 refine wC 15 fun K hK=>?_
 go_simp
 ((with_reducible refine (CH.out _ (H1.out.keep N0.out).sv).mono ?_);rintro e' w2 ⟨rfl,bz⟩;have N1:=zhz (G.below_on N0.out bz);clear bz)
 refine hK.out _ _ (ST.out _ N1.out) fun hHeld=>?_
 clear hK K
 try simp only [Act.put,zs1,zs2,zs3]
 refine wR 16 ?_
 refine wR 17 ?_
 refine wpAnyH_done (by kernel_rfl) ?_ _
 clear hHeld
 have H2:=zhz (H1.out.keep N1.out)
 have kq:=(ST.out _ N1.out).1
 have B2:=zhz (show Below w.heap.size w w2 from B1.out.trans (N1.out.mono B1.out.size))
 have L2:=zhz (H2.out.J.at_ i N σ HN.out HS.out)
 rcases hop with rfl | rfl | rfl | rfl
 ·as_aux_lemma =>
   obtain ⟨⟨cv,cr,ct⟩,ha⟩:∃ a,a=(σ.check N nw hd ky co).2.1:=⟨_,rfl⟩
   have c0:=lmcheckT (now:=nw) (held:=hd) (cost:=co) ky HKY.out HK.out.2.1 HK.out.1 HCO.out w2 L2.out HI.out HCAP.out.1
   have a0:=HI.out.check_p HB.out HCAP.out.1 ky HK.out.1 (cost:=co)
   have hev:(σ.check N nw hd ky co).2.2=ev:=by rw [HEV.out,if_pos rfl]
   have hs':(σ.check N nw hd ky co).1=σ':=by rw [HS'.out,if_pos rfl]
   have hzs:=HZ.out
   rw [if_pos rfl] at hzs
   have HEL:=zhz (show ev.length≤2 from by rw [← hev];exact zd3 _ _ _ _ _ _)
   rw [hev,hs',← ha] at c0
   rw [← ha] at a0 hzs
   dsimp only at hzs
   have CC:=zhz c0
   have AP:=zhz a0
   have HZ2:=zhz hzs
   have HLT:=zhz (show ∀ k,hoF s Ns v k→k<w.heap.size from fun k hk=>HH.out.lt hk)
   have NAL:=zhz (show ∀ k,N.all k→hoF s Ns v k from fun k hk=>Or.inr (Or.inl ⟨i,N,HN.out,hk⟩))
   have KB2:=zhz (KB.out.keep N1.out)
   clear ha c0 a0 hev hs' hzs
   go_upto_region 8 with (go_at_call 209;((with_reducible refine CC.out.mono ?_);rintro e' z1 ⟨vv,rfl,o1,a1,f1⟩;obtain ⟨x8,y8,ex8,kr8,kw8,ey8,b8,k8⟩:=boxA z1 cv cr ct;have H3:=zhz ((H2.out.lim HN.out a1 f1).keep b8);have A3:=zhz k8;have O3:=zhz (Lm.own_fr (F:=fun _=>False) o1 (Fr.of_below b8) (fun k hk=>hk.elim));have KB3:=zhz ((KB2.out.fr f1 (fun hh=>by have h1:=HLT.out _ (NAL.out _ hh);have h2:=HQ.out;omega)).keep b8);have Z3:=zhz (show w2.heap.size≤z1.heap.size∧z1.heap.size≤y8.heap.size∧Fr N.all w2 y8 from ⟨f1.size,b8.size,f1.trans (Fr.of_below b8)⟩);clear o1 a1 f1 b8 k8))
   clear CC ex8 kr8 kw8 ey8 kq
   obtain ⟨ab,hab⟩:=zeq (z1.heap.size)
   rw [← hab] at A3 Z3 ⊢
   clear hab
   have OB:=zhz (show ∀ g,vv.ownBlock=some g→w2.heap.size≤g from fun g hg=>Lm.own_base O3.out g hg)
   have VB:=zhz (show ∀ g,v.ownBlock=some g→g<w.heap.size from fun g hg=>HLT.out g (Or.inr (Or.inr hg)))
   have SB:=zhz (show s<w.heap.size from HLT.out s (Or.inl rfl))
   have CT:=zhz (zhC (c:=h.c) (i:Int) nw v vv h.evs ev w2.heap.size HH.out.ac (by have h1:=HCAP.out.2;have h2:=HEL.out;omega) HH.out.sB (by have h2:=HEL.out;omega) y8 H3.out.sv H3.out.ev (zmB (n:=0) O3.out) (fun g hg=>⟨fun hh=>by have h1:=OB.out g hg;have h2:=VB.out g hh;have h3:=B2.out.size;omega,fun e=>by have h1:=OB.out g hg;have h2:=SB.out;have h3:=B2.out.size;omega⟩) H3.out.Bw)
   have kq:=KB3.out.rd
   go_upto_region 9 with (go_at_call 210;((with_reducible refine CT.out.mono ?_);rintro e' w9 ⟨rfl,v1,s9,o9,f9,g9⟩;have F9:=zhz f9;have H9:=zhz (H3.out.note s9 o9 f9);have G9:=zhz g9;clear s9 o9 f9 g9))
   clear kq CT
   have NN:=zhz (show ¬ (qb=s∨v.ownBlock=some qb)∧¬ (ab=s∨v.ownBlock=some ab) from by
    have h2:=SB.out
    have h3:=B2.out.size
    have h4:=HQ.out
    have h5:=Z3.out.1
    refine ⟨fun hh=>?_,fun hh=>?_⟩
    ·rcases hh with hh | hh
     ·omega
     ·have:=VB.out qb hh;omega
    ·rcases hh with hh | hh
     ·omega
     ·have:=VB.out ab hh;omega)
   have kq:=(KB3.out.fr F9.out NN.out.1).rd
   have ka:=(A3.out.fr F9.out NN.out.2).rd
   have CA:=zhz (zcc 1 cv cr ct (Or.inl rfl) AP.out.1 AP.out.2.1 AP.out.2.2 w9)
   go_wp2_with (go_at_call 211;((with_reducible refine CA.out.mono ?_);rintro e' w10 ⟨vr,rfl,o10,b10⟩;have O10:=zhz (And.intro o10 b10);clear o10 b10))
   go_ret
   have hs:=O10.out.2.size
   have h9:=F9.out.size
   have h3:=Z3.out
   refine ⟨v1,vr,rfl,?_,H9.out.keep O10.out.2,?_,fun g hg=>?_⟩
   ·rw [HZ2.out]
    exact G.own_more O10.out.1 (by have:=B2.out.size;omega)
   ·exact (((Fr.of_below B2.out).mono (fun k (hk:False)=>hk.elim)).trans ((Z3.out.2.2.mono NAL.out).trans (F9.out.mono (fun k hk=>by rcases hk with rfl | hk;exact Or.inl rfl;exact Or.inr (Or.inr hk))))).trans ((Fr.of_below O10.out.2).mono (fun k (hk:False)=>hk.elim))
   ·rcases G9.out g hg with h1 | h1
    ·exact Or.inl h1
    ·right;have:=B2.out.size;omega
 ·as_aux_lemma =>
   have hev:ev=[]:=by rw [HEV.out,if_neg (by decide)]
   have hs':σ.peeked N nw hd co=σ':=by rw [HS'.out,if_neg (by decide),if_pos rfl]
   have hzs:=HZ.out
   rw [if_neg (by decide),if_pos rfl] at hzs
   obtain ⟨⟨cv,cr,ct⟩,ha⟩:∃ a,a=σ.peek N nw hd ky co:=⟨_,rfl⟩
   have a0:=HI.out.peek_p HB.out ky HK.out.1 (cost:=co)
   have PC:=zhz (fun wx (hx:LmAt wx N σ)=>show Calls Tryz.prog 212 #[.pointer (some ⟨N.l,0,none⟩),.int .i64 nw,.int .i64 hd,.string ky,.int .i64 co] wx (fun e w'=>e=.returned (ansV cv cr ct)∧LmAt w' N σ'∧Fr N.all wx w') from (lmpeekT (N:=N) (s:=σ) (now:=nw) (held:=hd) (cost:=co) ky HKY.out HK.out.2.1 HK.out.1 HCO.out wx hx HI.out).mono (fun e w' ⟨h1,h2,h3⟩=>⟨by rw [h1,← ha],by rw [← hs'];exact h2,h3.mono (fun k hk=>Or.inl hk)⟩))
   rw [← ha] at a0 hzs
   dsimp only at hzs
   have AP:=zhz a0
   have HZ2:=zhz hzs
   have HLT:=zhz (show ∀ k,hoF s Ns v k→k<w.heap.size from fun k hk=>HH.out.lt hk)
   have NAL:=zhz (show ∀ k,N.all k→hoF s Ns v k from fun k hk=>Or.inr (Or.inl ⟨i,N,HN.out,hk⟩))
   have KB2:=zhz (KB.out.keep N1.out)
   have HEV2:=zhz hev
   clear ha a0 hev hs' hzs
   go_upto_region 11 with (fail)
   clear kq
   have D2:=zhz (show Below w2.heap.size w2 w2.drew from zaa (Below.refl _ _) 1)
   have st:=(KB2.out.keep D2.out).rd
   refine wp_region_held_drew (S:=fun wx=>∀ j,wx.cell? ⟨qb,j,none⟩=(#[.int .i64 2,.int .i64 (i:Int),.int .u32 co,.string ky,.int .i64 kk]:Array Value)[j]?) (by kernel_rfl) st (fun hHeld=>?_)
   clear st
   refine wR 0 ?_
   refine wR 1 ?_
   refine wR 2 ?_
   refine wR 3 ?_
   refine wR 4 ?_
   refine wR 5 ?_
   refine wR 6 ?_
   refine wR 7 ?_
   refine wR 8 ?_
   refine wR 9 ?_
   refine wC 10 fun K hK=>?_
   go_simp
   ((with_reducible refine (PC.out _ (L2.out.keep D2.out)).mono ?_);rintro e' w3 ⟨rfl,a3,f3⟩;have H3:=zhz ((H2.out.keep D2.out).lim HN.out a3 f3);have F3:=zhz f3;have K3:=zhz ((KB2.out.keep D2.out).fr f3 (fun hh=>by have h1:=HLT.out _ (NAL.out _ hh);have h2:=HQ.out;omega));have CA:=zhz (zcc 2 cv cr ct (Or.inr rfl) AP.out.1 AP.out.2.1 AP.out.2.2 w3);clear a3 f3)
   refine hK.out _ _ (K3.out.rd) fun hHeld=>?_
   clear hK K
   try simp only [Act.put,zs1,zs2,zs3]
   refine wC 11 fun K hK=>?_
   go_simp
   ((with_reducible refine CA.out.mono ?_);rintro e' w10 ⟨vr,rfl,o10,b10⟩;have O10:=zhz (And.intro o10 b10);clear o10 b10)
   refine hK.out _ _ ((K3.out.keep O10.out.2).rd) fun hHeld=>?_
   clear hK K
   try simp only [Act.put,zs1,zs2,zs3]
   refine wR 12 ?_
   refine wpAnyH_done (by kernel_rfl) ?_ _
   clear hHeld
   go_wp2
   go_ret
   have hs:=O10.out.2.size
   have h3:=F3.out.size
   have hd2:=D2.out.size
   refine ⟨v,vr,rfl,?_,?_,?_,fun g hg=>Or.inl hg⟩
   ·rw [HZ2.out]
    exact G.own_more O10.out.1 (by have:=B2.out.size;omega)
   ·rw [HEV2.out,show mkE (i:Int) nw []=[] from rfl,List.append_nil]
    exact H3.out.keep O10.out.2
   ·exact (((Fr.of_below B2.out).trans (Fr.of_below D2.out)).mono (fun k (hk:False)=>hk.elim)).trans ((F3.out.mono NAL.out).trans ((Fr.of_below O10.out.2).mono (fun k (hk:False)=>hk.elim)))
 ·as_aux_lemma =>
   have hev:ev=[]:=by rw [HEV.out,if_neg (by decide)]
   have hs':σ=σ':=by rw [HS'.out,if_neg (by decide),if_neg (by decide)]
   have hzs:=HZ.out
   rw [if_neg (by decide),if_neg (by decide),if_pos rfl] at hzs
   have HZ2:=zhz hzs
   have HEV2:=zhz hev
   have HSE:=zhz hs'
   obtain ⟨ln,hln⟩:=zeq (σ.len N)
   have TC:=zhz (fun wx (hx:LmAt wx N σ)=>show Calls Tryz.prog 30 #[.pointer (some ⟨N.l,0,none⟩)] wx (fun e w'=>e=.returned (totV σ.al σ.de σ.ba ln σ.tot)∧Below wx.heap.size wx w') from by rw [hln];exact zen wx hx)
   rw [← hln] at HZ2
   have i1:=HI.out.m
   have i2:=HI.out.al
   have i3:=HI.out.de
   have i4:=HI.out.ba
   have CA:=zhz (fun wx=>zeW (i:Int) σ.al σ.de σ.ba ln σ.tot HIB.out (by unfold i64P;omega) (by unfold i64P;omega) (by unfold i64P;omega) (by rw [hln];exact L2.out.len_bd) L2.out.tracked.2.1 wx)
   obtain ⟨t_a,hta⟩:=zeq (σ.al)
   obtain ⟨t_d,htd⟩:=zeq (σ.de)
   obtain ⟨t_b,htb⟩:=zeq (σ.ba)
   obtain ⟨t_t,htt⟩:=zeq (σ.tot)
   rw [← hta,← htd,← htb,← htt] at CA TC HZ2
   have KB2:=zhz (KB.out.keep N1.out)
   clear hev hs' hzs hln i1 i2 i3 i4 hta htd htb htt
   go_upto_region 13 with (fail)
   clear kq
   have D2:=zhz (show Below w2.heap.size w2 w2.drew from zaa (Below.refl _ _) 1)
   have st:=(KB2.out.keep D2.out).rd
   refine wp_region_held_drew (S:=fun wx=>∀ j,wx.cell? ⟨qb,j,none⟩=(#[.int .i64 3,.int .i64 (i:Int),.int .u32 co,.string ky,.int .i64 kk]:Array Value)[j]?) (by kernel_rfl) st (fun hHeld=>?_)
   clear st
   refine wR 0 ?_
   refine wR 1 ?_
   refine wR 2 ?_
   refine wC 3 fun K hK=>?_
   go_simp
   ((with_reducible refine (TC.out _ (L2.out.keep D2.out)).mono ?_);rintro e' w3 ⟨rfl,b3⟩;have D3:=zhz (G.below_on D2.out b3);clear b3)
   refine hK.out _ _ ((KB2.out.keep D3.out).rd) fun hHeld=>?_
   clear hK K
   try simp only [Act.put,zs1,zs2,zs3]
   refine wC 4 fun K hK=>?_
   go_simp
   ((with_reducible refine (CA.out _).mono ?_);rintro e' w10 ⟨vr,rfl,o10,b10⟩;have O10:=zhz (And.intro o10 b10);clear o10 b10)
   refine hK.out _ _ (((KB2.out.keep D3.out).keep O10.out.2).rd) fun hHeld=>?_
   clear hK K
   try simp only [Act.put,zs1,zs2,zs3]
   refine wR 5 ?_
   refine wpAnyH_done (by kernel_rfl) ?_ _
   clear hHeld
   go_wp2
   go_ret
   have hs:=O10.out.2.size
   have h3:=D3.out.size
   refine ⟨v,vr,rfl,?_,?_,?_,fun g hg=>Or.inl hg⟩
   ·rw [HZ2.out]
    exact G.own_more O10.out.1 (by have:=B2.out.size;omega)
   ·rw [HEV2.out,show mkE (i:Int) nw []=[] from rfl,List.append_nil,← HSE.out,HEQ.out]
    exact (H2.out.keep D3.out).keep O10.out.2
   ·exact ((Fr.of_below B2.out).trans ((Fr.of_below D3.out).trans (Fr.of_below O10.out.2))).mono (fun k (hk:False)=>hk.elim)
 ·as_aux_lemma =>
   have hev:ev=[]:=by rw [HEV.out,if_neg (by decide)]
   have hs':σ=σ':=by rw [HS'.out,if_neg (by decide),if_neg (by decide)]
   have hzs:=HZ.out
   rw [if_neg (by decide),if_neg (by decide),if_neg (by decide)] at hzs
   have HZ2:=zhz hzs
   have HEV2:=zhz hev
   have HSE:=zhz hs'
   have TR:=zhz L2.out.tracked
   have TN:=zhz (show min (topN kk N.S.N.n) σ.M.length≤255 from by have h1:=zd0 kk TR.out.2.2.1;have h2:=TR.out.2.2.2;omega)
   obtain ⟨n,hn⟩:=zeq (min (topN kk N.S.N.n) σ.M.length)
   obtain ⟨M,hM⟩:=zeq (σ.M.take (topN kk N.S.N.n))
   have HMX:=zhz (show ∀ a ∈ M.map triC,a.okV∧a.s.size≤64 from fun a ha=>by
    obtain ⟨x,hx,rfl⟩:=List.mem_map.1 ha
    rw [hM] at hx
    obtain ⟨h1,h2,h3⟩:=TR.out.1 x (List.mem_of_mem_take hx)
    exact ⟨⟨by show x.1.size≤maxLen;unfold maxLen;omega,h2,h3⟩,h1⟩)
   have TC:=zhz (fun wx (hx:LmAt wx N σ)=>show Calls Tryz.prog 32 #[.pointer (some ⟨N.l,0,none⟩),.int .i64 kk] wx (fun e w'=>∃ A c,e=.returned (.slice A n c)∧RdT wx.heap.size w' A n c M∧Below wx.heap.size wx w') from by rw [hn,hM];exact ziv kk (by have:=HKK.out;omega) wx hx)
   rw [← hn] at TN
   rw [← hM] at HZ2
   have KB2:=zhz (KB.out.keep N1.out)
   clear hev hs' hzs hn hM
   go_upto_region 15 with (fail)
   clear kq
   have D2:=zhz (show Below w2.heap.size w2 w2.drew from zaa (Below.refl _ _) 1)
   have st:=(KB2.out.keep D2.out).rd
   refine wp_region_held_drew (S:=fun wx=>∀ j,wx.cell? ⟨qb,j,none⟩=(#[.int .i64 4,.int .i64 (i:Int),.int .u32 co,.string ky,.int .i64 kk]:Array Value)[j]?) (by kernel_rfl) st (fun hHeld=>?_)
   clear st
   refine wR 0 ?_
   refine wR 1 ?_
   refine wR 2 ?_
   refine wR 3 ?_
   refine wR 4 ?_
   refine wC 5 fun K hK=>?_
   go_simp
   ((with_reducible refine (TC.out _ (L2.out.keep D2.out)).mono ?_);rintro e' w3 ⟨A3,c3,rfl,r3,b3⟩;have D3:=zhz (G.below_on D2.out b3);have CA:=zhz (zg6 (i:Int) A3 n c3 (M.map triC) HIB.out (by rw [List.length_map];exact r3.len) TN.out w3 (zjH r3) (fun a ha=>(HMX.out a ha).1) (fun a ha=>(HMX.out a ha).2));clear b3 r3)
   refine hK.out _ _ ((KB2.out.keep D3.out).rd) fun hHeld=>?_
   clear hK K
   try simp only [Act.put,zs1,zs2,zs3]
   refine wC 6 fun K hK=>?_
   go_simp
   ((with_reducible refine CA.out.mono ?_);rintro e' w10 ⟨vr,rfl,o10,b10⟩;have O10:=zhz (And.intro o10 b10);clear o10 b10)
   refine hK.out _ _ (((KB2.out.keep D3.out).keep O10.out.2).rd) fun hHeld=>?_
   clear hK K
   try simp only [Act.put,zs1,zs2,zs3]
   refine wR 7 ?_
   refine wpAnyH_done (by kernel_rfl) ?_ _
   clear hHeld
   go_wp2
   go_ret
   have hs:=O10.out.2.size
   have h3:=D3.out.size
   refine ⟨v,vr,rfl,?_,?_,?_,fun g hg=>Or.inl hg⟩
   ·rw [HZ2.out]
    exact G.own_more O10.out.1 (by have:=B2.out.size;omega)
   ·rw [HEV2.out,show mkE (i:Int) nw []=[] from rfl,List.append_nil,← HSE.out,HEQ.out]
    exact (H2.out.keep D3.out).keep O10.out.2
   ·exact ((Fr.of_below B2.out).trans ((Fr.of_below D3.out).trans (Fr.of_below O10.out.2))).mono (fun k (hk:False)=>hk.elim)
end
end
section
open Go.ChangeShapes Go.WideShapes Go.ChangeAt Go.RowKit
open Ar (inR)
structure HoN (rs:List RuZ) (Ns:List LmN):Prop where
 nl:Ns.length=rs.length
 l:rs.length≤8
 p:∀ r ∈ rs,r.p
 B:∀ (i:Nat) N,Ns[i]?=some N→LmB N
 T:∀ (i:Nat) r N,rs[i]?=some r→Ns[i]?=some N→(N.S.N.n:Int)=r.Tr
 lr:∀ (i:Nat) r N,rs[i]?=some r→Ns[i]?=some N→∃ zs,LmR r zs N
def okT (x:Tri):Bool:=decide (x.1.size≤64∧(-9223372036854775808≤x.2.1∧x.2.1≤9223372036854775807)∧(-9223372036854775808≤x.2.2∧x.2.2≤9223372036854775807))
def ansF (N:LmN) (now held:Int) (s:LmS) (q:Req):List Int :=
 if q.op=4 then ansQ N now held { s with M:=s.M.filter okT } q else ansQ N now held s q
theorem zlk {w:World} {N:LmN} {s:LmS} (h:LmAt w N s) (now held:Int) (q:Req):ansF N now held s q=ansQ N now held s q:=by
 unfold ansF
 split
 ·rw [List.filter_eq_self.2 (fun x hx=>by
   obtain ⟨h1,h2,h3⟩:=h.tracked.1 x hx
   unfold okT
   exact decide_eq_true ⟨h1,h2,h3⟩)]
 ·rfl
theorem za0 {b:List Int} (hb:byt b):byt (frmZ b):=by
 intro z hz
 unfold frmZ at hz
 simp only [List.mem_cons,List.mem_append] at hz
 rcases hz with rfl | rfl | hz | hz
 ·omega
 ·omega
 ·rw [zmi] at hz
  simp only [List.mem_cons,List.not_mem_nil,or_false] at hz
  omega
 ·exact hb z hz
theorem zdQ {L:List Tri} (h:∀ x ∈ L,x.1.size≤64∧i64P x.2.1∧i64P x.2.2):oks (zs (L.map triC)):=by
 refine zmT (fun a ha=>?_) (fun a ha=>?_)
 ·obtain ⟨x,hx,rfl⟩:=List.mem_map.1 ha
  obtain ⟨h1,h2,h3⟩:=h x hx
  exact ⟨by show x.1.size≤maxLen;unfold maxLen;omega,h2,h3⟩
 ·obtain ⟨x,hx,rfl⟩:=List.mem_map.1 ha
  exact (h x hx).1
theorem zjA {N:LmN} {s:LmS} {q:Req} {rules:Int} {now held t:Int} (hq:okQ rules q) (hT:(N.S.N.n:Int)=t) (ht:1≤t):((ansF N now held s q).length:Int)≤largeZ q t:=by
 have hop:q.op=1∨q.op=2∨q.op=3∨q.op=4:=by have:=hq.1;unfold rightP at this;omega
 unfold ansF ansQ largeZ
 by_cases h4:q.op=4
 ·rw [if_pos h4,if_neg (by omega),if_neg (by omega),if_neg (by omega),if_neg (by omega),if_pos h4,zbt]
  have ho:oks (zs (((s.M.filter okT).take (topN q.k N.S.N.n)).map triC)):=zdQ (fun x hx=>by
   have h1:=(List.mem_filter.1 (List.mem_of_mem_take hx)).2
   unfold okT at h1
   have h2:=of_decide_eq_true h1
   exact h2)
  have hl:=zcp ho
  rw [zaZ,List.length_map,List.length_take] at hl
  have e:(topZ q.rule (zs (((s.M.filter okT).take (topN q.k N.S.N.n)).map triC))).length=3+(flat (zs (((s.M.filter okT).take (topN q.k N.S.N.n)).map triC))).length:=by
   unfold topZ;simp only [List.length_cons];omega
  dsimp only
  rw [e]
  have hm:topN q.k N.S.N.n=(max 1 (min q.k t)).toNat:=by
   unfold topN;omega
  have hk:min (topN q.k N.S.N.n) (s.M.filter okT).length≤topN q.k N.S.N.n:=Nat.min_le_left _ _
  generalize (flat (zs (((s.M.filter okT).take (topN q.k N.S.N.n)).map triC))).length=fl at *
  generalize min (topN q.k N.S.N.n) (s.M.filter okT).length=mn at *
  omega
 ·rw [if_neg h4]
  rcases hop with h | h | h | h
  ·rw [if_pos h,if_neg (by omega),if_neg (by omega),zbt,zbp];omega
  ·rw [if_neg (by omega),if_pos h,if_neg (by omega),if_neg (by omega),zbt,zbp];omega
  ·rw [if_neg (by omega),if_neg (by omega),if_pos h,if_pos h,zbt,zcb];omega
  ·exact absurd h h4
theorem zjB {w:World} {N:LmN} {s:LmS} {q:Req} {now held m:Int} {n:Nat} (hn:n≤8) (hq:okQ (n:Int) q) (h:LmAt w N s) (hI:LmI N s (min now 4611686018427387904) m) (hb:LmB N) (hm:m+2097153≤576460752303423488) (hh:0≤held∧held≤9223372036854775807):byt (ansQ N now held s q):=by
 have hr:=hq.1
 unfold rightP at hr
 unfold ansQ
 split
 ·exact za0 (ans_byt (Or.inl rfl) (hI.check_p hb hm _ hh).1)
 ·split
  ·exact za0 (ans_byt (Or.inr rfl) (hI.peek_p hb _ hh).1)
  ·split
   ·exact za0 (zfP (by omega))
   ·refine za0 (zfO (by omega) ?_ (zdQ (fun x hx=>h.tracked.1 x (List.mem_of_mem_take hx))))
    rw [zaZ,List.length_map,List.length_take]
    have h1:=zd0 q.k h.tracked.2.2.1
    have h2:=h.tracked.2.2.2
    omega
def HoZ.ans (rs:List RuZ) (Ns:List LmN) (h:HoZ) (q:Req):List Int :=
 match rs[q.rule.toNat]?,Ns[q.rule.toNat]?,h.Ss[q.rule.toNat]? with
 | some r,some N,some σ=>ansF N h.c.now (h.c.held r.W) σ q
 | _,_,_=>[]
def HoZ.nx (rs:List RuZ) (Ns:List LmN) (h:HoZ) (q:Req):HoZ :=
 match rs[q.rule.toNat]?,Ns[q.rule.toNat]?,h.Ss[q.rule.toNat]? with
 | some r,some N,some σ=>⟨h.c,h.Ss.set q.rule.toNat (nxQ N h.c.now (h.c.held r.W) σ q),h.evs++mkE (q.rule.toNat:Int) h.c.now (evQ N h.c.now (h.c.held r.W) σ q)⟩
 | _,_,_=>h
structure HoZ.bud (Ns:List LmN) (h:HoZ) (n:Nat):Prop where
 now:0≤h.c.now∧h.c.now≤9223372036854775807
 first:0≤h.c.first∧h.c.first≤9223372036854775807
 evs:h.evs.length+2*n≤1000000
 lm:∃ m:Int,m+n*2097153≤576460752303423488∧∀ (i:Nat) N σ,Ns[i]?=some N→h.Ss[i]?=some σ→LmI N σ (min h.c.now 4611686018427387904) m
theorem SvC.held_bd {c:SvC} (W:Int) (hn:0≤c.now):0≤c.held W∧c.held W≤9223372036854775807:=by
 unfold SvC.held clamp
 split
 ·split <;> (try split) <;> omega
 ·omega
theorem zlx (N:LmN) (now held:Int) (s:LmS) (q:Req):(evQ N now held s q).length≤2:=by
 unfold evQ
 split
 ·exact zd3 _ _ _ _ _ _
 ·simp
theorem LmI.nxQ {N:LmN} {s:LmS} {now held m:Int} (h:LmI N s (min now 4611686018427387904) m) (hm:m+2097153≤576460752303423488) (hh:0≤held) (q:Req):LmI N (nxQ N now held s q) (min now 4611686018427387904) (m+2097153):=by
 have hmm:=h.m
 unfold Go.Proofs.YtannniobeanhlaaGreat.nxQ
 split
 ·exact h.check_any hm hh _
 ·split
  ·exact (h.peek_any hh).mono ⟨Int.le_refl _,h.t0.2⟩ (by omega)
  ·exact h.mono ⟨Int.le_refl _,h.t0.2⟩ (by omega)
theorem HoZ.bud_nx {rs:List RuZ} {Ns:List LmN} {h:HoZ} {n:Nat} (q:Req) (hb:h.bud Ns (n+1)):(h.nx rs Ns q).bud Ns n:=by
 obtain ⟨b1,b2,b3,m,b4,b5⟩:=hb
 unfold HoZ.nx
 split
 ·rename_i r N σ hr hN hσ
  refine ⟨b1,b2,?_,m+2097153,by omega,fun i M t hM ht=>?_⟩
  ·show (h.evs++_).length+_≤_
   rw [List.length_append,ziy]
   have:=zlx N h.c.now (h.c.held r.W) σ q
   omega
  ·dsimp only at ht ⊢
   by_cases e:i=q.rule.toNat
   ·subst e
    have hl:=(zgs.1 hσ).1
    rw [List.getElem?_set_self hl] at ht
    injection ht with ht
    rw [hN] at hM
    injection hM with hM
    rw [← ht,← hM]
    exact (b5 _ _ _ hN hσ).nxQ (by omega) (SvC.held_bd _ b1.1).1 q
   ·rw [List.getElem?_set_ne (Ne.symm e)] at ht
    have h1:=b5 i M t hM ht
    exact h1.mono ⟨Int.le_refl _,h1.t0.2⟩ ⟨by omega,by omega⟩
 ·exact ⟨b1,b2,by omega,m,by omega,b5⟩
theorem HoZ.bud_le {Ns:List LmN} {h:HoZ} {n:Nat} (hb:h.bud Ns (n+1)):h.bud Ns n:=by
 obtain ⟨b1,b2,b3,m,b4,b5⟩:=hb
 exact ⟨b1,b2,by omega,m,by omega,b5⟩
noncomputable def hostS (base s B On:Nat) (rs:List RuZ) (Ns:List LmN) (hn:HoN rs Ns):HostC where
 S:=HoZ
 L:=Value
 T:=31
 pv:=.pointer (some ⟨s,0,none⟩)
 fM:=208
 fA:=207
 fS:=0
 wit:=false
 rules:=(rs.length:Int)
 At:=fun w h v=>HoAt w base s B rs Ns On h v
 F:=fun v k=>hoF s Ns v k
 most:=fun q=>match rs[q.rule.toNat]? with
  | some r=>largeZ q r.Tr
  | none=>0
 ans:=fun h q=>h.ans rs Ns q
 nx1:=fun h q=>h.nx rs Ns q
 nxt:=fun h q=>h.nx rs Ns q
 mM:=fun f w=>by kernel_rfl
 mA:=fun f w=>by kernel_rfl
 mS:=fun h=>by cases h
 eM:=fun args w=>by kernel_rfl
 eA:=fun args w=>by kernel_rfl
 eS:=fun h=>by cases h
 tA:=fun w=>run_typeAssert_lacksB Tryz.underlying242 (by kernel_rfl) (by kernel_rfl) _ _ w
 fr:=fun h hf hF=>h.fr hf hF
 lt:=fun h hk=>h.lt hk
 bud:=fun h n=>h.bud Ns n
 bud_le:=fun h=>HoZ.bud_le h
 bud_nxt:=fun q h=>HoZ.bud_nx q h
 same:=fun _ _ _=>rfl
 cM:=fun w h v q H hq=>by
  obtain ⟨i,hi,hl⟩:=zdP hq
  have ei:q.rule.toNat=i:=by omega
  obtain ⟨r,hr⟩:∃ r,rs[i]?=some r:=⟨_,zge hl⟩
  obtain ⟨N,hN⟩:∃ N,Ns[i]?=some N:=⟨_,zge (by rw [hn.nl];exact hl)⟩
  rw [ei,hr]
  exact zhB (c:={ h.c with nt:=v }) q i r N hi hr hN ⟨H.ok.o,H.ok.m,H.ok.on,H.ok.l,H.ok.p,H.ok.R⟩ H.cJ hq w H.sv
 cA:=fun w h v q H hbu hq=>by
  obtain ⟨i,hi,hl⟩:=zdP hq
  have ei:q.rule.toNat=i:=by omega
  obtain ⟨r,hr⟩:∃ r,rs[i]?=some r:=⟨_,zge hl⟩
  obtain ⟨N,hN⟩:∃ N,Ns[i]?=some N:=⟨_,zge (by rw [hn.nl];exact hl)⟩
  obtain ⟨σ,hσ⟩:∃ σ,h.Ss[i]?=some σ:=⟨_,zge (by rw [← H.J.ln,hn.nl];exact hl)⟩
  obtain ⟨b1,b2,b3,m,b4,b5⟩:=hbu
  have hI:=b5 i N σ hN hσ
  have hL:=H.J.at_ i N σ hN hσ
  have ea:h.ans rs Ns q=ansQ N h.c.now (h.c.held r.W) σ q:=by
   unfold HoZ.ans
   rw [ei,hr,hN,hσ]
   exact zlk hL _ _ _
  have en:h.nx rs Ns q=⟨h.c,h.Ss.set i (nxQ N h.c.now (h.c.held r.W) σ q),h.evs++mkE (i:Int) h.c.now (evQ N h.c.now (h.c.held r.W) σ q)⟩:=by
   unfold HoZ.nx
   rw [ei,hr,hN,hσ]
  rw [ea,en]
  refine (zeN q i r N σ m hi hr hN hσ hq hI (hn.B i N hN) (by omega) (by omega) b1 b2 w H).mono (fun e w' ⟨v1,vr,h1,h2,h3,h4,h5⟩=>?_)
  obtain ⟨A,c,h6,h7,h8⟩:=h2.rd (zjB hn.l hq hL hI (hn.B i N hN) (by omega) (SvC.held_bd _ b1.1))
  refine ⟨A,_,c,v1,by rw [h1,h6],h7,fun b off h0 hA=>?_,h3,h4,fun k hk=>?_⟩
  ·obtain ⟨g,h9,h10⟩:=h8 h0
   have h11:=(h2.lt g h10).1
   rw [hA] at h9
   injection h9 with h9
   injection h9 with h9
   omega
  ·rcases hk with hk | hk | hk
   ·exact Or.inl (Or.inl hk)
   ·exact Or.inl (Or.inr (Or.inl hk))
   ·rcases h5 k hk with h9 | h9
    ·exact Or.inl (Or.inr (Or.inr h9))
    ·exact Or.inr h9
 cS:=fun h=>by cases h
 len:=fun h q hq=>by
  obtain ⟨i,hi,hl⟩:=zdP hq
  have ei:q.rule.toNat=i:=by omega
  obtain ⟨r,hr⟩:∃ r,rs[i]?=some r:=⟨_,zge hl⟩
  have hrp:=hn.p r (List.mem_of_getElem? hr)
  unfold RuZ.p ruleP at hrp
  have h0:0≤largeZ q r.Tr:=by unfold largeZ;split;omega;split <;> omega
  unfold HoZ.ans
  rw [ei,hr]
  cases hN:Ns[i]? with
  | none=>exact h0
  | some N =>
   cases hσ:h.Ss[i]? with
   | none=>exact h0
   | some σ=>exact zjA hq (hn.T i r N hr hN) (by omega)
end
section
open Go.ChangeShapes Go.WideShapes Go.ChangeAt Go.RowKit
abbrev stepQ (a b:Int) (A3:Option Addr) (n3 c3:Nat) (A4:Option Addr) (n4 c4:Nat):Value:=.agg #[.int .i64 a,.int .i64 b,.slice A3 n3 c3,.slice A4 n4 c4]
section
variable {w w' W:World} {s base B On:Nat} {c c':SvC} {K:CnN} {σ:CnS} {rs:List RuZ} {Ns:List LmN}
theorem zhE (ck cn n:Int) (m:Nat) (dat sed sp:Value) (hm:(m:Int)=max 0 (min n (σ.out.length:Int))) (w:World) (h:CnAt w K σ) (ho:σ.op=true) :
  Calls Tryz.prog 50 #[sp,.pointer (some ⟨K.c,0,none⟩),actV 3 ck cn dat n sed] w fun e w'=>∃ g,e=.returned (stepQ 0 0 (some ⟨g,0,none⟩) m m none 0 0)∧Blk w' g 5 (obbyC (σ.out.take m))∧CnAt w' K ⟨σ.z,σ.err,σ.out.drop m,σ.op⟩∧Fr K.F w w'∧w.heap.size≤g:=by
 obtain ⟨w1,hw1,k1,b1,s1⟩:=zad w (actC 3 ck cn dat n sed) 42
 obtain ⟨w2,hw2,k2,b2,s2⟩:=zad w1 #[.int .i64 0,.int .i64 0,.slice none 0 0,.slice none 0 0] 46
 have HLT:=zhz (show (∀ b,K.F b→b<w.heap.size) from h.lt)
 have H2:=zhz ((h.keep b1).keep b2)
 have B2:=zhz (show Below w.heap.size w w2 from b1.trans (b2.mono b1.size))
 obtain ⟨ab,hab⟩:=zeq (w.heap.size)
 obtain ⟨rb,hrb⟩:=zeq (w1.heap.size)
 rw [← hab] at k1
 rw [← hrb] at k2
 have K2:=zhz k2
 have HA:=zhz hab
 have HR:=zhz hrb
 have HSZ:=zhz (show w.heap.size≤rb∧rb<w2.heap.size from by rw [hrb];exact ⟨b1.size,by rw [s2];omega⟩)
 have kr:=(k1.keep b2).rd
 have CO:=zhz (show Calls Tryz.prog 24 #[.pointer (some ⟨K.c,0,none⟩)] w2 (fun e w'=>e=.returned (.bool true)∧w2=w') from by have:=zaI w2 H2.out;rw [ho] at this;exact this)
 have CD:=zhz (zgP n m w2 H2.out ho hm)
 have NRB:=zhz (show ¬ K.F rb from fun hb=>by have h1:=HLT.out rb hb;have h2:=HSZ.out.1;omega)
 clear h k1 k2 b1 b2 s1 s2 hm ho
 go_enter Tryz.func50,Tryz.ntmps50
 go_upto_region 1 with (fail)
 rw [← HR.out,← HA.out]
 clear hw1 hw2 hab hrb
 go_wp2_with (first
  | (go_at_call 24;((with_reducible refine CO.out.mono ?_);rintro e w3 ⟨rfl,rfl⟩))
  | (go_at_call 76;((with_reducible refine CD.out.mono ?_);rintro e w4 ⟨g,rfl,g4,h4,f4,l4⟩;have H4:=zhz (And.intro g4 (And.intro h4 (And.intro f4 l4)));have K4:=zhz (K2.out.fr f4 NRB.out);have kz:=K4.out.rd;have kzw:=K4.out.wr;clear g4 h4 f4 l4)))
 rw [zaj K4.out]
 have fe:=Fr.setObj (F:=fun k=>k=rb) (Fr.refl _ w4) rfl (.cells #[.int .i64 0,.int .i64 0,.slice (some ⟨g,0,none⟩) m m,.slice none 0 0] 46 (0,0))
 obtain ⟨g4,h4,f4,l4⟩:=H4.out
 refine bodyPost_ret (results_cell_row rfl _ _ rb _ _ (0,0) _ rfl (zab (lt_of_block K4.out) _) Tryz.underlying46 rfl (by kernel_rfl)) rfl ?_
 refine ⟨g,rfl,g4.fr fe (fun e=>by have:=HSZ.out;omega),h4.fr fe (fun b hb e=>by have h1:=HLT.out b hb;have h2:=HSZ.out.1;omega),?_,by have:=B2.out.size;omega⟩
 exact Fr.drop_new (F:=K.F) (s:=rb) (((Fr.of_below B2.out).mono (fun k (hk:False)=>hk.elim)).trans ((f4.mono (fun k hk=>Or.inl hk)).trans (fe.mono (fun k hk=>Or.inr hk)))) HSZ.out.1
theorem zhD {hn:HoN rs Ns} {h0:HoZ} {v:Value} (ck cn n:Int) (A:Option Addr) (na ca:Nat) (zs:List Int) (sed:Value) (w:World) (h:CH (hostS base s B On rs Ns hn) w K σ h0 v) (hr:(rs.length:Int)=K.rules) (hbud:h0.bud Ns na) (ho:σ.op=true) (hz:RdI w .u8 A na ca zs) (hap:∀ b off,0<na→A=some ⟨b,off,none⟩→¬ K.F b∧¬ hoF s Ns v b) :
  Calls Tryz.prog 50 #[.pointer (some ⟨s,0,none⟩),.pointer (some ⟨K.c,0,none⟩),actV 2 ck cn (.slice A na ca) n sed] w fun e w'=>∃ A4 n4 c4,e=.returned (stepQ 0 ((acceptC (hostS base s B On rs Ns hn) K σ h0 zs).1:Int) none 0 0 A4 n4 c4)∧CH (hostS base s B On rs Ns hn) w' K (acceptC (hostS base s B On rs Ns hn) K σ h0 zs).2.1 (acceptC (hostS base s B On rs Ns hn) K σ h0 zs).2.2.1 (.slice A4 n4 c4)∧Fr (fun k=>K.F k∨hoF s Ns v k) w w'∧(∀ k,hoF s Ns (.slice A4 n4 c4) k→hoF s Ns v k∨w.heap.size≤k):=by
 obtain ⟨w1,hw1,k1,b1,s1⟩:=zad w (actC 2 ck cn (.slice A na ca) n sed) 42
 obtain ⟨w2,hw2,k2,b2,s2⟩:=zad w1 #[.int .i64 0,.int .i64 0,.slice none 0 0,.slice none 0 0] 46
 have HLT:=zhz (show (∀ b,K.F b∨hoF s Ns v b→b<w.heap.size) from fun b hb=>by
  rcases hb with hb | hb
  ·exact h.c.lt b hb
  ·exact HoAt.lt h.h hb)
 have B2:=zhz (show Below w.heap.size w w2 from b1.trans (b2.mono b1.size))
 have H2:=zhz (h.keep B2.out)
 obtain ⟨ab,hab⟩:=zeq (w.heap.size)
 obtain ⟨rb,hrb⟩:=zeq (w1.heap.size)
 rw [← hab] at k1
 rw [← hrb] at k2
 have K2:=zhz k2
 have HA:=zhz hab
 have HR:=zhz hrb
 have HSZ:=zhz (show w.heap.size≤rb∧rb<w2.heap.size from by rw [hrb];exact ⟨b1.size,by rw [s2];omega⟩)
 have kr:=(k1.keep b2).rd
 have CO:=zhz (show Calls Tryz.prog 24 #[.pointer (some ⟨K.c,0,none⟩)] w2 (fun e w'=>e=.returned (.bool true)∧w2=w') from by have:=zaI w2 H2.out.c;rw [ho] at this;exact this)
 obtain ⟨R,hR⟩:=zeq (acceptC (hostS base s B On rs Ns hn) K σ h0 zs)
 have CA:=zhz (show Calls Tryz.prog 77 #[.pointer (some ⟨K.c,0,none⟩),.slice A na ca,.iface 31 (.pointer (some ⟨s,0,none⟩))] w2 (fun e w'=>∃ l',e=.returned (.int .i64 (R.1:Int))∧CH (hostS base s B On rs Ns hn) w' K R.2.1 R.2.2.1 l'∧Fr (fun k=>K.F k∨hoF s Ns v k) w2 w'∧(∀ k,hoF s Ns l' k→hoF s Ns v k∨w2.heap.size≤k)) from by
  rw [hR]
  exact ze0 (H:=hostS base s B On rs Ns hn) (Kn:=K) A na ca zs w2 h0 v H2.out hr hbud ho (hz.below B2.out) (fun b off hn e=>hap b off hn e))
 rw [← hR]
 have NRB:=zhz (show ¬ (K.F rb∨hoF s Ns v rb) from fun hb=>by have h1:=HLT.out rb hb;have h2:=HSZ.out.1;omega)
 clear h k1 k2 b1 b2 s1 s2 ho hR hz hap hbud hr
 go_enter Tryz.func50,Tryz.ntmps50
 go_upto_region 1 with (fail)
 rw [← HR.out,← HA.out]
 clear hw1 hw2 hab hrb
 go_wp2_with (first
  | (go_at_call 24;((with_reducible refine CO.out.mono ?_);rintro e w3 ⟨rfl,rfl⟩))
  | (go_at_call 77;((with_reducible refine CA.out.mono ?_);rintro e w4 ⟨v4,rfl,h4,f4,g4⟩;obtain ⟨A4,c4,rfl,_,_,_⟩:=OwR.slice (show OwE w4 B v4 _ from h4.h.ev);have H4:=zhz (And.intro h4 (And.intro f4 g4));have K4:=zhz (K2.out.fr f4 NRB.out);have kz:=K4.out.rd;have kzw:=K4.out.wr;have kN:=(show Sv w4 s _ from h4.h.sv).cN;clear h4 f4 g4)))
 rw [zaj K4.out]
 have fe:=Fr.setObj (F:=fun k=>k=rb) (Fr.refl _ w4) rfl (.cells #[.int .i64 0,.int .i64 (R.1:Int),.slice none 0 0,.slice A4 R.2.2.1.evs.length c4] 46 (0,0))
 obtain ⟨h4,f4,g4⟩:=H4.out
 refine bodyPost_ret (results_cell_row rfl _ _ rb _ _ (0,0) _ rfl (zab (lt_of_block K4.out) _) Tryz.underlying46 rfl (by kernel_rfl)) rfl ?_
 refine ⟨_,_,_,rfl,⟨h4.c.fr fe (fun b hb e=>by have h1:=HLT.out b (Or.inl hb);have h2:=HSZ.out.1;omega),HoAt.fr h4.h fe (fun k hk e=>?_),h4.ap⟩,?_,fun k hk=>?_⟩
 ·rcases g4 k hk with h1 | h1
  ·have h1:=HLT.out k (Or.inr h1);have h2:=HSZ.out.1;omega
  ·have h2:=HSZ.out.2;omega
 ·exact Fr.drop_new (F:=fun k=>K.F k∨hoF s Ns v k) (s:=rb) (((Fr.of_below B2.out).mono (fun k (hk:False)=>hk.elim)).trans ((f4.mono (fun k hk=>Or.inl hk)).trans (fe.mono (fun k hk=>Or.inr hk)))) HSZ.out.1
 ·rcases g4 k hk with h1 | h1
  ·exact Or.inl h1
  ·exact Or.inr (Nat.le_trans B2.out.size h1)
end
end
section
open Go.ChangeShapes Go.WideShapes Go.ChangeAt Go.RowKit
section
variable {w w' W:World} {s base B On:Nat} {c c':SvC} {K:CnN} {σ:CnS} {rs:List RuZ} {Ns:List LmN}
theorem zgF (kd ck cn n:Int) (dat sed:Value) (hk4:kd≠4) (w:World) (h:Sv w s c) (cE:SvC) (G:Nat→Prop) (hG:∀ k,G k→k<w.heap.size) (Q:World→World→Int→Int→Option Addr→Nat→Nat→Option Addr→Nat→Nat→Prop)
  (hcn:∀ wx c',Sv wx s c'→c'.K=c.K→Calls Tryz.prog 23 #[.pointer (some ⟨s,0,none⟩),.int .i64 cn] wx fun e w'=>e=.returned (.pointer (some ⟨K.c,0,none⟩))∧wx=w')
  (hon:∀ wx,Sv wx s (({ c with ac:=true }:SvC).read ck)→Fr (fun k=>k=s) w wx→Calls Tryz.prog 50 #[.pointer (some ⟨s,0,none⟩),.pointer (some ⟨K.c,0,none⟩),actV kd ck cn dat n sed] wx fun e w'=>∃ a b A3 n3 c3 A4 n4 c4,e=.returned (stepQ a b A3 n3 c3 A4 n4 c4)∧(∃ c1,Sv w' s c1∧c1.end=cE)∧Fr G wx w'∧Q wx w' a b A3 n3 c3 A4 n4 c4) :
  Calls Tryz.prog 20 #[.pointer (some ⟨s,0,none⟩),actV kd ck cn dat n sed] w fun e w'=>∃ wx w6 rb a b A3 n3 c3 A4 n4 c4,e=.returned (stepQ a b A3 n3 c3 A4 n4 c4)∧Fr (fun k=>k=s) w wx∧(w.heap.size≤rb∧rb<wx.heap.size)∧Fr G wx w6∧Q wx w6 a b A3 n3 c3 A4 n4 c4∧Sv w' s cE∧Fr (fun k=>k=s∨k=rb) w6 w':=by
 obtain ⟨w1,hw1,k1,b1,s1⟩:=zad w (actC kd ck cn dat n sed) 42
 obtain ⟨w2,hw2,k2,b2,s2⟩:=zad w1 #[.int .i64 0,.int .i64 0,.slice none 0 0,.slice none 0 0] 46
 have HLT:=zhz (show (∀ b,G b→b<w.heap.size)∧s<w.heap.size from ⟨hG,h.lt⟩)
 obtain ⟨ab,hab⟩:=zeq (w.heap.size)
 obtain ⟨rb,hrb⟩:=zeq (w1.heap.size)
 rw [← hab] at k1
 rw [← hrb] at k2
 have HA:=zhz hab
 have HR:=zhz hrb
 have HSZ:=zhz (show w.heap.size≤ab∧ab<rb∧rb<w2.heap.size from by rw [hrb,hab,s2,s1];omega)
 obtain ⟨w3,e3,h3,f3⟩:=((h.keep b1).keep b2).setAc true
 have H3:=zhz h3
 have F3:=zhz (show Fr (fun k=>k=s) w w3 from ((Fr.of_below (show Below w.heap.size w w2 from b1.trans (b2.mono b1.size))).mono (fun k (hk:False)=>hk.elim)).trans f3)
 have K1:=zhz ((k1.keep b2).fr f3 (fun e=>by have h1:=HLT.out.2;have h2:=HSZ.out;omega))
 have K2:=zhz (k2.fr f3 (fun e=>by have h1:=HLT.out.2;have h2:=HSZ.out;omega))
 have kA:=((h.keep b1).keep b2).cA
 have kw:=((h.keep b1).keep b2).wr
 have kr:=K1.out.rd
 have u4:(kd==4)=false:=by simpa using hk4
 have HCN:=zhz hcn
 have HON:=zhz hon
 have HZ3:=zhz f3.size
 clear h k1 k2 b1 b2 s1 s2 h3 f3 hcn hk4 hon hG
 go_enter_defers Tryz.func20,Tryz.ntmps20
 go_upto_region 1 with (fail)
 rw [← HR.out,← HA.out]
 clear hw1 hab hrb
 go_upto_region 10 with (fail)
 try rw [e3]
 clear hw2 e3 kA kw u4 kr
 have N0:=zhz (show Below w3.heap.size w3 w3.drew from zaa (Below.refl _ _) 1)
 have CRd:=zhz (fun wx (hx:Sv wx s { c with ac:=true })=>zby ck wx hx)
 have st:=(K1.out.keep N0.out).rd
 refine wp_region_held_drew (S:=fun wx=>∀ j,wx.cell? ⟨ab,j,none⟩=(actC kd ck cn dat n sed)[j]?) (by kernel_rfl) st (fun hHeld=>?_)
 clear st
 refine wR 0 ?_ (hQ:=by exact putD (fn:=Tryz.f20) rfl (by decide))
 refine wR 1 ?_ (hQ:=by exact putD (fn:=Tryz.f20) rfl (by decide))
 refine wR 2 ?_ (hQ:=by exact putD (fn:=Tryz.f20) rfl (by decide))
 refine wR 3 ?_ (hQ:=by exact putD (fn:=Tryz.f20) rfl (by decide))
 refine wR 4 ?_ (hQ:=by exact putD (fn:=Tryz.f20) rfl (by decide))
 refine wC 5 fun K hK=>?_
 go_simp
 ((with_reducible refine (CRd.out _ (H3.out.keep N0.out)).mono ?_);rintro v w4 ⟨rfl,h4,f4⟩;have H4:=zhz h4;have K4:=zhz ((K1.out.keep N0.out).fr f4 (fun e=>by have h1:=HLT.out.2;have h2:=HSZ.out;omega));have R4:=zhz ((K2.out.keep N0.out).fr f4 (fun e=>by have h1:=HLT.out.2;have h2:=HSZ.out;omega));have F4:=zhz (show Fr (fun k=>k=s) w w4 from F3.out.trans (((Fr.of_below N0.out).mono (fun k (hk:False)=>hk.elim)).trans f4));clear h4 f4)
 refine hK.out _ _ K4.out.rd fun hHeld=>?_
 clear hK K
 try simp only [Act.put,zs1,zs2,zs3]
 refine wpAnyH_done (by kernel_rfl) ?_ _
 clear hHeld CRd K1 K2
 have kr:=K4.out.rd
 have CCn:=zhz (HCN.out w4 _ H4.out rfl)
 have COn:=zhz (HON.out w4 H4.out F4.out)
 have RLT:=zhz (lt_of_block R4.out)
 go_wp2_with (first
  | (go_at_call 23;((with_reducible refine CCn.out.mono ?_);rintro v w5 ⟨rfl,rfl⟩))
  | (go_at_call 50;((with_reducible refine COn.out.mono ?_);rintro v w6 ⟨oa,ob,A3,n3,c3,A4,n4,c4,rfl,⟨c1,h6,e6⟩,f6,q6⟩;have F6:=zhz f6;have H6:=zhz h6;have E6:=zhz e6;have Q6:=zhz q6;have R6:=zhz (R4.out.fr f6 (fun hb=>by have h1:=HLT.out.1 rb hb;have h2:=HSZ.out;omega));have kz:=R6.out.rd;have kzw:=R6.out.wr;clear h6 e6 f6 q6)))
 rw [zaj R6.out]
 have fe:=Fr.setObj (F:=fun k=>k=rb) (Fr.refl _ w6) rfl (.cells #[.int .i64 oa,.int .i64 ob,.slice A3 n3 c3,.slice A4 n4 c4] 46 (0,0))
 have k7:Blk (setObj w6 rb (.cells #[.int .i64 oa,.int .i64 ob,.slice A3 n3 c3,.slice A4 n4 c4] 46 (0,0))) rb 46 #[.int .i64 oa,.int .i64 ob,.slice A3 n3 c3,.slice A4 n4 c4]:=zab (lt_of_block R6.out) _
 generalize setObj w6 rb (.cells #[.int .i64 oa,.int .i64 ob,.slice A3 n3 c3,.slice A4 n4 c4] 46 (0,0))=w7 at fe k7 ⊢
 have H7:=H6.out.fr fe (fun e=>by have h1:=HLT.out.2;have h2:=HSZ.out;omega)
 refine leaves_cons (f:=46) (args:=#[.pointer (some ⟨s,0,none⟩)]) (by simp) (by simp [go_sem]) ?_
 refine (zbx .returning _ H7).mono ?_
 rintro e u' w8 ⟨rfl,rfl,h8,f8⟩
 refine ⟨_,results_cell_row rfl _ _ rb _ _ (0,0) _ rfl (Blk.fr k7 f8 (fun e=>by have h1:=HLT.out.2;have h2:=HSZ.out;omega)) Tryz.underlying46 rfl (by kernel_rfl),w4,w6,rb,oa,ob,A3,n3,c3,A4,n4,c4,rfl,F4.out,⟨by have h2:=HSZ.out;omega,RLT.out⟩,F6.out,Q6.out,by rw [← E6.out];exact h8,?_⟩
 exact (fe.mono (fun k hk=>Or.inr hk)).trans (f8.mono (fun k hk=>Or.inl hk))
end
end
section
open Go.ChangeShapes Go.WideShapes Go.ChangeAt Go.RowKit
section
variable {w w' W:World} {s base B On:Nat} {c c':SvC} {K:CnN} {σ:CnS} {rs:List RuZ} {Ns:List LmN} {Ss:List LmS} {Ks:List CnN} {σs:List CnS} {hn:HoN rs Ns}
noncomputable def accS (hn:HoN rs Ns) (K:CnN) (σ:CnS) (h:HoZ) (zs:List Int):Nat × CnS × HoZ × List Req:=acceptC (hostS 0 0 0 0 rs Ns hn) K σ h zs
noncomputable def comeS (hn:HoN rs Ns) (K:CnN) (σ:CnS) (h:HoZ) (x:Int):CnS × HoZ × List Req:=comeC (hostS 0 0 0 0 rs Ns hn) K σ h x
noncomputable def fitsS (hn:HoN rs Ns) (K:CnN) (σ:CnS) (x:Int):Bool:=fitsB (hostS 0 0 0 0 rs Ns hn) K σ x
theorem zjx (σ:CnS) (h:HoZ):accS hn K σ h []=(0,σ,h,[]):=rfl
theorem zbY {σ:CnS} {x:Int} (h:HoZ) (r:List Int) (hf:fitsS hn K σ x=false):accS hn K σ h (x :: r)=(0,σ,h,[]):=zbA hf
theorem zbo {σ:CnS} {x:Int} (h:HoZ) (r:List Int) (hf:fitsS hn K σ x=true):accS hn K σ h (x :: r)=((accS hn K (comeS hn K σ h x).1 (comeS hn K σ h x).2.1 r).1+1,(accS hn K (comeS hn K σ h x).1 (comeS hn K σ h x).2.1 r).2.1,(accS hn K (comeS hn K σ h x).1 (comeS hn K σ h x).2.1 r).2.2.1,(comeS hn K σ h x).2.2++(accS hn K (comeS hn K σ h x).1 (comeS hn K σ h x).2.1 r).2.2.2):=zbz hf
theorem zhM:∀ (zs:List Int) (σ:CnS) (h:HoZ),(acceptC (hostS base s B On rs Ns hn) K σ h zs:Nat × CnS × HoZ × List Req)=accS hn K σ h zs
 | [],_,_=>rfl
 | x :: r,σ,h=>by
  cases hf:fitsS hn K σ x with
  | false=>exact (zbA (H:=hostS base s B On rs Ns hn) (s:=h) (r:=r) hf).trans (zbY h r hf).symm
  | true =>
   have e:=zhM r (comeS hn K σ h x).1 (comeS hn K σ h x).2.1
   refine (zbz (H:=hostS base s B On rs Ns hn) (s:=h) (r:=r) hf).trans (Eq.trans ?_ (zbo h r hf).symm)
   exact congrArg (fun p:Nat × CnS × HoZ × List Req=>(p.1+1,p.2.1,p.2.2.1,(comeS hn K σ h x).2.2++p.2.2.2)) e
theorem zc1 (h:HoZ) (x:Int):(comeS hn K σ h x).2.1=h∨(comeS hn K σ h x).2.1=h.nx rs Ns (parseZ (σ.z++[x]) K.rules).1:=by
 unfold comeS comeC
 split
 ·exact Or.inl rfl
 ·split
  ·exact Or.inr rfl
  ·exact Or.inl rfl
theorem nx_c (h:HoZ) (q:Req):(h.nx rs Ns q).c=h.c∧(h.nx rs Ns q).Ss.length=h.Ss.length:=by
 unfold HoZ.nx
 split
 ·exact ⟨rfl,by rw [List.length_set]⟩
 ·exact ⟨rfl,rfl⟩
theorem zlf:∀ (zs:List Int) (σ:CnS) (h:HoZ),(accS hn K σ h zs).2.2.1.c=h.c∧(accS hn K σ h zs).2.2.1.Ss.length=h.Ss.length∧(accS hn K σ h zs).2.1.op=σ.op∧(accS hn K σ h zs).1≤zs.length
 | [],_,_=>⟨rfl,rfl,rfl,Nat.le_refl _⟩
 | x :: r,σ,h=>by
  cases hf:fitsS hn K σ x with
  | false=>rw [zbY h r hf];exact ⟨rfl,rfl,rfl,Nat.zero_le _⟩
  | true =>
   rw [zbo h r hf]
   obtain ⟨e1,e2,e3,e4⟩:=zlf r (comeS hn K σ h x).1 (comeS hn K σ h x).2.1
   dsimp only
   have e5:(comeS hn K σ h x).1.op=σ.op:=zlr (H:=hostS 0 0 0 0 rs Ns hn) h x
   refine ⟨?_,?_,by rw [e3,e5],by rw [List.length_cons];omega⟩
   ·rw [e1]
    rcases zc1 (hn:=hn) (K:=K) (σ:=σ) h x with e | e
    ·rw [e]
    ·rw [e,(nx_c h _).1]
   ·rw [e2]
    rcases zc1 (hn:=hn) (K:=K) (σ:=σ) h x with e | e
    ·rw [e]
    ·rw [e,(nx_c h _).2]
theorem zhK:∀ (zs:List Int) (σ:CnS) (h:HoZ) (n:Nat),h.bud Ns (n+zs.length)→(accS hn K σ h zs).2.2.1.bud Ns n
 | [],_,_,_,h=>h
 | x :: r,σ,h,n,hb=>by
  cases hf:fitsS hn K σ x with
  | false =>
   rw [zbY h r hf]
   obtain ⟨b1,b2,b3,m,b4,b5⟩:=hb
   rw [List.length_cons] at b3 b4
   exact ⟨b1,b2,by dsimp only;omega,m,by omega,b5⟩
  | true =>
   rw [zbo h r hf]
   dsimp only
   refine zhK r _ _ n ?_
   rw [List.length_cons,← Nat.add_assoc] at hb
   rcases zc1 (hn:=hn) (K:=K) (σ:=σ) h x with e | e
   ·rw [e];exact HoZ.bud_le hb
   ·rw [e];exact HoZ.bud_nx _ hb
def chF (s:Nat) (Ns:List LmN) (K:CnN) (b:Nat):Prop:=K.F b∨b=s∨∃ (i:Nat) (N:LmN),Ns[i]?=some N∧N.all b
theorem zgl {s:Nat} {Ns:List LmN} {k:Nat} (h:hoF s Ns (.slice none 0 0) k):k=s∨∃ (i:Nat) (N:LmN),Ns[i]?=some N∧N.all k:=by
 rcases h with h | h | h
 ·exact Or.inl h
 ·exact Or.inr h
 ·cases h
theorem zhx (hn:HoN rs Ns) (ck n:Int) (k:Nat) (A:Option Addr) (na ca:Nat) (zs:List Int) (sed:Value) (w:World) (h:SvAt w base s c Ns Ss Ks σs) (hok:SvOk c rs On) (hnt:c.nt=.slice none 0 0) (hk16:k<16) (hK:Ks[k]?=some K) (hσ:σs[k]?=some σ) (hr:(rs.length:Int)=K.rules) (ho:σ.op=true)
  (hbud:HoZ.bud Ns ⟨({ c with ac:=true }:SvC).read ck,Ss,[]⟩ na) (hz:RdI w .u8 A na ca zs) (hap:∀ b off,0<na→A=some ⟨b,off,none⟩→¬ chF s Ns K b) :
  Calls Tryz.prog 20 #[.pointer (some ⟨s,0,none⟩),actV 2 ck (k:Int) (.slice A na ca) n sed] w fun e w'=>∃ A4 c4,e=.returned (stepQ 0 ((accS hn K σ ⟨({ c with ac:=true }:SvC).read ck,Ss,[]⟩ zs).1:Int) none 0 0 A4 (accS hn K σ ⟨({ c with ac:=true }:SvC).read ck,Ss,[]⟩ zs).2.2.1.evs.length c4) ∧
   SvAt w' base s (c.read ck).end Ns (accS hn K σ ⟨({ c with ac:=true }:SvC).read ck,Ss,[]⟩ zs).2.2.1.Ss Ks (σs.set k (accS hn K σ ⟨({ c with ac:=true }:SvC).read ck,Ss,[]⟩ zs).2.1) ∧
   OwE w' w.heap.size (.slice A4 (accS hn K σ ⟨({ c with ac:=true }:SvC).read ck,Ss,[]⟩ zs).2.2.1.evs.length c4) (accS hn K σ ⟨({ c with ac:=true }:SvC).read ck,Ss,[]⟩ zs).2.2.1.evs∧Fr (chF s Ns K) w w':=by
 obtain ⟨R,hR⟩:∃ R,R=accS hn K σ ⟨({ c with ac:=true }:SvC).read ck,Ss,[]⟩ zs:=⟨_,rfl⟩
 have hc:=(zlf (hn:=hn) (K:=K) zs σ ⟨({ c with ac:=true }:SvC).read ck,Ss,[]⟩).1
 rw [← hR] at hc ⊢
 have hKlt:∀ b,K.F b→b<w.heap.size:=fun b hb=>h.K.lt hK b hb
 have hJlt:∀ (i:Nat) N,Ns[i]?=some N→∀ b,N.all b→b<w.heap.size:=fun i N hN b hb=>h.J.lt hN b hb
 have hslt:=h.sv.lt
 refine (zgF (K:=K) 2 ck (k:Int) n (.slice A na ca) sed (by decide) w h.sv (c.read ck).end (fun b=>K.F b∨hoF s Ns (.slice none 0 0) b) (fun b hb=>?_)
   (fun wx wz a b A3 n3 c3 A4 n4 c4=>a=0∧b=(R.1:Int)∧(A3=none∧n3=0∧c3=0)∧n4=R.2.2.1.evs.length∧CH (hostS base s wx.heap.size On rs Ns hn) wz K R.2.1 R.2.2.1 (.slice A4 n4 c4))
   (zcQ h hk16 hK) (fun wx hx hf=>?_)).mono ?_
 ·rcases hb with hb | hb
  ·exact hKlt b hb
  ·rcases zgl hb with rfl | ⟨i,N,hN,hb⟩
   ·exact hslt
   ·exact hJlt i N hN b hb
 ·have hAt:HoAt wx base s wx.heap.size rs Ns On ⟨({ c with ac:=true }:SvC).read ck,Ss,[]⟩ (.slice none 0 0):=by
   refine ⟨?_,h.J.fr hf (fun i N hN b hb e=>h.nJ i N hN (by rw [← e];exact hb)),OwR.nil,rfl,⟨hok.o,hok.m,hok.on,hok.l,hok.p,hok.R⟩,h.cJ,h.nJ,Nat.lt_of_lt_of_le hslt hf.size,fun i N hN b hb=>Nat.lt_of_lt_of_le (hJlt i N hN b hb) hf.size,Nat.le_refl _,hn.nl⟩
   have e:({ (({ c with ac:=true }:SvC).read ck) with nt:=.slice none 0 0 }:SvC)=({ c with ac:=true }:SvC).read ck:=by
    show _=({ c with ac:=true }:SvC).read ck
    unfold SvC.read
    rw [← hnt]
   dsimp only
   rw [e];exact hx
  have hCH:CH (hostS base s wx.heap.size On rs Ns hn) wx K σ ⟨({ c with ac:=true }:SvC).read ck,Ss,[]⟩ (.slice none 0 0):=by
   refine ⟨(h.K.at_ k K σ hK hσ).fr hf (fun b hb e=>h.nK k K hK (by rw [← e];exact hb)),hAt,fun b hb hh=>?_⟩
   rcases zgl hh with e | ⟨i,N,hN,hb2⟩
   ·rw [e] at hb;exact h.nK k K hK hb
   ·exact h.ap i k N K hN hK b hb2 hb
  refine (zhD (B:=wx.heap.size) ck (k:Int) n A na ca zs sed wx hCH hr hbud ho (ziZ hz hf (fun b off h0 hA e=>hap b off h0 hA (Or.inr (Or.inl e)))) (fun b off h0 hA=>⟨fun hh=>hap b off h0 hA (Or.inl hh),fun hh=>hap b off h0 hA (Or.inr (zgl hh))⟩)).mono (fun e w' ⟨A4,n4,c4,h1,h2,h3,h4⟩=>?_)
  rw [zhM,← hR] at h1
  have h2':CH (hostS base s wx.heap.size On rs Ns hn) w' K R.2.1 R.2.2.1 (.slice A4 n4 c4):=by rw [hR,← zhM (base:=base) (s:=s) (B:=wx.heap.size) (On:=On)];exact h2
  refine ⟨_,_,_,_,_,_,_,_,h1,⟨_,h2'.h.sv,?_⟩,h3,rfl,rfl,⟨rfl,rfl,rfl⟩,?_,h2'⟩
  ·rw [hc];rfl
  ·obtain ⟨A5,c5,h5,_⟩:=OwR.slice (show OwE w' wx.heap.size (.slice A4 n4 c4) R.2.2.1.evs from h2'.h.ev)
   injection h5
 ·rintro e w' ⟨wx,w6,rb,a,b,A3,n3,c3,A4,n4,c4,h1,f1,hrb,f2,⟨rfl,rfl,⟨rfl,rfl,rfl⟩,rfl,h2⟩,h3,f3⟩
  have hs1:=f1.size
  have hs2:=f2.size
  have FT:Fr (chF s Ns K) w w':=Fr.drop_new (F:=chF s Ns K) (s:=rb) ((f1.mono (fun b (e:b=s)=>Or.inl (Or.inr (Or.inl e)))).trans ((f2.mono (fun b hb=>by
   rcases hb with hb | hb
   ·exact Or.inl (Or.inl hb)
   ·exact Or.inl (Or.inr (zgl hb)))).trans (f3.mono (fun b hb=>by
   rcases hb with e | e
   ·exact Or.inl (Or.inr (Or.inl e))
   ·exact Or.inr e)))) hrb.1
  refine ⟨A4,c4,h1,⟨h3,?_,?_,h.cJ,h.cK,h.lo,h.nJ,h.nK,h.ap⟩,?_,FT⟩
  ·refine (show JdAt w6 base Ns R.2.2.1.Ss from h2.h.J).fr f3 (fun i N hN b hb e=>?_)
   rcases e with e | e
   ·rw [e] at hb;exact h.nJ i N hN hb
   ·have:=hJlt i N hN b hb;omega
  ·refine h.K.set hK (h2.c.fr f3 (fun b hb e=>?_)) FT (fun j M hj hM b hb e=>?_)
   ·rcases e with e | e
    ·rw [e] at hb;exact h.nK k K hK hb
    ·have:=hKlt b hb;omega
   ·rcases e with e | e | ⟨i,N,hN,e⟩
    ·exact h.K.ap j k M K hj hM hK b hb e
    ·rw [e] at hb;exact h.nK j M hM hb
    ·exact h.ap i j N M hN hM b e hb
  ·have h5:OwE w6 wx.heap.size (.slice A4 R.2.2.1.evs.length c4) R.2.2.1.evs:=h2.h.ev
   refine G.own_more (OwR.fr h5 f3 (fun g hg e=>?_)) hs1
   have h6:=OwR.base_le h5 g hg
   rcases e with e | e <;> omega
theorem zhy (ck n:Int) (k m:Nat) (dat sed:Value) (w:World) (h:SvAt w base s c Ns Ss Ks σs) (hk16:k<16) (hK:Ks[k]?=some K) (hσ:σs[k]?=some σ) (ho:σ.op=true) (hm:(m:Int)=max 0 (min n (σ.out.length:Int))) :
  Calls Tryz.prog 20 #[.pointer (some ⟨s,0,none⟩),actV 3 ck (k:Int) dat n sed] w fun e w'=>∃ g,e=.returned (stepQ 0 0 (some ⟨g,0,none⟩) m m none 0 0)∧Blk w' g 5 (obbyC (σ.out.take m)) ∧
   SvAt w' base s (c.read ck).end Ns Ss Ks (σs.set k ⟨σ.z,σ.err,σ.out.drop m,σ.op⟩)∧Fr (fun b=>K.F b∨b=s) w w'∧w.heap.size≤g:=by
 have hKlt:∀ b,K.F b→b<w.heap.size:=fun b hb=>h.K.lt hK b hb
 have hslt:=h.sv.lt
 refine (zgF (K:=K) 3 ck (k:Int) n dat sed (by decide) w h.sv (c.read ck).end K.F hKlt
   (fun wx wz a b A3 n3 c3 A4 n4 c4=>a=0∧b=0∧(∃ g,A3=some ⟨g,0,none⟩∧Blk wz g 5 (obbyC (σ.out.take m))∧wx.heap.size≤g)∧(n3=m∧c3=m)∧(A4=none∧n4=0∧c4=0)∧CnAt wz K ⟨σ.z,σ.err,σ.out.drop m,σ.op⟩)
   (zcQ h hk16 hK) (fun wx hx hf=>?_)).mono ?_
 ·refine (zhE ck (k:Int) n m dat sed (.pointer (some ⟨s,0,none⟩)) hm wx ((h.K.at_ k K σ hK hσ).fr hf (fun b hb e=>h.nK k K hK (by rw [← e];exact hb))) ho).mono (fun e w' ⟨g,h1,h2,h3,h4,h5⟩=>?_)
  exact ⟨_,_,_,_,_,_,_,_,h1,⟨_,hx.fr h4 (h.nK k K hK),rfl⟩,h4,rfl,rfl,⟨g,rfl,h2,h5⟩,⟨rfl,rfl⟩,⟨rfl,rfl,rfl⟩,h3⟩
 ·rintro e w' ⟨wx,w6,rb,a,b,A3,n3,c3,A4,n4,c4,h1,f1,hrb,f2,⟨rfl,rfl,⟨g,rfl,h2,hg⟩,⟨rfl,rfl⟩,⟨rfl,rfl,rfl⟩,h4⟩,h3,f3⟩
  have hs1:=f1.size
  have FT:Fr (fun b=>K.F b∨b=s) w w':=Fr.drop_new (F:=fun b=>K.F b∨b=s) (s:=rb) ((f1.mono (fun b (e:b=s)=>Or.inl (Or.inr e))).trans ((f2.mono (fun b hb=>Or.inl (Or.inl hb))).trans (f3.mono (fun b hb=>by
   rcases hb with e | e
   ·exact Or.inl (Or.inr e)
   ·exact Or.inr e)))) hrb.1
  refine ⟨g,h1,h2.fr f3 (fun e=>by rcases e with e | e <;> omega),⟨h3,h.J.fr FT (fun i N hN b hb e=>?_),?_,h.cJ,h.cK,h.lo,h.nJ,h.nK,h.ap⟩,FT,by omega⟩
  ·rcases e with e | e
   ·exact h.ap i k N K hN hK b hb e
   ·rw [e] at hb;exact h.nJ i N hN hb
  ·refine h.K.set hK (h4.fr f3 (fun b hb e=>?_)) FT (fun j M hj hM b hb e=>?_)
   ·rcases e with e | e
    ·rw [e] at hb;exact h.nK k K hK hb
    ·have:=hKlt b hb;omega
   ·rcases e with e | e
    ·exact h.K.ap j k M K hj hM hK b hb e
    ·rw [e] at hb;exact h.nK j M hM hb
end
end
section
open Go.ChangeShapes Go.WideShapes Go.ChangeAt Go.RowKit
section
variable {w w' W:World} {s base B On:Nat} {c c':SvC} {K:CnN} {σ:CnS} {rs:List RuZ} {Ns:List LmN} {Ss:List LmS} {Ks:List CnN} {σs:List CnS} {hn:HoN rs Ns}
def allI (Ns:List LmN) (h:HoZ) (m:Int):Prop:=∀ (i:Nat) N σ,Ns[i]?=some N→h.Ss[i]?=some σ→LmI N σ (min h.c.now 4611686018427387904) m
theorem allI.mono {h:HoZ} {m m':Int} (H:allI Ns h m) (hm:m≤m'∧m'≤576460752303423488):allI Ns h m':=fun i N t hN ht=>by
 have h1:=H i N t hN ht
 exact h1.mono ⟨Int.le_refl _,h1.t0.2⟩ hm
theorem allI.nx {h:HoZ} {m:Int} (H:allI Ns h m) (hn:0≤h.c.now) (hm:m+2097153≤576460752303423488) (q:Req):allI Ns (h.nx rs Ns q) (m+2097153):=by
 unfold HoZ.nx
 split
 ·rename_i r N σ hr hN hσ
  intro i M t hM ht
  dsimp only at ht ⊢
  by_cases e:i=q.rule.toNat
  ·subst e
   have hl:=(zgs.1 hσ).1
   rw [List.getElem?_set_self hl] at ht
   injection ht with ht
   rw [hN] at hM
   injection hM with hM
   rw [← ht,← hM]
   exact (H _ _ _ hN hσ).nxQ hm (SvC.held_bd _ hn).1 q
  ·rw [List.getElem?_set_ne (Ne.symm e)] at ht
   have h1:=H i M t hM ht
   exact h1.mono ⟨Int.le_refl _,h1.t0.2⟩ ⟨by omega,hm⟩
 ·exact H.mono ⟨by omega,hm⟩
theorem zkM:∀ (zs:List Int) (σ:CnS) (h:HoZ) (m:Int),0≤h.c.now→m+zs.length*2097153≤576460752303423488→allI Ns h m→allI Ns (accS hn K σ h zs).2.2.1 (m+zs.length*2097153)
 | [],_,h,m,_,_,H=>by
  have e:m+(([]:List Int).length:Int)*2097153=m:=by simp
  rw [e];exact H
 | x :: r,σ,h,m,h0,hm,H=>by
  rw [List.length_cons] at hm ⊢
  cases hf:fitsS hn K σ x with
  | false=>rw [zbY h r hf];exact H.mono ⟨by omega,by omega⟩
  | true =>
   rw [zbo h r hf]
   dsimp only
   rw [show m+((r.length+1:Nat):Int)*2097153=m+2097153+(r.length:Int)*2097153 by omega]
   refine zkM r _ _ _ ?_ (by omega) ?_
   ·rcases zc1 (hn:=hn) (K:=K) (σ:=σ) h x with e | e
    ·rw [e];exact h0
    ·rw [e,(nx_c h _).1];exact h0
   ·rcases zc1 (hn:=hn) (K:=K) (σ:=σ) h x with e | e
    ·rw [e];exact H.mono ⟨by omega,by omega⟩
    ·rw [e];exact H.nx h0 (by omega) _
structure SrB (w:World) (base s:Nat) (rs:List RuZ) (On:Nat) (Ns:List LmN) (Ks:List CnN) (c:SvC) (Ss:List LmS) (σs:List CnS) (m:Int):Prop where
 at_:SvAt w base s c Ns Ss Ks σs
 ok:SvOk c rs On
 nt:c.nt=.slice none 0 0
 hn:HoN rs Ns
 now:0≤c.now∧c.now≤9223372036854775807
 first:0≤c.first∧c.first≤9223372036854775807
 lm:∀ (i:Nat) N σ,Ns[i]?=some N→Ss[i]?=some σ→LmI N σ (min c.now 4611686018427387904) m
 K:∀ (k:Nat) K,Ks[k]?=some K→K.size=On∧K.rules=(rs.length:Int)
 k16:Ks.length≤16
abbrev SvC.next (c:SvC) (ck:Int):SvC:=(c.read ck).end
theorem zdO {c:SvC} (ck:Int) (h:ck≤9223372036854775807) (hn:0≤c.now∧c.now≤9223372036854775807) (hf:0≤c.first∧c.first≤9223372036854775807) :
  (0≤(c.read ck).now∧(c.read ck).now≤9223372036854775807)∧(0≤(c.read ck).first∧(c.read ck).first≤9223372036854775807):=by
 unfold SvC.read
 dsimp only
 constructor
 ·omega
 ·split <;> omega
theorem SrB.keep {m:Int} (h:SrB w base s rs On Ns Ks c Ss σs m) (hb:Below w.heap.size w w'):SrB w' base s rs On Ns Ks c Ss σs m :=
 ⟨h.at_.keep hb,h.ok,h.nt,h.hn,h.now,h.first,h.lm,h.K,h.k16⟩
theorem SrB.mono {m m':Int} (h:SrB w base s rs On Ns Ks c Ss σs m) (hm:m≤m'∧m'≤576460752303423488):SrB w base s rs On Ns Ks c Ss σs m' :=
 ⟨h.at_,h.ok,h.nt,h.hn,h.now,h.first,fun i N σ hN hσ=>by
  have h1:=h.lm i N σ hN hσ
  exact h1.mono ⟨Int.le_refl _,h1.t0.2⟩ hm,h.K,h.k16⟩
theorem SvOk.next (h:SvOk c rs On) (ck:Int):SvOk (c.next ck) rs On:=⟨h.o,h.m,h.on,h.l,h.p,h.R⟩
theorem SrB.read {m:Int} (h:SrB w base s rs On Ns Ks c Ss σs m) {ck:Int} (hck:ck≤9223372036854775807) {Ss':List LmS} {σs':List CnS} (hat:SvAt w' base s (c.next ck) Ns Ss' Ks σs') {m':Int}
  (hl:∀ (i:Nat) N σ,Ns[i]?=some N→Ss'[i]?=some σ→LmI N σ (min (c.read ck).now 4611686018427387904) m'):SrB w' base s rs On Ns Ks (c.next ck) Ss' σs' m' :=
 ⟨hat,h.ok.next ck,rfl,h.hn,(zdO ck hck h.now h.first).1,(zdO ck hck h.now h.first).2,hl,h.K,h.k16⟩
theorem SrB.lm_to {m:Int} (h:SrB w base s rs On Ns Ks c Ss σs m) {ck:Int} (hck:ck≤9223372036854775807):∀ (i:Nat) N σ,Ns[i]?=some N→Ss[i]?=some σ→LmI N σ (min (c.read ck).now 4611686018427387904) m:=by
 intro i N σ hN hσ
 have h1:=h.lm i N σ hN hσ
 have hm:=h1.m
 refine h1.mono ⟨?_,by omega⟩ ⟨Int.le_refl _,hm.2⟩
 show min c.now _≤min (max c.now ck) _
 omega
abbrev ho0 (c:SvC) (ck:Int) (Ss:List LmS):HoZ:=⟨({ c with ac:=true }:SvC).read ck,Ss,[]⟩
theorem SrB.bud {m:Int} (h:SrB w base s rs On Ns Ks c Ss σs m) {ck:Int} (hck:ck≤9223372036854775807) {n:Nat} (hnn:n≤500000) (hm:m+n*2097153≤576460752303423488):(ho0 c ck Ss).bud Ns n :=
 ⟨(zdO ck hck h.now h.first).1,(zdO ck hck h.now h.first).2,by show 0+2*n≤_;omega,m,hm,h.lm_to hck⟩
theorem SrB.chunk {m:Int} (h:SrB w base s rs On Ns Ks c Ss σs m) (ck n:Int) (hck:ck≤9223372036854775807) (k:Nat) {K:CnN} {σ:CnS} (A:Option Addr) (na ca:Nat) (zs:List Int) (sed:Value) (hK:Ks[k]?=some K) (hσ:σs[k]?=some σ) (ho:σ.op=true)
  (hnn:na≤500000) (hm:m+na*2097153≤576460752303423488) (hz:RdI w .u8 A na ca zs) (hap:∀ b off,0<na→A=some ⟨b,off,none⟩→b<base∨(∀ k,chF s Ns K k→k≠b)) :
  Calls Tryz.prog 20 #[.pointer (some ⟨s,0,none⟩),actV 2 ck (k:Int) (.slice A na ca) n sed] w fun e w'=>∃ A4 c4,e=.returned (stepQ 0 ((accS h.hn K σ (ho0 c ck Ss) zs).1:Int) none 0 0 A4 (accS h.hn K σ (ho0 c ck Ss) zs).2.2.1.evs.length c4) ∧
   SrB w' base s rs On Ns Ks (c.next ck) (accS h.hn K σ (ho0 c ck Ss) zs).2.2.1.Ss (σs.set k (accS h.hn K σ (ho0 c ck Ss) zs).2.1) (m+na*2097153) ∧
   OwE w' w.heap.size (.slice A4 (accS h.hn K σ (ho0 c ck Ss) zs).2.2.1.evs.length c4) (accS h.hn K σ (ho0 c ck Ss) zs).2.2.1.evs∧Fr (chF s Ns K) w w':=by
 have hk16:k<16:=by have h1:=(zgs.1 hK).1;have h2:=h.k16;omega
 have hb:=h.bud hck hnn hm
 refine (zhx h.hn ck n k A na ca zs sed w h.at_ h.ok h.nt hk16 hK hσ (h.K k K hK).2.symm ho hb hz (fun b off h0 hA hh=>?_)).mono ?_
 ·rcases hap b off h0 hA with h1 | h1
  ·rcases hh with hh | hh | ⟨i,N,hN,hh⟩
   ·have:=h.at_.K.lo k K hK b hh;omega
   ·have:=h.at_.lo;omega
   ·have:=h.at_.J.lo i N hN b hh;omega
  ·exact h1 b hh rfl
 ·rintro e w' ⟨A4,c4,h1,h2,h3,h4⟩
  refine ⟨A4,c4,h1,h.read hck h2 (fun i N t hN ht=>?_),h3,h4⟩
  have hl:=zkM (hn:=h.hn) (K:=K) zs σ (ho0 c ck Ss) m hb.now.1 (by rw [hz.len];exact hm) (h.lm_to hck)
  have hc:(accS h.hn K σ (ho0 c ck Ss) zs).2.2.1.c=(ho0 c ck Ss).c:=(zlf (hn:=h.hn) (K:=K) zs σ (ho0 c ck Ss)).1
  have h6:=hl i N t hN ht
  rw [hc,hz.len] at h6
  exact h6
end
end
section
open Go.ChangeShapes Go.WideShapes Go.ChangeAt Go.RowKit
section
variable {w w' W:World} {s base B On:Nat} {c c':SvC} {K:CnN} {σ:CnS} {rs:List RuZ} {Ns:List LmN} {Ss:List LmS} {Ks:List CnN} {σs:List CnS} {m:Int}
theorem zgg {p:RuZ} {zs:List Int} {N:LmN} (h:LmR (planR p) zs N):LmP N (lqL p.L) ((lqS p.W*lqN p.Sl:Nat):Int) (lqB p.L p.B) (lqN p.Sl) (lqS p.W) (lqR p.Ro) (lqW p.Wi) (lqC p.Ce) (lqT p.Tr) (lqM p.sm p.Sl) (rX zs) (rA zs) (rB zs):=by
 have h2:1≤lqN p.Sl∧lqN p.Sl≤8:=by unfold lqN;omega
 have e:((planR p).W / (planR p).Sl).toNat=lqS p.W:=by
  show ((((lqS p.W*lqN p.Sl:Nat):Int)) / ((lqN p.Sl:Nat):Int)).toNat=_
  rw [Int.natCast_mul,Int.mul_ediv_cancel _ (by omega)]
  omega
 have g:=h
 unfold LmR at g
 rw [e] at g
 exact g
theorem zm1 {p:RuZ} {zs:List Int} {N:LmN} {w:World} (h:LmR (planR p) zs N) (hA:LmAt w N (lmZ (planR p).Ce.toNat)):LmI N (lmZ (planR p).Ce.toNat) 0 0:=zj3 hA (zgg h)
theorem zm0 {p:RuZ} {zs:List Int} {N:LmN} (h:LmR (planR p) zs N):LmB N:=(zj2 (zgg h)).1
theorem zdB {ps:List RuZ} {i:Nat} {r:RuZ} (h:(confR ps)[i]?=some r):∃ p,r=planR p:=zbr ps r (List.mem_of_getElem? h)
theorem zhV {ps:List RuZ} {zf:Nat→List Int} (hl:Ns.length=(confR ps).length) (h:∀ (k:Nat) r N,(confR ps)[k]?=some r→Ns[k]?=some N→LmR r (zf k) N):HoN (confR ps) Ns:=by
 have hc:=zbN ps
 refine ⟨hl,by omega,fun r hr=>?_,fun i N hN=>?_,fun i r N hr hN=>?_,fun i r N hr hN=>⟨_,h i r N hr hN⟩⟩
 ·obtain ⟨p,rfl⟩:=zbr ps r hr;exact zdT p
 ·obtain ⟨r,hr⟩:∃ r,(confR ps)[i]?=some r:=⟨_,zge (by rw [← hl];exact (zgs.1 hN).1)⟩
  obtain ⟨p,rfl⟩:=zdB hr
  exact zm0 (h i _ N hr hN)
 ·obtain ⟨p,rfl⟩:=zdB hr
  have h1:=(h i _ N hr hN).pT
  rw [h1]
  show (((planR p).Tr).toNat:Int)=_
  exact Int.toNat_of_nonneg (by show (0:Int)≤((lqT p.Tr:Nat):Int);omega)
theorem zma {rs:List RuZ} {i:Nat} {r:RuZ} (h:rs[i]?=some r):(rsZ rs)[i]?=some (lmZ r.Ce.toNat):=by
 unfold rsZ;rw [List.getElem?_map,h];rfl
theorem zhW {ps:List RuZ} {zf:Nat→List Int} {t:Int} (ht:0≤t∧t≤4611686018427387904) (hl:Ns.length=(confR ps).length) (hJ:JdAt w base Ns (rsZ (confR ps))) (h:∀ (k:Nat) r N,(confR ps)[k]?=some r→Ns[k]?=some N→LmR r (zf k) N) :
  ∀ (i:Nat) N σ,Ns[i]?=some N→(rsZ (confR ps))[i]?=some σ→LmI N σ t 0:=by
 intro i N σ hN hσ
 obtain ⟨r,hr⟩:∃ r,(confR ps)[i]?=some r:=⟨_,zge (by rw [← hl];exact (zgs.1 hN).1)⟩
 have hA:=hJ.at_ i N σ hN hσ
 rw [zma hr] at hσ
 injection hσ with hσ
 obtain ⟨p,rfl⟩:=zdB hr
 rw [← hσ] at hA ⊢
 exact (zm1 (h i _ N hr hN) hA).mono ⟨ht.1,ht.2⟩ ⟨Int.le_refl _,by decide⟩
structure SvNew (c:SvC):Prop where
 now:c.now=0
 first:c.first=0
 rd:c.rd=false
 rs:c.rs=false
theorem svnewB {ps:List RuZ} {zf:Nat→List Int} (Bu:Int) (On:Nat) (A:Option Addr) (n cc:Nat) (seeds:Value) (w:World) (hr:RdRu w A n cc (confR ps)) (hz:rightZ Bu 3 (On:Int) (confR ps)) (ho:1≤On∧On≤65536)
  (hd:∀ (i:Nat) r wx,(confR ps)[i]?=some r→Below w.heap.size w wx→Calls Tryz.prog 66 #[seeds,.int .i64 (i:Int),.int .i64 (3*(r.Ro+1))] wx fun e w'=>∃ A n c,e=.returned (.slice A n c)∧RdI w' .u64 A n c (zf i)∧Below wx.heap.size wx w') :
  Calls Tryz.prog 15 #[.agg #[.int .i64 Bu,.int .i64 3,.int .i64 (On:Int),.slice A n cc],seeds] w fun e w'=>∃ (s:Nat) (c:SvC) (Ns:List LmN) (Ks:List CnN),e=.returned (.tuple #[.pointer (some ⟨s,0,none⟩),.int .i64 0]) ∧
   SrB w' w.heap.size s (confR ps) On Ns Ks c (rsZ (confR ps)) [cZ,cZ,cZ] 0∧SvNew c∧(∀ (k:Nat) r N,(confR ps)[k]?=some r→Ns[k]?=some N→LmR r (zf k) N)∧Ks.length=3∧Below w.heap.size w w':=by
 refine (zeR Bu 3 (On:Int) A n cc seeds w hr hz hd).mono ?_
 rintro e w' ⟨s,Ns,Ks,rfl,h1,h2,h3,h4⟩
 have hl:=h1.K.ln
 have hnl:Ns.length=(confR ps).length:=by rw [h1.J.ln];unfold rsZ;rw [List.length_map]
 refine ⟨s,_,Ns,Ks,rfl,⟨h1,⟨rfl,rfl,ho,zbN ps |>.imp id (fun h=>by omega),fun r hr=>by obtain ⟨p,rfl⟩:=zbr ps r hr;exact zdT p,fun i r hi j hj=>?_⟩,rfl,zhV hnl h2,⟨Int.le_refl _,(show (0:Int)≤9223372036854775807 by decide)⟩,⟨Int.le_refl _,(show (0:Int)≤9223372036854775807 by decide)⟩,zhW ⟨(show (0:Int)≤min 0 4611686018427387904 by decide),(show min (0:Int) 4611686018427387904≤4611686018427387904 by decide)⟩ hnl h1.J h2,fun k K hK=>⟨by rw [(h3 k K hK).1];exact Int.toNat_natCast On,(h3 k K hK).2⟩,by rw [hl];decide⟩,⟨rfl,rfl,rfl,rfl⟩,h2,by rw [hl];rfl,h4⟩
 show (ruL (confR ps)++_)[i*9+j]?=_
 rw [List.getElem?_append_left (by rw [zfz];have:=(zgs.1 hi).1;omega)]
 exact zfy _ hi hj
theorem SrB.plain (h:SrB w base s rs On Ns Ks c Ss σs m) (kd ck n:Int) (hck:ck≤9223372036854775807) (k:Nat) (dat sed:Value) {K:CnN} {σ:CnS} (hK:Ks[k]?=some K) (hσ:σs[k]?=some σ) (hk4:kd≠4) (hk:kd=2∨kd=3→σ.op=false) :
  Calls Tryz.prog 20 #[.pointer (some ⟨s,0,none⟩),actV kd ck (k:Int) dat n sed] w fun e w'=>e=.returned (stepV (onS kd σ).1)∧SrB w' base s rs On Ns Ks (c.next ck) Ss (σs.set k (onS kd σ).2) m∧Fr (fun b=>K.F b∨b=s) w w':=by
 have hk16:k<16:=by have h1:=(zgs.1 hK).1;have h2:=h.k16;omega
 refine (zjp kd ck k n dat sed w h.at_ hk16 hK hσ hk4 hk).mono ?_
 rintro e w' ⟨rfl,h1,h2⟩
 exact ⟨rfl,h.read hck h1 (h.lm_to hck),h2⟩
theorem SrB.drain (h:SrB w base s rs On Ns Ks c Ss σs m) (ck n:Int) (hck:ck≤9223372036854775807) (k d:Nat) (dat sed:Value) {K:CnN} {σ:CnS} (hK:Ks[k]?=some K) (hσ:σs[k]?=some σ) (ho:σ.op=true) (hd:(d:Int)=max 0 (min n (σ.out.length:Int))) :
  Calls Tryz.prog 20 #[.pointer (some ⟨s,0,none⟩),actV 3 ck (k:Int) dat n sed] w fun e w'=>∃ g,e=.returned (stepQ 0 0 (some ⟨g,0,none⟩) d d none 0 0)∧Blk w' g 5 (obbyC (σ.out.take d)) ∧
   SrB w' base s rs On Ns Ks (c.next ck) Ss (σs.set k ⟨σ.z,σ.err,σ.out.drop d,σ.op⟩) m∧Fr (fun b=>K.F b∨b=s) w w'∧w.heap.size≤g:=by
 have hk16:k<16:=by have h1:=(zgs.1 hK).1;have h2:=h.k16;omega
 refine (zhy ck n k d dat sed w h.at_ hk16 hK hσ ho hd).mono ?_
 rintro e w' ⟨g,h1,h2,h3,h4,h5⟩
 exact ⟨g,h1,h2,h.read hck h3 (h.lm_to hck),h4,h5⟩
theorem SrB.absent (h:SrB w base s rs On Ns Ks c Ss σs m) (kd ck n cn:Int) (hck:ck≤9223372036854775807) (dat sed:Value) (hk4:kd≠4)
  (hcn:∀ wx c',Sv wx s c'→c'.K=c.K→Calls Tryz.prog 23 #[.pointer (some ⟨s,0,none⟩),.int .i64 cn] wx fun e w'=>e=.returned (.pointer none)∧wx=w') :
  Calls Tryz.prog 20 #[.pointer (some ⟨s,0,none⟩),actV kd ck cn dat n sed] w fun e w'=>e=.returned (stepV 1)∧SrB w' base s rs On Ns Ks (c.next ck) Ss σs m∧Fr (fun k=>k=s) w w':=by
 refine (zjq kd ck cn n dat sed hk4 w h.at_.sv hcn).mono ?_
 rintro e w' ⟨rfl,h1,h2⟩
 have h3:=h.at_
 exact ⟨rfl,h.read hck ⟨h1,h3.J.fr h2 (fun i N hN b hb e=>h3.nJ i N hN (by rw [← e];exact hb)),h3.K.fr h2 (fun i K hK b hb e=>h3.nK i K hK (by rw [← e];exact hb)),h3.cJ,h3.cK,h3.lo,h3.nJ,h3.nK,h3.ap⟩ (h.lm_to hck),h2⟩
end
end
section
open Go.ChangeShapes Go.WideShapes Go.ChangeAt Go.RowKit
section
variable {w w' W:World} {s base On:Nat} {c:SvC} {rs ps:List RuZ} {Ns:List LmN} {Ss:List LmS} {Ks:List CnN} {σs:List CnS} {m:Int}
def svF (s:Nat) (Ns:List LmN) (Ks:List CnN) (b:Nat):Prop:=b=s∨(∃ (i:Nat) (N:LmN),Ns[i]?=some N∧N.all b)∨∃ (k:Nat) (K:CnN),Ks[k]?=some K∧K.F b
theorem SrB.sv_lo (h:SrB w base s rs On Ns Ks c Ss σs m):∀ b,svF s Ns Ks b→base≤b:=by
 rintro b (hb | ⟨i,N,hN,hb⟩ | ⟨k,K,hK,hb⟩)
 ·rw [hb];exact h.at_.lo
 ·exact h.at_.J.lo i N hN b hb
 ·exact h.at_.K.lo k K hK b hb
theorem SrB.sv_lt (h:SrB w base s rs On Ns Ks c Ss σs m):∀ b,svF s Ns Ks b→b<w.heap.size:=by
 rintro b (hb | ⟨i,N,hN,hb⟩ | ⟨k,K,hK,hb⟩)
 ·rw [hb];exact h.at_.sv.lt
 ·exact h.at_.J.lt hN b hb
 ·exact h.at_.K.lt hK b hb
theorem zml {k:Nat} {K:CnN} (hK:Ks[k]?=some K) {b:Nat} (h:chF s Ns K b):svF s Ns Ks b:=by
 rcases h with h | h | h
 ·exact Or.inr (Or.inr ⟨k,K,hK,h⟩)
 ·exact Or.inl h
 ·exact Or.inr (Or.inl h)
structure DoV where
 kd:Int
 ck:Int
 k:Nat
 A:Option Addr
 na:Nat
 ca:Nat
 n:Int
 B:Option Addr
 nb:Nat
 cb:Nat
abbrev DoV.v (a:DoV):Value:=actV a.kd a.ck (a.k:Int) (.slice a.A a.na a.ca) a.n (.slice a.B a.nb a.cb)
structure DoAt (w:World) (D:Nat→Prop) (a:DoV) (zs sd:List Int):Prop where
 dat:RdI w .u8 a.A a.na a.ca zs
 own:∀ b off,0<a.na→a.A=some ⟨b,off,none⟩→D b
 sed:RdI w .u64 a.B a.nb a.cb sd
structure DoOK (a:DoV):Prop where
 kd:0≤a.kd∧a.kd≤4
 ck:a.ck≤9223372036854775807
 k:a.k<4
 na:a.na≤500
 nb:a.nb≤1000
def zfA (zs:List Int) (m:Nat) (rs:List RuZ) (i:Nat):List Int:=if m=0 then List.replicate (3*((rs.getD i planZ).Ro+1)).toNat 0 else zfS zs m rs i
theorem zeQ (A:Option Addr) (c:Nat) (ru:Int) (n:Nat) (hn:n≤1000) (w:World) :
  Calls Tryz.prog 66 #[.slice A 0 c,.int .i64 ru,.int .i64 (n:Int)] w fun e w'=>∃ g,e=.returned (.slice (some ⟨g,0,none⟩) n n)∧RdI w' .u64 (some ⟨g,0,none⟩) n n (List.replicate n 0)∧Below w.heap.size w w':=by
 have hmk:=fun w=>G.make_one (P:=Tryz.prog) (t:=23) (e:=69) (z:=.int .u64 0) (B:=8) Tryz.underlying23 (i:=(Tryz.prog.info? 69).get (by kernel_rfl)) (by rfl) (by kernel_rfl) rfl (by kernel_rfl) (by kernel_rfl) n (by omega) (by omega) w
 obtain ⟨w1,hw1,k1,b1,s1⟩:=zad w (List.replicate n (.int .u64 0)).toArray 69
 have H1:=zhz (And.intro k1 b1)
 have HM:=zhz hn
 obtain ⟨z0,hz0⟩:=zeq ((List.replicate n (Value.int .u64 0)).toArray)
 simp only [← hz0] at hmk
 rw [← hz0] at hw1
 have HZ:=zhz hz0
 clear k1 b1 s1 hn hz0
 go_enter Tryz.func66,Tryz.ntmps66
 go_wp2
 go_ret
 refine ⟨_,rfl,zbh (zs:=List.replicate n 0) (by have:=H1.out.1;rw [List.map_replicate];exact this) (List.length_replicate) (by have:=HM.out;unfold maxLen;omega) (fun z hz=>by rw [List.eq_of_mem_replicate hz];rfl),H1.out.2⟩
theorem zkZ {rs:List RuZ} (hp:∀ r ∈ rs,r.p) (hl:rs.length≤8) {A:Option Addr} {m cc:Nat} {zs:List Int} (hm:m≤9223372036854775807) (i:Nat) (r:RuZ) (wx:World) (hi:rs[i]?=some r) (hr:RdI wx .u64 A m cc zs) :
  Calls Tryz.prog 66 #[.slice A m cc,.int .i64 (i:Int),.int .i64 (3*(r.Ro+1))] wx fun e w'=>∃ A n c,e=.returned (.slice A n c)∧RdI w' .u64 A n c (zfA zs m rs i)∧Below wx.heap.size wx w':=by
 by_cases h:m=0
 ·subst h
  unfold zfA
  rw [if_pos rfl]
  have h1:=hp r (List.mem_of_getElem? hi)
  have hRo:1≤r.Ro∧r.Ro≤8:=h1.2.2.2.2.2.2.1
  have hg:rs.getD i planZ=r:=by rw [List.getD_eq_getElem?_getD,hi];rfl
  have:=zeQ A cc (i:Int) (3*(r.Ro+1)).toNat (by omega) wx
  rw [Int.toNat_of_nonneg (by omega)] at this
  refine this.mono ?_
  rintro e w' ⟨g,rfl,h1,h2⟩
  exact ⟨_,_,_,rfl,by rw [hg];exact h1,h2⟩
 ·unfold zfA
  rw [if_neg h]
  exact zjS hp hl (by omega) i r wx hi hr
theorem SrB.restart (h:SrB w base s (confR ps) On Ns Ks c Ss σs m) (ck cn n:Int) (hck:ck≤9223372036854775807) (dat:Value) {A:Option Addr} {nb cc:Nat} {sd:List Int} (hm:nb≤1000) (hr:RdI w .u64 A nb cc sd) (hs:∀ b off,0<nb→A=some ⟨b,off,none⟩→b≠s) :
  Calls Tryz.prog 20 #[.pointer (some ⟨s,0,none⟩),actV 4 ck cn dat n (.slice A nb cc)] w fun e w'=>e=.returned (stepV 0)∧∃ (Ns':List LmN) (Ks':List CnN),SrB w' base s (confR ps) On Ns' Ks' (c.fresh ck Ns' Ks') (rsZ (confR ps)) (List.replicate Ks.length cZ) 0∧Ks'.length=Ks.length ∧
   (∀ (k:Nat) r N,(confR ps)[k]?=some r→Ns'[k]?=some N→LmR r (zfA sd nb (confR ps) k) N)∧(∀ b,svF s Ns' Ks' b→b=s∨w.heap.size≤b)∧Fr (fun k=>k=s) w w':=by
 have hl8:=h.hn.l
 have hNl:=h.hn.nl
 refine (zeP (zf:=zfA sd nb (confR ps)) ck cn n dat (.slice A nb cc) h.ok w h.at_ hNl h.k16 (fun i r wx hi hf=>zkZ h.ok.p h.ok.l.2 (by omega) i r wx hi ?_)).mono ?_
 ·refine ⟨hr.len,hr.cap,hr.max,fun hp=>?_,hr.wf⟩
  obtain ⟨b,off,e,hlt,hc⟩:=hr.at_ hp
  refine ⟨b,off,e,Nat.lt_of_lt_of_le hlt hf.size,fun i hi=>?_⟩
  rw [← hc i hi]
  exact hf.cell hlt (hs b off hp e)
 ·rintro e w' ⟨rfl,Ns',Ks',h1,h2,h3,h4,h5,h6⟩
  have hnl:Ns'.length=(confR ps).length:=by rw [h1.J.ln];unfold rsZ;rw [List.length_map]
  have hn2:(c.fresh ck Ns' Ks').now=max 0 ck:=rfl
  have hb2:0≤max 0 ck∧max 0 ck≤9223372036854775807:=by omega
  refine ⟨rfl,Ns',Ks',⟨h1,⟨h.ok.o,h.ok.m,h.ok.on,h.ok.l,h.ok.p,h.ok.R⟩,rfl,zhV hnl h3,by rw [hn2];exact hb2,hb2,zhW (by rw [hn2];omega) hnl h1.J h3,h4,by rw [h2];exact h.k16⟩,h2,h3,fun b hb=>?_,h6⟩
  rcases hb with hb | hb
  ·exact Or.inl hb
  ·exact Or.inr (h5 b hb)
end
end
section
open Go.ChangeShapes Go.WideShapes Go.ChangeAt Go.RowKit
section
variable {N1 N2:LmN} {Ns1 Ns2:List LmN} {c1 c2:SvC} {rs:List RuZ} {K1 K2:CnN}
end
end
section
open Go.ChangeShapes Go.WideShapes Go.ChangeAt Go.RowKit
structure RdE (w:World) (B:Option Addr) (m:Nat) (L:List EvZ):Prop where
 len:L.length=m
 at_:0<m→∃ b off,B=some ⟨b,off,none⟩∧b<w.heap.size∧∀ (i:Nat) x,L[i]?=some x→∀ j,j<4→w.cell? ⟨b,off+i*4+j,none⟩=(encV x)[j]?
theorem RdE.below {w w':World} {B:Option Addr} {m:Nat} {L:List EvZ} (h:RdE w B m L) (hb:Below w.heap.size w w'):RdE w' B m L :=
 ⟨h.len,fun hm=>by
  obtain ⟨b,off,e,hlt,hc⟩:=h.at_ hm
  exact ⟨b,off,e,Nat.lt_of_lt_of_le hlt hb.size,fun i x hx j hj=>by rw [hb.cell (p:=⟨b,off+i*4+j,none⟩) hlt];exact hc i x hx j hj⟩⟩
theorem RdE.of {w:World} {base m:Nat} {B:Option Addr} {d:Nat} {L:List EvZ} (h:OwE w base (.slice B m d) L):RdE w B m L:=by
 obtain ⟨A,c,hv,h1,h2,h3⟩:=OwR.slice h
 injection hv with e1 e2 e3
 refine ⟨e2.symm,fun hm=>?_⟩
 obtain ⟨g,e4,h4,h5⟩:=h3 (by omega)
 subst e1
 subst e4
 exact ⟨g,0,rfl,h5,fun i x hx j hj=>by rw [Nat.zero_add];exact OwR.cell zbO h hx hj⟩
theorem RdE.nil (w:World):RdE w none 0 []:=⟨rfl,fun h=>absurd h (by omega)⟩
end
section
open Go.ChangeShapes Go.WideShapes Go.ChangeAt Go.RowKit
open Ar (inR)
section
variable {w w' W:World} {s base B On:Nat} {c c':SvC} {K:CnN} {σ:CnS} {rs:List RuZ} {Ns:List LmN} {Ss:List LmS} {Ks:List CnN} {σs:List CnS} {m:Int}
theorem zmj {g n:Nat} {zs:List Int} {w:World} (h:Blk w g 5 (obbyC zs)) (hl:zs.length=n) (hn:n≤1000000) (hb:byt zs):RdI w .u8 (some ⟨g,0,none⟩) n n zs :=
 zbh h hl (by unfold maxLen;omega) (fun z hz=>zbK (hb z hz))
end
end
section
open Go.ChangeShapes Go.WideShapes Go.ChangeAt Go.RowKit
section
variable {w w' W:World} {s base On:Nat} {c:SvC} {rs ps:List RuZ} {Ns:List LmN} {Ss:List LmS} {Ks:List CnN} {σs:List CnS} {m:Int} {K:CnN} {σ:CnS}
theorem SrB.frS {F:Nat→Prop} (h:SrB w base s rs On Ns Ks c Ss σs m) (hf:Fr F w w') (hF:∀ b,F b→¬ svF s Ns Ks b):SrB w' base s rs On Ns Ks c Ss σs m :=
 ⟨h.at_.fr hf (fun e=>hF _ e (Or.inl rfl)) (fun i N hN b hb e=>hF _ e (Or.inr (Or.inl ⟨i,N,hN,hb⟩))) (fun i K hK b hb e=>hF _ e (Or.inr (Or.inr ⟨i,K,hK,hb⟩))),h.ok,h.nt,h.hn,h.now,h.first,h.lm,h.K,h.k16⟩
theorem RdE.fr {B:Option Addr} {n:Nat} {L:List EvZ} {F:Nat→Prop} (h:RdE w B n L) (hf:Fr F w w') (hF:∀ b off,0<n→B=some ⟨b,off,none⟩→¬ F b):RdE w' B n L :=
 ⟨h.len,fun hm=>by
  obtain ⟨b,off,e,hlt,hc⟩:=h.at_ hm
  exact ⟨b,off,e,Nat.lt_of_lt_of_le hlt hf.size,fun i x hx j hj=>by rw [hf.cell hlt (hF b off hm e)];exact hc i x hx j hj⟩⟩
theorem zjz {N:LmN} {s:LmS} {q:Req} {now held m:Int} {n:Nat} (hn:n≤8) (hq:okQ (n:Int) q) (hI:LmI N s (min now 4611686018427387904) m) (hb:LmB N) (hm:m+2097153≤576460752303423488) (hh:0≤held∧held≤9223372036854775807) (h64:1≤N.S.N.n∧N.S.N.n≤64):byt (ansF N now held s q):=by
 have hr:=hq.1
 unfold rightP at hr
 unfold ansF
 split
 ·rename_i h4
  unfold ansQ
  rw [if_neg (by omega),if_neg (by omega),if_neg (by omega)]
  refine za0 (zfO (by omega) ?_ (zdQ (fun x hx=>?_)))
  ·rw [zaZ,List.length_map,List.length_take]
   have h1:=zd0 q.k h64.1
   omega
  ·have h1:=(List.mem_filter.1 (List.mem_of_mem_take hx)).2
   unfold okT at h1
   have h2:=of_decide_eq_true h1
   exact h2
 ·rename_i h4
  unfold ansQ
  split
  ·exact za0 (ans_byt (Or.inl rfl) (hI.check_p hb hm _ hh).1)
  ·split
   ·exact za0 (ans_byt (Or.inr rfl) (hI.peek_p hb _ hh).1)
   ·split
    ·exact za0 (zfP (by omega))
    ·exact absurd (show q.op=4 by omega) h4
theorem HoZ.ans_byt {h:HoZ} {q:Req} (hn:HoN rs Ns) (hb:h.bud Ns 1) (hq:okQ (rs.length:Int) q):byt (h.ans rs Ns q):=by
 unfold HoZ.ans
 split
 ·rename_i r N σ hr hN hσ
  obtain ⟨b1,b2,b3,m,b4,b5⟩:=hb
  have hp:=hn.p r (List.mem_of_getElem? hr)
  unfold RuZ.p ruleP at hp
  have hT:=hn.T _ r N hr hN
  exact zjz hn.l hq (b5 _ N σ hN hσ) (hn.B _ N hN) (by omega) (SvC.held_bd _ b1.1) (by omega)
 ·intro x hx;cases hx
theorem zje (z:List Int) (rules:Int):∀ (f i:Nat),0≤(scanZ z rules f i).2.2∧(scanZ z rules f i).2.2≤10
 | 0,i=>by unfold scanZ;decide
 | f+1,i=>by
  unfold scanZ
  split
  ·show 0≤fltZ z rules i∧fltZ z rules i≤10
   unfold fltZ
   dsimp only
   split
   ·decide
   ·split
    ·decide
    ·split
     ·decide
     ·split
      ·decide
      ·split
       ·decide
       ·split <;> decide
  ·split
   ·exact ⟨Int.le_refl _,(show (0:Int)≤10 by decide)⟩
   ·exact zje z rules f (i+1)
structure CnB (σ:CnS):Prop where
 z:byt σ.z
 out:byt σ.out
theorem zgu (w:World) (k:IntKind):RdI w k none 0 0 []:=⟨rfl,Nat.le_refl _,Nat.zero_le _,fun h=>absurd h (by omega),fun z hz=>by cases hz⟩
theorem zjE (hn:HoN rs Ns) (hK:K.rules=(rs.length:Int)) {h:HoZ} {x:Int} (hb:h.bud Ns 1) (hz:byt (σ.z++[x])) (ho:byt σ.out):CnB (comeS hn K σ h x).1:=by
 have hnx:byt (nextZ K.rules σ.z x):=by
  unfold nextZ
  split
  ·intro y hy;cases hy
  ·exact hz
 unfold comeS comeC
 split
 ·rename_i h1
  exact ⟨hnx,zaO ho (zd8 (zje _ _ _ _))⟩
 ·split
  ·rename_i h1 h2
   obtain ⟨q,n,e,hp⟩:∃ q n e,parseZ (σ.z++[x]) K.rules=(q,n,e):=⟨_,_,_,rfl⟩
   rw [hp] at h2 ⊢
   have hq:=(zbT hz hp (by dsimp only at h2;omega)).2.2
   rw [hK] at hq
   exact ⟨hnx,zaO ho (HoZ.ans_byt hn hb hq)⟩
  ·exact ⟨hnx,ho⟩
structure ActR where
 e:Int
 n:Nat
 out:List Int
 evs:List EvZ
 σ:CnS
 Ss:List LmS
noncomputable def actS (hn:HoN rs Ns) (K:CnN) (c:SvC) (Ss:List LmS) (σ:CnS) (kd ck n:Int) (zs:List Int):ActR :=
 if σ.op=true∧kd=2 then ⟨0,(accS hn K σ (ho0 c ck Ss) zs).1,[],(accS hn K σ (ho0 c ck Ss) zs).2.2.1.evs,(accS hn K σ (ho0 c ck Ss) zs).2.1,(accS hn K σ (ho0 c ck Ss) zs).2.2.1.Ss⟩
 else if σ.op=true∧kd=3 then ⟨0,0,σ.out.take (max 0 (min n (σ.out.length:Int))).toNat,[],⟨σ.z,σ.err,σ.out.drop (max 0 (min n (σ.out.length:Int))).toNat,σ.op⟩,Ss⟩
 else ⟨(onS kd σ).1,0,[],[],(onS kd σ).2,Ss⟩
theorem zlp {h:HoZ} {n:Nat} (hb:h.bud Ns (n+1)):h.bud Ns 1:=by
 obtain ⟨b1,b2,b3,m,b4,b5⟩:=hb
 exact ⟨b1,b2,by omega,m,by omega,b5⟩
theorem zhL (hn:HoN rs Ns) (hK:K.rules=(rs.length:Int)):∀ (zs:List Int) (σ:CnS) (h:HoZ),h.bud Ns zs.length→byt zs→CnB σ→CnB (accS hn K σ h zs).2.1
 | [],_,_,_,_,hc=>hc
 | x :: r,σ,h,hb,hz,hc=>by
  cases hf:fitsS hn K σ x with
  | false=>rw [zbY h r hf];exact hc
  | true =>
   rw [zbo h r hf]
   dsimp only
   rw [List.length_cons] at hb
   have h1:=zjE (σ:=σ) (h:=h) (x:=x) hn hK (zlp hb) (zaO hc.z (fun y hy=>hz y (by rw [List.mem_singleton.1 hy];exact List.mem_cons_self))) hc.out
   refine zhL hn hK r _ _ ?_ (fun y hy=>hz y (List.mem_cons_of_mem _ hy)) h1
   rcases zc1 (hn:=hn) (K:=K) (σ:=σ) h x with e | e
   ·rw [e];exact HoZ.bud_le hb
   ·rw [e];exact HoZ.bud_nx _ hb
theorem zlO {kd:Int} (h:CnB σ):CnB (onS kd σ).2:=by
 unfold onS
 split
 ·split
  ·exact h
  ·exact ⟨(fun x hx=>by cases hx),h.out⟩
 ·split
  ·split
   ·exact ⟨h.z,(fun x hx=>by cases hx)⟩
   ·exact h
  ·split <;> exact h
theorem RdI.byt {A:Option Addr} {n cc:Nat} {zs:List Int} (h:RdI w .u8 A n cc zs):byt zs:=fun z hz=>by
 have:=h.wf z hz
 exact zfR this
theorem SrB.actP (h:SrB w base s rs On Ns Ks c Ss σs m) (kd ck n:Int) (hck:ck≤9223372036854775807) (k:Nat) (A:Option Addr) (na ca:Nat) (zs:List Int) (sed:Value) (hK:Ks[k]?=some K) (hσ:σs[k]?=some σ) (hB:CnB σ) (hk4:kd≠4) (hnn:na≤500) (hm:m+500*2097153≤576460752303423488) (hz:RdI w .u8 A na ca zs) (hap:∀ b off,0<na→A=some ⟨b,off,none⟩→¬ chF s Ns K b) :
  Calls Tryz.prog 20 #[.pointer (some ⟨s,0,none⟩),actV kd ck (k:Int) (.slice A na ca) n sed] w fun e w'=>∃ A3 n3 c3 A4 n4 c4,e=.returned (stepQ (actS h.hn K c Ss σ kd ck n zs).e ((actS h.hn K c Ss σ kd ck n zs).n:Int) A3 n3 c3 A4 n4 c4) ∧
   RdI w' .u8 A3 n3 c3 (actS h.hn K c Ss σ kd ck n zs).out∧(∀ b off,0<n3→A3=some ⟨b,off,none⟩→w.heap.size≤b)∧RdE w' A4 n4 (actS h.hn K c Ss σ kd ck n zs).evs∧(∀ b off,0<n4→A4=some ⟨b,off,none⟩→w.heap.size≤b)∧n4≤1000000 ∧
   SrB w' base s rs On Ns Ks (c.next ck) (actS h.hn K c Ss σ kd ck n zs).Ss (σs.set k (actS h.hn K c Ss σ kd ck n zs).σ) (m+500*2097153)∧CnB (actS h.hn K c Ss σ kd ck n zs).σ∧Fr (chF s Ns K) w w':=by
 have hmm:m≤m+500*2097153∧m+500*2097153≤576460752303423488:=⟨by omega,hm⟩
 by_cases h2:σ.op=true∧kd=2
 ·obtain ⟨ho,rfl⟩:=h2
  have e0:actS h.hn K c Ss σ 2 ck n zs=⟨0,(accS h.hn K σ (ho0 c ck Ss) zs).1,[],(accS h.hn K σ (ho0 c ck Ss) zs).2.2.1.evs,(accS h.hn K σ (ho0 c ck Ss) zs).2.1,(accS h.hn K σ (ho0 c ck Ss) zs).2.2.1.Ss⟩:=by
   unfold actS;rw [if_pos ⟨ho,rfl⟩]
  rw [e0]
  have hbd:=h.bud (ck:=ck) hck (n:=na) (by omega) (by omega)
  have hb2:=zhK (hn:=h.hn) (K:=K) zs σ (ho0 c ck Ss) 0 (by rw [Nat.zero_add,hz.len];exact hbd)
  refine (h.chunk ck n hck k A na ca zs sed hK hσ ho (by omega) (by omega) hz (fun b off h0 e=>Or.inr (fun k' hk' e'=>hap b off h0 e (by rw [← e'];exact hk')))).mono ?_
  rintro e w' ⟨A4,c4,rfl,g1,g2,g3⟩
  refine ⟨none,0,0,A4,_,c4,rfl,zgu _ _,fun b off h0 _=>absurd h0 (by omega),RdE.of g2,fun b off h0 e=>?_,by have:=hb2.evs;omega,g1.mono ⟨by omega,hm⟩,zhL h.hn (h.K k K hK).2 zs σ _ (by rw [hz.len];exact hbd) hz.byt hB,g3⟩
  exact OwR.base_le g2 b (by rw [e];rfl)
 ·by_cases h3:σ.op=true∧kd=3
  ·obtain ⟨ho,rfl⟩:=h3
   obtain ⟨d,hd⟩:∃ z,z=(max 0 (min n (σ.out.length:Int))).toNat:=⟨_,rfl⟩
   have e0:actS h.hn K c Ss σ 3 ck n zs=⟨0,0,σ.out.take d,[],⟨σ.z,σ.err,σ.out.drop d,σ.op⟩,Ss⟩:=by
    unfold actS;rw [if_neg (fun hh=>absurd hh.2 (by decide)),if_pos ⟨ho,rfl⟩,← hd]
   rw [e0]
   have hl:(h.at_.K.at_ k K σ hK hσ).b.le=(h.at_.K.at_ k K σ hK hσ).b.le:=rfl
   have hle:=(h.at_.K.at_ k K σ hK hσ).b.le
   refine (h.drain ck n hck k d (.slice A na ca) sed hK hσ ho (by omega)).mono ?_
   rintro e w' ⟨g,rfl,g1,g2,g3,g4⟩
   refine ⟨some ⟨g,0,none⟩,d,d,none,0,0,rfl,zmj g1 (by rw [List.length_take];omega) (by omega) (fun z hz=>hB.out z (List.mem_of_mem_take hz)),fun b off _ e=>by injection e with e;injection e with e;omega,RdE.nil _,fun b off h0 _=>absurd h0 (by omega),by omega,g2.mono hmm,⟨hB.z,fun z hz=>hB.out z (List.mem_of_mem_drop hz)⟩,g3.mono (fun b hb=>?_)⟩
   rcases hb with hb | hb
   ·exact Or.inl hb
   ·exact Or.inr (Or.inl hb)
  ·have e0:actS h.hn K c Ss σ kd ck n zs=⟨(onS kd σ).1,0,[],[],(onS kd σ).2,Ss⟩:=by
    unfold actS;rw [if_neg h2,if_neg h3]
   rw [e0]
   refine (h.plain kd ck n hck k (.slice A na ca) sed hK hσ hk4 (fun hk=>?_)).mono ?_
   ·cases ho:σ.op with
    | false=>rfl
    | true=>rcases hk with hk | hk;exact absurd ⟨ho,hk⟩ h2;exact absurd ⟨ho,hk⟩ h3
   ·rintro e w' ⟨rfl,g1,g2⟩
    refine ⟨none,0,0,none,0,0,rfl,zgu _ _,fun b off h0 _=>absurd h0 (by omega),RdE.nil _,fun b off h0 _=>absurd h0 (by omega),by omega,g1.mono hmm,zlO hB,g2.mono (fun b hb=>?_)⟩
    rcases hb with hb | hb
    ·exact Or.inl hb
    ·exact Or.inr (Or.inl hb)
end
end
section
open Go.ChangeShapes Go.WideShapes Go.ChangeAt Go.RowKit
section
variable {n:Nat} {σ:KSt} {N:LmN} {s:LmS} {now held cost:Int} {key o:ByteArray}
theorem KsOk.put (h:KsOk n σ) (key:ByteArray):KsOk n (σ.put n key).1:=by
 unfold KSt.put
 split
 ·exact h
 ·rename_i hp
  split
  ·exact h
  ·rename_i h64
   split
   ·exact h
   ·rename_i i hi
    have hne:σ.fl≠[]:=(fun q=>by rw [q] at hi;cases hi)
    have hl:σ.fl.getLast hne=i:=by
     rw [List.getLast?_eq_some_getLast hne] at hi
     exact Option.some.inj hi
    have e:σ.fl=σ.fl.dropLast++[i]:=by
     rw [← hl]
     exact (List.dropLast_concat_getLast hne).symm
    have hp2:Places n (σ.fl.dropLast++[i]) σ.K:=by rw [← e];exact h.pl
    have hfr:=hp2.free (i:=i) (by simp)
    have hno:∀ q,σ.K q≠some key:=fun q hq=>zbl hp q (h.bd q key hq).1 hq
    refine ⟨hp2.put key,fun a b k ha hb=>?_,fun a k ha=>?_⟩
    ·dsimp only at ha hb
     by_cases ea:a=i
     ·by_cases eb:b=i
      ·rw [ea,eb]
      ·rw [if_pos ea] at ha
       rw [if_neg eb] at hb
       injection ha with ha
       rw [← ha] at hb
       exact absurd hb (hno b)
     ·rw [if_neg ea] at ha
      by_cases eb:b=i
      ·rw [if_pos eb] at hb
       injection hb with hb
       rw [← hb] at ha
       exact absurd ha (hno a)
      ·rw [if_neg eb] at hb
       exact h.inj a b k ha hb
    ·dsimp only at ha
     by_cases ea:a=i
     ·rw [if_pos ea] at ha
      injection ha with ha
      rw [ea,← ha]
      exact ⟨hfr.1,by omega⟩
     ·rw [if_neg ea] at ha
      exact h.bd a k ha
theorem KsOk.del (h:KsOk n σ) (o:ByteArray):KsOk n (σ.del n o).1:=by
 unfold KSt.del
 split
 ·rename_i i hi
  obtain ⟨h1,h2⟩:=zax hi
  refine ⟨h.pl.drop (by rw [h2];rfl),fun a b k ha hb=>?_,fun a k ha=>?_⟩
  ·dsimp only at ha hb
   split at ha
   ·cases ha
   ·split at hb
    ·cases hb
    ·exact h.inj a b k ha hb
  ·dsimp only at ha
   split at ha
   ·cases ha
   ·exact h.bd a k ha
 ·exact h
theorem KsOk.check (h:KsOk N.Q.N.n s.σ):KsOk N.Q.N.n (s.check N now held key cost).1.σ:=by
 unfold LmS.check
 split
 ·rw [zdD];exact h
 ·dsimp only
  rw [zdD,zio]
  obtain ⟨s',hs'⟩:=zeq (s.seen N now key cost)
  have h':KsOk N.Q.N.n s'.σ:=by rw [hs'];exact h
  rw [← hs']
  unfold LmS.adm
  split
  ·exact h'
  ·split
   ·split
    ·rename_i o _
     exact (h'.del o).put key
    ·exact h'
   ·exact h'.put key
end
def stepB (M:Int→ByteArray→Bool) (e:EvZ):Int→ByteArray→Bool:=fun r k=>if r=e.rule∧k=e.key then e.up else M r k
def okB (now:Int):(Int→ByteArray→Bool)→List EvZ→Prop
 | _,[]=>True
 | M,e :: l=>M e.rule e.key=!e.up∧e.at_=now∧e.key.size≤64∧okB now (stepB M e) l
theorem ziF {now:Int}:∀ (l1:List EvZ) {l2:List EvZ} {M:Int→ByteArray→Bool},okB now M l1→okB now (l1.foldl stepB M) l2→okB now M (l1++l2)
 | [],_,_,_,h2=>h2
 | _ :: l,_,_,h1,h2=>⟨h1.1,h1.2.1,h1.2.2.1,ziF l h1.2.2.2 h2⟩
theorem zmA {i now:Int} {key:ByteArray}:∀ (l:List (ByteArray × Bool)) {M:ByteArray→Option Value} {B:Int→ByteArray→Bool},(∀ k,M k=if B i k=true then some (.bool true) else none)→okE key M l →
  okB now B (mkE i now l)∧(∀ k,l.foldl stepE M k=if (mkE i now l).foldl stepB B i k=true then some (.bool true) else none)∧∀ r,r≠i→(mkE i now l).foldl stepB B r=B r
 | [],_,_,hM,_=>⟨trivial,hM,fun _ _=>rfl⟩
 | (x,u) :: l,M,B,hM,⟨h1,h2,h3,h4⟩=>by
  have hb:B i x=!u:=by
   have:=hM x
   dsimp only at h1
   rw [h1] at this
   cases u <;> cases hB:B i x <;> simp_all
  have hM2:∀ k,stepE M (x,u) k=if stepB B ⟨i,x,u,now⟩ i k=true then some (.bool true) else none:=by
   intro k
   unfold stepE stepB
   by_cases e:k=x
   ·subst e
    simp
   ·simp only [e,if_false,and_false]
    exact hM k
  obtain ⟨g1,g2,g3⟩:=zmA (i:=i) (now:=now) l hM2 h4
  refine ⟨⟨hb,rfl,h3,g1⟩,g2,fun r hr=>?_⟩
  show (mkE i now l).foldl stepB (stepB B ⟨i,x,u,now⟩) r=B r
  rw [g3 r hr]
  funext k
  unfold stepB
  rw [if_neg (fun q=>hr q.1)]
def resB (Ns:List LmN) (Ss:List LmS) (r:Int) (k:ByteArray):Bool :=
 if r<0 then false else match Ns[r.toNat]?,Ss[r.toNat]? with
 | some N,some σ=>(posN N.Q.N.n σ.σ.K k).isSome
 | _,_=>false
def KsA (Ns:List LmN) (Ss:List LmS):Prop:=∀ (i:Nat) N σ,Ns[i]?=some N→Ss[i]?=some σ→KsOk N.Q.N.n σ.σ
section
variable {Ns:List LmN} {c:SvC} {rs:List RuZ} {K:CnN} {Ss:List LmS}
theorem zgv {i:Nat} {N:LmN} {σ σ':LmS} (hN:Ns[i]?=some N) (hσ:Ss[i]?=some σ):resB Ns (Ss.set i σ')=fun r k=>if r=(i:Int) then (posN N.Q.N.n σ'.σ.K k).isSome else resB Ns Ss r k:=by
 funext r k
 unfold resB
 by_cases e:r=(i:Int)
 ·subst e
  rw [if_neg (by omega),if_pos rfl,Int.toNat_natCast,hN,List.getElem?_set_self (zgs.1 hσ).1]
 ·rw [if_neg e]
  by_cases h0:r<0
  ·rw [if_pos h0,if_pos h0]
  ·rw [if_neg h0,if_neg h0,List.getElem?_set_ne (by omega)]
theorem zm2 {h:HoZ} (hk:KsA Ns h.Ss) {q:Req} (h64:(strOfNums q.key).size≤64):∃ e,(h.nx rs Ns q).evs=h.evs++e∧okB h.c.now (resB Ns h.Ss) e∧e.foldl stepB (resB Ns h.Ss)=resB Ns (h.nx rs Ns q).Ss∧KsA Ns (h.nx rs Ns q).Ss∧(∀ x ∈ e,0≤x.rule∧x.rule<Ns.length):=by
 unfold HoZ.nx
 split
 ·rename_i r N σ hr hN hσ
  have hks:=hk _ N σ hN hσ
  have hl:=(zgs.1 hσ).1
  have hres:∀ k,resB Ns h.Ss (q.rule.toNat:Int) k=(posN N.Q.N.n σ.σ.K k).isSome:=fun k=>by
   unfold resB
   rw [if_neg (by omega),Int.toNat_natCast,hN,hσ]
  have hlt:q.rule.toNat<Ns.length:=(zgs.1 hN).1
  by_cases ho:q.op=1
  ·obtain ⟨p1,p2,_⟩:=zgQ (now:=h.c.now) (held:=h.c.held r.W) (cost:=q.cost) hks h64
   obtain ⟨g1,g2,g3⟩:=zmA (i:=(q.rule.toNat:Int)) (now:=h.c.now) (B:=resB Ns h.Ss) _ (fun k=>by unfold thereM;rw [hres k]) p1
   have ee:evQ N h.c.now (h.c.held r.W) σ q=(σ.check N h.c.now (h.c.held r.W) (strOfNums q.key) q.cost).2.2:=by unfold evQ;rw [if_pos ho]
   have en:nxQ N h.c.now (h.c.held r.W) σ q=(σ.check N h.c.now (h.c.held r.W) (strOfNums q.key) q.cost).1:=by unfold nxQ;rw [if_pos ho]
   refine ⟨_,rfl,by rw [ee];exact g1,?_,fun j M t hM ht=>?_,fun x hx=>?_⟩
   ·dsimp only
    rw [zgv hN hσ,ee,en]
    funext r' k
    by_cases e:r'=(q.rule.toNat:Int)
    ·subst e
     rw [if_pos rfl]
     have h1:=g2 k
     rw [p2] at h1
     unfold thereM at h1
     cases ha:(posN N.Q.N.n (σ.check N h.c.now (h.c.held r.W) (strOfNums q.key) q.cost).1.σ.K k).isSome <;> cases hb:(mkE (q.rule.toNat:Int) h.c.now (σ.check N h.c.now (h.c.held r.W) (strOfNums q.key) q.cost).2.2).foldl stepB (resB Ns h.Ss) (q.rule.toNat:Int) k <;> simp_all
    ·rw [if_neg e,g3 r' e]
   ·dsimp only at ht
    by_cases e:j=q.rule.toNat
    ·subst e
     rw [List.getElem?_set_self hl] at ht
     injection ht with ht
     rw [hN] at hM
     injection hM with hM
     rw [← ht,← hM,en]
     exact hks.check
    ·rw [List.getElem?_set_ne (Ne.symm e)] at ht
     exact hk j M t hM ht
   ·unfold mkE at hx
    obtain ⟨y,_,rfl⟩:=List.mem_map.1 hx
    exact ⟨Int.natCast_nonneg _,by show (q.rule.toNat:Int)<_;omega⟩
  ·have ee:evQ N h.c.now (h.c.held r.W) σ q=[]:=by unfold evQ;rw [if_neg ho]
   have en:(nxQ N h.c.now (h.c.held r.W) σ q).σ=σ.σ:=by
    unfold nxQ LmS.peeked
    rw [if_neg ho]
    split
    ·split <;> rfl
    ·rfl
   refine ⟨[],by rw [ee];rfl,trivial,?_,fun j M t hM ht=>?_,fun x hx=>by cases hx⟩
   ·dsimp only
    rw [zgv hN hσ]
    funext r' k
    by_cases e:r'=(q.rule.toNat:Int)
    ·subst e
     rw [if_pos rfl,en]
     exact hres k
    ·rw [if_neg e];rfl
   ·dsimp only at ht
    by_cases e:j=q.rule.toNat
    ·subst e
     rw [List.getElem?_set_self hl] at ht
     injection ht with ht
     rw [hN] at hM
     injection hM with hM
     rw [← ht,← hM,en]
     exact hks
    ·rw [List.getElem?_set_ne (Ne.symm e)] at ht
     exact hk j M t hM ht
 ·exact ⟨[],by rw [List.append_nil],trivial,rfl,hk,fun x hx=>by cases hx⟩
theorem zlq (hn:HoN rs Ns) {σ:CnS} {h:HoZ} (hk:KsA Ns h.Ss) {x:Int} (hz:byt (σ.z++[x])):byt (comeS hn K σ h x).1.z∧∃ e,(comeS hn K σ h x).2.1.evs=h.evs++e∧okB h.c.now (resB Ns h.Ss) e∧e.foldl stepB (resB Ns h.Ss)=resB Ns (comeS hn K σ h x).2.1.Ss∧KsA Ns (comeS hn K σ h x).2.1.Ss∧(∀ x ∈ e,0≤x.rule∧x.rule<Ns.length)∧(comeS hn K σ h x).2.1.c=h.c:=by
 have hnx:byt (nextZ K.rules σ.z x):=by
  unfold nextZ
  split
  ·intro y hy;cases hy
  ·exact hz
 unfold comeS comeC
 split
 ·exact ⟨hnx,[],by rw [List.append_nil],trivial,rfl,hk,(fun x hx=>by cases hx),rfl⟩
 ·split
  ·rename_i h3 h4
   obtain ⟨q,n,e,hp⟩:∃ q n e,parseZ (σ.z++[x]) K.rules=(q,n,e):=⟨_,_,_,rfl⟩
   rw [hp] at h4 ⊢
   have hq:=ziH (zbT hz hp (by dsimp only at h4;omega)).2.2
   obtain ⟨e,g1,g2,g3,g4,g5⟩:=zm2 (rs:=rs) (q:=q) hk (by rw [zgD];exact hq)
   exact ⟨hnx,e,g1,g2,g3,g4,g5,(nx_c h q).1⟩
  ·exact ⟨hnx,[],by rw [List.append_nil],trivial,rfl,hk,(fun x hx=>by cases hx),rfl⟩
theorem zkL (hn:HoN rs Ns):∀ (zs:List Int) (σ:CnS) {h:HoZ},KsA Ns h.Ss→byt zs→byt σ.z→∃ e,(accS hn K σ h zs).2.2.1.evs=h.evs++e∧okB h.c.now (resB Ns h.Ss) e∧e.foldl stepB (resB Ns h.Ss)=resB Ns (accS hn K σ h zs).2.2.1.Ss∧KsA Ns (accS hn K σ h zs).2.2.1.Ss∧(∀ x ∈ e,0≤x.rule∧x.rule<Ns.length)
 | [],_,_,hk,_,_=>⟨[],by rw [zjx,List.append_nil],trivial,rfl,hk,fun x hx=>by cases hx⟩
 | x :: r,σ,h,hk,hz,hσ=>by
  cases hf:fitsS hn K σ x with
  | false=>rw [zbY h r hf];exact ⟨[],by rw [List.append_nil],trivial,rfl,hk,fun x hx=>by cases hx⟩
  | true =>
   rw [zbo h r hf]
   dsimp only
   obtain ⟨c0,e1,c1,c2,c3,c4,c5,c6⟩:=zlq (K:=K) (σ:=σ) (x:=x) hn hk (zaO hσ (fun y hy=>hz y (by rw [List.mem_singleton.1 hy];exact List.mem_cons_self)))
   obtain ⟨e2,d1,d2,d3,d4,d5⟩:=zkL hn r (comeS hn K σ h x).1 c4 (fun y hy=>hz y (List.mem_cons_of_mem _ hy)) c0
   rw [c6,← c3] at d2
   rw [← c3] at d3
   refine ⟨e1++e2,by rw [d1,c1,List.append_assoc],ziF e1 c2 d2,by rw [List.foldl_append];exact d3,d4,fun y hy=>?_⟩
   rcases List.mem_append.1 hy with hy | hy
   ·exact c5 y hy
   ·exact d5 y hy
theorem zlg (hn:HoN rs Ns) {ck:Int} (hk:KsA Ns Ss) {σ:CnS} (hσ:byt σ.z) (kd n:Int) {zs:List Int} (hz:byt zs):okB (max c.now ck) (resB Ns Ss) (actS hn K c Ss σ kd ck n zs).evs∧(actS hn K c Ss σ kd ck n zs).evs.foldl stepB (resB Ns Ss)=resB Ns (actS hn K c Ss σ kd ck n zs).Ss∧KsA Ns (actS hn K c Ss σ kd ck n zs).Ss∧(∀ x ∈ (actS hn K c Ss σ kd ck n zs).evs,0≤x.rule∧x.rule<Ns.length):=by
 unfold actS
 split
 ·obtain ⟨e,g1,g2,g3,g4,g5⟩:=zkL (K:=K) hn zs σ (h:=ho0 c ck Ss) hk hz hσ
  dsimp only
  rw [g1,List.nil_append]
  exact ⟨g2,g3,g4,g5⟩
 ·split
  ·exact ⟨trivial,rfl,hk,fun x hx=>by cases hx⟩
  ·exact ⟨trivial,rfl,hk,fun x hx=>by cases hx⟩
end
end
section
open Go.ChangeShapes Go.WideShapes Go.ChangeAt Go.RowKit
def encD (a:DoV):List Value:=[.int .i64 a.kd,.int .i64 a.ck,.int .i64 (a.k:Int),.slice a.A a.na a.ca,.int .i64 a.n,.slice a.B a.nb a.cb]
theorem zf6:∀ a,(encD a).length=6:=fun _=>rfl
theorem zjM (a:DoV):∀ u ∈ encD a,u.oneCell'=true:=by
 intro u hu
 simp only [encD,List.mem_cons,List.not_mem_nil,or_false] at hu
 rcases hu with rfl | rfl | rfl | rfl | rfl | rfl <;> rfl
def DB (ps:List DoV) (b:Nat):Prop:=∃ a ∈ ps,(0<a.na∧∃ off,a.A=some ⟨b,off,none⟩)∨(0<a.nb∧∃ off,a.B=some ⟨b,off,none⟩)
theorem zfV {ps qs:List DoV} {b:Nat}:DB (ps++qs) b ↔ DB ps b∨DB qs b:=by
 unfold DB
 constructor
 ·rintro ⟨a,ha,h⟩
  rcases List.mem_append.1 ha with q | q
  ·exact Or.inl ⟨a,q,h⟩
  ·exact Or.inr ⟨a,q,h⟩
 ·rintro (⟨a,ha,h⟩ | ⟨a,ha,h⟩)
  ·exact ⟨a,List.mem_append_left _ ha,h⟩
  ·exact ⟨a,List.mem_append_right _ ha,h⟩
structure AcH (w:World) (now:Int) (a:DoV):Prop where
 ok:DoOK a
 ck:0≤a.ck∧a.ck≤now
 dat:∃ zs,RdI w .u8 a.A a.na a.ca zs
 sed:∃ sd,RdI w .u64 a.B a.nb a.cb sd
 b0:a.nb=0→a.B=none∧a.cb=0
def lvC (lv:Nat→Value):Array Value:=((List.range 4).map lv).toArray
theorem zaW (lv:Nat→Value) {k:Nat} (h:k<4):(lvC lv)[k]?=some (lv k):=by
 unfold lvC
 rw [List.getElem?_toArray,List.getElem?_map,List.getElem?_range h]
 rfl
def updV (lv:Nat→Value) (k:Nat) (v:Value):Nat→Value:=fun j=>if j=k then v else lv j
theorem zlJ (lv:Nat→Value) (k:Nat) (v:Value):(lvC lv).setIfInBounds k v=lvC (updV lv k v):=by
 apply Array.ext_getElem?
 intro j
 rw [Array.getElem?_setIfInBounds]
 by_cases hj:j<4
 ·rw [zaW _ hj]
  by_cases hk:k=j
  ·subst hk;simp [updV,lvC,hj]
  ·rw [if_neg hk,zaW _ hj];simp [updV,Ne.symm hk]
 ·rw [Array.getElem?_eq_none (by simp [lvC];omega:(lvC (updV lv k v)).size≤j)]
  split
  ·rw [if_neg (by simp [lvC];omega)]
  ·exact Array.getElem?_eq_none (by simp [lvC];omega)
def allJ (j:Nat):Prop:=j<4
def butJ (k j:Nat):Prop:=j<4∧j≠k
structure AcS (W w:World) (lb:Nat) (vo:Value) (ls ps:List DoV) (lv:Nat→Value) (J:Nat→Prop) (now:Int):Prop where
 bl:Below W.heap.size W w
 out:OwR w W.heap.size 42 6 encD vo ls
 la:Blk w lb 122 (lvC lv)
 lbn:W.heap.size≤lb
 left:∀ j,J j→∃ z,Own w W.heap.size (lv j) z∧byt z∧z.length≤15
 hold:∀ a ∈ ps,AcH w now a
 db:∀ b,DB ps b→W.heap.size≤b∧b≠lb∧vo.ownBlock≠some b∧∀ j,J j→(lv j).ownBlock≠some b
 ol:vo.ownBlock≠some lb∧∀ j,J j→(lv j).ownBlock≠some lb∧((lv j).ownBlock=none∨(lv j).ownBlock≠vo.ownBlock)
 oj:∀ i j,J i→J j→i≠j→(lv i).ownBlock=none∨(lv i).ownBlock≠(lv j).ownBlock
 so:ps.Pairwise fun a b=>a.ck≤b.ck
def acF (lb:Nat) (vo:Value) (ps:List DoV) (lv:Nat→Value) (J:Nat→Prop) (b:Nat):Prop:=b=lb∨vo.ownBlock=some b∨(∃ j,J j∧(lv j).ownBlock=some b)∨DB ps b
theorem zbb {w w':World} {k:IntKind} {A:Option Addr} {n c:Nat} {zs:List Int} {F:Nat→Prop} (h:RdI w k A n c zs) (hf:Fr F w w') (hF:∀ b off,0<n→A=some ⟨b,off,none⟩→¬ F b):RdI w' k A n c zs :=
 ⟨h.len,h.cap,h.max,fun hn=>by
  obtain ⟨b,off,e,hlt,hc⟩:=h.at_ hn
  exact ⟨b,off,e,Nat.lt_of_lt_of_le hlt hf.size,fun i hi=>by rw [hf.cell hlt (hF b off hn e)];exact hc i hi⟩,h.wf⟩
theorem AcH.fr {w w':World} {now:Int} {a:DoV} {F:Nat→Prop} (h:AcH w now a) (hf:Fr F w w') (hF:∀ b,DB [a] b→¬ F b):AcH w' now a:=by
 obtain ⟨zs,hz⟩:=h.dat
 obtain ⟨sd,hs⟩:=h.sed
 exact ⟨h.ok,h.ck,⟨zs,zbb hz hf (fun b off h0 e=>hF b ⟨a,List.mem_singleton.2 rfl,Or.inl ⟨h0,off,e⟩⟩)⟩,⟨sd,zbb hs hf (fun b off h0 e=>hF b ⟨a,List.mem_singleton.2 rfl,Or.inr ⟨h0,off,e⟩⟩)⟩,h.b0⟩
theorem AcH.lt {w:World} {now:Int} {a:DoV} (h:AcH w now a):∀ b,DB [a] b→b<w.heap.size:=by
 rintro b ⟨a',ha,h1⟩
 have:=List.mem_singleton.1 ha
 subst this
 obtain ⟨zs,hz⟩:=h.dat
 obtain ⟨sd,hs⟩:=h.sed
 rcases h1 with ⟨h0,off,e⟩ | ⟨h0,off,e⟩
 ·obtain ⟨b',off',e',hlt,_⟩:=hz.at_ h0
  rw [e'] at e;injection e with e;injection e with e1 e2;omega
 ·obtain ⟨b',off',e',hlt,_⟩:=hs.at_ h0
  rw [e'] at e;injection e with e;injection e with e1 e2;omega
section
variable {W w w':World} {lb:Nat} {vo:Value} {ls ps:List DoV} {lv:Nat→Value} {J:Nat→Prop} {now:Int}
theorem zct {a:DoV} {b:Nat} (ha:a ∈ ps) (h:DB [a] b):DB ps b:=by
 obtain ⟨a',ha',h⟩:=h
 have:=List.mem_singleton.1 ha'
 subst this
 exact ⟨a',ha,h⟩
theorem AcS.lt (h:AcS W w lb vo ls ps lv J now):∀ b,acF lb vo ps lv J b→b<w.heap.size:=by
 rintro b (rfl | hb | ⟨j,hj,hb⟩ | ⟨a,ha,hb⟩)
 ·exact lt_of_block h.la
 ·exact h.out.lt b hb
 ·obtain ⟨z,hz,_⟩:=h.left j hj
  exact (hz.lt b hb).2
 ·exact (h.hold a ha).lt b ⟨a,List.mem_singleton.2 rfl,hb⟩
theorem AcS.fr {F:Nat→Prop} (h:AcS W w lb vo ls ps lv J now) (hf:Fr F w w') (hF:∀ b,acF lb vo ps lv J b→¬ F b) (hW:∀ b,F b→W.heap.size≤b):AcS W w' lb vo ls ps lv J now :=
 ⟨h.bl.trans (hf.below h.bl.size hW),h.out.fr hf (fun g hg=>hF g (Or.inr (Or.inl hg))),h.la.fr hf (hF lb (Or.inl rfl)),h.lbn,
  fun j hj=>by
   obtain ⟨z,h1,h2⟩:=h.left j hj
   exact ⟨z,h1.fr hf (fun g hg=>hF g (Or.inr (Or.inr (Or.inl ⟨j,hj,hg⟩)))),h2⟩,
  fun a ha=>(h.hold a ha).fr hf (fun b hb=>hF b (Or.inr (Or.inr (Or.inr (zct ha hb))))),h.db,h.ol,h.oj,h.so⟩
theorem AcS.keep (h:AcS W w lb vo ls ps lv J now) (hb:Below w.heap.size w w'):AcS W w' lb vo ls ps lv J now:=h.fr (F:=fun _=>False) (Fr.of_below hb) (fun _ _=>id) (fun _ hk=>hk.elim)
theorem AcS.later (h:AcS W w lb vo ls ps lv J now) {now':Int} (hn:now≤now'):AcS W w lb vo ls ps lv J now' :=
 ⟨h.bl,h.out,h.la,h.lbn,h.left,fun a ha=>⟨(h.hold a ha).ok,by have:=(h.hold a ha).ck;omega,(h.hold a ha).dat,(h.hold a ha).sed,(h.hold a ha).b0⟩,h.db,h.ol,h.oj,h.so⟩
theorem AcS.but (h:AcS W w lb vo ls ps lv allJ now) (k:Nat):AcS W w lb vo ls ps lv (butJ k) now :=
 ⟨h.bl,h.out,h.la,h.lbn,fun j hj=>h.left j hj.1,h.hold,fun b hb=>by
  obtain ⟨h1,h2,h3,h4⟩:=h.db b hb
  exact ⟨h1,h2,h3,fun j hj=>h4 j hj.1⟩,⟨h.ol.1,fun j hj=>h.ol.2 j hj.1⟩,fun i j hi hj=>h.oj i j hi.1 hj.1,h.so⟩
theorem AcS.apart (h:AcS W w lb vo ls ps lv allJ now) {k g:Nat} (hk:k<4) (hg:(lv k).ownBlock=some g):∀ b,acF lb vo ps lv (butJ k) b→¬ (lv k).ownBlock=some b:=by
 rintro b (rfl | hb | ⟨j,hj,hb⟩ | hb) e
 ·exact (h.ol.2 k hk).1 e
 ·rcases (h.ol.2 k hk).2 with q | q
  ·rw [q] at e;cases e
  ·exact q (e.trans hb.symm)
 ·rcases h.oj k j hk hj.1 (Ne.symm hj.2) with q | q
  ·rw [q] at e;cases e
  ·exact q (e.trans hb.symm)
 ·exact (h.db b hb).2.2.2 k hk e
theorem AcS.set {k:Nat} (h:AcS W w lb vo ls ps lv (butJ k) now) {v:Value} {z:List Int} (hf:Fr (fun b=>b=lb) w w') (hl:Blk w' lb 122 (lvC (updV lv k v))) (hv:Own w W.heap.size v z) (hb:byt z) (hz:z.length≤15) (ha:∀ b,acF lb vo ps lv (butJ k) b→¬ v.ownBlock=some b):AcS W w' lb vo ls ps (updV lv k v) allJ now:=by
 have hvn:∀ g,v.ownBlock=some g→¬ g=lb:=fun g hg e=>ha g (Or.inl e) hg
 refine ⟨h.bl.trans (hf.below h.bl.size (fun b e=>by rw [e];exact h.lbn)),h.out.fr hf (fun g hg e=>h.ol.1 (by rw [hg,e])),hl,h.lbn,fun j hj=>?_,fun a ha'=>(h.hold a ha').fr hf (fun b hb' e=>(h.db b (zct ha' hb')).2.1 e),fun b hb'=>?_,⟨h.ol.1,fun j hj=>?_⟩,fun i j hi hj hij=>?_,h.so⟩
 ·unfold updV
  by_cases e:j=k
  ·rw [if_pos e];exact ⟨z,hv.fr hf hvn,hb,hz⟩
  ·rw [if_neg e]
   obtain ⟨z',h1,h2⟩:=h.left j ⟨hj,e⟩
   exact ⟨z',h1.fr hf (fun g hg e'=>(h.ol.2 j ⟨hj,e⟩).1 (by rw [hg,e'])),h2⟩
 ·obtain ⟨h1,h2,h3,h4⟩:=h.db b hb'
  refine ⟨h1,h2,h3,fun j hj=>?_⟩
  unfold updV
  by_cases e:j=k
  ·rw [if_pos e];exact ha b (Or.inr (Or.inr (Or.inr hb')))
  ·rw [if_neg e];exact h4 j ⟨hj,e⟩
 ·unfold updV
  by_cases e:j=k
  ·rw [if_pos e]
   refine ⟨fun e'=>hvn lb e' rfl,?_⟩
   cases hvb:v.ownBlock with
   | none=>exact Or.inl rfl
   | some g=>exact Or.inr (fun e'=>ha g (Or.inr (Or.inl e'.symm)) hvb)
  ·rw [if_neg e];exact h.ol.2 j ⟨hj,e⟩
 ·unfold updV
  by_cases ei:i=k
  ·by_cases ej:j=k
   ·omega
   ·rw [if_pos ei,if_neg ej]
    cases hvb:v.ownBlock with
    | none=>exact Or.inl rfl
    | some g=>exact Or.inr (fun e'=>ha g (Or.inr (Or.inr (Or.inl ⟨j,⟨hj,ej⟩,e'.symm⟩))) hvb)
  ·by_cases ej:j=k
   ·rw [if_neg ei,if_pos ej]
    cases hib:(lv i).ownBlock with
    | none=>exact Or.inl rfl
    | some g=>exact Or.inr (fun e'=>ha g (Or.inr (Or.inr (Or.inl ⟨i,⟨hi,ei⟩,hib⟩))) e'.symm)
   ·rw [if_neg ei,if_neg ej];exact h.oj i j ⟨hi,ei⟩ ⟨hj,ej⟩ hij
theorem AcS.clear (h:AcS W w lb vo ls ps lv allJ now) (hf:Fr (fun b=>b=lb) w w') (hl:Blk w' lb 122 (lvC (fun _=>.slice none 0 0))):AcS W w' lb vo ls ps (fun _=>.slice none 0 0) allJ now :=
 ⟨h.bl.trans (hf.below h.bl.size (fun b e=>by rw [e];exact h.lbn)),h.out.fr hf (fun g hg e=>h.ol.1 (by rw [hg,e])),hl,h.lbn,fun j hj=>⟨[],zb6 _ _,(fun z hz=>by cases hz),(by simp)⟩,fun a ha'=>(h.hold a ha').fr hf (fun b hb' e=>(h.db b (zct ha' hb')).2.1 e),fun b hb'=>by
  obtain ⟨h1,h2,h3,h4⟩:=h.db b hb'
  exact ⟨h1,h2,h3,(fun j hj e=>by cases e)⟩,⟨h.ol.1,fun j hj=>⟨(fun e=>by cases e),Or.inl rfl⟩⟩,fun i j hi hj hij=>Or.inl rfl,h.so⟩
theorem AcS.add (h:AcS W w lb vo ls ps lv J now) {a:DoV} (ha:AcH w now a) (hk:a.ck=now) (hd:∀ b,DB [a] b→W.heap.size≤b∧b≠lb∧vo.ownBlock≠some b∧∀ j,J j→(lv j).ownBlock≠some b):AcS W w lb vo ls (ps++[a]) lv J now:=by
 refine ⟨h.bl,h.out,h.la,h.lbn,h.left,fun x hx=>?_,fun b hb=>?_,h.ol,h.oj,?_⟩
 ·rcases List.mem_append.1 hx with q | q
  ·exact h.hold x q
  ·rw [List.mem_singleton.1 q];exact ha
 ·rcases zfV.1 hb with q | q
  ·exact h.db b q
  ·exact hd b q
 ·rw [List.pairwise_append]
  refine ⟨h.so,List.pairwise_singleton _ _,fun x hx y hy=>?_⟩
  rw [List.mem_singleton.1 hy,hk]
  exact (h.hold x hx).ck.2
theorem AcS.push (h:AcS W w lb vo ls ps lv allJ now) {vo':Value} {ls':List DoV} (hf:Fr (fun b=>vo.ownBlock=some b) w w') (ho:OwR w' W.heap.size 42 6 encD vo' ls') (hn:∀ g,vo'.ownBlock=some g→vo.ownBlock=some g∨w.heap.size≤g):AcS W w' lb vo' ls' ps lv allJ now:=by
 have hno:∀ b,acF lb vo ps lv allJ b→vo.ownBlock≠some b→vo'.ownBlock≠some b:=fun b hb h1 e=>by
  rcases hn b e with q | q
  ·exact h1 q
  ·have:=h.lt b hb;omega
 refine ⟨h.bl.trans (hf.below h.bl.size (fun b e=>h.out.base_le b e)),ho,h.la.fr hf h.ol.1,h.lbn,fun j hj=>?_,fun a ha=>(h.hold a ha).fr hf (fun b hb=>(h.db b (zct ha hb)).2.2.1),fun b hb=>?_,⟨hno lb (Or.inl rfl) h.ol.1,fun j hj=>⟨(h.ol.2 j hj).1,?_⟩⟩,h.oj,h.so⟩
 ·obtain ⟨z,h1,h2⟩:=h.left j hj
  refine ⟨z,h1.fr hf (fun g hg e=>?_),h2⟩
  rcases (h.ol.2 j hj).2 with q | q
  ·rw [q] at hg;cases hg
  ·exact q (hg.trans e.symm)
 ·obtain ⟨h1,h2,h3,h4⟩:=h.db b hb
  exact ⟨h1,h2,hno b (Or.inr (Or.inr (Or.inr hb))) h3,h4⟩
 ·cases hib:(lv j).ownBlock with
  | none=>exact Or.inl rfl
  | some g =>
   right
   intro e
   rcases (h.ol.2 j hj).2 with q | q
   ·rw [q] at hib;cases hib
   ·exact hno g (Or.inr (Or.inr (Or.inl ⟨j,hj,hib⟩))) (fun e'=>q (hib.trans e'.symm)) e.symm
end
end
section
open Go.ChangeShapes Go.WideShapes Go.ChangeAt Go.RowKit
section
variable {w:World} {A:Option Addr} {n c:Nat} {q:List Int}
theorem zkD (h:RdI w .u8 A n c q) {t:Nat} (ht:t≤n):∃ A',(∀ W,(Instr.slice 40 (.slice A n c) (some (.int .i64 (t:Int))) none none).run Tryz.prog W=.ok (.slice A' (n - t) (c - t)) W)∧RdI w .u8 A' (n - t) (c - t) (q.drop t):=by
 have hc:=h.cap
 have hm:=h.max
 refine ⟨if c=t then A else A.map (·.add (t*1)),fun W=>?_,?_⟩
 ·rw [run_slice_l W 40 A n c (by kernel_rfl) .i64 (t:Int) (by omega) (by omega)]
  show (Result.andThen _ _)=_
  rw [show (sizeOf (Tryz.prog.elem 40)).run Tryz.prog W=.ok 1 W from by kernel_rfl]
  simp [sliced]
 ·by_cases hlt:t<n
  ·obtain ⟨d,off,rfl,_,_⟩:=h.at_ (by omega)
   rw [if_neg (by omega)]
   have:=zb8 h ht
   by_cases h0:t=0
   ·subst h0;simpa [Addr.add] using this
   ·simpa [Addr.add,h0] using this
  ·have e0:n - t=0:=by omega
   have e1:q.drop t=[]:=List.drop_eq_nil_of_le (by have:=h.len;omega)
   rw [e0,e1]
   exact ⟨rfl,Nat.zero_le _,by omega,fun h=>absurd h (by omega),fun z hz=>by cases hz⟩
theorem zjT (h:RdI w .u8 A n c q) {t:Nat} (ht:t≤n):∃ A',(∀ W,(Instr.slice 40 (.slice A n c) none (some (.int .i64 (t:Int))) (some (.int .i64 (t:Int)))).run Tryz.prog W=.ok (.slice A' t t) W)∧RdI w .u8 A' t t (q.take t)∧(0<t→A'=A):=by
 have hc:=h.cap
 have hm:=h.max
 have e:0<t→(if t=0 then A else A.map (·.add (0*1)))=A:=fun h0=>by
  rw [if_neg (by omega)]
  cases A with
  | none=>rfl
  | some a=>obtain ⟨b,o,s⟩:=a;cases s <;> simp [Addr.add]
 refine ⟨if t=0 then A else A.map (·.add (0*1)),fun W=>?_,?_,e⟩
 ·rw [run_slice_hm W 40 A n c (by kernel_rfl) .i64 .i64 (t:Int) (t:Int) (by omega) (by omega) (by omega)]
  show (Result.andThen _ _)=_
  rw [show (sizeOf (Tryz.prog.elem 40)).run Tryz.prog W=.ok 1 W from by kernel_rfl]
  simp [sliced]
 ·refine ⟨by rw [List.length_take,h.len];omega,Nat.le_refl _,by omega,fun h0=>?_,fun z hz=>h.wf z (List.mem_of_mem_take hz)⟩
  obtain ⟨b,off,e1,hlt,hcs⟩:=h.at_ (by omega)
  refine ⟨b,off,by rw [e h0];exact e1,hlt,fun i hi=>?_⟩
  rw [hcs i (by omega)]
  simp [List.getD,List.getElem?_take,hi]
end
structure ChS (w wx:World) (lb db ab:Nat) (vo:Value) (ls:List DoV) (lv:Nat→Value) (k:Nat) (t kq:Int) (dC:Array Value) (zk:List Int):Prop where
 o:AcS w wx lb vo ls ls lv (butJ k) t
 d:Blk wx db 82 dC
 a:Blk wx ab 42 (actC kq t (k:Int) (.slice none 0 0) 0 (.slice none 0 0))
 l:∃ A0 c0,lv k=.slice A0 zk.length c0∧RdI wx .u8 A0 zk.length c0 zk
 lt:db<ab∧(∀ b,acF lb vo ls lv allJ b→b<db)∧k<4
 W:w.heap.size≤ab
structure BvS (w wx:World) (lb ab:Nat) (vo:Value) (ls:List DoV) (lv:Nat→Value) (k:Nat) (A:Option Addr) (n c:Nat):Prop where
 rd:∃ z,RdI wx .u8 A n c z∧byt z
 ap:∀ b off,0<n→A=some ⟨b,off,none⟩→w.heap.size≤b∧b≠ab∧¬ acF lb vo ls lv (butJ k) b
section
variable {w wx wy:World} {lb db ab k:Nat} {vo:Value} {ls:List DoV} {lv:Nat→Value} {t kq:Int} {dC:Array Value} {zk:List Int}
theorem zeZ {b:Nat} (h:acF lb vo ls lv (butJ k) b):acF lb vo ls lv allJ b:=by
 rcases h with h | h | ⟨j,hj,h⟩ | h
 ·exact Or.inl h
 ·exact Or.inr (Or.inl h)
 ·exact Or.inr (Or.inr (Or.inl ⟨j,hj.1,h⟩))
 ·exact Or.inr (Or.inr (Or.inr h))
theorem ChS.fr {F:Nat→Prop} (h:ChS w wx lb db ab vo ls lv k t kq dC zk) (hf:Fr F wx wy) (hF:∀ b,F b→ab<b):ChS w wy lb db ab vo ls lv k t kq dC zk:=by
 have h1:=h.lt
 have hW:=h.W
 refine ⟨h.o.fr hf (fun b hb e=>?_) (fun b hb=>?_),h.d.fr hf (fun e=>?_),h.a.fr hf (fun e=>?_),?_,h1,hW⟩
 ·have:=h1.2.1 b (zeZ hb);have:=hF b e;omega
 ·have:=hF b hb;omega
 ·have:=hF db e;omega
 ·have:=hF ab e;omega
 ·obtain ⟨A0,c0,e,hr⟩:=h.l
  refine ⟨A0,c0,e,zbb hr hf (fun b off h0 e2 e3=>?_)⟩
  have:(lv k).ownBlock=some b:=by rw [e,e2];rfl
  have:=h1.2.1 b (Or.inr (Or.inr (Or.inl ⟨k,h1.2.2,this⟩)))
  have:=hF b e3;omega
theorem ChS.keep (h:ChS w wx lb db ab vo ls lv k t kq dC zk) (hb:Below wx.heap.size wx wy):ChS w wy lb db ab vo ls lv k t kq dC zk:=h.fr (F:=fun _=>False) (Fr.of_below hb) (fun _ hk=>hk.elim)
theorem ChS.kind (h:ChS w wx lb db ab vo ls lv k t kq dC zk) (hf:Fr (fun b=>b=ab) wx wy) (ha:Blk wy ab 42 ((actC kq t (k:Int) (.slice none 0 0) 0 (.slice none 0 0)).setIfInBounds 0 (.int .i64 2))):ChS w wy lb db ab vo ls lv k t 2 dC zk:=by
 have h1:=h.lt
 refine ⟨h.o.fr hf (fun b hb e=>?_) (fun b hb=>by rw [hb];exact h.W),h.d.fr hf (fun e=>?_),ha,?_,h1,h.W⟩
 ·have:=h1.2.1 b (zeZ hb);omega
 ·omega
 ·obtain ⟨A0,c0,e,hr⟩:=h.l
  refine ⟨A0,c0,e,zbb hr hf (fun b off h0 e2 e3=>?_)⟩
  have:(lv k).ownBlock=some b:=by rw [e,e2];rfl
  have:=h1.2.1 b (Or.inr (Or.inr (Or.inl ⟨k,h1.2.2,this⟩)))
  omega
theorem BvS.fr {F:Nat→Prop} {A:Option Addr} {n c:Nat} (h:BvS w wx lb ab vo ls lv k A n c) (hf:Fr F wx wy) (hF:∀ b off,0<n→A=some ⟨b,off,none⟩→¬ F b):BvS w wy lb ab vo ls lv k A n c:=by
 obtain ⟨⟨z,hz,hb⟩,h2⟩:=h
 exact ⟨⟨z,zbb hz hf hF,hb⟩,h2⟩
theorem ChS.begin (h:AcS w wx lb vo ls ls lv allJ t) (hd:Blk wx db 82 dC) (ha:Blk wx ab 42 (actC kq t (k:Int) (.slice none 0 0) 0 (.slice none 0 0))) (hlt:db<ab∧(∀ b,acF lb vo ls lv allJ b→b<db)∧k<4) (hW:w.heap.size≤ab)
  {v:Value} {zs:List Int} {row:Option Nat} (hrow:row=(lv k).ownBlock) (hg:wx.grownBy wy row) (hv:Own wy w.heap.size v zs) (hb:byt zs) (hl:∃ A0 c0,lv k=.slice A0 zk.length c0∧RdI wy .u8 A0 zk.length c0 zk) (hvb:v.ownBlock=(lv k).ownBlock∨v.ownBlock=some wx.heap.size) :
  ChS w wy lb db ab vo ls lv k t kq dC zk∧∃ A c,v=.slice A zs.length c∧BvS w wy lb ab vo ls lv k A zs.length c:=by
 have hf:=fr_row hg
 have hap:∀ b,acF lb vo ls lv (butJ k) b→¬ row=some b:=fun b hb e=>by
  rw [hrow] at e
  exact h.apart hlt.2.2 e b hb e
 have hk:∀ b,row=some b→b<db:=fun b e=>hlt.2.1 b (Or.inr (Or.inr (Or.inl ⟨k,hlt.2.2,by rw [← hrow];exact e⟩)))
 refine ⟨⟨(h.but k).fr hf hap (fun b e=>?_),hd.fr hf (fun e=>by have:=hk db e;omega),ha.fr hf (fun e=>by have:=hk ab e;omega),hl,hlt,hW⟩,?_⟩
 ·obtain ⟨z,hz,_⟩:=h.left k hlt.2.2
  exact (hz.lt b (by rw [← hrow];exact e)).1
 ·obtain ⟨A,c,e,hr,hA⟩:=hv.rd hb
  refine ⟨A,c,e,⟨⟨zs,hr,hb⟩,fun b off h0 e2=>?_⟩⟩
  obtain ⟨g,e3,e4⟩:=hA h0
  have hbg:b=g:=by rw [e3] at e2;injection e2 with e2;injection e2 with e2 _;exact e2.symm
  subst hbg
  have h5:=hv.lt b e4
  refine ⟨h5.1,fun e5=>?_,fun hf'=>?_⟩
  ·rcases hvb with q | q
   ·rw [e4] at q
    have:=hk b (by rw [hrow];exact q.symm);omega
   ·rw [e4] at q;injection q with q
    have:=lt_of_block ha;omega
  ·rcases hvb with q | q
   ·rw [e4] at q
    exact hap b hf' (by rw [hrow];exact q.symm)
   ·rw [e4] at q;injection q with q
    have:=(h.but k).lt b hf';omega
theorem ChS.left (h:ChS w wx lb db ab vo ls lv k t kq dC zk) (hb:byt zk) (ho:∀ b,(lv k).ownBlock=some b→w.heap.size≤b∧¬ acF lb vo ls lv (butJ k) b):∃ A c,lv k=.slice A zk.length c∧BvS w wx lb ab vo ls lv k A zk.length c:=by
 obtain ⟨A,c,e,hr⟩:=h.l
 refine ⟨A,c,e,⟨⟨zk,hr,hb⟩,fun b off h0 e2=>?_⟩⟩
 have hg:(lv k).ownBlock=some b:=by rw [e,e2];rfl
 have h1:=ho b hg
 have h2:=h.lt.2.1 b (Or.inr (Or.inr (Or.inl ⟨k,h.lt.2.2,hg⟩)))
 have h3:=h.lt.1
 exact ⟨h1.1,by omega,h1.2⟩
theorem BvS.far {F:Nat→Prop} {A:Option Addr} {c:Nat} (h:BvS w wx lb ab vo ls lv k A zk.length c) (hc:ChS w wx lb db ab vo ls lv k t kq dC zk) (e:lv k=.slice A zk.length c) (hf:Fr F wx wy) (hF:∀ b,F b→ab<b):BvS w wy lb ab vo ls lv k A zk.length c :=
 h.fr hf (fun b off h0 e2 e3=>by
  have h3:(lv k).ownBlock=some b:=(by rw [e,e2];rfl)
  have h4:=hc.lt.2.1 b (Or.inr (Or.inr (Or.inl ⟨k,hc.lt.2.2,h3⟩)))
  have h5:=hc.lt.1
  have h6:=hF b e3
  omega)
theorem BvS.new {v:Value} {zs:List Int} (h:ChS w wx lb db ab vo ls lv k t kq dC zk) (hc:ChS w wy lb db ab vo ls lv k t kq dC zk) (hv:Own wy wx.heap.size v zs) (hb:byt zs):∃ A c,v=.slice A zs.length c∧BvS w wy lb ab vo ls lv k A zs.length c:=by
 obtain ⟨A,c,e,hr,hA⟩:=hv.rd hb
 refine ⟨A,c,e,⟨⟨zs,hr,hb⟩,fun b off h0 e2=>?_⟩⟩
 obtain ⟨g,e3,e4⟩:=hA h0
 have hbg:b=g:=by rw [e3] at e2;injection e2 with e2;injection e2 with e2 _;exact e2.symm
 subst hbg
 have h5:=hv.lt b e4
 have h6:=lt_of_block h.a
 have h7:=h.W
 exact ⟨by omega,by omega,fun hf=>by have:=h.o.lt b hf;omega⟩
theorem ChS.finish {A A':Option Addr} {n c nq:Nat} {z' zt:List Int} {v:Value} {w17 w19 w21:World} (hc:ChS w wx lb db ab vo ls lv k t 2 dC zk) (hb:BvS w wx lb ab vo ls lv k A n c) (hA:0<nq→A'=A) (hn:nq≤n) (hq:nq≤500) (hz:RdI wx .u8 A' nq nq z') (hf:Fr (fun _=>False) wx w17) (hv:Own w17 wx.heap.size v zt) (hzt:byt zt∧zt.length≤15) (ht:0≤t∧t≤163680)
  (k19:Blk w19 ab 42 ((actC 2 t (k:Int) (.slice none 0 0) 0 (.slice none 0 0)).setIfInBounds 3 (.slice A' nq nq))) (f19:Fr (fun b=>b=ab) w17 w19) (k21:Blk w21 lb 122 (lvC (updV lv k v))) (f21:Fr (fun b=>b=lb) w19 w21) :
  Blk w21 ab 42 (encD ⟨2,t,k,A',nq,nq,0,none,0,0⟩).toArray∧AcS w w21 lb vo ls (ls++[⟨2,t,k,A',nq,nq,0,none,0,0⟩]) (updV lv k v) allJ t∧∀ b,acF lb vo (ls++[⟨2,t,k,A',nq,nq,0,none,0,0⟩]) (updV lv k v) allJ b→b≠ab:=by
 have h1:=hc.lt
 have hlb:lb<ab:=by have:=h1.2.1 lb (Or.inl rfl);omega
 have hvb:∀ b,v.ownBlock=some b→wx.heap.size≤b:=fun b e=>(hv.lt b e).1
 have hsz:=lt_of_block hc.a
 have hDB:∀ b,DB [(⟨2,t,k,A',nq,nq,0,none,0,0⟩:DoV)] b→b<wx.heap.size∧w.heap.size≤b∧b≠ab∧¬ acF lb vo ls lv (butJ k) b:=fun b hd=>by
  obtain ⟨a,ha,h⟩:=hd
  rw [List.mem_singleton.1 ha] at h
  rcases h with ⟨h0,off,e⟩ | ⟨h0,_⟩
  ·dsimp only at h0 e
   obtain ⟨b',off',e',hlt,_⟩:=hz.at_ h0
   rw [e'] at e;injection e with e;injection e with e1 e2
   subst e1
   rw [hA h0] at e'
   obtain ⟨q1,q2,q3⟩:=hb.ap _ _ (by omega) e'
   exact ⟨hlt,q1,q2,q3⟩
  ·exact absurd h0 (show ¬ 0<0 by omega)
 have O19:AcS w w19 lb vo ls ls lv (butJ k) t:=(hc.o.fr hf (fun _ _=>id) (fun _ hk=>hk.elim)).fr f19 (fun b hb e=>by have:=h1.2.1 b (zeZ hb);omega) (fun b e=>by rw [e];exact hc.W)
 have O21:=O19.set f21 k21 ((hv.fr f19 (fun g hg e=>by have:=hvb g hg;omega)).more (Nat.le_trans hc.o.bl.size (Nat.le_refl _))) hzt.1 hzt.2 (fun b hb e=>by have:=hvb b e;have:=hc.o.lt b hb;omega)
 have hz21:RdI w21 .u8 A' nq nq z':=zbb (zbb (zbb hz hf (fun _ _ _ _=>id)) f19 (fun b off h0 e=>(hDB b ⟨_,List.mem_singleton.2 rfl,Or.inl ⟨h0,off,e⟩⟩).2.2.1)) f21 (fun b off h0 e e2=>(hDB b ⟨_,List.mem_singleton.2 rfl,Or.inl ⟨h0,off,e⟩⟩).2.2.2 (Or.inl e2))
 refine ⟨(k19.fr f21 (fun e=>by omega)),O21.add ⟨⟨by show (0:Int)≤2∧(2:Int)≤4;omega,by show t≤_;omega,h1.2.2,hq,Nat.zero_le _⟩,⟨ht.1,Int.le_refl _⟩,⟨z',hz21⟩,⟨[],⟨rfl,Nat.le_refl _,Nat.zero_le _,fun h=>absurd h (show ¬ 0<0 by omega),fun z hz=>by cases hz⟩⟩,fun _=>⟨rfl,rfl⟩⟩ rfl (fun b hd=>?_),?_⟩
 ·obtain ⟨q0,q1,q2,q3⟩:=hDB b hd
  refine ⟨q1,fun e=>q3 (Or.inl e),fun e=>q3 (Or.inr (Or.inl e)),fun j hj e=>?_⟩
  unfold updV at e
  by_cases hjk:j=k
  ·rw [if_pos hjk] at e;have:=hvb b e;omega
  ·rw [if_neg hjk] at e;exact q3 (Or.inr (Or.inr (Or.inl ⟨j,⟨hj,hjk⟩,e⟩)))
 ·rintro b (hb' | hb' | ⟨j,hj,hb'⟩ | hb')
  ·omega
  ·have:=h1.2.1 b (Or.inr (Or.inl hb'));omega
  ·unfold updV at hb'
   by_cases hjk:j=k
   ·rw [if_pos hjk] at hb';have:=hvb b hb';omega
   ·rw [if_neg hjk] at hb';have:=h1.2.1 b (Or.inr (Or.inr (Or.inl ⟨j,hj,hb'⟩)));omega
  ·rcases zfV.1 hb' with q | q
   ·have:=h1.2.1 b (Or.inr (Or.inr (Or.inr q)));omega
   ·exact (hDB b q).2.2.1
end
end
section
open Go.ChangeShapes Go.WideShapes Go.ChangeAt Go.RowKit
theorem box6D (X:World) (a b c:Int):∃ w1 w2,X.alloc (.cells #[.int .i64 0,.int .i64 0,.int .i64 0,.slice none 0 0,.int .i64 0,.slice none 0 0] 42)=w1 ∧
  (∀ j,w1.cell? ⟨X.heap.size,j,none⟩=(#[.int .i64 0,.int .i64 0,.int .i64 0,.slice none 0 0,.int .i64 0,.slice none 0 0]:Array Value)[j]?)∧(∀ j,w1.frozen? ⟨X.heap.size,j,none⟩=false) ∧
  (((((w1.setCell ⟨X.heap.size,0,none⟩ (.int .i64 a)).setCell ⟨X.heap.size,1,none⟩ (.int .i64 b)).setCell ⟨X.heap.size,2,none⟩ (.int .i64 c)).setCell ⟨X.heap.size,3,none⟩ (.slice none 0 0)).setCell ⟨X.heap.size,4,none⟩ (.int .i64 0)).setCell ⟨X.heap.size,5,none⟩ (.slice none 0 0)=w2 ∧
  Below X.heap.size X w2∧Blk w2 X.heap.size 42 (actC a b c (.slice none 0 0) 0 (.slice none 0 0)):=by
 obtain ⟨w1,hw1,k1,b1,s1⟩:=zad X #[.int .i64 0,.int .i64 0,.int .i64 0,.slice none 0 0,.int .i64 0,.slice none 0 0] 42
 have hl:=lt_of_block k1
 have he:(((((w1.setCell ⟨X.heap.size,0,none⟩ (.int .i64 a)).setCell ⟨X.heap.size,1,none⟩ (.int .i64 b)).setCell ⟨X.heap.size,2,none⟩ (.int .i64 c)).setCell ⟨X.heap.size,3,none⟩ (.slice none 0 0)).setCell ⟨X.heap.size,4,none⟩ (.int .i64 0)).setCell ⟨X.heap.size,5,none⟩ (.slice none 0 0)=setObj w1 X.heap.size (.cells (actC a b c (.slice none 0 0) 0 (.slice none 0 0)) 42 (0,0)):=by
  rw [zac k1]
  simp only [zai hl,zs1,zs2,zs3]
 exact ⟨w1,_,hw1,k1.rd,k1.wr,he,b1.trans ((Fr.setObj (F:=fun k=>k=X.heap.size) (Fr.refl _ _) rfl _).below b1.size (fun k hk=>by omega)),zab hl _⟩
theorem zmv (x:Int):∃ (a y:Int) (k:Nat),x.tmod 6=a∧IntKind.i64.wrap (a+6)=y∧y.tmod 6=(k:Int)∧k<6:=by
 have h1:=Int.tmod_lt_of_pos x (show (0:Int)<6 by omega)
 have h2 : -6<x.tmod 6:=Int.lt_tmod_of_pos x (show (0:Int)<6 by omega)
 obtain ⟨a,ha⟩:=zeq (x.tmod 6)
 rw [← ha] at h1 h2
 refine ⟨a,a+6,((a+6).tmod 6).toNat,ha.symm,by rw [IntKind.wrap_i64];omega,?_,?_⟩
 ·rw [Int.toNat_of_nonneg (Int.tmod_nonneg _ (by omega))]
 ·have h3:=Int.tmod_lt_of_pos (a+6) (show (0:Int)<6 by omega)
  have h4:=Int.tmod_nonneg (a:=a+6) 6 (by omega)
  omega
theorem zmL (x:Int) (r:Nat) (hr:1≤r∧r≤8):∃ (a y:Int) (k:Nat),x.tmod r=a∧IntKind.i64.wrap (a+r)=y∧y.tmod r=(k:Int)∧k<r:=by
 have h1:=Int.tmod_lt_of_pos x (show (0:Int)<(r:Int) by omega)
 have h2 : -(r:Int)<x.tmod r:=Int.lt_tmod_of_pos x (show (0:Int)<(r:Int) by omega)
 obtain ⟨a,ha⟩:=zeq (x.tmod r)
 rw [← ha] at h1 h2
 refine ⟨a,a+r,((a+r).tmod r).toNat,ha.symm,by rw [IntKind.wrap_i64];omega,?_,?_⟩
 ·rw [Int.toNat_of_nonneg (Int.tmod_nonneg _ (by omega))]
 ·have h3:=Int.tmod_lt_of_pos (a+r) (show (0:Int)<(r:Int) by omega)
  have h4:=Int.tmod_nonneg (a:=a+r) r (by omega)
  omega
structure AcR (W w:World) (v:Value) (ls:List DoV):Prop where
 out:OwR w W.heap.size 42 6 encD v ls
 hold:∀ a ∈ ls,AcH w 163680 a
 db:∀ b,DB ls b→W.heap.size≤b∧v.ownBlock≠some b
 so:ls.Pairwise fun a b=>a.ck≤b.ck
theorem AcS.done {W w:World} {lb:Nat} {vo:Value} {ls:List DoV} {lv:Nat→Value} {J:Nat→Prop} {now:Int} (h:AcS W w lb vo ls ls lv J now) (hn:now≤163680):AcR W w vo ls :=
 ⟨h.out,fun a ha=>(h.later hn).hold a ha,fun b hb=>⟨(h.db b hb).1,(h.db b hb).2.2.1⟩,h.so⟩
theorem box5Q (X:World) (a b c d e:Value):∃ w1 w2,X.alloc (.cells #[.int .i64 0,.int .i64 0,.int .u32 0,.string ⟨#[]⟩,.int .i64 0] 76)=w1 ∧
  (∀ j,w1.cell? ⟨X.heap.size,j,none⟩=(#[.int .i64 0,.int .i64 0,.int .u32 0,.string ⟨#[]⟩,.int .i64 0]:Array Value)[j]?)∧(∀ j,w1.frozen? ⟨X.heap.size,j,none⟩=false) ∧
  ((((w1.setCell ⟨X.heap.size,0,none⟩ a).setCell ⟨X.heap.size,1,none⟩ b).setCell ⟨X.heap.size,2,none⟩ c).setCell ⟨X.heap.size,3,none⟩ d).setCell ⟨X.heap.size,4,none⟩ e=w2 ∧
  Below X.heap.size X w2∧Blk w2 X.heap.size 76 #[a,b,c,d,e]:=by
 obtain ⟨w1,hw1,k1,b1,s1⟩:=zad X #[.int .i64 0,.int .i64 0,.int .u32 0,.string ⟨#[]⟩,.int .i64 0] 76
 have hl:=lt_of_block k1
 have he:((((w1.setCell ⟨X.heap.size,0,none⟩ a).setCell ⟨X.heap.size,1,none⟩ b).setCell ⟨X.heap.size,2,none⟩ c).setCell ⟨X.heap.size,3,none⟩ d).setCell ⟨X.heap.size,4,none⟩ e=setObj w1 X.heap.size (.cells #[a,b,c,d,e] 76 (0,0)):=by
  rw [zac k1]
  simp only [zai hl,zs1,zs2,zs3]
 exact ⟨w1,_,hw1,k1.rd,k1.wr,he,b1.trans ((Fr.setObj (F:=fun k=>k=X.heap.size) (Fr.refl _ _) rfl _).below b1.size (fun k hk=>by omega)),zab hl _⟩
theorem zkm {w:World} {A:Option Addr} {n c:Nat} {zs:List Int} (h:RdI w .u8 A n c zs):byt zs:=fun z hz=>by
 have:=bounds_u8 (h.wf z hz)
 omega
theorem zhN {o1 co co' km km':Int} {rk rules:Nat} {ky ky':ByteArray} (ho:1≤o1∧o1≤4) (hr:rk<rules) (hu:1≤rules∧rules≤8) (hm:0≤km∧km≤255) (h1:(o1=1∨o1=2)∧co'=co∧ky'=ky∨(o1=3∨o1=4)∧co'=0∧ky'=⟨#[]⟩) (h2:o1≠4∧km'=0∨o1=4∧km'=km) (h64:(ky'.size:Int)≤64):rightP (mkR o1 (rk:Int) co' ky' km') 256:=by
 refine ⟨⟨by show (0:Int)≤(rk:Int);omega,by show (rk:Int)<256;omega,by show (rk:Int)≤255;omega⟩,?_⟩
 rcases h1 with ⟨h,_,_⟩ | ⟨h,e1,e2⟩
 ·left
  refine ⟨h,?_,?_⟩
  ·show (numsC ky').length≤64
   rw [zaC];omega
  ·show km'=0
   omega
 ·right
  subst e1 e2
  rcases h with h | h
  ·left
   exact ⟨h,rfl,rfl,by show km'=0;omega⟩
  ·right
   exact ⟨h,rfl,rfl,by show 0≤km';omega,by show km'≤255;omega⟩
theorem zmo {q:Req} (h:rightP q 256):(encZ q).length≤75:=by
 rw [zgU h]
 obtain ⟨_,h⟩:=h
 split
 ·rcases h with h | h | h
  ·have:=h.2.1;omega
  ·omega
  ·omega
 ·split <;> omega
theorem zgN (z:Int):(Lit.int .u64 (IntKind.u64.wrap z)).wf=true:=by
 rw [IntKind.wrap_u64]
 have h1:=Int.emod_nonneg z (show (18446744073709551616:Int)≠0 by decide)
 have h2:=Int.emod_lt_of_pos z (show (0:Int)<18446744073709551616 by decide)
 show (decide (IntKind.u64.min≤_) && decide (_≤IntKind.u64.max))=true
 have e1:IntKind.u64.min=0:=rfl
 have e2:IntKind.u64.max=18446744073709551615:=rfl
 rw [e1,e2]
 simp
 omega
theorem zl1 {w:World} {g:Nat} {t:TypeId} {x y:Int} (h:Blk w g t #[.int .u64 x,.int .u64 y]) (hw:(Lit.int .u64 x).wf=true∧(Lit.int .u64 y).wf=true):RdI w .u64 (some ⟨g,0,none⟩) 2 2 [x,y] :=
 ⟨rfl,Nat.le_refl _,by unfold maxLen;omega,fun _=>⟨g,0,rfl,lt_of_block h,fun i hi=>by
  rw [Nat.zero_add,h.rd i]
  match i,hi with
  | 0,_=>rfl
  | 1,_=>rfl⟩,fun z hz=>by
  rcases List.mem_cons.1 hz with rfl | hz
  ·exact hw.1
  ·rw [List.mem_singleton.1 hz];exact hw.2⟩
theorem infoActD:(Tryz.prog.info? 42).map (fun i=>(i.zero,i.size,i.bytes))=some (some (.agg #[.int .i64 0,.int .i64 0,.int .i64 0,.slice none 0 0,.int .i64 0,.slice none 0 0]),6,80):=by kernel_rfl
theorem zcr (w:World) (k:IntKind):RdI w k none 0 0 []:=⟨rfl,Nat.le_refl _,Nat.zero_le _,fun h=>absurd h (by omega),fun z hz=>by cases hz⟩
theorem DB0 {kd ck n:Int} {k b:Nat} (h:DB [⟨kd,ck,k,none,0,0,n,none,0,0⟩] b):False:=by
 obtain ⟨a,ha,h⟩:=h
 rw [List.mem_singleton.1 ha] at h
 rcases h with ⟨h,_⟩ | ⟨h,_⟩ <;> exact absurd h (by simp)
theorem acH0 (w:World) (kd t:Int) (k:Nat) (n:Int) (h:0≤kd∧kd≤4) (ht:0≤t∧t≤163680) (hk:k<4):AcH w t ⟨kd,t,k,none,0,0,n,none,0,0⟩ :=
 ⟨⟨h,by show t≤_;omega,hk,Nat.zero_le _,Nat.zero_le _⟩,⟨ht.1,Int.le_refl _⟩,⟨[],zcr w _⟩,⟨[],zcr w _⟩,fun _=>⟨rfl,rfl⟩⟩
theorem zaY {w:World} {b:Nat} {t:TypeId} {cs:Array Value} (h:Blk w b t cs) (i:Nat) (v:Value):∃ w',w.setCell ⟨b,i,none⟩ v=w'∧Blk w' b t (cs.setIfInBounds i v)∧Fr (fun k=>k=b) w w':=by
 refine ⟨_,rfl,?_,?_⟩
 ·rw [zac h]
  exact zab (lt_of_block h) _
 ·rw [zac h]
  exact Fr.setObj (F:=fun k=>k=b) (Fr.refl _ _) rfl _
theorem zbF {w:World} {b:Nat} {t:TypeId} {lv:Nat→Value} (h:Blk w b t (lvC lv)) (k:Nat) (v:Value):∃ w',w.setCell ⟨b,k,none⟩ v=w'∧Blk w' b t (lvC (updV lv k v))∧Fr (fun j=>j=b) w w':=by
 obtain ⟨w',e,h1,h2⟩:=zaY h k v
 rw [zlJ] at h1
 exact ⟨w',e,h1,h2⟩
theorem zj4 {w:World} {b:Nat} {t:TypeId} {lv:Nat→Value} (h:Blk w b t (lvC lv)):∃ w',(((w.setCell ⟨b,0,none⟩ (.slice none 0 0)).setCell ⟨b,1,none⟩ (.slice none 0 0)).setCell ⟨b,2,none⟩ (.slice none 0 0)).setCell ⟨b,3,none⟩ (.slice none 0 0)=w'∧Blk w' b t (lvC (fun _=>.slice none 0 0))∧Fr (fun j=>j=b) w w':=by
 obtain ⟨w1,rfl,h1,f1⟩:=zbF h 0 (.slice none 0 0)
 obtain ⟨w2,rfl,h2,f2⟩:=zbF h1 1 (.slice none 0 0)
 obtain ⟨w3,rfl,h3,f3⟩:=zbF h2 2 (.slice none 0 0)
 obtain ⟨w4,rfl,h4,f4⟩:=zbF h3 3 (.slice none 0 0)
 exact ⟨_,rfl,h4,((f1.trans f2).trans f3).trans f4⟩
theorem zkK {lb db ab k:Nat} {vo v:Value} {ps:List DoV} {lv:Nat→Value} {a:DoV} (h:∀ b,acF lb vo ps lv allJ b→b<db) (hd:db<ab) (hv:∀ b,v.ownBlock=some b→b≠ab) (ha:∀ b,DB [a] b→b≠ab):∀ b,acF lb vo (ps++[a]) (updV lv k v) allJ b→b≠ab:=by
 rintro b (hb | hb | ⟨j,hj,hb⟩ | hb)
 ·have:=h b (Or.inl hb);omega
 ·have:=h b (Or.inr (Or.inl hb));omega
 ·unfold updV at hb
  by_cases e:j=k
  ·rw [if_pos e] at hb;exact hv b hb
  ·rw [if_neg e] at hb;have:=h b (Or.inr (Or.inr (Or.inl ⟨j,hj,hb⟩)));omega
 ·rcases zfV.1 hb with q | q
  ·have:=h b (Or.inr (Or.inr (Or.inr q)));omega
  ·exact ha b q
theorem zhJ {lb db ab:Nat} {vo:Value} {ps:List DoV} {lv:Nat→Value} {a:DoV} (h:∀ b,acF lb vo ps lv allJ b→b<db) (hd:db<ab) (ha:∀ b,DB [a] b→b≠ab):∀ b,acF lb vo (ps++[a]) lv allJ b→b≠ab:=by
 rintro b (hb | hb | hb | hb)
 ·have:=h b (Or.inl hb);omega
 ·have:=h b (Or.inr (Or.inl hb));omega
 ·have:=h b (Or.inr (Or.inr (Or.inl hb)));omega
 ·rcases zfV.1 hb with q | q
  ·have:=h b (Or.inr (Or.inr (Or.inr q)));omega
  ·exact ha b q
theorem zhu (A:Option Addr) (n c:Nat) (L:List DeZ) (rules:Nat) (hru:1≤rules∧rules≤8) (w:World) (hr:RdDe w A n c L) (hl:L.length≤160) (hk:∀ d ∈ L,d.key.size≤200∧d.n≤300) :
  Calls Tryz.prog 18 #[.slice A n c,.int .i64 (rules:Int)] w fun e w'=>∃ v ls,e=.returned v∧AcR w w' v ls∧ls.length=n∧Below w.heap.size w w':=by
 have hmx:=hr.max
 unfold maxLen at hmx
 have hcp:=hr.cap
 have HLn:=zhz (And.intro hr.len hl)
 have HR:=zhz hr
 have HK:=zhz hk
 have HRU:=zhz hru
 clear hr hl hk hru
 go_enter Tryz.func18,Tryz.ntmps18
 go_upto_region 2 with (fail)
 obtain ⟨w4,hw4,k4,b4,s4⟩:=zad w #[.slice none 0 0,.slice none 0 0,.slice none 0 0,.slice none 0 0] 122
 obtain ⟨lb,hlb⟩:=zeq (w.heap.size)
 have A4:=zhz (show AcS w w4 lb (.slice none 0 0) [] [] (fun _=>.slice none 0 0) allJ 0 from ⟨b4,World.ownsRow_nil _ _ _ _,by rw [hlb];exact k4,by omega,fun j hj=>⟨[],zb6 _ _,(fun z hz=>by cases hz),(by simp)⟩,(fun a ha=>by cases ha),(fun b hb=>by obtain ⟨a,ha,_⟩:=hb;cases ha),⟨(fun e=>by cases e),fun j hj=>⟨(fun e=>by cases e),Or.inl rfl⟩⟩,fun i j hi hj hij=>Or.inl rfl,List.Pairwise.nil⟩)
 have HLB:=zhz hlb
 clear k4 b4 s4 hlb
 go_upto_region 3 with (fail)
 rw [← HLB.out]
 clear hw4
 go_wp2
 go_loopg [5,7,17] n (fun kk so sn si wr=>∃ (i:Nat) (t:Int) (ls:List DoV) (lv:Nat→Value),i≤n∧Hid (kk=n - i)∧si=.int .i64 (i:Int)∧sn=.int .i64 t∧Hid (0≤t∧t≤1023*(i:Int))∧Hid (ls.length=i)∧Hid (AcS w wr lb so ls ls lv allJ t))
 case atStart=>exact ⟨0,0,[],_,by omega,zhz rfl,rfl,rfl,zhz (by omega),zhz rfl,A4⟩
 case round =>
  obtain ⟨i,t,ls,lv,hi,HKK,rfl,rfl,HT,HLS,HO⟩:=hrel
  by_cases hin:i<n
  ·obtain ⟨b,off,rfl,hbl,hc⟩:=(HR.out.below HO.out.bl).at_ (by omega)
   obtain ⟨d,ha⟩:∃ a,L[i]?=some a:=⟨_,zge (by rw [HLn.out.1];exact hin)⟩
   have HOK:=zhz ((HR.out.below HO.out.bl).ok d (List.mem_of_getElem? ha))
   have HKD:=zhz (HK.out d (List.mem_of_getElem? ha))
   have hil:i<L.length:=by rw [HLn.out.1];exact hin
   have hd:L[i]=d:=by rw [zge hil] at ha;exact Option.some.inj ha
   have hcc:∀ q,q<10→wr.cell? ⟨b,off+i*10+q,none⟩=d.cs[q]?:=fun q hq=>by rw [hc i hil q hq,hd]
   obtain ⟨kd,cn,cu,gp,op,ru,co,ky,kk,DA,dn,dc,raw⟩:=d
   have kr0:wr.cell? ⟨b,off+i*10,none⟩=some (.int .i64 kd):=hcc 0 (by omega)
   have kr1:wr.cell? ⟨b,off+i*10+1,none⟩=some (.int .i64 cn):=hcc 1 (by omega)
   have kr2:wr.cell? ⟨b,off+i*10+2,none⟩=some (.int .i64 cu):=hcc 2 (by omega)
   have kr3:wr.cell? ⟨b,off+i*10+3,none⟩=some (.int .i64 gp):=hcc 3 (by omega)
   have kr4:wr.cell? ⟨b,off+i*10+4,none⟩=some (.int .i64 op):=hcc 4 (by omega)
   have kr5:wr.cell? ⟨b,off+i*10+5,none⟩=some (.int .i64 ru):=hcc 5 (by omega)
   have kr6:wr.cell? ⟨b,off+i*10+6,none⟩=some (.int .u32 co):=hcc 6 (by omega)
   have kr7:wr.cell? ⟨b,off+i*10+7,none⟩=some (.string ky):=hcc 7 (by omega)
   have kr8:wr.cell? ⟨b,off+i*10+8,none⟩=some (.int .i64 kk):=hcc 8 (by omega)
   have kr9:wr.cell? ⟨b,off+i*10+9,none⟩=some (.slice DA dn dc):=hcc 9 (by omega)
   obtain ⟨x1,x2,ex1,kr,kw,ex2,bl2,kc2⟩:=box10D wr (.int .i64 kd) (.int .i64 cn) (.int .i64 cu) (.int .i64 gp) (.int .i64 op) (.int .i64 ru) (.int .u32 co) (.string ky) (.int .i64 kk) (.slice DA dn dc)
   obtain ⟨db,hdb⟩:=zeq (wr.heap.size)
   have HDB:=zhz hdb
   have O2:=zhz (HO.out.keep bl2)
   have B2:=zhz bl2
   rw [← hdb] at kc2
   have KD:=zhz kc2
   have kc3:=kc2.rd
   have t2:(i:Int)<(n:Int):=by omega
   have t3:(n:Int)≤160:=by have:=HLn.out;omega
   have HIN:=zhz hin
   have hT:=HT.out
   have hgb:=zlC gp
   obtain ⟨gq,hgq⟩:=zeq (gapL gp)
   have CG:=zhz (fun wx=>zjR gp wx)
   rw [← hgq] at CG hgb
   obtain ⟨t',ht'⟩:=zeq (t+gq)
   have et:wrap64 (t+gq)=t':=by unfold wrap64;omega
   have HT':=zhz (show (0≤t'∧t'≤1023*((i:Int)+1))∧t≤t'∧t'≤163680 by omega)
   obtain ⟨k,hk⟩:∃ k:Nat,(k:Int)=cn % 4:=⟨(cn % 4).toNat,by omega⟩
   have ek:bits .and .i64 cn 3=(k:Int):=by rw [zcA,hk]
   have HKL:=zhz (show k<4 by omega)
   obtain ⟨ka,ky2,k6,e1,e2,e3,hk6⟩:=zmv kd
   obtain ⟨kq,hkq⟩:∃ z:Int,z=(k6:Int):=⟨_,rfl⟩
   rw [← hkq] at e3
   have HK6:=zhz (show kq=0∨kq=1∨kq=3∨kq=4∨kq=2∨kq=5 by omega)
   obtain ⟨y1,y2,ey1,kr',kw',ey2,by_,kya⟩:=box6D x2 kq t' (k:Int)
   obtain ⟨ab,hab⟩:=zeq (x2.heap.size)
   rw [← hab] at kya
   have HAB:=zhz hab
   have O3:=zhz ((O2.out.keep by_).later (HT'.out.2.1))
   have KD3:=zhz (KD.out.keep by_)
   have KA:=zhz kya
   have B3:=zhz by_
   clear hc hbl ha bl2 kc2 hil hd hcc hdb hgb hgq ht' hT hk hk6 hkq by_ kya hab hin
   go_upto_region 6 with (fail)
   go_upto_region 7 with (fail)
   try rw [ex2]
   rw [← HDB.out]
   clear kr kw ex1 kr0 kr1 kr2 kr3 kr4 kr5 kr6 kr7 kr8 kr9 ex2
   go_upto_region 8 with (go_at_call 44;((with_reducible refine (CG.out _).mono ?_);rintro v y3 ⟨rfl,rfl⟩))
   rw [et]
   clear CG et
   go_upto_region 10 with (fail)
   try rw [ey2]
   rw [← HAB.out]
   clear ey1 kr' kw' ey2 kc3 e1 e2 e3 ek
   have kar:=KA.out.rd
   go_upto_block 2 with (fail)
   clear kar
   go_cut [12,13,14] from 18 to 146 (fun s12 s13 s14 wx=>∃ (a:DoV) (lv':Nat→Value),Hid (Blk wx ab 42 (encD a).toArray)∧Hid (AcS w wx lb u5 ls (ls++[a]) lv' allJ t')∧Hid (∀ b,acF lb u5 (ls++[a]) lv' allJ b→b≠ab))
   case first =>
    have HLT:=zhz (show ∀ b,acF lb u5 ls lv allJ b→b<db from fun b hb=>by rw [HDB.out];exact HO.out.lt b hb)
    have HDA:=zhz (show db<ab from by rw [HAB.out];exact lt_of_block KD.out)
    have HWA:=zhz (show w.heap.size≤ab from by have h1:=HDA.out;have h2:=HLT.out lb (Or.inl rfl);have h3:=HO.out.lbn;omega)
    have t4:(k:Int)<4:=by have:=HKL.out;omega
    have t5:¬ (k:Int)<0:=by omega
    have kd3:=KD3.out.rd
    have kar:=KA.out.rd
    have kaw:=KA.out.wr
    have kl:y2.cell? ⟨lb,k,none⟩=some (lv k):=(O3.out.la.rd k).trans (zaW lv HKL.out)
    have klw:=O3.out.la.wr
    have h6:=HK6.out
    rcases h6 with rfl | rfl | rfl | rfl | hh
    ·as_aux_lemma =>
      obtain ⟨y3,e3,k3,f3⟩:=zbF O3.out.la k (.slice none 0 0)
      have O4:=zhz (AcS.add ((O3.out.but k).set f3 k3 (zb6 y2 w.heap.size) (fun z hz=>by cases hz) (by simp) (fun b _ e=>by cases e)) (acH0 y3 0 t' k 0 (by omega) (by have:=HT'.out;omega) HKL.out) rfl (fun b hb=>(DB0 hb).elim))
      have KA4:=zhz (KA.out.fr f3 (fun e=>by have h1:=HLT.out lb (Or.inl rfl);have:=HDA.out;omega))
      have HF4:=zhz (zkK (k:=k) (v:=.slice none 0 0) HLT.out HDA.out (fun b e=>by cases e) (fun b hb=>(DB0 (kd:=0) (ck:=t') (k:=k) (n:=0) hb).elim))
      clear f3 k3
      go_wp2
      go_meet
      case rel=>(try rw [e3]);exact ⟨⟨0,t',k,none,0,0,0,none,0,0⟩,_,KA4,O4,HF4⟩
    ·as_aux_lemma =>
      obtain ⟨y3,e3,k3,f3⟩:=zbF O3.out.la k (.slice none 0 0)
      have O4:=zhz (AcS.add ((O3.out.but k).set f3 k3 (zb6 y2 w.heap.size) (fun z hz=>by cases hz) (by simp) (fun b _ e=>by cases e)) (acH0 y3 1 t' k 0 (by omega) (by have:=HT'.out;omega) HKL.out) rfl (fun b hb=>(DB0 hb).elim))
      have KA4:=zhz (KA.out.fr f3 (fun e=>by have h1:=HLT.out lb (Or.inl rfl);have:=HDA.out;omega))
      have HF4:=zhz (zkK (k:=k) (v:=.slice none 0 0) HLT.out HDA.out (fun b e=>by cases e) (fun b hb=>(DB0 (kd:=1) (ck:=t') (k:=k) (n:=0) hb).elim))
      clear f3 k3
      go_wp2
      go_meet
      case rel=>(try rw [e3]);exact ⟨⟨1,t',k,none,0,0,0,none,0,0⟩,_,KA4,O4,HF4⟩
    ·as_aux_lemma =>
      obtain ⟨cm,hcm⟩:=zeq (cu % 512)
      have em:bits .and .i64 cu 511=cm:=by rw [zif,hcm]
      obtain ⟨y3,e3,k3,f3⟩:=zaY KA.out 4 (.int .i64 cm)
      have K3:Blk y3 ab 42 #[.int .i64 3,.int .i64 t',.int .i64 (k:Int),.slice none 0 0,.int .i64 cm,.slice none 0 0]:=k3
      have O4:=zhz (AcS.add (O3.out.fr f3 (fun b hb e=>by have:=HLT.out b hb;have:=HDA.out;omega) (fun b e=>by rw [e];exact HWA.out)) (acH0 y3 3 t' k cm (by omega) (by have:=HT'.out;omega) HKL.out) rfl (fun b hb=>(DB0 hb).elim))
      have KA4:=zhz K3
      have HF4:=zhz (zhJ HLT.out HDA.out (fun b hb=>(DB0 (kd:=3) (ck:=t') (k:=k) (n:=cm) hb).elim))
      clear f3 k3 K3 hcm
      go_wp2
      go_meet
      case rel=>(try rw [e3]);exact ⟨⟨3,t',k,none,0,0,cm,none,0,0⟩,_,KA4,O4,HF4⟩
    ·as_aux_lemma =>
      obtain ⟨sa,hsa⟩:=zeq (IntKind.u64.wrap cu)
      obtain ⟨sb,hsb⟩:=zeq (IntKind.u64.wrap gp)
      have ea:IntKind.u64.wrap cu=sa:=hsa.symm
      have eb:IntKind.u64.wrap gp=sb:=hsb.symm
      have HW:=zhz (show (Lit.int .u64 sa).wf=true∧(Lit.int .u64 sb).wf=true from ⟨by rw [hsa];exact zgN _,by rw [hsb];exact zgN _⟩)
      obtain ⟨w5,hw5,k5,b5,s5⟩:=zad y2 #[.int .u64 sa,.int .u64 sb] 69
      obtain ⟨gb,hgb⟩:=zeq (y2.heap.size)
      rw [← hgb] at k5
      have HG:=zhz (show ab<gb from by rw [hgb];exact lt_of_block KA.out)
      obtain ⟨y3,e3,k3,f3⟩:=zaY (KA.out.keep b5) 5 (.slice (some ⟨gb,0,none⟩) 2 2)
      have K3:Blk y3 ab 42 #[.int .i64 4,.int .i64 t',.int .i64 (k:Int),.slice none 0 0,.int .i64 0,.slice (some ⟨gb,0,none⟩) 2 2]:=k3
      have O4:=zhz ((O3.out.keep b5).fr f3 (fun b hb e=>by have:=HLT.out b hb;have:=HDA.out;omega) (fun b e=>by rw [e];exact HWA.out))
      obtain ⟨y4,e4,k4,f4⟩:=zj4 O4.out.la
      have KG:=zhz ((k5.fr f3 (fun e=>by have:=HG.out;omega)).fr f4 (fun e=>by have h1:=HLT.out lb (Or.inl rfl);have:=HDA.out;have:=HG.out;omega))
      have HGB:=zhz hgb
      have hDB:∀ b,DB [(⟨4,t',k,none,0,0,0,some ⟨gb,0,none⟩,2,2⟩:DoV)] b→b=gb:=fun b hb=>by
       obtain ⟨a,ha,h⟩:=hb
       rw [List.mem_singleton.1 ha] at h
       rcases h with ⟨h,_⟩ | ⟨_,off,e⟩
       ·exact absurd h (by simp)
       ·injection e with e;injection e with e _;exact e.symm
      have O5:=zhz (AcS.add (a:=⟨4,t',k,none,0,0,0,some ⟨gb,0,none⟩,2,2⟩) (O4.out.clear f4 k4) ⟨⟨by show (0:Int)≤4∧(4:Int)≤4;omega,by show t'≤_;have:=HT'.out;omega,HKL.out,Nat.zero_le _,by show 2≤1000;omega⟩,by show 0≤t'∧t'≤t';have:=HT'.out;omega,⟨[],zcr _ _⟩,⟨[sa,sb],zl1 KG.out HW.out⟩,fun h=>absurd h (show ¬ (2:Nat)=0 by omega)⟩ rfl (fun b hb=>by
       rw [hDB b hb]
       have h1:=HLT.out lb (Or.inl rfl)
       have h2:=HDA.out
       have h3:=HG.out
       have h4:=HWA.out
       exact ⟨by omega,by omega,fun e=>by have:=HLT.out gb (Or.inr (Or.inl e));omega,fun j hj e=>by cases e⟩))
      have KA4:=zhz (K3.fr f4 (fun e=>by have h1:=HLT.out lb (Or.inl rfl);have:=HDA.out;omega))
      have HF4:=zhz (zhJ (ab:=ab) (db:=db) (lv:=fun _=>.slice none 0 0) (a:=(⟨4,t',k,none,0,0,0,some ⟨gb,0,none⟩,2,2⟩:DoV)) (fun b hb=>by
       rcases hb with hb | hb | ⟨j,hj,hb⟩ | hb
       ·exact HLT.out b (Or.inl hb)
       ·exact HLT.out b (Or.inr (Or.inl hb))
       ·cases hb
       ·exact HLT.out b (Or.inr (Or.inr (Or.inr hb)))) HDA.out (fun b hb=>by rw [hDB b hb];have:=HG.out;omega))
      have kl0:y3.cell? ⟨lb,0,none⟩=some (lv 0):=(O4.out.la.rd 0).trans (zaW lv (by omega))
      have kl1:y3.cell? ⟨lb,1,none⟩=some (lv 1):=(O4.out.la.rd 1).trans (zaW lv (by omega))
      have kl2:y3.cell? ⟨lb,2,none⟩=some (lv 2):=(O4.out.la.rd 2).trans (zaW lv (by omega))
      have kl3:y3.cell? ⟨lb,3,none⟩=some (lv 3):=(O4.out.la.rd 3).trans (zaW lv (by omega))
      have klw3:=O4.out.la.wr
      have kar5:=(KA.out.keep b5).rd
      have kaw5:=(KA.out.keep b5).wr
      clear k3 f3 k4 f4 k5 K3 hDB hsa hsb hgb kl klw b5 s5
      go_upto_region 34 with (fail)
      try rw [← HGB.out]
      try rw [e3]
      clear e3 hw5 kar kaw ea eb kd3 kar5 kaw5
      go_wp2
      go_meet
      case rel=>(try rw [e4]);exact ⟨⟨4,t',k,none,0,0,0,some ⟨gb,0,none⟩,2,2⟩,_,KA4,O5,HF4⟩
    ·have HH:=zhz hh
     go_upto_if 41 with (fail)
     go_cut [41] from 18 to 146 (fun s41 wx=>s41=.bool true∧wx=y2)
     case first =>
      have hh:=HH.out
      rcases hh with rfl | rfl
      ·go_wp2
       go_meet
       case rel=>exact ⟨rfl,rfl⟩
      ·go_wp2
       go_meet
       case rel=>exact ⟨rfl,rfl⟩
     case rest =>
     obtain ⟨rfl,hwc⟩:=hcut
     subst hwc
     go_upto_region 14 with (fail)
     have hk4:=HKL.out
     obtain ⟨zk,hzo,hzb,hzl⟩:=O3.out.left k HKL.out
     have HZ:=zhz (And.intro hzo (And.intro hzb hzl))
     have HAP:=zhz (show ∀ b,(lv k).ownBlock=some b→w.heap.size≤b∧¬ acF lb u5 ls lv (butJ k) b from fun b e=>⟨(hzo.lt b e).1,fun hf=>O3.out.apart HKL.out e b hf e⟩)
     have HRAW:=zhz (show RdI wr .u8 DA dn dc raw from HOK.out.raw)
     have HDN:=zhz (show dn≤300 from HKD.out.2)
     clear hzo hzb hzl hk4
     have N0:=zhz (show Below wc.heap.size wc wc.drew from zaa (Below.refl _ _) 1)
     have ON:=zhz (O3.out.keep N0.out)
     have KDN:=zhz (KD3.out.keep N0.out)
     have KAN:=zhz (KA.out.keep N0.out)
     have HRW:=zhz (show Below wr.heap.size wr wc.drew from (B2.out.trans (B3.out.mono B2.out.size)).trans (N0.out.mono (Nat.le_trans B2.out.size B3.out.size)))
     have st:wc.drew.cell? ⟨lb,k,none⟩=some (lv k)∧wc.drew.cell? ⟨db,9,none⟩=some (.slice DA dn dc):=⟨(ON.out.la.rd k).trans (zaW lv HKL.out),KDN.out.rd 9⟩
     have ZKN:=zhz (show Own wc.drew w.heap.size (lv k) zk from HZ.out.1.below N0.out)
     clear kl klw kar kaw kd3
     refine wp_region_held_drew (S:=fun wx=>wx.cell? ⟨lb,k,none⟩=some (lv k)∧wx.cell? ⟨db,9,none⟩=some (.slice DA dn dc)) (by kernel_rfl) st (fun hHeld=>?_)
     clear st
     refine wR 0 ?_
     refine wR 1 ?_
     refine wR 2 ?_
     refine wR 3 ?_
     refine wR 4 ?_
     refine wC 5 fun K hK=>?_
     refine zbW (by rfl) _ _ _ (by rfl) (by rfl) (by rfl) ZKN.out HZ.out.2.1 (HRAW.out.below HRW.out) (by have:=HZ.out.2.2;have:=HDN.out;omega) (Nat.le_trans HO.out.bl.size HRW.out.size) ?_;intro v14 w14 ho14 hg14 hr14 hv14;obtain ⟨C14,A14,c14,hve14,B14⟩:=ChS.begin (db:=db) ON.out KDN.out KAN.out ⟨HDA.out,HLT.out,HKL.out⟩ HWA.out rfl hg14 ho14 (zaO HZ.out.2.1 (zkm HRAW.out)) hr14 hv14;have C14:=zhz C14;have B14:=zhz B14;have ST14:=zhz (show w14.cell? ⟨lb,k,none⟩=some (lv k)∧w14.cell? ⟨db,9,none⟩=some (.slice DA dn dc) from ⟨(C14.out.o.la.rd k).trans (zaW lv HKL.out),C14.out.d.rd 9⟩);subst hve14;clear ho14 hg14 hr14 hv14
     refine hK.out _ _ ST14.out fun hHeld=>?_
     clear hK K
     try simp only [Act.put,zs1,zs2,zs3]
     refine wR 6 ?_
     refine wpAnyH_done (by kernel_rfl) ?_ _
     clear hHeld ZKN HRW ON KDN KAN KA KD3 O3
     have HNB:=zhz (show (zk++raw).length≤400 from by rw [List.length_append,HRAW.out.len];have:=HZ.out.2.2;have:=HDN.out;omega)
     obtain ⟨nb14,hnb14⟩:=zeq (zk.length+raw.length)
     rw [List.length_append,← hnb14] at B14 HNB
     rw [← hnb14]
     clear hnb14
     obtain ⟨q1,q2,eq1,qr,qw,eq2,bq,qk⟩:=box5Q w14 (.int .i64 op) (.int .i64 ru) (.int .u32 co) (.string ky) (.int .i64 kk)
     obtain ⟨qb,hqb⟩:=zeq (w14.heap.size)
     have HQB:=zhz (show qb=w14.heap.size∧ab<qb from ⟨hqb,by rw [hqb];exact lt_of_block C14.out.a⟩)
     rw [← hqb] at qk
     have QK:=zhz qk
     have C15:=zhz (C14.out.keep bq)
     have B15:=zhz (B14.out.fr (Fr.of_below (F:=fun _=>False) bq) (fun _ _ _ _=>id))
     have kd14:=C14.out.d.rd
     clear bq qk hqb
     go_upto_region 16 with (fail)
     try rw [eq2]
     rw [← HQB.out.1]
     clear eq1 qr qw eq2 kd14 C14 B14
     have ka15:=C15.out.a.rd
     go_upto_if 54 with (fail)
     clear ka15
     go_cut [12] from 18 to 146 (fun s12 wx=>∃ A nb c,s12=.slice A nb c∧Hid (nb≤400)∧Hid (BvS w wx lb ab u5 ls lv k A nb c)∧Hid (ChS w wx lb db ab u5 ls lv k t' kq #[.int .i64 kd,.int .i64 cn,.int .i64 cu,.int .i64 gp,.int .i64 op,.int .i64 ru,.int .u32 co,.string ky,.int .i64 kk,.slice DA dn dc] zk))
     case first =>
      have hh:=HH.out
      rcases hh with rfl | rfl
      ·as_aux_lemma =>
        obtain ⟨A0,c0,hlv,b0⟩:=C15.out.left HZ.out.2.1 HAP.out
        have B0:=zhz b0
        have HLV:=zhz hlv
        clear b0 hlv
        obtain ⟨om,hom⟩:=zeq (op % 4)
        have eo:bits .and .i64 op 3=om:=by rw [zcA,hom]
        obtain ⟨o1,ho1⟩:=zeq (om+1)
        have eo1:IntKind.i64.wrap (om+1)=o1:=by rw [IntKind.wrap_i64];omega
        have HO1:=zhz (show 1≤o1∧o1≤4 by omega)
        obtain ⟨ra,ry,rk,er1,er2,er3,hrk⟩:=zmL ru rules HRU.out
        have HRK:=zhz hrk
        obtain ⟨km,hkm⟩:=zeq (kk % 256)
        have ekm:bits .and .i64 kk 255=km:=by rw [zee,hkm]
        have HKM:=zhz (show 0≤km∧km≤255 by omega)
        have tr1:¬ (rules:Int)=0:=by have:=HRU.out;omega
        have tr2:¬ rules=0:=by have:=HRU.out;omega
        have N0:=zhz (show Below q2.heap.size q2 q2.drew from zaa (Below.refl _ _) 1)
        obtain ⟨qz,hqz⟩:=zeq (q2.drew)
        have QZ:=zhz (show Blk qz qb 76 #[.int .i64 op,.int .i64 ru,.int .u32 co,.string ky,.int .i64 kk] from by rw [hqz];exact QK.out.keep N0.out)
        have CZ:=zhz (show ChS w qz lb db ab u5 ls lv k t' 2 #[.int .i64 kd,.int .i64 cn,.int .i64 cu,.int .i64 gp,.int .i64 op,.int .i64 ru,.int .u32 co,.string ky,.int .i64 kk,.slice DA dn dc] zk from by rw [hqz];exact C15.out.keep N0.out)
        have BZ:=zhz (show BvS w qz lb ab u5 ls lv k A0 zk.length c0 from by rw [hqz];exact B0.out.fr (Fr.of_below (F:=fun _=>False) N0.out) (fun _ _ _ _=>id))
        obtain ⟨z1,e1,k1,f1⟩:=zaY QZ.out 0 (.int .i64 o1)
        obtain ⟨z2,e2,k2,f2⟩:=zaY k1 1 (.int .i64 (rk:Int))
        obtain ⟨z3,e3,k3,f3⟩:=zaY k2 4 (.int .i64 km)
        have F3:=zhz ((f1.trans f2).trans f3)
        have C3:=zhz (CZ.out.fr F3.out (fun b e=>by rw [e];exact HQB.out.2))
        have B3q:=zhz (BZ.out.far CZ.out HLV.out F3.out (fun b e=>by rw [e];exact HQB.out.2))
        have Q3:=zhz (show Blk z3 qb 76 #[.int .i64 o1,.int .i64 (rk:Int),.int .u32 co,.string ky,.int .i64 km] from k3)
        have kq:=QK.out.rd
        have kqw:=QK.out.wr
        have kz1:=k1.rd
        have kw1:=k1.wr
        have kz2:=k2.rd
        have kw2:=k2.wr
        have HQZ:=zhz hqz
        clear k1 k2 k3 f1 f2 f3 hom ho1 hrk hkm
        go_upto_region 17 with (fail)
        refine Ph.start [16] (Ph.pick [(fun w':World=>∀ j,w'.cell? ⟨qb,j,none⟩=(#[.int .i64 op,.int .i64 ru,.int .u32 co,.string ky,.int .i64 kk]:Array Value)[j]?),(fun _:World=>True)]) (by kernel_rfl) (Ph.pick0 (by rw [← hqz];exact QZ.out.rd)) (fun hHeld hOrd=>?_)
        rw [← hqz] at hHeld ⊢
        clear hqz kq kqw
        have kq:=QZ.out.rd
        have kqw:=QZ.out.wr
        have HT:=zhz (show ∀ p,p≤1→∀ w',Ph.pick [(fun w':World=>∀ j,w'.cell? ⟨qb,j,none⟩=(#[.int .i64 op,.int .i64 ru,.int .u32 co,.string ky,.int .i64 kk]:Array Value)[j]?),(fun _:World=>True)] p w'→(fun _:World=>True) w' from fun p hp w' h=>trivial)
        refine Ph.pR 0 0 hOrd ?_;clear hOrd;intro hOrd
        refine Ph.pR 1 0 hOrd ?_;clear hOrd;intro hOrd
        refine Ph.pR 2 0 hOrd ?_;clear hOrd;intro hOrd
        refine Ph.pR 3 0 hOrd ?_;clear hOrd;intro hOrd
        refine Ph.pR 4 0 hOrd ?_;clear hOrd;intro hOrd
        refine Ph.pR 5 0 hOrd ?_;clear hOrd;intro hOrd
        refine Ph.takeAll (i:=6) (oi:=?_) (v:=?_) (p:=0) ((fun _:World=>True)) (HT.out) ?_ ?_ ?_ ?_ hOrd ?_ ?_ ?_ ?_ ?_ ?_
        rotate_left 2
        ·simp only [List.getElem?_toArray,List.getElem?_cons_succ,List.getElem?_cons_zero];rfl
        ·kernel_rfl
        ·kernel_rfl
        ·kernel_rfl
        ·kernel_rfl
        ·kernel_rfl
        ·exact fun _ _ _ h=>h
        ·refine Or.inl ⟨by rfl,?_⟩
         intro w' hSw
         (try dsimp only at hSw)
         go_simp
         all_goals (with_reducible rfl)
        ·assumption
        clear hOrd
        intro hOrd
        try simp only [Act.put,zs1,zs2,zs3] at hOrd ⊢
        refine Ph.takeAll (i:=7) (oi:=?_) (v:=?_) (p:=0) ((fun _:World=>True)) (HT.out) ?_ ?_ ?_ ?_ hOrd ?_ ?_ ?_ ?_ ?_ ?_
        rotate_left 2
        ·simp only [List.getElem?_toArray,List.getElem?_cons_succ,List.getElem?_cons_zero];rfl
        ·kernel_rfl
        ·kernel_rfl
        ·kernel_rfl
        ·kernel_rfl
        ·kernel_rfl
        ·exact fun _ _ _ h=>h
        ·refine Or.inl ⟨by rfl,?_⟩
         intro w' hSw
         (try dsimp only at hSw)
         go_simp
         all_goals (with_reducible rfl)
        ·assumption
        clear hOrd
        intro hOrd
        try simp only [Act.put,zs1,zs2,zs3] at hOrd ⊢
        refine Ph.takeAll (i:=8) (oi:=?_) (v:=?_) (p:=0) ((fun _:World=>True)) (HT.out) ?_ ?_ ?_ ?_ hOrd ?_ ?_ ?_ ?_ ?_ ?_
        rotate_left 2
        ·simp only [List.getElem?_toArray,List.getElem?_cons_succ,List.getElem?_cons_zero];rfl
        ·kernel_rfl
        ·kernel_rfl
        ·kernel_rfl
        ·kernel_rfl
        ·kernel_rfl
        ·exact fun _ _ _ h=>h
        ·refine Or.inl ⟨by rfl,?_⟩
         intro w' hSw
         (try dsimp only at hSw)
         go_simp
         all_goals (with_reducible rfl)
        ·assumption
        clear hOrd
        intro hOrd
        try simp only [Act.put,zs1,zs2,zs3] at hOrd ⊢
        refine Ph.takeAll (i:=9) (oi:=?_) (v:=?_) (p:=0) ((fun _:World=>True)) (HT.out) ?_ ?_ ?_ ?_ hOrd ?_ ?_ ?_ ?_ ?_ ?_
        rotate_left 2
        ·simp only [List.getElem?_toArray,List.getElem?_cons_succ,List.getElem?_cons_zero];rfl
        ·kernel_rfl
        ·kernel_rfl
        ·kernel_rfl
        ·kernel_rfl
        ·kernel_rfl
        ·exact fun _ _ _ h=>h
        ·refine Or.inl ⟨by rfl,?_⟩
         intro w' hSw
         (try dsimp only at hSw)
         go_simp
         all_goals (with_reducible rfl)
        ·assumption
        clear hOrd
        intro hOrd
        try simp only [Act.put,zs1,zs2,zs3] at hOrd ⊢
        refine Ph.takeAll (i:=10) (oi:=?_) (v:=?_) (p:=0) ((fun _:World=>True)) (HT.out) ?_ ?_ ?_ ?_ hOrd ?_ ?_ ?_ ?_ ?_ ?_
        rotate_left 2
        ·simp only [List.getElem?_toArray,List.getElem?_cons_succ,List.getElem?_cons_zero];rfl
        ·kernel_rfl
        ·kernel_rfl
        ·kernel_rfl
        ·kernel_rfl
        ·kernel_rfl
        ·exact fun _ _ _ h=>h
        ·refine Or.inl ⟨by rfl,?_⟩
         intro w' hSw
         (try dsimp only at hSw)
         go_simp
         all_goals (with_reducible rfl)
        ·assumption
        clear hOrd
        intro hOrd
        try simp only [Act.put,zs1,zs2,zs3] at hOrd ⊢
        refine Ph.takeAll (i:=11) (oi:=?_) (v:=?_) (p:=0) ((fun _:World=>True)) (HT.out) ?_ ?_ ?_ ?_ hOrd ?_ ?_ ?_ ?_ ?_ ?_
        rotate_left 2
        ·simp only [List.getElem?_toArray,List.getElem?_cons_succ,List.getElem?_cons_zero];rfl
        ·kernel_rfl
        ·kernel_rfl
        ·kernel_rfl
        ·kernel_rfl
        ·kernel_rfl
        ·exact fun _ _ _ h=>h
        ·refine Or.inl ⟨by rfl,?_⟩
         intro w' hSw
         (try dsimp only at hSw)
         go_simp
         all_goals (with_reducible rfl)
        ·assumption
        clear hOrd
        intro hOrd
        try simp only [Act.put,zs1,zs2,zs3] at hOrd ⊢
        refine Ph.pR 12 0 hOrd ?_;clear hOrd;intro hOrd
        refine Ph.pR 13 0 hOrd ?_;clear hOrd;intro hOrd
        refine Ph.takeAll (i:=14) (oi:=?_) (v:=?_) (p:=0) ((fun _:World=>True)) (HT.out) ?_ ?_ ?_ ?_ hOrd ?_ ?_ ?_ ?_ ?_ ?_
        rotate_left 2
        ·simp only [List.getElem?_toArray,List.getElem?_cons_succ,List.getElem?_cons_zero];rfl
        ·kernel_rfl
        ·kernel_rfl
        ·kernel_rfl
        ·kernel_rfl
        ·kernel_rfl
        ·exact fun _ _ _ h=>h
        ·refine Or.inl ⟨by rfl,?_⟩
         intro w' hSw
         (try dsimp only at hSw)
         go_simp
         all_goals (with_reducible rfl)
        ·assumption
        clear hOrd
        intro hOrd
        try simp only [Act.put,zs1,zs2,zs3] at hOrd ⊢
        refine Ph.pR 15 0 hOrd ?_;clear hOrd;intro hOrd
        refine Ph.pC 16 1 hOrd ?_;clear hOrd;intro K hK
        go_simp
        skip
        refine hK.out _ _ (Ph.pick1 trivial) fun hHeld hOrd=>?_
        clear hK K
        try simp only [Act.put,zs1,zs2,zs3] at hOrd ⊢
        try rw [e1]
        clear e1 kq kqw
        refine Ph.pR 17 1 hOrd ?_;clear hOrd;intro hOrd
        refine Ph.pC 18 1 hOrd ?_;clear hOrd;intro K hK
        go_simp
        skip
        refine hK.out _ _ (Ph.pick1 trivial) fun hHeld hOrd=>?_
        clear hK K
        try simp only [Act.put,zs1,zs2,zs3] at hOrd ⊢
        try rw [e2]
        clear e2 kz1 kw1
        refine Ph.pR 19 1 hOrd ?_;clear hOrd;intro hOrd
        refine Ph.pC 20 1 hOrd ?_;clear hOrd;intro K hK
        go_simp
        skip
        refine hK.out _ _ (Ph.pick1 trivial) fun hHeld hOrd=>?_
        clear hK K
        try simp only [Act.put,zs1,zs2,zs3] at hOrd ⊢
        try rw [e3]
        clear e3 kz2 kw2
        refine Ph.done (by kernel_rfl) ?_ _
        clear hHeld hOrd eo eo1 er1 er2 er3 ekm tr1 tr2
        have kl3:z3.cell? ⟨lb,k,none⟩=some (.slice A0 zk.length c0):=(C3.out.o.la.rd k).trans ((zaW lv HKL.out).trans (congrArg some HLV.out))
        have t4:(k:Int)<4:=by have:=HKL.out;omega
        have t5:¬ (k:Int)<0:=by omega
        have kq3:=Q3.out.rd
        have kqw3:=Q3.out.wr
        clear CZ BZ QZ C15 B15 B0
        go_upto_if 78 with (fail)
        clear kl3
        go_cut [12] from 18 to 146 (fun s12 wx=>∃ co' ky',s12=.slice A0 zk.length c0∧Hid (Blk wx qb 76 #[.int .i64 o1,.int .i64 (rk:Int),.int .u32 co',.string ky',.int .i64 km])∧Hid ((o1=1∨o1=2)∧co'=co∧ky'=ky∨(o1=3∨o1=4)∧co'=0∧ky'=⟨#[]⟩)∧Hid (ChS w wx lb db ab u5 ls lv k t' 2 #[.int .i64 kd,.int .i64 cn,.int .i64 cu,.int .i64 gp,.int .i64 op,.int .i64 ru,.int .u32 co,.string ky,.int .i64 kk,.slice DA dn dc] zk)∧Hid (BvS w wx lb ab u5 ls lv k A0 zk.length c0))
        case first =>
         by_cases h2:2<o1
         ·obtain ⟨z4,e4,k4,f4⟩:=zaY Q3.out 2 (.int .u32 0)
          obtain ⟨z5,e5,k5,f5⟩:=zaY k4 3 (.string ⟨#[]⟩)
          have F5:=zhz (f4.trans f5)
          have Q5:=zhz k5
          have H2:=zhz h2
          have kz4:=k4.rd
          have kw4:=k4.wr
          clear k4 f4 k5 f5
          go_wp2
          go_meet
          case rel =>
           (try rw [e4]);(try rw [e5])
           exact ⟨0,⟨#[]⟩,rfl,Q5,zhz (Or.inr ⟨by have:=HO1.out;have:=H2.out;omega,rfl,rfl⟩),zhz (C3.out.fr F5.out (fun b e=>by rw [e];exact HQB.out.2)),zhz (B3q.out.far C3.out HLV.out F5.out (fun b e=>by rw [e];exact HQB.out.2))⟩
         ·have H2:=zhz h2
          go_wp2
          go_meet
          case rel=>exact ⟨co,ky,rfl,Q3,zhz (Or.inl ⟨by have:=HO1.out;have:=H2.out;omega,rfl,rfl⟩),C3,B3q⟩
        case rest =>
        clear kq3 kqw3 Q3 C3 B3q F3
        obtain ⟨co',ky',rfl,Q4,HC4,C4,B4⟩:=hcut
        have kq4:=Q4.out.rd
        have kqw4:=Q4.out.wr
        go_upto_if 83 with (fail)
        go_cut [] from 18 to 146 (fun wx=>∃ km',Hid (Blk wx qb 76 #[.int .i64 o1,.int .i64 (rk:Int),.int .u32 co',.string ky',.int .i64 km'])∧Hid (o1≠4∧km'=0∨o1=4∧km'=km)∧Hid (ChS w wx lb db ab u5 ls lv k t' 2 #[.int .i64 kd,.int .i64 cn,.int .i64 cu,.int .i64 gp,.int .i64 op,.int .i64 ru,.int .u32 co,.string ky,.int .i64 kk,.slice DA dn dc] zk)∧Hid (BvS w wx lb ab u5 ls lv k A0 zk.length c0))
        case first =>
         by_cases h2:o1=4
         ·have e2:(o1 != 4)=false:=by rw [h2];rfl
          have H2:=zhz h2
          clear h2
          go_wp2
          go_meet
          case rel=>exact ⟨km,Q4,zhz (Or.inr ⟨H2.out,rfl⟩),C4,B4⟩
         ·obtain ⟨z4,e4,k4,f4⟩:=zaY Q4.out 4 (.int .i64 0)
          have F5:=zhz f4
          have Q5:=zhz k4
          have e2:(o1 != 4)=true:=by simpa using h2
          have H2:=zhz h2
          clear k4 f4
          go_wp2
          go_meet
          case rel =>
           (try rw [e4])
           exact ⟨0,Q5,zhz (Or.inl ⟨H2.out,rfl⟩),zhz (C4.out.fr F5.out (fun b e=>by rw [e];exact HQB.out.2)),zhz (B4.out.far C4.out HLV.out F5.out (fun b e=>by rw [e];exact HQB.out.2))⟩
        case rest =>
        clear kq4 kqw4 Q4 C4 B4
        obtain ⟨km',Q6,HC6,C6,B6⟩:=hcut
        have kq6:=Q6.out.rd
        have HKY:=zhz (show ky.size≤200 from HKD.out.1)
        have tk:ky'.size≤9223372036854775807:=by
         rcases HC4.out with ⟨_,_,e⟩ | ⟨_,_,e⟩
         ·rw [e];have:=HKY.out;omega
         ·rw [e];decide
        go_upto_if 88 with (fail)
        by_cases h64:(ky'.size:Int)≤64
        ·have HCO:=zhz (show 0≤co'∧co'<4294967296 from by
          have hco:0≤co∧co<4294967296:=HOK.out.co
          rcases HC4.out with ⟨_,e,_⟩ | ⟨_,e,_⟩ <;> omega)
         have HRQ:=zhz (zhN HO1.out HRK.out HRU.out HKM.out HC4.out HC6.out h64)
         have t64:(ky'.size:Int)≤64:=h64
         clear h64
         have N6:=zhz (show Below wc.heap.size wc wc.drew from zaa (Below.refl _ _) 1)
         obtain ⟨wz,hwz⟩:=zeq (wc.drew)
         have Q7:=zhz (show Blk wz qb 76 #[.int .i64 o1,.int .i64 (rk:Int),.int .u32 co',.string ky',.int .i64 km'] from by rw [hwz];exact Q6.out.keep N6.out)
         have C7:=zhz (show ChS w wz lb db ab u5 ls lv k t' 2 #[.int .i64 kd,.int .i64 cn,.int .i64 cu,.int .i64 gp,.int .i64 op,.int .i64 ru,.int .u32 co,.string ky,.int .i64 kk,.slice DA dn dc] zk from by rw [hwz];exact C6.out.keep N6.out)
         have B7:=zhz (show BvS w wz lb ab u5 ls lv k A0 zk.length c0 from by rw [hwz];exact B6.out.far C6.out HLV.out (Fr.of_below (F:=fun _=>False) N6.out) (fun _ hk=>hk.elim))
         obtain ⟨zk0,hz0,hzb0⟩:=B7.out.rd
         have R7:=zhz (And.intro hz0 hzb0)
         have CE:=zhz (fun wx=>zfu o1 (rk:Int) co' km' ky' wx HRQ.out HCO.out)
         have HEN:=zhz (show byt (encZ (mkR o1 (rk:Int) co' ky' km'))∧(encZ (mkR o1 (rk:Int) co' ky' km')).length≤75 from ⟨zlv HRQ.out (zgm ky'),zmo HRQ.out⟩)
         obtain ⟨ez,hez⟩:∃ z,z=encZ (mkR o1 (rk:Int) co' ky' km'):=⟨_,rfl⟩
         rw [← hez] at CE HEN
         clear hz0 hzb0 hez kq6 tk
         go_upto_region 24 with (fail)
         refine wp_region_held_drew (S:=(fun wx=>∀ j,wx.cell? ⟨qb,j,none⟩=(#[.int .i64 o1,.int .i64 (rk:Int),.int .u32 co',.string ky',.int .i64 km']:Array Value)[j]?)) (by kernel_rfl) (by rw [← hwz];exact Q7.out.rd) (fun hHeld=>?_)
         rw [← hwz] at hHeld ⊢
         clear hwz
         have kq7:=Q7.out.rd
         refine wR 0 ?_
         refine wR 2 ?_
         refine wC 1 fun K hK=>?_
         refine zbW (base:=wz.heap.size) (by rfl) _ _ _ (by rfl) (by rfl) (by rfl) (zb6 _ _) (fun z hz=>by cases hz) R7.out.1 (by have:=R7.out.1.len;have:=HZ.out.2.2;simp;omega) (Nat.le_refl _) ?_;intro v8 w8 ho8 hg8 hr8 hv8;have F8:=zhz (show Fr (fun _=>False) wz w8 from (fr_row hg8).mono (fun b e=>by cases e));have O8:=zhz (show Own w8 wz.heap.size v8 zk0 from ho8);have Q8:=zhz (Q7.out.fr F8.out id);clear ho8 hg8 hr8 hv8
         refine hK.out _ _ Q8.out.rd fun hHeld=>?_
         clear hK K
         try simp only [Act.put,zs1,zs2,zs3]
         refine wC 3 fun K hK=>?_
         go_simp
         ((with_reducible refine (CE.out _).mono ?_);rintro e w9 ⟨v9,rfl,ho9,b9⟩;obtain ⟨A9,c9,hv9,r9,_⟩:=ho9.rd HEN.out.1;subst hv9;have R9:=zhz r9;have F9:=zhz (show Fr (fun _=>False) wz w9 from F8.out.trans (Fr.of_below b9));have O9:=zhz (O8.out.below b9);have Q9:=zhz (Q8.out.keep b9);clear ho9 b9 r9)
         refine hK.out _ _ Q9.out.rd fun hHeld=>?_
         clear hK K
         try simp only [Act.put,zs1,zs2,zs3]
         refine wC 4 fun K hK=>?_
         refine zbW (base:=wz.heap.size) (by rfl) _ _ _ (by rfl) (by rfl) (by rfl) O9.out R7.out.2 R9.out (by have:=R7.out.1.len;have:=HZ.out.2.2;have:=HEN.out.2;omega) F9.out.size ?_;intro v10 w10 ho10 hg10 hr10 hv10;have F10:=zhz (fr_row hg10);have O10:=zhz ho10;have G10:=zhz (show Fr (fun b=>wz.heap.size≤b) wz w10 from (F9.out.mono (fun _ h=>h.elim)).trans (F10.out.mono (fun b e=>(O9.out.lt b e).1)));clear ho10 hg10 hr10 hv10
         refine hK.out _ _ (Q9.out.fr F10.out (fun e=>by have:=lt_of_block Q7.out;have:=(O9.out.lt qb e).1;omega)).rd fun hHeld=>?_
         clear hK K
         try simp only [Act.put,zs1,zs2,zs3]
         refine wR 5 ?_
         clear hHeld
         refine wpAnyH_done (by kernel_rfl) ?_ _
         have C10:=zhz (C7.out.fr G10.out (fun b h=>by have:=lt_of_block C7.out.a;omega))
         obtain ⟨A10,c10,hv10,b10⟩:=BvS.new C7.out C10.out O10.out (zaO R7.out.2 HEN.out.1)
         subst hv10
         have B10:=zhz b10
         have HL10:=zhz (show (zk0++ez).length≤400 from by rw [List.length_append,R7.out.1.len];have:=HZ.out.2.2;have:=HEN.out.2;omega)
         obtain ⟨n10,hn10⟩:=zeq (zk0.length+ez.length)
         rw [List.length_append,← hn10] at B10 HL10
         clear b10
         go_wp2
         try rw [← hn10]
         go_meet
         case rel=>exact ⟨_,_,_,rfl,HL10,B10,C10⟩
        ·have H64:=zhz h64
         go_wp2
         go_meet
         case rel=>exact ⟨_,_,_,rfl,zhz (by have:=HZ.out.2.2;omega),B6,C6⟩
      ·go_wp2
       go_meet
       case rel=>exact ⟨_,_,_,rfl,HNB,B15,C15⟩
     case rest =>
     clear B15 C15 HNB QK HQB
     obtain ⟨bA,bn,bc,rfl,HBN,HB,HC⟩:=hcut
     obtain ⟨w2,ew2,kw2,fw2⟩:=zaY HC.out.a 0 (.int .i64 2)
     have C2:=zhz (show ChS w w2 lb db ab u5 ls lv k t' 2 #[.int .i64 kd,.int .i64 cn,.int .i64 cu,.int .i64 gp,.int .i64 op,.int .i64 ru,.int .u32 co,.string ky,.int .i64 kk,.slice DA dn dc] zk from HC.out.kind fw2 kw2)
     have B2':=zhz (HB.out.fr fw2 (fun b off h0 e=>(HB.out.ap b off h0 e).2.1))
     have ka:=HC.out.a.rd
     have kaw:=HC.out.a.wr
     clear fw2 kw2
     go_upto_region 26 with (fail)
     try rw [ew2]
     clear ew2 ka kaw HC HB
     obtain ⟨cm,hcm⟩:=zeq (cu % 16)
     have ecm:bits .and .i64 cu 15=cm:=by rw [zcC,hcm]
     obtain ⟨cx,hcx⟩:=zeq (bits .and .i64 cu 16)
     have ecx:bits .and .i64 cu 16=cx:=hcx.symm
     obtain ⟨mz,hmz⟩:∃ z:Nat,(z:Int)=min cm (bn:Int):=⟨(min cm (bn:Int)).toNat,by omega⟩
     have em1:min cm (bn:Int)=(mz:Int):=hmz.symm
     have HMZ:=zhz (show mz≤bn∧mz≤15 by omega)
     have kd2:=C2.out.d.rd
     clear hcm hcx hmz
     go_upto_if 104 with (fail)
     clear ecm ecx em1 kd2
     obtain ⟨bq,hbq⟩:∃ z:Bool,z=(cx==0):=⟨_,rfl⟩
     rw [← hbq]
     clear hbq
     go_cut [14] from 18 to 146 (fun s14 wx=>∃ q:Nat,s14=.int .i64 (q:Int)∧Hid (q≤bn∧q≤15)∧wx=w2)
     case first =>
      cases bq
      ·go_wp2
       go_meet
       case rel=>exact ⟨mz,rfl,HMZ,rfl⟩
      ·go_wp2
       go_meet
       case rel=>exact ⟨0,rfl,zhz (by omega),rfl⟩
     case rest =>
     obtain ⟨q,rfl,HQ,hwc⟩:=hcut
     subst hwc
     clear HMZ
     go_upto_region 29 with (fail)
     obtain ⟨nq,hnq⟩:=zeq (bn - q)
     have hq1:=HQ.out
     have hb1:=HBN.out
     have es:IntKind.i64.wrap ((bn:Int) - (q:Int))=(nq:Int):=by rw [IntKind.wrap_i64];omega
     have HNQ:=zhz (show nq≤bn∧bn - nq=q by omega)
     have N0:=zhz (show Below wc.heap.size wc wc.drew from zaa (Below.refl _ _) 1)
     have CD:=zhz (C2.out.keep N0.out)
     have BD:=zhz (B2'.out.fr (Fr.of_below (F:=fun _=>False) N0.out) (fun _ _ _ _=>id))
     obtain ⟨zb,hzb,hzby⟩:=BD.out.rd
     obtain ⟨HA',eh1,hh2,hh3⟩:=zjT hzb HNQ.out.1
     obtain ⟨TA',et1,ht2⟩:=zkD hzb HNQ.out.1
     rw [HNQ.out.2] at et1 ht2
     have HH2:=zhz (And.intro hh2 hh3)
     have HT2:=zhz ht2
     have HTB:=zhz (show byt (zb.drop nq)∧(zb.drop nq).length=q from ⟨fun z hz=>hzby z (List.mem_of_mem_drop hz),by rw [ht2.len]⟩)
     have t4:(k:Int)<4:=by have:=HKL.out;omega
     have t5:¬ (k:Int)<0:=by omega
     clear hnq hq1 hb1 hzb hzby hh2 hh3 ht2 C2 B2'
     refine wp_region_held_drew (S:=fun _=>True) (by kernel_rfl) trivial (fun hHeld=>?_)
     refine wR 0 ?_
     refine wR 1 ?_
     refine wR 2 ?_
     refine wR 3 ?_
     refine wR 4 ?_
     refine wR 5 ?_
     refine wR 6 ?_
     refine wR 7 ?_
     refine wR 8 ?_
     refine wR 9 ?_
     refine wR 10 ?_
     refine wR 11 ?_
     refine wR 12 ?_
     refine wR 13 ?_
     refine wR 14 ?_
     refine wR 15 ?_
     refine wR 16 ?_
     refine wR 18 ?_
     refine wC 17 fun K hK=>?_
     refine zbW (base:=wc.drew.heap.size) (by rfl) _ _ _ (by rfl) (by rfl) (by rfl) (zb6 _ _) (fun z hz=>by cases hz) HT2.out (by have:=HQ.out;simp;omega) (Nat.le_refl _) ?_;intro v17 w17 ho17 hg17 hr17 hv17;obtain ⟨A17,c17,hve17,_⟩:=Own.rd (show Own w17 wc.drew.heap.size v17 (zb.drop nq) from ho17) HTB.out.1;rw [HTB.out.2] at hve17;subst hve17;have F17:=zhz (show Fr (fun _=>False) wc.drew w17 from (fr_row hg17).mono (fun b e=>by cases e));have O17:=zhz (show Own w17 wc.drew.heap.size (.slice A17 q c17) (zb.drop nq) from ho17);have C17:=zhz (CD.out.fr F17.out (fun _ h=>h.elim));obtain ⟨w19,e19,k19,f19⟩:=zaY C17.out.a 3 (.slice HA' nq nq);have K19:=zhz k19;have F19:=zhz f19;have ka17:=C17.out.a.rd;have kaw17:=C17.out.a.wr;clear ho17 hg17 hr17 hv17 k19 f19
     refine hK.out _ _ trivial fun hHeld=>?_
     clear hK K
     try simp only [Act.put,zs1,zs2,zs3]
     refine wC 19 fun K hK=>?_
     go_simp
     (try rw [e19])
     refine hK.out _ _ trivial fun hHeld=>?_
     clear hK K
     try simp only [Act.put,zs1,zs2,zs3]
     clear ka17 kaw17 e19
     have L19:=zhz (C17.out.o.la.fr F19.out (fun e=>by have h1:=HLT.out lb (Or.inl rfl);have:=HDA.out;omega))
     obtain ⟨w21,e21,k21,f21⟩:=zbF L19.out k (.slice A17 q c17)
     have kl19:w19.cell? ⟨lb,k,none⟩=some (lv k):=(L19.out.rd k).trans (zaW lv HKL.out)
     have klw19:=L19.out.wr
     have E21:=zhz (ChS.finish CD.out BD.out HH2.out.2 HNQ.out.1 (by have:=HNQ.out;have:=HBN.out;omega) HH2.out.1 F17.out O17.out ⟨HTB.out.1,by rw [HTB.out.2];exact HQ.out.2⟩ (by have:=HT'.out;omega) K19.out F19.out k21 f21)
     clear k21 f21
     refine wR 20 ?_
     refine wC 21 fun K hK=>?_
     go_simp
     (try rw [e21])
     refine hK.out _ _ trivial fun hHeld=>?_
     clear hK K
     try simp only [Act.put,zs1,zs2,zs3]
     refine wpAnyH_done (by kernel_rfl) ?_ _
     clear hHeld kl19 klw19 e21 L19 K19 F19 O17 F17 C17 CD BD
     go_wp2
     go_meet
     case rel=>exact ⟨_,_,zhz E21.out.1,zhz E21.out.2.1,zhz E21.out.2.2⟩
   case rest =>
   obtain ⟨⟨ad,ack,ak,aA,ana,aca,an,aB,anb,acb⟩,lv',HA9,HO9,HF9⟩:=hcut
   have kc9:∀ j,wc.cell? ⟨ab,j,none⟩=(#[.int .i64 ad,.int .i64 ack,.int .i64 (ak:Int),.slice aA ana aca,.int .i64 an,.slice aB anb acb]:Array Value)[j]?:=HA9.out.rd
   obtain ⟨i0,hi0,hz0,hz1,hz2⟩:=info_parts infoActD
   have HI:=zhz (And.intro hi0 (And.intro hz0 (And.intro hz1 hz2)))
   have HL:=zhz (show ls.length≤160 from by have:=HLS.out;omega)
   clear hi0 hz0 hz1 hz2
   go_upto_region 36 with (at_builtin;refine wpList_push (w0:=wc) (v:=u5) (enc:=encD) (L:=ls) (base:=w.heap.size) (by rfl) _ _ (by rfl) (by rfl) (by rfl) Tryz.underlying38 HI.out.1 HI.out.2.1 HI.out.2.2.1 HI.out.2.2.2 (by rfl) (by omega) HO9.out.out HO9.out.bl.size (⟨ad,ack,ak,aA,ana,aca,an,aB,anb,acb⟩:DoV) zf6 (zjM _) (by have:=HL.out;omega) (by have:=HL.out;unfold maxLen;omega) ?_;intro gl cl w10 hown10 hf10 hgl10;have O10:=zhz (HO9.out.push hf10 hown10 (fun g hg=>by injection hg with hg;rw [← hg];rcases hgl10 with h | h;exact Or.inl h;exact Or.inr (Nat.le_of_lt h)));clear hown10 hf10 hgl10)
   clear kc9
   go_wp2
   go_roundg (n - (i+1))
   case measure=>have:=HKK.out;have:=HIN.out;omega
   case rel=>exact ⟨i+1,t',_,lv',HIN.out,zhz rfl,by go_num,rfl,zhz (by have:=HT'.out;omega),zhz (by rw [List.length_append,HLS.out];rfl),O10⟩
  ·have hie:i=n:=by omega
   subst hie
   have E:=zhz (HO.out.done (by have:=HT.out;have:=HLn.out;omega))
   go_wp2
   go_ret
   exact ⟨_,ls,rfl,E.out,HLS.out,HO.out.bl⟩
end
section
open Go.ChangeShapes Go.WideShapes Go.ChangeAt Go.RowKit
section
variable {w w':World} {base s On:Nat} {ps:List RuZ} {now m:Int} {D:Nat→Prop}
end
theorem AcH.doAt {w:World} {now:Int} {a:DoV} {D:Nat→Prop} (h:AcH w now a) (hD:∀ b,DB [a] b→D b):∃ zs sd,DoAt w D a zs sd∧((a.nb=0→a.B=none∧a.cb=0)∧∀ b off,0<a.nb→a.B=some ⟨b,off,none⟩→D b):=by
 obtain ⟨zs,hz⟩:=h.dat
 obtain ⟨sd,hs⟩:=h.sed
 exact ⟨zs,sd,⟨hz,fun b off h0 e=>hD b ⟨a,List.mem_singleton.2 rfl,Or.inl ⟨h0,off,e⟩⟩,hs⟩,h.b0,fun b off h0 e=>hD b ⟨a,List.mem_singleton.2 rfl,Or.inr ⟨h0,off,e⟩⟩⟩
theorem AcR.fr {W w w':World} {v:Value} {ls:List DoV} {F:Nat→Prop} (h:AcR W w v ls) (hf:Fr F w w') (hF:∀ b,F b→b<W.heap.size∨w.heap.size≤b):AcR W w' v ls :=
 ⟨h.out.fr hf (fun g hg hg'=>by have h1:=h.out.base_le g hg;have h2:=h.out.lt g hg;have:=hF g hg';omega),fun a ha=>(h.hold a ha).fr hf (fun b hb hb'=>by have h1:=(h.db b (zct ha hb)).1;have h2:=(h.hold a ha).lt b hb;have:=hF b hb';omega),h.db,h.so⟩
theorem AcR.fr2 {W w w':World} {v:Value} {ls:List DoV} {F:Nat→Prop} (h:AcR W w v ls) (hf:Fr F w w') (hF:∀ b,(DB ls b∨v.ownBlock=some b)→¬ F b):AcR W w' v ls :=
 ⟨h.out.fr hf (fun g hg=>hF g (Or.inr hg)),fun a ha=>(h.hold a ha).fr hf (fun b hb=>hF b (Or.inl (zct ha hb))),h.db,h.so⟩
theorem AcR.at_ {W w:World} {v:Value} {ls:List DoV} (h:AcR W w v ls) (h0:0<ls.length):∃ g c,v=.slice (some ⟨g,0,none⟩) ls.length c∧W.heap.size≤g∧g<w.heap.size∧∀ (i:Nat) a,ls[i]?=some a→∀ j,j<6→w.cell? ⟨g,i*6+j,none⟩=(encD a)[j]?:=by
 obtain ⟨A,c,hv,h1,h2,h3⟩:=h.out.slice
 obtain ⟨g,e,hg1,hg2⟩:=h3 h0
 subst e
 have ho:=h.out
 rw [hv] at ho
 exact ⟨g,c,hv,hg1,hg2,fun i a hi j hj=>ho.cell zf6 hi hj⟩
theorem AcR.slice {W w:World} {v:Value} {ls:List DoV} (h:AcR W w v ls):∃ A c,v=.slice A ls.length c:=by
 obtain ⟨A,c,hv,_⟩:=h.out.slice
 exact ⟨A,c,hv⟩
end
section
open Go.ChangeShapes Go.WideShapes Go.ChangeAt Go.RowKit
section
variable {w w':World} {b1 s b2 t:Nat} {ps:List RuZ} {now m:Int} {D:Nat→Prop} {Ns1:List LmN} {Ks1:List CnN} {c1:SvC} {Ns2:List LmN} {Ks2:List CnN} {c2:SvC} {Ss:List LmS} {σs1 σs2:List CnS}
end
def NwS (w:World) (base s:Nat) (ps:List RuZ) (sd:List Int) (nb:Nat):Prop:=∃ c Ns Ks,SrB w base s (confR ps) 660 Ns Ks c (rsZ (confR ps)) [cZ,cZ,cZ] 0∧SvNew c∧(∀ (k:Nat) r N,(confR ps)[k]?=some r→Ns[k]?=some N→LmR r (zfA sd nb (confR ps) k) N)∧Ks.length=3
theorem svnewN (ps:List RuZ) (On:Nat) (A:Option Addr) (n cc:Nat) (As:Option Addr) (nb cs:Nat) (sd:List Int) (w:World) (hr:RdRu w A n cc (confR ps)) (hz:rightZ 4294967296 3 (660:Int) (confR ps)) (ho:1≤On∧On≤65536) (hm:nb≤9223372036854775807) (hs:RdI w .u64 As nb cs sd) :
  Calls Tryz.prog 15 #[.agg #[.int .i64 4294967296,.int .i64 3,.int .i64 660,.slice A n cc],.slice As nb cs] w fun e w'=>∃ s,e=.returned (.tuple #[.pointer (some ⟨s,0,none⟩),.int .i64 0])∧NwS w' w.heap.size s ps sd nb∧Below w.heap.size w w':=by
 refine (svnewB (zf:=zfA sd nb (confR ps)) 4294967296 660 A n cc (.slice As nb cs) w hr hz (by omega) (fun i r wx hi hb=>zkZ (fun r hr=>by obtain ⟨p,rfl⟩:=zbr ps r hr;exact zdT p) (by have:=zbN ps;omega) hm i r wx hi (hs.below hb))).mono ?_
 rintro e w' ⟨s,c,Ns,Ks,rfl,h1,h2,h5,h3,h4⟩
 exact ⟨s,rfl,⟨c,Ns,Ks,h1,h2,h5,h3⟩,h4⟩
theorem zkT:CnB cZ:=⟨(fun x hx=>by cases hx),(fun x hx=>by cases hx)⟩
end
section
open Go.ChangeShapes Go.WideShapes Go.ChangeAt Go.RowKit
theorem box6E (X:World) (a b c d e f:Value):∃ w1 w2,X.alloc (.cells #[.int .i64 0,.int .i64 0,.int .i64 0,.slice none 0 0,.int .i64 0,.slice none 0 0] 42)=w1 ∧
  (∀ j,w1.cell? ⟨X.heap.size,j,none⟩=(#[.int .i64 0,.int .i64 0,.int .i64 0,.slice none 0 0,.int .i64 0,.slice none 0 0]:Array Value)[j]?)∧(∀ j,w1.frozen? ⟨X.heap.size,j,none⟩=false) ∧
  (((((w1.setCell ⟨X.heap.size,0,none⟩ a).setCell ⟨X.heap.size,1,none⟩ b).setCell ⟨X.heap.size,2,none⟩ c).setCell ⟨X.heap.size,3,none⟩ d).setCell ⟨X.heap.size,4,none⟩ e).setCell ⟨X.heap.size,5,none⟩ f=w2 ∧
  Below X.heap.size X w2∧Blk w2 X.heap.size 42 #[a,b,c,d,e,f]:=by
 obtain ⟨w1,hw1,k1,b1,s1⟩:=zad X #[.int .i64 0,.int .i64 0,.int .i64 0,.slice none 0 0,.int .i64 0,.slice none 0 0] 42
 have hl:=lt_of_block k1
 have he:(((((w1.setCell ⟨X.heap.size,0,none⟩ a).setCell ⟨X.heap.size,1,none⟩ b).setCell ⟨X.heap.size,2,none⟩ c).setCell ⟨X.heap.size,3,none⟩ d).setCell ⟨X.heap.size,4,none⟩ e).setCell ⟨X.heap.size,5,none⟩ f=setObj w1 X.heap.size (.cells #[a,b,c,d,e,f] 42 (0,0)):=by
  rw [zac k1]
  simp only [zai hl,zs1,zs2,zs3]
 exact ⟨w1,_,hw1,k1.rd,k1.wr,he,b1.trans ((Fr.setObj (F:=fun k=>k=X.heap.size) (Fr.refl _ _) rfl _).below b1.size (fun k hk=>by omega)),zab hl _⟩
section
variable {W0 W w w':World} {base s On hi:Nat} {ps:List RuZ} {now m:Int} {v:Value} {ls:List DoV} {X:Nat→Prop}
end
end
section
open Go.ChangeShapes Go.WideShapes Go.ChangeAt Go.RowKit
theorem resB_new {Ns:List LmN} {ps:List RuZ}:resB Ns (rsZ (confR ps))=fun _ _=>false:=by
 funext r k
 unfold resB
 split
 ·rfl
 ·split
  ·rename_i N σ hN hσ
   unfold rsZ at hσ
   rw [List.getElem?_map] at hσ
   cases hr:(confR ps)[r.toNat]? with
   | none=>rw [hr] at hσ;cases hσ
   | some q =>
    rw [hr] at hσ
    injection hσ with hσ
    rw [← hσ]
    have hp:posN N.Q.N.n (fun _=>none) k=none:=zbH (fun g=>by
     obtain ⟨j,_,hj⟩:=za4.1 g
     cases hj)
    show (posN N.Q.N.n (fun _=>none) k).isSome=false
    rw [hp];rfl
  ·rfl
def EvS (w:World) (base s:Nat) (ps:List RuZ) (now m:Int) (D:Nat→Prop) (M:Int→ByteArray→Bool):Prop:=∃ Ns Ks c Ss σs,SrB w base s (confR ps) 660 Ns Ks c Ss σs m∧Ks.length=3∧c.now=now∧(∀ b,D b→¬ svF s Ns Ks b∧b<w.heap.size)∧(∀ σ ∈ σs,CnB σ)∧M=resB Ns Ss
section
variable {w w':World} {base s:Nat} {ps:List RuZ} {now m:Int} {D:Nat→Prop} {M:Int→ByteArray→Bool}
theorem EvS.keep (h:EvS w base s ps now m D M) (hb:Below w.heap.size w w'):EvS w' base s ps now m D M:=by
 obtain ⟨Ns,Ks,c,Ss,σs,h,h3,e,hD,h5⟩:=h
 exact ⟨Ns,Ks,c,Ss,σs,h.keep hb,h3,e,fun b hd=>⟨(hD b hd).1,Nat.lt_of_lt_of_le (hD b hd).2 hb.size⟩,h5⟩
theorem EvS.more (h:EvS w base s ps now m D M) {D':Nat→Prop} (hb:Below w.heap.size w w') (hD':∀ b,D' b→D b∨(w.heap.size≤b∧b<w'.heap.size)):EvS w' base s ps now m D' M:=by
 obtain ⟨Ns,Ks,c,Ss,σs,h,h3,e,hD,h5⟩:=h
 refine ⟨Ns,Ks,c,Ss,σs,h.keep hb,h3,e,fun b hd=>?_,h5⟩
 rcases hD' b hd with q | q
 ·exact ⟨(hD b q).1,Nat.lt_of_lt_of_le (hD b q).2 hb.size⟩
 ·exact ⟨fun hf=>by have:=h.sv_lt b hf;omega,q.2⟩
theorem EvS.own (h:EvS w base s ps now m D M) {F:Nat→Prop} (hf:Fr F w w') (hF:∀ b,F b→D b):EvS w' base s ps now m D M:=by
 obtain ⟨Ns,Ks,c,Ss,σs,h,h3,e,hD,h5⟩:=h
 exact ⟨Ns,Ks,c,Ss,σs,h.frS hf (fun b hb=>(hD b (hF b hb)).1),h3,e,fun b hd=>⟨(hD b hd).1,Nat.lt_of_lt_of_le (hD b hd).2 hf.size⟩,h5⟩
theorem EvS.lo (h:EvS w base s ps now m D M):base≤s∧s<w.heap.size:=by
 obtain ⟨Ns,Ks,c,Ss,σs,h,_⟩:=h
 exact ⟨h.at_.lo,h.at_.sv.lt⟩
theorem EvS.start {sd:List Int} {nb:Nat} (h:NwS w base s ps sd nb):EvS w base s ps 0 0 (fun _=>False) (fun _ _=>false):=by
 obtain ⟨c,Ns,Ks,h1,h2,_,h4⟩:=h
 exact ⟨Ns,Ks,c,_,_,h1,h4,h2.now,fun b hd=>hd.elim,fun y hy=>by
  have e:y=cZ:=by simpa using hy
  rw [e];exact zkT,resB_new.symm⟩
theorem EvS.act (h:EvS w base s ps now m D M) {a:DoV} (ha:DoOK a) {zs sd:List Int} (hA:DoAt w D a zs sd) (hB:(a.nb=0→a.B=none∧a.cb=0)∧∀ b off,0<a.nb→a.B=some ⟨b,off,none⟩→D b) (hm0:0≤m) (hm:m+500*2097153≤576460752303423488) :
  Calls Tryz.prog 20 #[.pointer (some ⟨s,0,none⟩),a.v] w fun e w'=>∃ (ev:Int) (nn:Nat) (A3:Option Addr) (n3 c3:Nat) (A4:Option Addr) (n4 c4:Nat) (L:List EvZ) (now':Int) (M':Int→ByteArray→Bool),e=.returned (stepQ ev (nn:Int) A3 n3 c3 A4 n4 c4)∧EvS w' base s ps now' (m+500*2097153) D M'∧RdE w' A4 n4 L∧(∀ b off,0<n4→A4=some ⟨b,off,none⟩→w.heap.size≤b)∧n4≤1000000∧Fr (fun b=>base≤b∧¬ D b) w w'∧now'=(if a.kd=4 then max 0 a.ck else max now a.ck) ∧
   (a.kd=4→L=[]∧M'=fun _ _=>false)∧(a.kd≠4→okB now' M L∧M'=L.foldl stepB M∧∀ x ∈ L,0≤x.rule∧x.rule<(confR ps).length):=by
 obtain ⟨Ns,Ks,c,Ss,σs,h1,h3,e,hD,h5,hM⟩:=h
 have hmm:m≤m+500*2097153∧m+500*2097153≤576460752303423488:=⟨by omega,hm⟩
 have hsz:∀ {F:Nat→Prop} {wz:World},(∀ b,F b→svF s Ns Ks b)→Fr F w wz→Fr (fun b=>base≤b∧¬ D b) w wz:=fun hF hf=>hf.mono (fun b hb=>⟨h1.sv_lo b (hF b hb),fun hd=>(hD b hd).1 (hF b hb)⟩)
 have hl:σs.length=3:=by rw [← h1.at_.K.ln,h3]
 by_cases h4:a.kd=4
 ·have ev:a.v=actV 4 a.ck (a.k:Int) (.slice a.A a.na a.ca) a.n (.slice a.B a.nb a.cb):=by rw [← h4]
  rw [ev]
  refine (h1.restart a.ck (a.k:Int) a.n ha.ck (.slice a.A a.na a.ca) (Nat.le_trans ha.nb (by omega)) hA.sed (fun b off h0 e2 e3=>(hD b (hB.2 b off h0 e2)).1 (Or.inl e3))).mono ?_
  rintro e' w' ⟨rfl,Ns',Ks',g1,g2,_,g4,g5⟩
  rw [h3] at g1
  refine ⟨0,0,none,0,0,none,0,0,[],max 0 a.ck,_,rfl,⟨Ns',Ks',_,_,_,g1.mono ⟨by omega,hm⟩,g2.trans h3,rfl,fun b hd=>⟨fun hf=>?_,Nat.lt_of_lt_of_le (hD b hd).2 g5.size⟩,fun y hy=>?_,rfl⟩,RdE.nil _,fun b off h0 _=>absurd h0 (by omega),by omega,hsz (fun b hb=>Or.inl hb) g5,by rw [if_pos h4],fun _=>⟨rfl,resB_new⟩,fun q=>absurd h4 q⟩
  ·rcases g4 b hf with q | q
   ·exact (hD b hd).1 (Or.inl q)
   ·have:=(hD b hd).2;omega
  ·rw [List.eq_of_mem_replicate hy];exact zkT
 ·have hkA:KsA Ns Ss:=fun i N σ hN hσ=>(h1.at_.J.at_ i N σ hN hσ).ks
  by_cases e3:a.k=3
  ·have ev:a.v=actV a.kd a.ck 3 (.slice a.A a.na a.ca) a.n (.slice a.B a.nb a.cb):=by unfold DoV.v;rw [e3];rfl
   rw [ev]
   refine (h1.absent a.kd a.ck a.n 3 ha.ck _ _ h4 (fun wx c' hc e=>?_)).mono ?_
   ·exact (zeO (i:=3) (by omega) (by rw [e];exact zmX h1.at_.cK h3 3 (by omega) (by omega)) wx hc).mono (fun e w2 h=>h)
   ·rintro e' w' ⟨rfl,g1,g3⟩
    exact ⟨1,0,none,0,0,none,0,0,[],max now a.ck,M,rfl,⟨Ns,Ks,_,Ss,σs,g1.mono hmm,h3,by rw [← e];rfl,fun b hd=>⟨(hD b hd).1,Nat.lt_of_lt_of_le (hD b hd).2 g3.size⟩,h5,hM⟩,RdE.nil _,fun b off h0 _=>absurd h0 (by omega),by omega,hsz (fun b hb=>Or.inl hb) g3,by rw [if_neg h4],fun q=>absurd q h4,fun _=>⟨trivial,rfl,fun x hx=>by cases hx⟩⟩
  ·have hk3:a.k<3:=by have:=ha.k;omega
   obtain ⟨K,hK⟩:∃ K,Ks[a.k]?=some K:=⟨_,zge (by omega)⟩
   obtain ⟨σ,hσ⟩:∃ σ,σs[a.k]?=some σ:=⟨_,zge (by omega)⟩
   have hσB:=h5 σ (List.mem_of_getElem? hσ)
   refine (h1.actP a.kd a.ck a.n ha.ck a.k a.A a.na a.ca zs (.slice a.B a.nb a.cb) hK hσ hσB h4 ha.na hm hA.dat (fun b off h0 e hc=>(hD b (hA.own b off h0 e)).1 (zml hK hc))).mono ?_
   rintro e' w' ⟨A3,n3,c3,A4,n4,c4,rfl,_,_,r4,l4,h41,g1,g2,g3⟩
   obtain ⟨q1,q2,_,q4⟩:=zlg (K:=K) (c:=c) (ck:=a.ck) h1.hn hkA hσB.z a.kd a.n hA.dat.byt
   rw [e] at q1
   rw [← hM] at q1 q2
   exact ⟨_,_,A3,n3,c3,A4,n4,c4,_,max now a.ck,_,rfl,⟨Ns,Ks,_,_,_,g1,h3,by rw [← e];rfl,fun b hd=>⟨(hD b hd).1,Nat.lt_of_lt_of_le (hD b hd).2 g3.size⟩,fun y hy=>by
    rcases List.mem_or_eq_of_mem_set hy with q | q
    ·exact h5 y q
    ·rw [q];exact g2,rfl⟩,r4,l4,h41,hsz (fun b hb=>zml hK hb) g3,by rw [if_neg h4],fun q=>absurd q h4,fun _=>⟨q1,q2.symm,fun x hx=>by rw [← h1.hn.nl];exact q4 x hx⟩⟩
theorem EvS.res (h:EvS w base s ps now m D M) {x:Int} {k:ByteArray} (hx:0≤x∧x<(confR ps).length) (hk:k.size≤maxLen):∃ (l:Nat) (cv:Cel),∀ wx,Below w.heap.size w wx→Calls Tryz.prog 26 #[.pointer (some ⟨s,0,none⟩),.int .i64 x] wx (fun e w'=>e=.returned (.pointer (some ⟨l,0,none⟩))∧wx=w')∧Calls Tryz.prog 34 #[.pointer (some ⟨l,0,none⟩),.string k] wx (fun e w'=>e=.returned (.tuple #[celV cv,.bool (M x k)])∧Below wx.heap.size wx w'):=by
 obtain ⟨Ns,Ks,c,Ss,σs,h1,h3,e,hD,h5,hM⟩:=h
 have hnl:=h1.hn.nl
 have h8:=h1.hn.l
 obtain ⟨i,rfl⟩:∃ i:Nat,x=(i:Int):=⟨x.toNat,by omega⟩
 obtain ⟨N,hN⟩:∃ N,Ns[i]?=some N:=⟨_,zge (by omega)⟩
 obtain ⟨σ,hσ⟩:∃ σ,Ss[i]?=some σ:=⟨_,zge (by rw [← h1.at_.J.ln];omega)⟩
 have hJ:c.J[i]?=some (.pointer (some ⟨N.l,0,none⟩)):=by
  rw [h1.at_.cJ,List.getElem?_append_left (by rw [List.length_map];omega),List.getElem?_map,hN]
  rfl
 have hMx:M (i:Int) k=(posN N.Q.N.n σ.σ.K k).isSome:=by
  rw [hM]
  unfold resB
  rw [if_neg (by omega),Int.toNat_natCast,hN,hσ]
 have hcv:∃ cv:Cel,resV (σ.cellOf N k)=.tuple #[celV cv,.bool (M (i:Int) k)]:=by
  rw [hMx]
  unfold LmS.cellOf
  cases posN N.Q.N.n σ.σ.K k with
  | none=>exact ⟨_,rfl⟩
  | some j=>exact ⟨_,rfl⟩
 obtain ⟨cv,hcv⟩:=hcv
 refine ⟨N.l,cv,fun wx hb=>⟨zeT (i:=i) (by omega) hJ wx (h1.keep hb).at_.sv,?_⟩⟩
 have hh:=zg7 k hk wx ((h1.keep hb).at_.J.at_ i N σ hN hσ)
 rw [hcv] at hh
 exact hh
theorem EvS.nowC (h:EvS w base s ps now m D M):Calls Tryz.prog 22 #[.pointer (some ⟨s,0,none⟩)] w fun e w'=>e=.returned (.int .i64 now)∧w=w':=by
 obtain ⟨Ns,Ks,c,Ss,σs,h,_,e,_⟩:=h
 rw [← e]
 exact zcS w h.at_.sv
end
structure EvL (W0 W w:World) (base s:Nat) (ps:List RuZ) (now m:Int) (hi:Nat) (v:Value) (ls:List DoV) (X:Nat→Prop) (M:Int→ByteArray→Bool):Prop where
 sv:EvS w base s ps now m (fun b=>W.heap.size≤b∧b<hi∨X b) M
 ac:AcR W w v ls
 lo:W0.heap.size≤base∧hi≤w.heap.size
 bl:Below W0.heap.size W0 w
 db:∀ b,(DB ls b∨v.ownBlock=some b)→W.heap.size≤b∧b<hi
section
variable {W0 W w w':World} {base s hi:Nat} {ps:List RuZ} {now m:Int} {v:Value} {ls:List DoV} {X:Nat→Prop} {M:Int→ByteArray→Bool}
theorem EvL.keep (h:EvL W0 W w base s ps now m hi v ls X M) (hb:Below w.heap.size w w'):EvL W0 W w' base s ps now m hi v ls X M :=
 ⟨h.sv.keep hb,h.ac.fr (F:=fun _=>False) (Fr.of_below hb) (fun _ hk=>hk.elim),⟨h.lo.1,Nat.le_trans h.lo.2 hb.size⟩,h.bl.trans (hb.mono h.bl.size),h.db⟩
theorem EvL.box (h:EvL W0 W w base s ps now m hi v ls X M) (hb:Below w.heap.size w w') {bx:Nat} (hx:w.heap.size≤bx∧bx<w'.heap.size):EvL W0 W w' base s ps now m hi v ls (fun b=>X b∨b=bx) M:=by
 have hk:=h.keep hb
 refine ⟨h.sv.more hb (fun b hb'=>?_),hk.ac,hk.lo,hk.bl,hk.db⟩
 rcases hb' with q | q | q
 ·exact Or.inl (Or.inl q)
 ·exact Or.inl (Or.inr q)
 ·rw [q];exact Or.inr hx
theorem EvL.drop (h:EvL W0 W w base s ps now m hi v ls X M) {X':Nat→Prop} (hx:∀ b,X' b→X b):EvL W0 W w base s ps now m hi v ls X' M :=
 ⟨h.sv.more (Below.refl _ _) (fun b hb=>Or.inl (hb.imp id (hx b))),h.ac,h.lo,h.bl,h.db⟩
theorem EvL.set (h:EvL W0 W w base s ps now m hi v ls X M) {bx:Nat} (hx:X bx) (hl:bx<W.heap.size∨hi≤bx) (h0:W0.heap.size≤bx) (hf:Fr (fun b=>b=bx) w w'):EvL W0 W w' base s ps now m hi v ls X M :=
 ⟨h.sv.own hf (fun b e=>by rw [e];exact Or.inr hx),h.ac.fr2 hf (fun b hb' e=>by have:=h.db b hb';omega),⟨h.lo.1,Nat.le_trans h.lo.2 hf.size⟩,h.bl.trans (hf.below h.bl.size (fun b e=>by omega)),h.db⟩
theorem EvL.start (h:EvS w base s ps now m X M) (h0:W0.heap.size≤base) (hbl:Below W0.heap.size W0 w) (ha:AcR w w' v ls) (hb:Below w.heap.size w w'):EvL W0 w w' base s ps now m w'.heap.size v ls X M:=by
 refine ⟨h.more hb (fun b hb'=>?_),ha,⟨h0,Nat.le_refl _⟩,hbl.trans (hb.mono hbl.size),fun b hb'=>?_⟩
 ·rcases hb' with q | q
  ·exact Or.inr q
  ·exact Or.inl q
 ·rcases hb' with q | q
  ·obtain ⟨a,ha',hq⟩:=q
   exact ⟨(ha.db b ⟨a,ha',hq⟩).1,(ha.hold a ha').lt b ⟨a,List.mem_singleton.2 rfl,hq⟩⟩
  ·exact ⟨ha.out.base_le b q,ha.out.lt b q⟩
theorem EvL.act (h:EvL W0 W w base s ps now m hi v ls X M) {a:DoV} (ha:a ∈ ls) (hm0:0≤m) (hm:m+500*2097153≤576460752303423488) :
  Calls Tryz.prog 20 #[.pointer (some ⟨s,0,none⟩),actV a.kd a.ck (a.k:Int) (.slice a.A a.na a.ca) a.n (.slice a.B a.nb a.cb)] w fun e w'=>∃ (ev:Int) (nn:Nat) (A3:Option Addr) (n3 c3:Nat) (A4:Option Addr) (n4 c4:Nat) (L:List EvZ) (now':Int) (M':Int→ByteArray→Bool),e=.returned (stepQ ev (nn:Int) A3 n3 c3 A4 n4 c4)∧EvL W0 W w' base s ps now' (m+500*2097153) hi v ls X M'∧RdE w' A4 n4 L∧(∀ b off,0<n4→A4=some ⟨b,off,none⟩→w.heap.size≤b)∧n4≤1000000∧Fr (fun b=>base≤b∧¬ (W.heap.size≤b∧b<hi∨X b)) w w'∧now'=(if a.kd=4 then max 0 a.ck else max now a.ck) ∧
   (a.kd=4→L=[]∧M'=fun _ _=>false)∧(a.kd≠4→okB now' M L∧M'=L.foldl stepB M∧∀ x ∈ L,0≤x.rule∧x.rule<(confR ps).length):=by
 have hH:=h.ac.hold a ha
 obtain ⟨zs,sd,hA,hB⟩:=hH.doAt (D:=fun b=>W.heap.size≤b∧b<hi∨X b) (fun b hb=>Or.inl (h.db b (Or.inl (zct ha hb))))
 refine (h.sv.act hH.ok hA hB hm0 hm).mono ?_
 rintro e w' ⟨ev,nn,A3,n3,c3,A4,n4,c4,L,now',M',rfl,g1,g2,g3,g4,g5,g6⟩
 exact ⟨ev,nn,A3,n3,c3,A4,n4,c4,L,now',M',rfl,⟨g1,h.ac.fr2 g5 (fun b hb hF=>hF.2 (Or.inl (h.db b hb))),⟨h.lo.1,Nat.le_trans h.lo.2 g5.size⟩,h.bl.trans (g5.below h.bl.size (fun b hb=>Nat.le_trans h.lo.1 hb.1)),h.db⟩,g2,g3,g4,g5,g6⟩
end
def VMap (V:Who→Option Value) (M:Int→ByteArray→Bool) (n:Nat):Prop:=∀ x:Who,(V x=none∧M x.r x.s=false)∨(V x=some (.bool (M x.r x.s))∧0≤x.r∧x.r<n)
section
variable {V:Who→Option Value} {M:Int→ByteArray→Bool} {n:Nat}
theorem VMap.nil:VMap (fun _=>none) (fun _ _=>false) n:=fun _=>Or.inl ⟨rfl,rfl⟩
theorem VMap.look (h:VMap V M n) (x:Who):(V x).getD (.bool false)=.bool (M x.r x.s):=by
 rcases h x with ⟨h1,h2⟩ | ⟨h1,_⟩
 ·rw [h1,h2];rfl
 ·rw [h1];rfl
theorem VMap.put (h:VMap V M n) {e:EvZ} {x:Who} (h1:x.r=e.rule) (h2:x.s=e.key) (hx:0≤e.rule∧e.rule<n):VMap (fun y=>if y=x then some (.bool e.up) else V y) (stepB M e) n:=by
 intro y
 by_cases ey:y=x
 ·subst ey
  refine Or.inr ⟨?_,by rw [h1];exact hx⟩
  unfold stepB
  dsimp only
  rw [if_pos rfl,if_pos ⟨h1,h2⟩]
 ·have hne:¬ (y.r=e.rule∧y.s=e.key):=fun q=>ey (Who.ext (q.1.trans h1.symm) (q.2.trans h2.symm))
  unfold stepB
  dsimp only
  rw [if_neg ey,if_neg hne]
  exact h y
theorem ziG {now:Int}:∀ {L:List EvZ} {M:Int→ByteArray→Bool} {j:Nat} {x:EvZ},okB now M L→L[j]?=some x→((L.take j).foldl stepB M) x.rule x.key=!x.up∧x.at_=now∧x.key.size≤64
 | [],_,_,_,_,h=>by cases h
 | e :: l,M,0,x,h,hx=>by
  injection hx with hx
  subst hx
  exact ⟨h.1,h.2.1,h.2.2.1⟩
 | e :: l,M,j+1,x,h,hx=>ziG (L:=l) (M:=stepB M e) (j:=j) h.2.2.2 hx
theorem zic {L:List EvZ} {j:Nat} {x:EvZ} (h:L[j]?=some x):(L.take (j+1)).foldl stepB M=stepB ((L.take j).foldl stepB M) x:=by
 obtain ⟨h1,h2⟩:=zgs.1 h
 rw [List.take_succ_eq_append_getElem h1,h2,List.foldl_append]
 rfl
end
end
section
open Go.ChangeShapes Go.WideShapes Go.ChangeAt Go.RowKit
end
section
open Go Go.ChangeShapes Go.WideShapes Go.ChangeAt Go.RowKit
def csD (L:List DeZ):List Value:=L.flatMap DeZ.cs
theorem zf2 (d:DeZ):d.cs.length=10:=rfl
theorem ze3:∀ L:List DeZ,(csD L).length=L.length*10
 | []=>rfl
 | d :: L=>by
  show (d.cs++csD L).length=_
  rw [List.length_append,ze3 L,zf2,List.length_cons];omega
theorem ze2:∀ (L:List DeZ) (j:Nat) (h:j<L.length) (i:Nat),i<10→(csD L)[j*10+i]?=(L[j]).cs[i]?
 | d :: L,0,_,i,hi=>by
  show (d.cs++csD L)[0*10+i]?=_
  rw [List.getElem?_append_left (by rw [zf2];omega),Nat.zero_mul,Nat.zero_add]
  rfl
 | d :: L,j+1,h,i,hi=>by
  show (d.cs++csD L)[(j+1)*10+i]?=_
  rw [List.getElem?_append_right (by rw [zf2];omega),zf2,show (j+1)*10+i - 10=j*10+i by omega,ze2 L j (by simpa using h) i hi]
  rfl
theorem zmm (d:DeZ):∀ u ∈ d.cs,u.oneCell'=true:=by
 intro u hu
 simp only [DeZ.cs,List.mem_cons,List.not_mem_nil,or_false] at hu
 rcases hu with rfl | rfl | rfl | rfl | rfl | rfl | rfl | rfl | rfl | rfl <;> rfl
theorem infoDe:(Tryz.prog.info? 82).map (fun i=>(i.zero,i.size,i.bytes))=some (some (.agg #[.int .i64 0,.int .i64 0,.int .i64 0,.int .i64 0,.int .i64 0,.int .i64 0,.int .u32 0,.string ⟨#[]⟩,.int .i64 0,.slice none 0 0]),10,104):=by kernel_rfl
theorem zls (L M:List DeZ):csD (L++M)=csD L++csD M:=by unfold csD;rw [List.flatMap_append]
section
variable {w:World} {base:Nat} {v:Value} {M L:List DeZ} {A:Option Addr} {n c:Nat}
theorem zjb (hM:M.length≤10) (hM1:0<M.length) (hown:w.ownsRow base 82 10 v M.length (csD M)) (hok:∀ d ∈ M,DeOK w d) (h:RdDe w A n c L) (hn:n≤1000) (hbase:base≤w.heap.size) (hnew:∀ d ∈ M++L,∀ b off,0<d.n→d.A=some ⟨b,off,none⟩→v.ownBlock≠some b) (ty:TypeId) (c':Nat) :
  ∃ g cap w',(Builtin.append_ #[24,24] ty #[v,.slice A n c']).run Tryz.prog w=.ok (.slice (some ⟨g,0,none⟩) (M.length+n) cap) w'∧RdDe w' (some ⟨g,0,none⟩) (M.length+n) cap (M++L)∧w.grownBy w' v.ownBlock:=by
 obtain ⟨i0,hi0,hz0,hz1,hz2⟩:=info_parts infoDe
 have ht:Tryz.prog.underlying 24=some (.slice 82):=by rfl
 have hl:=h.len
 have hdok:∀ w',w.grownBy w' v.ownBlock→∀ d ∈ M++L,DeOK w' d:=fun w' hg d hd=>by
  have h0:DeOK w d:=by
   rcases List.mem_append.1 hd with q | q
   ·exact hok d q
   ·exact h.ok d q
  exact ⟨h0.kind,h0.conn,h0.cut,h0.gap,h0.op,h0.ru,h0.co,h0.key,h0.k,zbb h0.raw (fr_row hg) (fun b off q1 q2=>hnew d hd b off q1 q2)⟩
 have fin:∀ v' w',w'.ownsRow base 82 10 v' (M.length+n) (csD M++csD L)→w.grownBy w' v.ownBlock→∃ g cap,v'=.slice (some ⟨g,0,none⟩) (M.length+n) cap∧RdDe w' (some ⟨g,0,none⟩) (M.length+n) cap (M++L):=fun v' w' ho hg=>by
  rcases ho.2 with ⟨_,h0⟩ | ⟨g,cap,cur,rfl,hbg,hh,hnc,hcm,hcs,htake⟩
  ·omega
  ·refine ⟨g,cap,rfl,⟨by rw [List.length_append,hl],hnc,hcm,fun _=>⟨g,0,rfl,lt_of_block hh,fun j hj i hi=>?_⟩,hdok w' hg⟩⟩
   have hjl:j<M.length+n:=by rw [List.length_append] at hj;omega
   have hlt:j*10+i<(M.length+n)*10:=by omega
   rw [Nat.zero_add,World.ownsRow.cellAt ho (j*10+i) hlt,← zls,ze2 (M++L) j hj i hi]
 have h0:=h
 rcases A with _ | ad
 ·have hn0:n=0:=by
   rcases Nat.eq_zero_or_pos n with q | q
   ·exact q
   ·obtain ⟨_,_,e,_⟩:=h.at_ q
    cases e
  subst hn0
  have hL:L=[]:=List.length_eq_zero_iff.1 hl
  subst hL
  obtain ⟨g,cap,rfl,h2⟩:=fin v w (by rw [show csD ([]:List DeZ)=[] from rfl,List.append_nil];exact hown) (World.grownBy.refl w _)
  refine ⟨g,cap,w,?_,h2,World.grownBy.refl w _⟩
  have hnc:M.length≤cap:=by have:=h2.cap;omega
  simp [Builtin.append_,run_underlying ht,sizeOf,typeInfo,hi0,Builtin.lenOf,Builtin.firstCells,hnc,storeCells]
 ·have hcells:∀ j u,(csD L)[j]?=some u→w.cell? (ad.add j)=some u:=by
   intro j u hj
   have hjl:j<n*10:=by
    rcases Nat.lt_or_ge j (n*10) with q | q
    ·exact q
    ·rw [List.getElem?_eq_none (by rw [ze3,hl];exact q)] at hj;cases hj
   obtain ⟨b,off,e,hlt,hcs⟩:=h.at_ (by omega)
   cases e
   have e:((⟨b,off,none⟩:Addr).add j)=⟨b,off+j / 10*10+j % 10,none⟩:=by
    have q:j / 10*10+j % 10=j:=by omega
    rw [Nat.add_assoc,q]
    simp [Addr.add]
   have hj10:j / 10<L.length:=by rw [hl];omega
   rw [e,hcs (j / 10) hj10 (j % 10) (by omega),← ze2 L (j / 10) hj10 (j % 10) (by omega),show j / 10*10+j % 10=j by omega]
   exact hj
  have h1c:∀ u ∈ csD L,u.oneCell'=true:=fun u hu=>by
   obtain ⟨d,_,hd⟩:=List.mem_flatMap.1 hu
   exact zmm d u hd
  obtain ⟨v',w',hrun,h2,h3,_,_⟩:=run_append_own_at (P:=Tryz.prog) w base 24 ty 82 i0 _ 10 104 ht hi0 hz0 hz1 hz2 rfl (by omega) v M.length (csD M) hown ad n c' (csD L) (by rw [ze3,hl]) hcells h1c (by unfold maxLen;omega) (by omega) hbase
  obtain ⟨g,cap,rfl,h5⟩:=fin v' w' h2 h3
  exact ⟨g,cap,w',hrun,h5,h3⟩
theorem zht {ops:Array Oper} {o:Oper} {a:Act} {K:Act→World→Prop} {Q:Exit→Act→World→Prop} {E:Prop} (hgd:o.guard=none) (s x:Operand) (c':Nat)
  (ho:o.op=.call { callee:=.builtin .append,args:=#[s,x],argTypes:=#[24,24] }) (hs:a.eval s=v) (hx:a.eval x=.slice A n c')
  (hM:M.length≤10) (hM1:0<M.length) (hown:w.ownsRow base 82 10 v M.length (csD M)) (hok:∀ d ∈ M,DeOK w d) (h:RdDe w A n c L) (hn:n≤1000) (hbase:base≤w.heap.size) (hnew:∀ d ∈ M++L,∀ b off,0<d.n→d.A=some ⟨b,off,none⟩→v.ownBlock≠some b)
  (hk:∀ g cap w',RdDe w' (some ⟨g,0,none⟩) (M.length+n) cap (M++L)→w.grownBy w' v.ownBlock→K (a.put o.dst (.slice (some ⟨g,0,none⟩) (M.length+n) cap)) w') :
  if Region.wanted o (yielded ops a.tmps)=true then Oper.wp Tryz.prog o a w K Q else E:=by
 have hw:Region.wanted o (yielded ops a.tmps)=true:=by simp [Region.wanted,hgd]
 rw [if_pos hw]
 obtain ⟨g,cap,w',hrun,h2,h3⟩:=zjb hM hM1 hown hok h hn hbase hnew o.type c'
 unfold Oper.wp execOp
 simp only [ho,resolve,invoke,builtin,Sem.run_bind,Sem.run_pure,Result.andThen_ok,List.map_toArray,List.map_cons,List.map_nil,hs,hx,hrun]
 exact hk g cap w' h2 h3
end
end
section
open Go.ChangeShapes Go.WideShapes Go.ChangeAt Go.RowKit
section
variable {w:World} {base s:Nat} {ps:List RuZ} {now:Int} {Ns:List LmN} {Ks:List CnN} {c:SvC}
end
def dzE (i:Int):DeZ:=⟨0,i,0,0,0,0,0,⟨#[]⟩,0,none,0,0,[]⟩
theorem zlR {w:World} {g:Nat} (h:Blk w g 82 #[.int .i64 0,.int .i64 0,.int .i64 0,.int .i64 0,.int .i64 0,.int .i64 0,.int .u32 0,.string ⟨#[]⟩,.int .i64 0,.slice none 0 0,.int .i64 0,.int .i64 1,.int .i64 0,.int .i64 0,.int .i64 0,.int .i64 0,.int .u32 0,.string ⟨#[]⟩,.int .i64 0,.slice none 0 0]) :
  w.ownsRow g 82 10 (.slice (some ⟨g,0,none⟩) 2 2) [dzE 0,dzE 1].length (csD [dzE 0,dzE 1]) :=
 ⟨rfl,Or.inr ⟨g,2,_,rfl,Nat.le_refl _,h,by decide,by unfold maxLen;decide,rfl,rfl⟩⟩
theorem zmW (w:World):∀ d ∈ [dzE 0,dzE 1],DeOK w d:=by
 intro d hd
 have h:∃ i:Int,d=dzE i∧0≤i∧i≤1:=by
  rcases List.mem_cons.1 hd with rfl | hd
  ·exact ⟨0,rfl,by decide,by decide⟩
  ·exact ⟨1,List.mem_singleton.1 hd,by decide,by decide⟩
 obtain ⟨i,rfl,h0,h1⟩:=h
 exact ⟨by unfold i64D dzE;dsimp only;omega,by unfold i64D dzE;dsimp only;omega,by unfold i64D dzE;dsimp only;omega,by unfold i64D dzE;dsimp only;omega,by unfold i64D dzE;dsimp only;omega,by unfold i64D dzE;dsimp only;omega,by unfold dzE;dsimp only;omega,Nat.zero_le _,by unfold i64D dzE;dsimp only;omega,zcr _ _⟩
theorem RdDe.new_ne {w w6 wA:World} {A:Option Addr} {n c:Nat} {L:List DeZ} (_:RdDe wA A n c L) {v:Nat} (_:Below w6.heap.size w6 wA) (h:RdDe w A n c L) (hle:w.heap.size≤v) :
  ∀ d ∈ [dzE 0,dzE 1]++L,∀ b off,0<d.n→d.A=some ⟨b,off,none⟩→(Value.slice (some ⟨v,0,none⟩) 2 2).ownBlock≠some b:=by
 intro d hd b off h0 hA e
 rcases List.mem_append.1 hd with q | q
 ·rcases List.mem_cons.1 q with rfl | q
  ·exact absurd h0 (Nat.lt_irrefl 0)
  ·rw [List.mem_singleton.1 q] at h0;exact absurd h0 (Nat.lt_irrefl 0)
 ·obtain ⟨b',off',e',hlt,_⟩:=(h.ok d q).raw.at_ h0
  rw [hA] at e'
  injection e' with e'
  injection e' with e'
  have e:some v=some b:=e
  injection e with e
  omega
end
end Go.Proofs.YtannniobeanhlaaGreat
