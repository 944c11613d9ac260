import Derived.Test.YtambcbbekoehiaaGreatZSvH
import Derived.Test.YtambcbbekoehiaaGreatCnH
import Derived.Test.YtambcbbekoehiaaGreatZFaL
import Derived.Test.YtambcbbekoehiaaGreatAcL
set_option linter.unusedSimpArgs false
set_option linter.unusedVariables false
set_option maxRecDepth 100000
set_option maxHeartbeats 9000000
namespace Go.Proofs.YtambcbbekoehiaaGreat
section
open Go.ChangeShapes Go.WideShapes Go.ChangeAt Go.RowKit
open Ar (inR)
theorem zgT (op ru co k t:Int) (ky:ByteArray) (h:op=1∨op=2∨op=3) (w:World) :
  Calls Tryz.prog 119 #[reqV op ru co ky k,.int .i64 t] w fun e w'=>e=.returned (.int .i64 (if op=3 then 46 else 22))∧Below w.heap.size w w':=by
 have BOX:=zad w (reqC op ru co ky k) 44
 rcases h with rfl | rfl | rfl
 all_goals
   go_enter Tryz.func119,Tryz.ntmps119
   go_upto_region 1 with (fail)
   obtain ⟨w1,hw1,hbk,hbl,hsz1⟩:=BOX
   change Code.wp _ _ _ _ (w.alloc _)
   rw [hw1]
   obtain ⟨b0,hb0⟩:=zeq (w.heap.size)
   rw [← hb0] at hbk ⊢
   have k0:=hbk.rd
   have BL:=zhz hbl
   clear hbk hbl hsz1 hw1 hb0
   go_wp2
   go_ret
   exact ⟨rfl,BL.out⟩
theorem zei (ru co k t m:Int) (ky:ByteArray) (hk:0≤k∧k≤255) (ht:1≤t∧t≤64) (hm:m=max 1 (min k t)) (w:World) :
  Calls Tryz.prog 119 #[reqV 4 ru co ky k,.int .i64 t] w fun e w'=>e=.returned (.int .i64 (7+81*m))∧Below w.heap.size w w':=by
 have hmb:1≤m∧m≤64:=by omega
 have e1:IntKind.i64.wrap (81*m)=81*m:=by rw [IntKind.wrap_i64];omega
 have HM:=zhz hm
 go_enter Tryz.func119,Tryz.ntmps119
 go_upto_region 1 with (fail)
 obtain ⟨w1,hw1,hbk,hbl,hsz1⟩:=zad w (reqC 4 ru co ky k) 44
 change Code.wp _ _ _ _ (w.alloc (.cells (reqC 4 ru co ky k) 44))
 rw [hw1]
 obtain ⟨b0,hb0⟩:=zeq (w.heap.size)
 rw [← hb0] at hbk ⊢
 have k0:=hbk.rd
 have BL:=zhz hbl
 clear hbk hbl hsz1 hw1 hb0 hm
 by_cases h1:t<k
 ·have f1:(t<k)=True:=eq_true h1
  have e2:m=t:=by have:=HM.out;omega
  subst e2
  by_cases h2:1<m
  ·have f2:(1<m)=True:=eq_true h2
   clear h1 h2
   go_wp2
   all_goals
     go_ret
     exact ⟨zav (by first | omega | (have:=HM.out;omega)),BL.out⟩
  ·have e3:m=1:=by omega
   subst e3
   clear h1 h2
   go_wp2
   all_goals
     go_ret
     exact ⟨zav (by first | omega | (have:=HM.out;omega)),BL.out⟩
 ·have f1:(t<k)=False:=eq_false h1
  by_cases h2:1<k
  ·have e2:m=k:=by have:=HM.out;omega
   have f2:(1<k)=True:=eq_true h2
   subst e2
   clear h1 h2
   go_wp2
   all_goals
     go_ret
     exact ⟨zav (by first | omega | (have:=HM.out;omega)),BL.out⟩
  ·have e2:m=1:=by have:=HM.out;omega
   have f2:(1<k)=False:=eq_false h2
   subst e2
   clear h1 h2
   go_wp2
   all_goals
     go_ret
     exact ⟨zav (by first | omega | (have:=HM.out;omega)),BL.out⟩
def largeZ (q:Req) (t:Int):Int:=if q.op=3 then 46 else if q.op=4 then 7+81*max 1 (min q.k t) else 22
theorem zlq (q:Req) (rules t:Int) (hq:okQ rules q) (ht:1≤t∧t≤64) (w:World) :
  Calls Tryz.prog 119 #[rqV q,.int .i64 t] w fun e w'=>e=.returned (.int .i64 (largeZ q t))∧Below w.heap.size w w':=by
 have hr:=hq.1
 have ho:1≤q.op∧q.op≤4:=by unfold rightP at hr;omega
 by_cases h4:q.op=4
 ·have hk:0≤q.k∧q.k≤255:=by unfold rightP at hr;omega
  have:=zei q.rule q.cost q.k t (max 1 (min q.k t)) (strOfNums q.key) hk ht rfl w
  have e:largeZ q t=7+81*max 1 (min q.k t):=by unfold largeZ;rw [if_neg (by omega),if_pos h4]
  rw [e]
  show Calls _ _ #[reqV q.op _ _ _ _,_] _ _
  rw [h4]
  exact this
 ·have:=zgT q.op q.rule q.cost q.k t (strOfNums q.key) (by omega) w
  have e:largeZ q t=(if q.op=3 then 46 else 22):=by unfold largeZ;rw [if_neg h4]
  rw [e]
  exact this
section
variable {w w' W:World} {s base:Nat} {c:SvC}
def SvC.held (c:SvC) (win:Int):Int:=if c.rs then max 0 (clamp (c.first+win) - c.now) else 0
theorem zhl (win:Int) (hn:0≤c.now∧c.now≤9223372036854775807) (hf:0≤c.first∧c.first≤9223372036854775807) (hw:0≤win∧win≤9223372036854775807) (w:World) (h:Sv w s c) :
  Calls Tryz.prog 241 #[.pointer (some ⟨s,0,none⟩),.int .i64 win] w fun e w'=>e=.returned (.int .i64 (c.held win))∧Below w.heap.size w w':=by
 have c0:=h.c0
 have c1:=h.c1
 have c3:=h.c3
 clear h
 cases hrs:c.rs with
 | false =>
  have e:c.held win=0:=by unfold SvC.held;rw [hrs];rfl
  rw [e]
  rw [hrs] at c3
  clear e hrs
  go_enter Tryz.func241,Tryz.ntmps241
  go_wp2
  go_ret
  exact ⟨rfl,Below.refl _ _⟩
 | true =>
  rw [hrs] at c3
  have hc:inR (clamp (c.first+win)):=by unfold inR clamp;split <;> (try split) <;> omega
  obtain ⟨sm,hs⟩:=zeq (clamp (c.first+win))
  have cs:=fun w=>zaT c.first win (by unfold inR;omega) (by unfold inR;omega) w
  rw [← hs] at cs hc
  have e:c.held win=max 0 (sm - c.now):=by unfold SvC.held;rw [hrs,hs];rfl
  rw [e]
  have CS:=zhz cs
  have hlo:0≤sm:=by rw [hs];unfold clamp;split <;> (try split) <;> omega
  unfold inR at hc
  obtain ⟨nw,hnw⟩:=zeq (c.now)
  obtain ⟨fi,hfi⟩:=zeq (c.first)
  rw [← hnw] at c0 hn ⊢
  rw [← hfi] at c1 CS
  clear cs hs e hnw hfi hrs hf
  go_enter Tryz.func241,Tryz.ntmps241
  go_wp2
  go_quiet ((go_at_call 61;exact Calls.quiet_of_same ((CS.out _).mono fun _ _ h=>⟨h.1,h.2.symm⟩)))
  go_wp2
  all_goals go_ret
  all_goals exact ⟨zav (by first | omega | (split <;> omega)),zaa (Below.refl _ _) nq⟩
end
end
section
open Go.ChangeShapes Go.WideShapes Go.ChangeAt Go.RowKit
section
variable {w w' W:World} {s base:Nat} {c:SvC} {rs:List RuZ} {Ns:List LmN} {On:Nat}
theorem zdR {q:Req} {n:Nat} (h:okQ (n:Int) q):∃ i:Nat,q.rule=(i:Int)∧i<n:=by
 have hr:=h.1
 unfold rightP at hr
 refine ⟨q.rule.toNat,?_,?_⟩
 ·rw [Int.toNat_of_nonneg (by omega)]
 ·omega
theorem SvOk.cell (h:SvOk c rs On) (hs:Sv w s c) {i:Nat} {r:RuZ} (hi:rs[i]?=some r) {j:Nat} (hj:j<9):w.cell? ⟨s,6+i*9+j,none⟩=r.c[j]?:=by
 have hil:i<rs.length:=(List.getElem?_eq_some_iff.1 hi).1
 rw [show 6+i*9+j=6+(i*9+j) by omega]
 exact (hs.cR (by have:=h.l;omega)).trans (h.R i r hi j hj)
theorem zeO (hJ:c.J=Ns.map pcL++svZ.J.drop Ns.length) {i:Nat} {N:LmN} (hN:Ns[i]?=some N) (h8:i<8) (w:World) (h:Sv w s c) :
  Calls Tryz.prog 39 #[.pointer (some ⟨s,0,none⟩),.int .i64 (i:Int)] w fun e w'=>e=.returned (pcL N)∧w=w':=by
 refine zjh h8 ?_ w h
 have hl:i<Ns.length:=(List.getElem?_eq_some_iff.1 hN).1
 rw [hJ,List.getElem?_append_left (by rw [List.length_map];exact hl),List.getElem?_map,hN]
 rfl
theorem zhm (q:Req) (i:Nat) (r:RuZ) (N:LmN) (hi:q.rule=(i:Int)) (hr:rs[i]?=some r) (hN:Ns[i]?=some N) (hok:SvOk c rs On) (hJ:c.J=Ns.map pcL++svZ.J.drop Ns.length) (hq:okQ (rs.length:Int) q) (w:World) (h:Sv w s c) :
  Calls Tryz.prog 240 #[.pointer (some ⟨s,0,none⟩),rqV q] w fun e w'=>e=.returned (.int .i64 (largeZ q r.Tr))∧Below w.heap.size w w':=by
 have hil:i<rs.length:=(List.getElem?_eq_some_iff.1 hr).1
 have hi8:i<8:=by have:=hok.l;omega
 have hTr:1≤r.Tr∧r.Tr≤64:=(hok.p r (List.mem_of_getElem? hr)).2.2.2.2.2.2.2.2.1
 obtain ⟨w1,hw1,k1,b1,s1⟩:=zad w (reqC q.op q.rule q.cost (strOfNums q.key) q.k) 44
 obtain ⟨qb,hqb⟩:=zeq (w.heap.size)
 rw [← hqb] at k1
 have CR:=zhz (zeO hJ hN hi8 w1 (h.keep b1))
 have CL:=zhz (fun wx=>zlq q (rs.length:Int) r.Tr hq hTr wx)
 have ST:=zhz (fun wx (hx:Below w1.heap.size w1 wx)=>show (∀ j,wx.cell? ⟨qb,j,none⟩=(reqC q.op (i:Int) q.cost (strOfNums q.key) q.k)[j]?)∧wx.cell? ⟨s,6+i*9+7,none⟩=some (.int .i64 r.Tr) from ⟨by rw [← hi];exact (k1.keep hx).rd,(hok.cell ((h.keep b1).keep hx) hr (by omega)).trans rfl⟩)
 have HQ:=zhz hqb
 have B1:=zhz b1
 have kq:∀ j,w1.cell? ⟨qb,j,none⟩=(reqC q.op (i:Int) q.cost (strOfNums q.key) q.k)[j]?:=by rw [← hi];exact k1.rd
 obtain ⟨op,hop⟩:=zeq (q.op)
 obtain ⟨co,hco⟩:=zeq (q.cost)
 obtain ⟨ky,hky⟩:=zeq (strOfNums q.key)
 obtain ⟨kk,hkk⟩:=zeq (q.k)
 have CL2:=zhz (fun wx=>show Calls Tryz.prog 119 #[.agg #[.int .i64 op,.int .i64 (i:Int),.int .u32 co,.string ky,.int .i64 kk],.int .i64 r.Tr] wx (fun e w'=>e=.returned (.int .i64 (largeZ q r.Tr))∧Below wx.heap.size wx w') from by have:=CL.out wx;rw [show rqV q=.agg #[.int .i64 op,.int .i64 (i:Int),.int .u32 co,.string ky,.int .i64 kk] by rw [hop,hco,hky,hkk,← hi]] at this;exact this)
 have erq:rqV q=.agg #[.int .i64 op,.int .i64 (i:Int),.int .u32 co,.string ky,.int .i64 kk]:=by rw [hop,hco,hky,hkk,← hi]
 simp only [← hop,← hco,← hky,← hkk] at kq
 rw [erq]
 have hw1':w.alloc (.cells #[.int .i64 op,.int .i64 (i:Int),.int .u32 co,.string ky,.int .i64 kk] 44)=w1:=by rw [hop,hco,hky,hkk,← hi];exact hw1
 have ST2:=zhz (fun wx (hx:Below w1.heap.size w1 wx)=>show (∀ j,wx.cell? ⟨qb,j,none⟩=(#[.int .i64 op,.int .i64 (i:Int),.int .u32 co,.string ky,.int .i64 kk]:Array Value)[j]?)∧wx.cell? ⟨s,6+i*9+7,none⟩=some (.int .i64 r.Tr) from by rw [hop,hco,hky,hkk];exact ST.out wx hx)
 obtain ⟨lz,hlz⟩:=zeq (largeZ q r.Tr)
 rw [← hlz] at CL2 ⊢
 have t2:¬ (i:Int)<0:=by omega
 have t3:(i:Int)<8:=by omega
 clear hop hco hky hkk k1 b1 s1 hqb hw1 h hJ hN hok hq hr hi erq CL ST hil hTr hlz
 go_enter Tryz.func240,Tryz.ntmps240
 go_upto_region 1 with (fail)
 rw [← HQ.out]
 clear hw1'
 go_upto_region 3 with (go_at_call 39;((with_reducible refine CR.out.mono ?_);rintro v wz ⟨rfl,rfl⟩))
 clear CR kq
 have N0:=zhz (show Below w1.heap.size w1 w1.drew from zaa (Below.refl _ _) 1)
 have st:=ST2.out _ N0.out
 refine wp_region_held_drew (S:=fun wx=>(∀ j,wx.cell? ⟨qb,j,none⟩=(#[.int .i64 op,.int .i64 (i:Int),.int .u32 co,.string ky,.int .i64 kk]:Array Value)[j]?)∧wx.cell? ⟨s,6+i*9+7,none⟩=some (.int .i64 r.Tr)) (by kernel_rfl) st (fun hHeld=>?_)
 clear st
 refine wR 0 ?_
 refine wR 1 ?_
 refine wR 2 ?_
 refine wR 3 ?_
 refine wR 4 ?_
 refine wR 5 ?_
 refine wR 6 ?_
 refine wR 7 ?_
 refine wR 8 ?_
 refine wC 9 fun K hK=>?_
 go_simp
 ((with_reducible refine (CL2.out _).mono ?_);rintro v wz ⟨rfl,bz⟩;have N1:=zhz (G.below_on N0.out bz);clear bz)
 refine hK.out _ _ (ST2.out _ N1.out) fun hHeld=>?_
 clear hK K
 try simp only [Act.put,zs1,zs2,zs3]
 refine wR 10 ?_
 refine wpAnyH_done (by kernel_rfl) ?_ _
 clear hHeld
 go_wp2
 go_ret
 exact ⟨rfl,B1.out.trans (N1.out.mono B1.out.size)⟩
end
end
section
open Go.ChangeShapes Go.WideShapes Go.ChangeAt Go.RowKit
structure EvZ where
 rule:Int
 key:ByteArray
 up:Bool
 at_:Int
def encV (e:EvZ):List Value:=[.int .i64 e.rule,.string e.key,.bool e.up,.int .i64 e.at_]
theorem zcm:∀ a,(encV a).length=4:=fun _=>rfl
abbrev OwE (w:World) (base:Nat) (v:Value) (l:List EvZ):Prop:=OwR w base 99 4 encV v l
def mkE (rule now:Int) (ev:List (ByteArray × Bool)):List EvZ:=ev.map fun x=>⟨rule,x.1,x.2,now⟩
theorem zkR (now:Int):∀ ev:List (ByteArray × Bool),evL now ev=rws encV (mkE 0 now ev)
 | []=>rfl
 | x :: r=>by rw [evL,zkR now r];rfl
theorem zly {w:World} {base g c:Nat} {l:List EvZ} {e:EvZ} (h:w.ownsRow base 99 4 (.slice (some ⟨g,0,none⟩) (l.length+1) c) (l.length+1) (rws encV l++[.int .i64 e.rule,.string e.key,.bool e.up,.int .i64 e.at_])):OwE w base (.slice (some ⟨g,0,none⟩) (l.length+1) c) (l++[e]):=by
 unfold OwE OwR
 rw [zfy,List.length_append,List.length_singleton]
 exact h
theorem box4E (X:World) (a:Int) (k:ByteArray) (u:Bool) (d:Int):∃ w1 w2,X.alloc (.cells #[.int .i64 0,.string ⟨#[]⟩,.bool false,.int .i64 0] 99)=w1 ∧
  (∀ j,w1.cell? ⟨X.heap.size,j,none⟩=(#[.int .i64 0,.string ⟨#[]⟩,.bool false,.int .i64 0]:Array Value)[j]?)∧(∀ j,w1.frozen? ⟨X.heap.size,j,none⟩=false) ∧
  (((w1.setCell ⟨X.heap.size,0,none⟩ (.int .i64 a)).setCell ⟨X.heap.size,1,none⟩ (.string k)).setCell ⟨X.heap.size,2,none⟩ (.bool u)).setCell ⟨X.heap.size,3,none⟩ (.int .i64 d)=w2 ∧
  Below X.heap.size X w2∧Blk w2 X.heap.size 99 #[.int .i64 a,.string k,.bool u,.int .i64 d]:=by
 obtain ⟨w1,hw1,k1,b1,s1⟩:=zad X #[.int .i64 0,.string ⟨#[]⟩,.bool false,.int .i64 0] 99
 refine ⟨w1,_,hw1,k1.rd,k1.wr,rfl,?_,?_⟩
 ·rw [zak k1]
  exact b1.trans ((Fr.setObj (F:=fun k=>k=X.heap.size) (Fr.refl _ _) rfl _).below b1.size (fun k hk=>by omega))
 ·rw [zak k1]
  exact zab (lt_of_block k1) _
theorem set4z {w:World} {b:Nat} {t:TypeId} {c0 c1 c2 c3:Value} (h:Blk w b t #[c0,c1,c2,c3]) (v:Value) :
  ∃ w',w.setCell ⟨b,0,none⟩ v=w'∧Blk w' b t #[v,c1,c2,c3]∧Fr (fun k=>k=b) w w':=by
 have hb:=lt_of_block h
 refine ⟨_,rfl,?_,?_⟩
 ·rw [zac h]
  exact zab hb _
 ·rw [zac h]
  exact Fr.setObj (F:=fun k=>k=b) (Fr.refl _ _) rfl _
theorem zll {F G:Nat→Prop} {a w w':World} (h:Fr F a w) (h2:Fr G w w') (hG:∀ k,G k→F k∨a.heap.size≤k):Fr F a w' :=
 ⟨h2.os.trans h.os,h2.tape.trans h.tape,h2.output.trans h.output,Nat.le_trans h.size h2.size,fun k hk hF=>(h2.block k (Nat.lt_of_lt_of_le hk h.size) (fun g=>by rcases hG k g with q | q;exact hF q;omega)).trans (h.block k hk hF)⟩
section
variable {w w' W:World} {s B:Nat} {c:SvC}
theorem zhn (rule now:Int) (v v2:Value) (L:List EvZ) (ev:List (ByteArray × Bool)) (b2:Nat) (hac:c.ac=true) (hL:L.length+ev.length≤1000000) (hB:s<B) (hev:ev.length≤1000) (w:World) (h:Sv w s { c with nt:=v }) (ho:OwE w B v L) (he:OwE w b2 v2 (mkE 0 now ev)) (hap:∀ g,v2.ownBlock=some g→¬ v.ownBlock=some g∧g≠s) (hBw:B≤w.heap.size) :
  Calls Tryz.prog 243 #[.pointer (some ⟨s,0,none⟩),.int .i64 rule,v2] w fun e w'=>e=.returned (.tuple #[])∧∃ v',Sv w' s { c with nt:=v' }∧OwE w' B v' (L++mkE rule now ev)∧Fr (fun k=>k=s∨v.ownBlock=some k) w w'∧(∀ g,v'.ownBlock=some g→v.ownBlock=some g∨w.heap.size≤g):=by
 have hel:(mkE 0 now ev).length=ev.length:=by unfold mkE;simp
 obtain ⟨A2,c2,rfl,hs1,hs2,hs3⟩:=OwR.slice he
 have HS3:=zhz hs3
 have kA:=h.cA
 have HS:=zhz h
 have HO:=zhz ho
 have HE:=zhz he
 have HAP:=zhz hap
 have HBB:=zhz (And.intro hB hBw)
 have HLL:=zhz (And.intro hL hev)
 rw [hel] at hs1 hs3 ⊢
 rw [show ({ c with nt:=v }:SvC).ac=true from hac] at kA
 obtain ⟨n,hn⟩:=zeq (ev.length)
 rw [← hn] at hs1 hs3 ⊢
 have HN:=zhz hn
 have hcp:n≤c2:=hs1
 have hmx:=hs2
 unfold maxLen at hmx
 have HEL:=zhz hel
 clear h ho he hap hB hBw hL hac hn hs1 hs2 hs3 hel hev
 go_enter Tryz.func243,Tryz.ntmps243
 go_wp2
 clear kA
 go_loopg [15] n (fun kk si wr=>∃ (i:Nat) (vc:Value),i≤n∧Hid (kk=n - i)∧si=.int .i64 (i:Int)∧Hid (Sv wr s { c with nt:=vc })∧Hid (OwE wr B vc (L++mkE rule now (ev.take i)))∧Hid (Fr (fun k=>k=s∨v.ownBlock=some k) w wr)∧Hid (∀ g,vc.ownBlock=some g→v.ownBlock=some g∨w.heap.size≤g))
 case atStart=>exact ⟨0,v,by omega,zhz rfl,rfl,HS,zhz (by rw [List.take_zero];show OwE w B v (L++[]);rw [List.append_nil];exact HO.out),zhz (Fr.refl _ _),zhz (fun g hg=>Or.inl hg)⟩
 case round =>
  obtain ⟨i,vc,hi,HKK,rfl,HSV,HOW,HF,HG⟩:=hrel
  by_cases hin:i<n
  ·have hie:i<ev.length:=by have:=HN.out;omega
   obtain ⟨g2,rfl,hgb,hgw⟩:=HS3.out (by rw [HEL.out];omega)
   obtain ⟨⟨ky,up⟩,hx⟩:∃ x,ev[i]?=some x:=⟨_,List.getElem?_eq_getElem hie⟩
   have hme:(mkE 0 now ev)[i]?=some ⟨0,ky,up,now⟩:=by unfold mkE;rw [List.getElem?_map,hx];rfl
   have hne:¬ (g2=s∨v.ownBlock=some g2):=fun e=>by
    have h:=HAP.out g2 rfl
    rcases e with e | e
    ·exact h.2 e
    ·exact h.1 e
   have E':=zhz (OwR.fr HE.out HF.out (fun g hg=>by injection hg with hg;have hg:g2=g:=hg;rw [← hg];exact hne))
   have k0:wr.cell? ⟨g2,i*4,none⟩=some (.int .i64 0):=OwR.cell zcm E'.out hme (j:=0) (by omega)
   have k1:wr.cell? ⟨g2,i*4+1,none⟩=some (.string ky):=OwR.cell zcm E'.out hme (j:=1) (by omega)
   have k2:wr.cell? ⟨g2,i*4+2,none⟩=some (.bool up):=OwR.cell zcm E'.out hme (j:=2) (by omega)
   have k3:wr.cell? ⟨g2,i*4+3,none⟩=some (.int .i64 now):=OwR.cell zcm E'.out hme (j:=3) (by omega)
   obtain ⟨z1,z2,ez1,kz,kzw,ez2,bz,kz2⟩:=box4E wr 0 ky up now
   obtain ⟨eb,heb⟩:=zeq (wr.heap.size)
   rw [← heb] at kz2
   have HEB:=zhz heb
   have t1:(i:Int)<(n:Int):=by omega
   have HIN:=zhz hin
   have HX:=zhz hx
   have SV1:=zhz (HSV.out.keep bz)
   have OW1:=zhz (OwR.keep HOW.out bz)
   have KE1:=zhz kz2
   have BZ:=zhz bz
   clear bz kz2 heb hin hx hme hne hie hgb hgw
   go_upto_region 4 with (fail)
   rw [← HEB.out]
   clear k0 k1 k2 k3 ez1 kz kzw ez2
   obtain ⟨z3,e3,k3,f3⟩:=set4z KE1.out (.int .i64 rule)
   have KE3:=zhz k3
   have HVB:=zhz (show eb≠s∧(∀ g,vc.ownBlock=some g→B≤g∧g<eb)∧s<B from ⟨fun e=>by have h1:=HEB.out;have h2:=HSV.out.lt;omega,fun g hg=>⟨OwR.base_le HOW.out g hg,by rw [HEB.out];exact OwR.lt HOW.out g hg⟩,HBB.out.1⟩)
   have SV3:=zhz (SV1.out.fr f3 (fun e=>HVB.out.1 e.symm))
   have OW3:=zhz (OwR.fr OW1.out f3 (fun g hg e=>by have:=(HVB.out.2.1 g hg).2;omega))
   have F3:=zhz f3
   have kz:=KE1.out.rd
   have kzw:=KE1.out.wr
   clear k3 f3
   go_upto_region 5 with (fail)
   try rw [e3]
   clear e3 kz kzw
   have N0:=zhz (show Below z3.heap.size z3 z3.drew from zaa (Below.refl _ _) 1)
   have SV4:=zhz (SV3.out.keep N0.out)
   have KE4:=zhz (KE3.out.keep N0.out)
   have OW4:=zhz (OwR.keep OW3.out N0.out)
   have st:z3.drew.cell? ⟨s,103,none⟩=some vc∧(∀ j,z3.drew.cell? ⟨eb,j,none⟩=(#[.int .i64 rule,.string ky,.bool up,.int .i64 now]:Array Value)[j]?):=⟨SV4.out.cN,KE4.out.rd⟩
   obtain ⟨i0,hi0,hz0,hz1,hz2⟩:=info_parts infoEv
   have HI:=zhz (And.intro hi0 (And.intro hz0 (And.intro hz1 hz2)))
   clear hi0 hz0 hz1 hz2
   obtain ⟨l,hl⟩:=zeq (L++mkE rule now (ev.take i))
   rw [← hl] at OW4
   have HL:=zhz hl
   have HLN:=zhz (show l.length≤1000000 from by rw [hl,List.length_append];unfold mkE;rw [List.length_map];have h1:=HLL.out;have h2:=List.length_take_le i ev;have h3:=HIN.out;have h4:=HN.out;omega)
   have HSZ:=zhz (show B≤z3.heap.size∧wr.heap.size≤z3.heap.size∧eb<z3.heap.size from ⟨by have h1:=HBB.out.2;have h2:=HF.out.size;have h3:=BZ.out.size;have h4:=F3.out.size;omega,Nat.le_trans BZ.out.size F3.out.size,lt_of_block KE3.out⟩)
   clear hl
   refine Ph.start [10] (Ph.pick [fun wx=>wx.cell? ⟨s,103,none⟩=some vc∧(∀ j,wx.cell? ⟨eb,j,none⟩=(#[.int .i64 rule,.string ky,.bool up,.int .i64 now]:Array Value)[j]?),fun _=>True]) (by kernel_rfl) (Ph.pick0 st) (fun hHeld hOrd=>?_)
   clear st
   refine Ph.pR 0 0 hOrd ?_;clear hOrd;intro hOrd
   refine Ph.pR 1 0 hOrd ?_;clear hOrd;intro hOrd
   refine Ph.pR 2 0 hOrd ?_;clear hOrd;intro hOrd
   refine Ph.pR 3 0 hOrd ?_;clear hOrd;intro hOrd
   refine Ph.pR 4 0 hOrd ?_;clear hOrd;intro hOrd
   refine Ph.pR 5 0 hOrd ?_;clear hOrd;intro hOrd
   refine Ph.pC 6 0 hOrd ?_;clear hOrd;intro K hK
   go_simp
   (have A5:=zhz (show Below z3.drew.heap.size z3.drew (z3.drew.alloc (.cells #[.int .i64 rule,.string ky,.bool up,.int .i64 now] 99)) from (Below.refl _ _).alloc (Nat.le_refl _) _);have SV5:=zhz (SV4.out.keep A5.out);have KE5:=zhz (KE4.out.keep A5.out))
   refine hK.out _ _ (Ph.pick0 ⟨SV5.out.cN,KE5.out.rd⟩) fun hHeld hOrd=>?_
   clear hK K
   try simp only [Act.put,zs1,zs2,zs3] at hOrd ⊢
   refine Ph.pC 7 0 hOrd ?_;clear hOrd;intro K hK
   refine step_append_lies _ (by rfl) _ _ 66 (by rfl) B 99 i0 (.agg #[.int .i64 0,.string ⟨#[]⟩,.bool false,.int .i64 0]) 4 40 (by rfl) HI.out.1 HI.out.2.1 HI.out.2.2.1 HI.out.2.2.2 (by rfl) (by omega) vc l.length (rws encV l) (by rfl) (World.ownsRow.alloc OW4.out _) ⟨z3.drew.heap.size,0,none⟩ 1 1 [.int .i64 rule,.string ky,.bool up,.int .i64 now] (by rfl) (by rfl) (World.news_of_block (heap_alloc_new z3.drew _)) (by simp [Value.oneCell']) (by omega) (by have:=HLN.out;unfold maxLen;omega) (by have:=HLN.out;omega) (by have h1:=HSZ.out;simp;omega) _ rfl ?_;intro gl cl w11 hown11 hgr11 hat11 hlt11;have F11:=zhz (show Fr (fun j=>vc.ownBlock=some j) z3.drew w11 from ((Fr.refl _ _).alloc _).trans (G.fr_row hgr11));have SV6:=zhz (SV4.out.fr F11.out (fun e=>by have h1:=HVB.out.2.1 s e;have h2:=HVB.out.2.2;omega));have KE6:=zhz (KE4.out.fr F11.out (fun e=>by have h1:=HVB.out.2.1 eb e;omega));have O6:=zhz (zly (e:=⟨rule,ky,up,now⟩) hown11);have GL:=zhz (show B≤gl∧(vc.ownBlock=some gl∨wr.heap.size≤gl) from ⟨G.own_base hown11 gl rfl,by rcases hat11 with q | q;exact Or.inl q;exact Or.inr (by have h1:=HSZ.out;rw [q];simp;omega)⟩);have kz:=SV6.out.cN;have kzw:=SV6.out.wr;clear hown11 hgr11 hat11 hlt11
   refine hK.out _ _ (Ph.pick0 ⟨SV6.out.cN,KE6.out.rd⟩) fun hHeld hOrd=>?_
   clear hK K
   try simp only [Act.put,zs1,zs2,zs3] at hOrd ⊢
   refine Ph.pR 8 0 hOrd ?_;clear hOrd;intro hOrd
   refine Ph.pR 9 0 hOrd ?_;clear hOrd;intro hOrd
   refine Ph.pC 10 1 hOrd ?_;clear hOrd;intro K hK
   go_simp
   (obtain ⟨w12,e12,h12,f12⟩:=SV6.out.setNt (.slice (some ⟨gl,0,none⟩) (l.length+1) cl);(try rw [e12]);have SV7:=zhz h12;have F12:=zhz f12;clear e12 h12 f12 kz kzw)
   refine hK.out _ _ (Ph.pick1 trivial) fun hHeld hOrd=>?_
   clear hK K
   try simp only [Act.put,zs1,zs2,zs3] at hOrd ⊢
   refine Ph.done (by kernel_rfl) ?_ _
   clear hHeld hOrd
   have O7:=zhz (OwR.fr O6.out F12.out (fun g hg e=>by injection hg with hg;have hg:gl=g:=hg;have h1:=GL.out.1;have h2:=HVB.out.2.2;omega))
   have O8:=zhz (show OwE w12 B (.slice (some ⟨gl,0,none⟩) (l.length+1) cl) (L++mkE rule now (ev.take (i+1))) from by
    have hie:i<ev.length:=by have:=HN.out;have:=HIN.out;omega
    have hxe:ev[i]=(ky,up):=by have:=HX.out;rw [List.getElem?_eq_getElem hie] at this;injection this
    have e:L++mkE rule now (ev.take (i+1))=l++[⟨rule,ky,up,now⟩]:=by
     rw [HL.out,List.take_succ_eq_append_getElem hie,hxe]
     unfold mkE
     rw [List.map_append,List.append_assoc];rfl
    rw [e];exact O7.out)
   have FX:=zhz (show Fr (fun k=>k=s∨v.ownBlock=some k) w w12 from by
    have h1:Fr (fun k=>vc.ownBlock=some k∨k=s) wr w12:=Fr.drop_new (F:=fun k=>vc.ownBlock=some k∨k=s) (s:=eb) (((Fr.of_below BZ.out).mono (fun k (hk:False)=>hk.elim)).trans ((F3.out.mono (fun k hk=>Or.inr hk)).trans (((Fr.of_below N0.out).mono (fun k (hk:False)=>hk.elim)).trans ((F11.out.mono (fun k hk=>Or.inl (Or.inl hk))).trans (F12.out.mono (fun k hk=>Or.inl (Or.inr hk))))))) (by have:=HEB.out;omega)
    exact zll HF.out h1 (fun k hk=>by
     rcases hk with hk | hk
     ·rcases HG.out k hk with q | q
      ·exact Or.inl (Or.inr q)
      ·exact Or.inr q
     ·exact Or.inl (Or.inl hk)))
   have GX:=zhz (show ∀ g,(Value.slice (some ⟨gl,0,none⟩) (l.length+1) cl).ownBlock=some g→v.ownBlock=some g∨w.heap.size≤g from fun g hg=>by
    injection hg with hg
    have hg:gl=g:=hg
    rw [← hg]
    rcases GL.out.2 with q | q
    ·exact HG.out gl q
    ·exact Or.inr (Nat.le_trans HF.out.size q))
   have ti:(i:Int)≤1000:=by have h1:=HLL.out.2;have h2:=HIN.out;have h3:=HN.out;omega
   go_wp2
   go_roundg (n - (i+1))
   case measure=>have:=HKK.out;have:=HIN.out;omega
   case rel=>exact ⟨i+1,_,HIN.out,zhz rfl,by go_num,SV7,O8,FX,GX⟩
  ·have hie:i=n:=by omega
   subst hie
   go_wp2
   go_end0
   refine ⟨rfl,vc,HSV.out,?_,HF.out,HG.out⟩
   have:=HOW.out
   rw [HN.out,List.take_length] at this
   exact this
end
end
section
open Go.ChangeShapes Go.WideShapes Go.ChangeAt Go.RowKit
open Ar (inR)
structure HoZ where
 c:SvC
 Ss:List LmS
 evs:List EvZ
structure HoAt (w:World) (base s B:Nat) (rs:List RuZ) (Ns:List LmN) (On:Nat) (h:HoZ) (v:Value):Prop where
 sv:Sv w s { h.c with nt:=v }
 J:JdAt w base Ns h.Ss
 ev:OwE w B v h.evs
 ac:h.c.ac=true
 ok:SvOk h.c rs On
 cJ:h.c.J=Ns.map pcL++svZ.J.drop Ns.length
 nJ:∀ (i:Nat) N,Ns[i]?=some N→¬ N.all s
 sB:s<B
 JB:∀ (i:Nat) N,Ns[i]?=some N→∀ b,N.all b→b<B
 Bw:B≤w.heap.size
 nl:Ns.length=rs.length
def hoF (s:Nat) (Ns:List LmN) (v:Value) (k:Nat):Prop:=k=s∨(∃ (i:Nat) (N:LmN),Ns[i]?=some N∧N.all k)∨v.ownBlock=some k
section
variable {w w' W:World} {base s B On:Nat} {rs:List RuZ} {Ns:List LmN} {h:HoZ} {v:Value}
theorem HoAt.fr {F:Nat→Prop} (H:HoAt w base s B rs Ns On h v) (hf:Fr F w w') (hF:∀ k,hoF s Ns v k→¬ F k):HoAt w' base s B rs Ns On h v :=
 ⟨H.sv.fr hf (hF s (Or.inl rfl)),H.J.fr hf (fun i N hN b hb=>hF b (Or.inr (Or.inl ⟨i,N,hN,hb⟩))),OwR.fr H.ev hf (fun g hg=>hF g (Or.inr (Or.inr hg))),H.ac,H.ok,H.cJ,H.nJ,H.sB,H.JB,Nat.le_trans H.Bw hf.size,H.nl⟩
theorem HoAt.keep (H:HoAt w base s B rs Ns On h v) (hb:Below w.heap.size w w'):HoAt w' base s B rs Ns On h v:=H.fr (F:=fun _=>False) (Fr.of_below hb) (fun _ _=>id)
theorem HoAt.lt (H:HoAt w base s B rs Ns On h v) {k:Nat} (hk:hoF s Ns v k):k<w.heap.size:=by
 rcases hk with rfl | ⟨i,N,hN,hb⟩ | hg
 ·exact H.sv.lt
 ·exact H.J.lt hN k hb
 ·exact OwR.lt H.ev k hg
theorem JdAt.set {Ss:List LmS} (h:JdAt w base Ns Ss) {k:Nat} {N:LmN} {σ':LmS} (hN:Ns[k]?=some N) (hc:LmAt w' N σ') (hf:Fr N.all w w'):JdAt w' base Ns (Ss.set k σ'):=by
 refine ⟨by rw [List.length_set];exact h.ln,fun i M t hM ht=>?_,h.lo,h.ap⟩
 by_cases e:i=k
 ·subst e
  have hil:i<Ss.length:=by rw [← h.ln];exact (List.getElem?_eq_some_iff.1 hN).1
  rw [List.getElem?_set_self hil] at ht
  injection ht with ht
  rw [hN] at hM
  injection hM with hM
  rw [← ht,← hM];exact hc
 ·rw [List.getElem?_set_ne (Ne.symm e)] at ht
  exact (h.at_ i M t hM ht).fr hf (h.ap i k M N e hM hN)
theorem HoAt.lim (H:HoAt w base s B rs Ns On h v) {k:Nat} {N:LmN} {σ':LmS} (hN:Ns[k]?=some N) (hc:LmAt w' N σ') (hf:Fr N.all w w'):HoAt w' base s B rs Ns On { h with Ss:=h.Ss.set k σ' } v :=
 ⟨H.sv.fr hf (H.nJ k N hN),H.J.set hN hc hf,OwR.fr H.ev hf (fun g hg hb=>by have h1:=OwR.base_le H.ev g hg;have h2:=H.JB k N hN g hb;omega),H.ac,H.ok,H.cJ,H.nJ,H.sB,H.JB,Nat.le_trans H.Bw hf.size,H.nl⟩
end
end
section
open Go.ChangeShapes Go.WideShapes Go.ChangeAt Go.RowKit
open Ar (inR)
def ansP (a:Int × Int × Int):Prop:=(1≤a.1∧a.1≤3)∧i64P a.2.1∧i64P a.2.2
section
variable {N:LmN} {s:LmS} {now m cost held:Int}
theorem zmp (h:(refZ N now held cost).2=true) (hh:0≤held∧held≤9223372036854775807):ansP (refZ N now held cost).1:=by
 unfold refZ ansP i64P at *
 split
 ·dsimp only;omega
 ·split
  ·dsimp only;omega
  ·split
   ·dsimp only;omega
   ·rename_i h1 h2 h3
    rw [if_neg h1,if_neg h2,if_neg h3] at h
    cases h
theorem zdi (h:(refZ N now held cost).2=false) (hh:0≤held):(1≤cost∧cost≤N.B)∧now<4611686018427387904∧held=0:=by
 unfold refZ at h
 split at h
 ·cases h
 ·split at h
  ·cases h
  ·split at h
   ·cases h
   ·omega
theorem LmI.wait_hi (h:LmI N s now m) (hb:LmB N) (key:ByteArray) (hc:1≤cost∧cost≤N.B):waitR N.R s.r key cost≤1152921504606846976:=by
 obtain ⟨w,hw⟩:=h.rg
 have hm:=h.m
 have hB:=h.B
 have ht:=h.t1
 have h0:=h.t0
 have hl:=hb.BL
 have hns:=hb.ns
 have hrl:=hb.RL
 have hf:=zdw (s:=key) hw h.few (c:=cost) (by omega) (by omega) (by omega)
 rcases hf with ⟨h1,h2⟩ | ⟨h1,nx,_,_,_,h2,h3,_⟩
 ·rw [h2];omega
 ·omega
theorem zhD {c:Cel} (hg:celG c N.U N.W N.B N.L now) (hc:1≤cost∧cost≤N.B):celW c N.U N.W N.B N.L now cost≤9223372036854775807:=by
 obtain ⟨hF,hS,hC,hD,hU,hW,hB,hL,ht⟩:=hg
 have f:=zbx (F:=c.1) (S:=c.2.1) (C:=c.2.2.1) (D:=c.2.2.2) (L:=N.L) (t:=now) hU.1 hW.1 hc rfl
 show waitP c.1 c.2.1 c.2.2.1 c.2.2.2 N.U N.W N.B N.L now cost≤_
 generalize waitP c.1 c.2.1 c.2.2.1 c.2.2.2 N.U N.W N.B N.L now cost=wt at *
 omega
theorem LmI.peek_p (h:LmI N s (min now 4611686018427387904) m) (hb:LmB N) (key:ByteArray) (hh:0≤held∧held≤9223372036854775807):ansP (s.peek N now held key cost):=by
 by_cases hr:(refZ N now held cost).2=true
 ·unfold LmS.peek;rw [if_pos hr];exact zmp hr hh
 ·have hr:(refZ N now held cost).2=false:=by simpa using hr
  obtain ⟨h1,h2,rfl⟩:=zdi hr hh.1
  rw [Int.min_eq_left (by omega)] at h
  have hB:=h.B
  have f:=(h.peek_ok hb key h1 h2).1
  have g:(s.peek N now 0 key cost).2.2≤9223372036854775807:=by
   unfold LmS.peek
   rw [hr]
   simp only [Bool.false_eq_true,if_false]
   cases hs:({ s with r:=⟨max s.r.t now,s.r.num,s.r.F⟩ }:LmS).resi N now key with
   | some c=>exact zhD (h.to.resi hs) h1
   | none=>have:=h.to.wait_hi hb key h1;dsimp only at this ⊢;omega
  obtain ⟨f1,f2,f3⟩:=f
  unfold ansP i64P
  rcases f1 with ⟨f1,f4⟩ | ⟨f1,f4,f5⟩
  ·omega
  ·omega
theorem LmI.check_p (h:LmI N s (min now 4611686018427387904) m) (hb:LmB N) (hm:m+2097153≤576460752303423488) (key:ByteArray) (hh:0≤held∧held≤9223372036854775807):ansP (s.check N now held key cost).2.1:=by
 by_cases hr:(refZ N now held cost).2=true
 ·unfold LmS.check;rw [if_pos hr];exact zmp hr hh
 ·have hr:(refZ N now held cost).2=false:=by simpa using hr
  obtain ⟨h1,h2,rfl⟩:=zdi hr hh.1
  rw [Int.min_eq_left (by omega)] at h
  have hB:=h.B
  have f:=h.check_ok hb hm key h1 h2
  have g:(s.check N now 0 key cost).2.1.2.2≤9223372036854775807:=by
   unfold LmS.check
   rw [hr]
   simp only [Bool.false_eq_true,if_false]
   have h2:=(h.seen key cost).adm (by omega) key
   generalize ((s.seen N now key cost).adm N now key).1=y at h2
   have hg:=h2.g
   unfold LmS.judge
   split
   ·rename_i i hi
    split
    ·show (0:Int)≤_;omega
    ·exact zhD (hg.rem (some i)) h1
   ·split
    ·show (0:Int)≤_;omega
    ·have:=h2.wait_hi hb key h1;dsimp only;omega
  obtain ⟨f1,f2,f3⟩:=f
  unfold ansP i64P
  rcases f1 with ⟨f1,f4⟩ | ⟨f1,f4,f5⟩
  ·omega
  ·omega
theorem LmI.check_any (h:LmI N s (min now 4611686018427387904) m) (hm:m+2097153≤576460752303423488) (hh:0≤held) (key:ByteArray):LmI N (s.check N now held key cost).1 (min now 4611686018427387904) (m+2097153):=by
 by_cases hr:(refZ N now held cost).2=true
 ·unfold LmS.check
  rw [if_pos hr]
  exact (h.count (by omega) _).mono ⟨Int.le_refl _,h.t0.2⟩ ⟨by omega,by omega⟩
 ·have hr:(refZ N now held cost).2=false:=by simpa using hr
  have h2:=(zdi hr hh).2.1
  rw [Int.min_eq_left (by omega)] at h ⊢
  exact h.check hm held key cost
theorem LmI.peek_any (h:LmI N s (min now 4611686018427387904) m) (hh:0≤held):LmI N (s.peeked N now held cost) (min now 4611686018427387904) m:=by
 by_cases hr:(refZ N now held cost).2=true
 ·unfold LmS.peeked
  rw [if_pos hr]
  exact h
 ·have hr:(refZ N now held cost).2=false:=by simpa using hr
  have h2:=(zdi hr hh).2.1
  rw [Int.min_eq_left (by omega)] at h ⊢
  exact h.peeked held cost
theorem zk7 (s:LmS) (N:LmN) (now:Int) (key:ByteArray):(s.adm N now key).2.length≤2:=by
 unfold LmS.adm
 split
 ·simp
 ·split
  ·split <;> simp
  ·simp
theorem zd6 (s:LmS) (N:LmN) (now held:Int) (key:ByteArray) (cost:Int):(s.check N now held key cost).2.2.length≤2:=by
 unfold LmS.check
 split
 ·simp
 ·exact zk7 _ _ _ _
theorem lmcheckT (key:ByteArray) (hs:key.size≤maxLen) (hn:0≤now∧now≤9223372036854775807) (hh:0≤held∧held≤9223372036854775807) (hc:inR cost) (w:World) (h:LmAt w N s) (hi:LmI N s (min now 4611686018427387904) m) (hm:m+2097153≤576460752303423488) :
  Calls Tryz.prog 242 #[.pointer (some ⟨N.l,0,none⟩),.int .i64 now,.int .i64 held,.string key,.int .i64 cost] w fun e w'=>∃ v,e=.returned (.tuple #[ansT (s.check N now held key cost).2.1,v]) ∧
   w'.ownsRow w.heap.size 99 4 v (s.check N now held key cost).2.2.length (evL now (s.check N now held key cost).2.2)∧LmAt w' N (s.check N now held key cost).1∧Fr N.all w w':=by
 have hmm:=hi.m
 refine ze9 now held key cost hs (by unfold inR;omega) (by unfold inR;omega) hc w h ⟨by have:=hi.al;omega,by have:=hi.de;omega,by have:=hi.ba;omega⟩ (fun hr=>?_)
 have h2:=(zdi hr hh.1).2.1
 rw [Int.min_eq_left (by omega)] at hi
 refine ⟨(hi.seen key cost).g,fun x hx=>?_,((hi.seen key cost).adm (by omega) key).g⟩
 have:=h.keys x hx
 unfold maxLen
 omega
theorem lmpeekT (key:ByteArray) (hs:key.size≤maxLen) (hn:0≤now∧now≤9223372036854775807) (hh:0≤held∧held≤9223372036854775807) (hc:inR cost) (w:World) (h:LmAt w N s) (hi:LmI N s (min now 4611686018427387904) m) :
  Calls Tryz.prog 245 #[.pointer (some ⟨N.l,0,none⟩),.int .i64 now,.int .i64 held,.string key,.int .i64 cost] w fun e w'=>e=.returned (ansT (s.peek N now held key cost))∧LmAt w' N (s.peeked N now held cost)∧Fr N.parts w w':=by
 refine zgX now held key cost hs (by unfold inR;omega) (by unfold inR;omega) hc w h (fun hr=>?_)
 have h2:=(zdi hr hh.1).2.1
 rw [Int.min_eq_left (by omega)] at hi
 exact ⟨hi.to.g,fun c hc=>hi.to.resi hc⟩
theorem LmAt.tracked {w:World} (h:LmAt w N s):(∀ x ∈ s.M,x.1.size≤64∧i64P x.2.1∧i64P x.2.2)∧i64P s.tot∧(1≤N.S.N.n∧N.S.N.n≤64):=by
 obtain ⟨L,σ,g,e⟩:=h.hm
 have ht:=g.ok.tb
 rw [← e]
 refine ⟨fun x hx=>?_,by unfold i64P;omega,g.n1⟩
 obtain ⟨y,hy,rfl⟩:=List.mem_map.1 hx
 have hb:=g.ok.bd y hy
 have hk:=g.ok.key y hy
 refine ⟨(g.ix.uni.2.1 _ _ hk).2,?_,?_⟩
 ·show i64P y.n
  unfold i64P;omega
 ·show i64P y.e
  unfold i64P;omega
theorem LmAt.len_bd {w:World} (h:LmAt w N s):i64P (s.len N):=by
 have:=h.hp.n1
 unfold LmS.len i64P
 omega
end
def triC (x:Tri):CV:=⟨x.1,x.2.1,x.2.2⟩
def ansQ (N:LmN) (now held:Int) (s:LmS) (q:Req):List Int :=
 if q.op=1 then frmZ (ansZ 1 (s.check N now held (strOfNums q.key) q.cost).2.1.1 (s.check N now held (strOfNums q.key) q.cost).2.1.2.1 (s.check N now held (strOfNums q.key) q.cost).2.1.2.2)
 else if q.op=2 then frmZ (ansZ 2 (s.peek N now held (strOfNums q.key) q.cost).1 (s.peek N now held (strOfNums q.key) q.cost).2.1 (s.peek N now held (strOfNums q.key) q.cost).2.2)
 else if q.op=3 then frmZ (totZ q.rule s.al s.de s.ba (s.len N) s.tot)
 else frmZ (topZ q.rule (zs ((s.M.take (topN q.k N.S.N.n)).map triC)))
def nxQ (N:LmN) (now held:Int) (s:LmS) (q:Req):LmS :=
 if q.op=1 then (s.check N now held (strOfNums q.key) q.cost).1 else if q.op=2 then s.peeked N now held q.cost else s
def evQ (N:LmN) (now held:Int) (s:LmS) (q:Req):List (ByteArray × Bool) :=
 if q.op=1 then (s.check N now held (strOfNums q.key) q.cost).2.2 else []
end
section
open Go.ChangeShapes Go.WideShapes Go.ChangeAt Go.RowKit
open Ar (inR)
section
variable {w w' W:World} {base s B On:Nat} {rs:List RuZ} {Ns:List LmN} {h:HoZ} {v:Value}
theorem zjx {B n c:Nat} {w:World} {A:Option Addr} {L:List Tri} (h:RdT B w A n c L):CvAt w A c (L.map triC):=by
 refine ⟨by rw [List.length_map,h.len];exact h.cap,h.max,fun hn=>?_⟩
 rw [List.length_map,h.len] at hn
 obtain ⟨g,C,h1,h2,h3,h4⟩:=h.at_ hn
 refine ⟨g,0,h1,lt_of_block h3,fun j hj i hi=>?_⟩
 rw [List.length_map] at hj
 obtain ⟨c0,c1,c2⟩:=h4 j L[j] (List.getElem?_eq_getElem hj)
 rw [List.getElem_map,h3.rd,Nat.zero_add]
 match i,hi with
 | 0,_=>exact c0
 | 1,_=>exact c1
 | 2,_=>exact c2
theorem HoAt.note (H:HoAt w base s B rs Ns On h v) {v':Value} {l:List EvZ} (hs:Sv w' s { h.c with nt:=v' }) (ho:OwE w' B v' l) (hf:Fr (fun k=>k=s∨v.ownBlock=some k) w w'):HoAt w' base s B rs Ns On { h with evs:=l } v' :=
 ⟨hs,H.J.fr hf (fun i N hN b hb hh=>by
  rcases hh with rfl | hh
  ·exact H.nJ i N hN hb
  ·have h1:=OwR.base_le H.ev b hh
   have h2:=H.JB i N hN b hb
   omega),ho,H.ac,H.ok,H.cJ,H.nJ,H.sB,H.JB,Nat.le_trans H.Bw hf.size,H.nl⟩
theorem zfg (a b:Int) (ev:List (ByteArray × Bool)):(mkE a b ev).length=ev.length:=by unfold mkE;simp
theorem zmi {b n:Nat} {vv:Value} {now:Int} {ev:List (ByteArray × Bool)} (h:w.ownsRow b 99 4 vv ev.length (evL now ev)):OwE w b vv (mkE 0 now ev):=by
 unfold OwE OwR
 rw [zfg,← zkR]
 exact h
theorem zeM (q:Req) (i:Nat) (r:RuZ) (N:LmN) (σ:LmS) (m:Int) (hi:q.rule=(i:Int)) (hr:rs[i]?=some r) (hN:Ns[i]?=some N) (hσ:h.Ss[i]?=some σ) (hq:okQ (rs.length:Int) q)
  (hI:LmI N σ (min h.c.now 4611686018427387904) m) (hb:LmB N) (hm:m+2097153≤576460752303423488) (hE:h.evs.length+2≤1000000) (hn:0≤h.c.now∧h.c.now≤9223372036854775807) (hf:0≤h.c.first∧h.c.first≤9223372036854775807) (w:World) (H:HoAt w base s B rs Ns On h v) :
  Calls Tryz.prog 239 #[.pointer (some ⟨s,0,none⟩),rqV q] w fun e w'=>∃ v1 vr,e=.returned vr∧Own w' w.heap.size vr (ansQ N h.c.now (h.c.held r.W) σ q)∧HoAt w' base s B rs Ns On ⟨h.c,h.Ss.set i (nxQ N h.c.now (h.c.held r.W) σ q),h.evs++mkE (i:Int) h.c.now (evQ N h.c.now (h.c.held r.W) σ q)⟩ v1∧Fr (hoF s Ns v) w w'∧(∀ g,v1.ownBlock=some g→v.ownBlock=some g∨w.heap.size≤g):=by
 have hil:i<rs.length:=(List.getElem?_eq_some_iff.1 hr).1
 have hi8:i<8:=by have:=H.ok.l;omega
 have hrp:=H.ok.p r (List.mem_of_getElem? hr)
 have hW:1≤r.W∧r.W≤1099511627776:=by unfold RuZ.p ruleP at hrp;omega
 have hop:q.op=1∨q.op=2∨q.op=3∨q.op=4:=by have:=hq.1;unfold rightP at this;omega
 have hk:0≤q.k∧q.k≤255:=by have:=hq.1;unfold rightP at this;omega
 have hky:(strOfNums q.key).size≤maxLen:=by have h1:=zkw q.key;have h2:=zfm hq;unfold maxLen;omega
 have hco:=hq.2.1
 obtain ⟨hd,hhd⟩:=zeq (h.c.held r.W)
 have hhb:0≤hd∧hd≤9223372036854775807:=by
  rw [hhd]
  unfold SvC.held clamp
  split
  ·split <;> (try split) <;> omega
  ·omega
 have eq1:h.Ss.set i σ=h.Ss:=by
  obtain ⟨h1,h2⟩:=List.getElem?_eq_some_iff.1 hσ
  rw [← h2];exact List.set_getElem_self h1
 obtain ⟨nw,hnw⟩:=zeq (h.c.now)
 have CH:=zhz (fun wx (hx:Sv wx s { h.c with nt:=v })=>show Calls Tryz.prog 241 #[.pointer (some ⟨s,0,none⟩),.int .i64 r.W] wx (fun e w'=>e=.returned (.int .i64 hd)∧Below wx.heap.size wx w') from by rw [hhd];exact zhl (c:={ h.c with nt:=v }) r.W hn hf (by omega) wx hx)
 have CN:=zhz (fun wx (hx:Sv wx s { h.c with nt:=v })=>show Calls Tryz.prog 41 #[.pointer (some ⟨s,0,none⟩)] wx (fun e w'=>e=.returned (.int .i64 nw)∧wx=w') from by rw [hnw];exact zjg (c:={ h.c with nt:=v }) wx hx)
 rw [← hhd,← hnw]
 rw [← hnw] at hI hn
 have HNW:=zhz hnw
 obtain ⟨w1,hw1,k1,b1,s1⟩:=zad w (rqA q) 44
 obtain ⟨qb,hqb⟩:=zeq (w.heap.size)
 rw [← hqb] at k1
 have H1:=zhz (H.keep b1)
 have CR:=zhz (zeO (c:={ h.c with nt:=v }) H.cJ hN hi8 w1 H1.out.sv)
 have HQ:=zhz hqb
 have HH:=zhz H
 have B1:=zhz b1
 have HK:=zhz (And.intro hhb (And.intro hn hW))
 have HI:=zhz hI
 have HQQ:=zhz hq
 have HN:=zhz hN
 have HB:=zhz hb
 have HKY:=zhz hky
 have HKK:=zhz hk
 have HS:=zhz hσ
 have HEQ:=zhz eq1
 have ew:IntKind.i64.wrap q.cost=q.cost:=by rw [IntKind.wrap_i64];omega
 have HCO:=zhz (show inR q.cost from by unfold inR;omega)
 obtain ⟨op,hope⟩:=zeq (q.op)
 obtain ⟨co,hcoe⟩:=zeq (q.cost)
 obtain ⟨ky,hkye⟩:=zeq (strOfNums q.key)
 obtain ⟨kk,hkke⟩:=zeq (q.k)
 have ST:=zhz (fun wx (hx:Below w1.heap.size w1 wx)=>show (∀ j,wx.cell? ⟨qb,j,none⟩=(#[.int .i64 op,.int .i64 (i:Int),.int .u32 co,.string ky,.int .i64 kk]:Array Value)[j]?)∧wx.cell? ⟨s,6+i*9+1,none⟩=some (.int .i64 r.W) from ⟨by rw [hope,hcoe,hkye,hkke,← hi];exact (k1.keep hx).rd,(SvOk.cell (c:={ h.c with nt:=v }) (rs:=rs) (On:=On) ⟨H.ok.o,H.ok.m,H.ok.on,H.ok.l,H.ok.p,H.ok.R⟩ (H1.out.sv.keep hx) hr (by omega)).trans rfl⟩)
 have KB:=zhz (show Blk w1 qb 44 #[.int .i64 op,.int .i64 (i:Int),.int .u32 co,.string ky,.int .i64 kk] from by rw [hope,hcoe,hkye,hkke,← hi];exact k1)
 have erq:rqV q=.agg #[.int .i64 op,.int .i64 (i:Int),.int .u32 co,.string ky,.int .i64 kk]:=by rw [hope,hcoe,hkye,hkke,← hi]
 have kq:∀ j,w1.cell? ⟨qb,j,none⟩=(#[.int .i64 op,.int .i64 (i:Int),.int .u32 co,.string ky,.int .i64 kk]:Array Value)[j]?:=by rw [hope,hcoe,hkye,hkke,← hi];exact k1.rd
 have hw1':w.alloc (.cells #[.int .i64 op,.int .i64 (i:Int),.int .u32 co,.string ky,.int .i64 kk] 44)=w1:=by rw [hope,hcoe,hkye,hkke,← hi];exact hw1
 rw [erq]
 rw [← hcoe] at ew HCO
 rw [← hope] at hop
 rw [← hkye] at HKY
 rw [← hkke] at HKK
 obtain ⟨zs,hzs⟩:=zeq (ansQ N nw hd σ q)
 obtain ⟨σ',hσ'⟩:=zeq (nxQ N nw hd σ q)
 obtain ⟨ev,hev⟩:=zeq (evQ N nw hd σ q)
 rw [← hzs,← hσ',← hev]
 unfold ansQ at hzs
 unfold nxQ at hσ'
 unfold evQ at hev
 rw [← hope,← hcoe,← hkye,← hkke,hi] at hzs
 rw [← hope,← hcoe,← hkye] at hσ' hev
 have HZ:=zhz hzs
 have HS':=zhz hσ'
 have HEV:=zhz hev
 have HIB:=zhz (show 0≤(i:Int)∧(i:Int)≤255 from by omega)
 have t2:¬ (i:Int)<0:=by omega
 have t3:(i:Int)<8:=by omega
 have HCAP:=zhz (And.intro hm hE)
 clear hope hcoe hkye hkke k1 b1 s1 hqb hw1 H hN hq hr hi erq hil hzs hσ' hev hm hE hI hb hk hσ eq1 hhd hnw hn hf hW hhb hco hrp hky
 go_enter Tryz.func239,Tryz.ntmps239
 go_upto_region 1 with (fail)
 rw [← HQ.out]
 clear hw1'
 go_upto_region 4 with (go_at_call 39;((with_reducible refine CR.out.mono ?_);rintro e' wz ⟨rfl,rfl⟩))
 clear CR kq
 have N0:=zhz (show Below w1.heap.size w1 w1.drew from zaa (Below.refl _ _) 1)
 have st:=ST.out _ N0.out
 refine wp_region_held_drew (S:=fun wx=>(∀ j,wx.cell? ⟨qb,j,none⟩=(#[.int .i64 op,.int .i64 (i:Int),.int .u32 co,.string ky,.int .i64 kk]:Array Value)[j]?)∧wx.cell? ⟨s,6+i*9+1,none⟩=some (.int .i64 r.W)) (by kernel_rfl) st (fun hHeld=>?_)
 clear st
 refine wR 0 ?_
 refine wR 1 ?_
 refine wR 2 ?_
 refine wR 4 ?_
 refine wR 5 ?_
 refine wR 6 ?_
 refine wR 7 ?_
 refine wR 8 ?_
 refine wR 9 ?_
 refine wR 10 ?_
 refine wR 11 ?_
 refine wR 12 ?_
 refine wR 13 ?_
 refine wR 14 ?_
 refine wC 3 fun K hK=>?_
 go_simp
 ((with_reducible refine (CN.out _ (H1.out.keep N0.out).sv).mono ?_);rintro e' wz ⟨rfl,rfl⟩)
 refine hK.out _ _ (ST.out _ N0.out) fun hHeld=>?_
 clear hK K
 try simp only [Act.put,zs1,zs2,zs3]
 refine wC 15 fun K hK=>?_
 go_simp
 ((with_reducible refine (CH.out _ (H1.out.keep N0.out).sv).mono ?_);rintro e' w2 ⟨rfl,bz⟩;have N1:=zhz (G.below_on N0.out bz);clear bz)
 refine hK.out _ _ (ST.out _ N1.out) fun hHeld=>?_
 clear hK K
 try simp only [Act.put,zs1,zs2,zs3]
 refine wR 16 ?_
 refine wR 17 ?_
 refine wpAnyH_done (by kernel_rfl) ?_ _
 clear hHeld
 have H2:=zhz (H1.out.keep N1.out)
 have kq:=(ST.out _ N1.out).1
 have B2:=zhz (show Below w.heap.size w w2 from B1.out.trans (N1.out.mono B1.out.size))
 have L2:=zhz (H2.out.J.at_ i N σ HN.out HS.out)
 rcases hop with rfl | rfl | rfl | rfl
 ·as_aux_lemma =>
   obtain ⟨⟨cv,cr,ct⟩,ha⟩:∃ a,a=(σ.check N nw hd ky co).2.1:=⟨_,rfl⟩
   have c0:=lmcheckT (now:=nw) (held:=hd) (cost:=co) ky HKY.out HK.out.2.1 HK.out.1 HCO.out w2 L2.out HI.out HCAP.out.1
   have a0:=HI.out.check_p HB.out HCAP.out.1 ky HK.out.1 (cost:=co)
   have hev:(σ.check N nw hd ky co).2.2=ev:=by rw [HEV.out,if_pos rfl]
   have hs':(σ.check N nw hd ky co).1=σ':=by rw [HS'.out,if_pos rfl]
   have hzs:=HZ.out
   rw [if_pos rfl] at hzs
   have HEL:=zhz (show ev.length≤2 from by rw [← hev];exact zd6 _ _ _ _ _ _)
   rw [hev,hs',← ha] at c0
   rw [← ha] at a0 hzs
   dsimp only at hzs
   have CC:=zhz c0
   have AP:=zhz a0
   have HZ2:=zhz hzs
   have HLT:=zhz (show ∀ k,hoF s Ns v k→k<w.heap.size from fun k hk=>HH.out.lt hk)
   have NAL:=zhz (show ∀ k,N.all k→hoF s Ns v k from fun k hk=>Or.inr (Or.inl ⟨i,N,HN.out,hk⟩))
   have KB2:=zhz (KB.out.keep N1.out)
   clear ha c0 a0 hev hs' hzs
   go_upto_region 8 with (go_at_call 242;((with_reducible refine CC.out.mono ?_);rintro e' z1 ⟨vv,rfl,o1,a1,f1⟩;obtain ⟨x8,y8,ex8,kr8,kw8,ey8,b8,k8⟩:=boxA z1 cv cr ct;have H3:=zhz ((H2.out.lim HN.out a1 f1).keep b8);have A3:=zhz k8;have O3:=zhz (Lm.own_fr (F:=fun _=>False) o1 (Fr.of_below b8) (fun k hk=>hk.elim));have KB3:=zhz ((KB2.out.fr f1 (fun hh=>by have h1:=HLT.out _ (NAL.out _ hh);have h2:=HQ.out;omega)).keep b8);have Z3:=zhz (show w2.heap.size≤z1.heap.size∧z1.heap.size≤y8.heap.size∧Fr N.all w2 y8 from ⟨f1.size,b8.size,f1.trans (Fr.of_below b8)⟩);clear o1 a1 f1 b8 k8))
   clear CC ex8 kr8 kw8 ey8 kq
   obtain ⟨ab,hab⟩:=zeq (z1.heap.size)
   rw [← hab] at A3 Z3 ⊢
   clear hab
   have OB:=zhz (show ∀ g,vv.ownBlock=some g→w2.heap.size≤g from fun g hg=>Lm.own_base O3.out g hg)
   have VB:=zhz (show ∀ g,v.ownBlock=some g→g<w.heap.size from fun g hg=>HLT.out g (Or.inr (Or.inr hg)))
   have SB:=zhz (show s<w.heap.size from HLT.out s (Or.inl rfl))
   have CT:=zhz (zhn (c:=h.c) (i:Int) nw v vv h.evs ev w2.heap.size HH.out.ac (by have h1:=HCAP.out.2;have h2:=HEL.out;omega) HH.out.sB (by have h2:=HEL.out;omega) y8 H3.out.sv H3.out.ev (zmi (n:=0) O3.out) (fun g hg=>⟨fun hh=>by have h1:=OB.out g hg;have h2:=VB.out g hh;have h3:=B2.out.size;omega,fun e=>by have h1:=OB.out g hg;have h2:=SB.out;have h3:=B2.out.size;omega⟩) H3.out.Bw)
   have kq:=KB3.out.rd
   go_upto_region 9 with (go_at_call 243;((with_reducible refine CT.out.mono ?_);rintro e' w9 ⟨rfl,v1,s9,o9,f9,g9⟩;have F9:=zhz f9;have H9:=zhz (H3.out.note s9 o9 f9);have G9:=zhz g9;clear s9 o9 f9 g9))
   clear kq CT
   have NN:=zhz (show ¬ (qb=s∨v.ownBlock=some qb)∧¬ (ab=s∨v.ownBlock=some ab) from by
    have h2:=SB.out
    have h3:=B2.out.size
    have h4:=HQ.out
    have h5:=Z3.out.1
    refine ⟨fun hh=>?_,fun hh=>?_⟩
    ·rcases hh with hh | hh
     ·omega
     ·have:=VB.out qb hh;omega
    ·rcases hh with hh | hh
     ·omega
     ·have:=VB.out ab hh;omega)
   have kq:=(KB3.out.fr F9.out NN.out.1).rd
   have ka:=(A3.out.fr F9.out NN.out.2).rd
   have CA:=zhz (zb9 1 cv cr ct (Or.inl rfl) AP.out.1 AP.out.2.1 AP.out.2.2 w9)
   go_wp2_with (go_at_call 244;((with_reducible refine CA.out.mono ?_);rintro e' w10 ⟨vr,rfl,o10,b10⟩;have O10:=zhz (And.intro o10 b10);clear o10 b10))
   go_ret
   have hs:=O10.out.2.size
   have h9:=F9.out.size
   have h3:=Z3.out
   refine ⟨v1,vr,rfl,?_,H9.out.keep O10.out.2,?_,fun g hg=>?_⟩
   ·rw [HZ2.out]
    exact G.own_more O10.out.1 (by have:=B2.out.size;omega)
   ·exact (((Fr.of_below B2.out).mono (fun k (hk:False)=>hk.elim)).trans ((Z3.out.2.2.mono NAL.out).trans (F9.out.mono (fun k hk=>by rcases hk with rfl | hk;exact Or.inl rfl;exact Or.inr (Or.inr hk))))).trans ((Fr.of_below O10.out.2).mono (fun k (hk:False)=>hk.elim))
   ·rcases G9.out g hg with h1 | h1
    ·exact Or.inl h1
    ·right;have:=B2.out.size;omega
 ·as_aux_lemma =>
   have hev:ev=[]:=by rw [HEV.out,if_neg (by decide)]
   have hs':σ.peeked N nw hd co=σ':=by rw [HS'.out,if_neg (by decide),if_pos rfl]
   have hzs:=HZ.out
   rw [if_neg (by decide),if_pos rfl] at hzs
   obtain ⟨⟨cv,cr,ct⟩,ha⟩:∃ a,a=σ.peek N nw hd ky co:=⟨_,rfl⟩
   have a0:=HI.out.peek_p HB.out ky HK.out.1 (cost:=co)
   have PC:=zhz (fun wx (hx:LmAt wx N σ)=>show Calls Tryz.prog 245 #[.pointer (some ⟨N.l,0,none⟩),.int .i64 nw,.int .i64 hd,.string ky,.int .i64 co] wx (fun e w'=>e=.returned (ansV cv cr ct)∧LmAt w' N σ'∧Fr N.all wx w') from (lmpeekT (N:=N) (s:=σ) (now:=nw) (held:=hd) (cost:=co) ky HKY.out HK.out.2.1 HK.out.1 HCO.out wx hx HI.out).mono (fun e w' ⟨h1,h2,h3⟩=>⟨by rw [h1,← ha],by rw [← hs'];exact h2,h3.mono (fun k hk=>Or.inl hk)⟩))
   rw [← ha] at a0 hzs
   dsimp only at hzs
   have AP:=zhz a0
   have HZ2:=zhz hzs
   have HLT:=zhz (show ∀ k,hoF s Ns v k→k<w.heap.size from fun k hk=>HH.out.lt hk)
   have NAL:=zhz (show ∀ k,N.all k→hoF s Ns v k from fun k hk=>Or.inr (Or.inl ⟨i,N,HN.out,hk⟩))
   have KB2:=zhz (KB.out.keep N1.out)
   have HEV2:=zhz hev
   clear ha a0 hev hs' hzs
   go_upto_region 11 with (fail)
   clear kq
   have D2:=zhz (show Below w2.heap.size w2 w2.drew from zaa (Below.refl _ _) 1)
   have st:=(KB2.out.keep D2.out).rd
   refine wp_region_held_drew (S:=fun wx=>∀ j,wx.cell? ⟨qb,j,none⟩=(#[.int .i64 2,.int .i64 (i:Int),.int .u32 co,.string ky,.int .i64 kk]:Array Value)[j]?) (by kernel_rfl) st (fun hHeld=>?_)
   clear st
   refine wR 0 ?_
   refine wR 1 ?_
   refine wR 2 ?_
   refine wR 3 ?_
   refine wR 4 ?_
   refine wR 5 ?_
   refine wR 6 ?_
   refine wR 7 ?_
   refine wR 8 ?_
   refine wR 9 ?_
   refine wC 10 fun K hK=>?_
   go_simp
   ((with_reducible refine (PC.out _ (L2.out.keep D2.out)).mono ?_);rintro e' w3 ⟨rfl,a3,f3⟩;have H3:=zhz ((H2.out.keep D2.out).lim HN.out a3 f3);have F3:=zhz f3;have K3:=zhz ((KB2.out.keep D2.out).fr f3 (fun hh=>by have h1:=HLT.out _ (NAL.out _ hh);have h2:=HQ.out;omega));have CA:=zhz (zb9 2 cv cr ct (Or.inr rfl) AP.out.1 AP.out.2.1 AP.out.2.2 w3);clear a3 f3)
   refine hK.out _ _ (K3.out.rd) fun hHeld=>?_
   clear hK K
   try simp only [Act.put,zs1,zs2,zs3]
   refine wC 11 fun K hK=>?_
   go_simp
   ((with_reducible refine CA.out.mono ?_);rintro e' w10 ⟨vr,rfl,o10,b10⟩;have O10:=zhz (And.intro o10 b10);clear o10 b10)
   refine hK.out _ _ ((K3.out.keep O10.out.2).rd) fun hHeld=>?_
   clear hK K
   try simp only [Act.put,zs1,zs2,zs3]
   refine wR 12 ?_
   refine wpAnyH_done (by kernel_rfl) ?_ _
   clear hHeld
   go_wp2
   go_ret
   have hs:=O10.out.2.size
   have h3:=F3.out.size
   have hd2:=D2.out.size
   refine ⟨v,vr,rfl,?_,?_,?_,fun g hg=>Or.inl hg⟩
   ·rw [HZ2.out]
    exact G.own_more O10.out.1 (by have:=B2.out.size;omega)
   ·rw [HEV2.out,show mkE (i:Int) nw []=[] from rfl,List.append_nil]
    exact H3.out.keep O10.out.2
   ·exact (((Fr.of_below B2.out).trans (Fr.of_below D2.out)).mono (fun k (hk:False)=>hk.elim)).trans ((F3.out.mono NAL.out).trans ((Fr.of_below O10.out.2).mono (fun k (hk:False)=>hk.elim)))
 ·as_aux_lemma =>
   have hev:ev=[]:=by rw [HEV.out,if_neg (by decide)]
   have hs':σ=σ':=by rw [HS'.out,if_neg (by decide),if_neg (by decide)]
   have hzs:=HZ.out
   rw [if_neg (by decide),if_neg (by decide),if_pos rfl] at hzs
   have HZ2:=zhz hzs
   have HEV2:=zhz hev
   have HSE:=zhz hs'
   obtain ⟨ln,hln⟩:=zeq (σ.len N)
   have TC:=zhz (fun wx (hx:LmAt wx N σ)=>show Calls Tryz.prog 40 #[.pointer (some ⟨N.l,0,none⟩)] wx (fun e w'=>e=.returned (totV σ.al σ.de σ.ba ln σ.tot)∧Below wx.heap.size wx w') from by rw [hln];exact zen wx hx)
   rw [← hln] at HZ2
   have i1:=HI.out.m
   have i2:=HI.out.al
   have i3:=HI.out.de
   have i4:=HI.out.ba
   have CA:=zhz (fun wx=>zeR (i:Int) σ.al σ.de σ.ba ln σ.tot HIB.out (by unfold i64P;omega) (by unfold i64P;omega) (by unfold i64P;omega) (by rw [hln];exact L2.out.len_bd) L2.out.tracked.2.1 wx)
   obtain ⟨t_a,hta⟩:=zeq (σ.al)
   obtain ⟨t_d,htd⟩:=zeq (σ.de)
   obtain ⟨t_b,htb⟩:=zeq (σ.ba)
   obtain ⟨t_t,htt⟩:=zeq (σ.tot)
   rw [← hta,← htd,← htb,← htt] at CA TC HZ2
   have KB2:=zhz (KB.out.keep N1.out)
   clear hev hs' hzs hln i1 i2 i3 i4 hta htd htb htt
   go_upto_region 13 with (fail)
   clear kq
   have D2:=zhz (show Below w2.heap.size w2 w2.drew from zaa (Below.refl _ _) 1)
   have st:=(KB2.out.keep D2.out).rd
   refine wp_region_held_drew (S:=fun wx=>∀ j,wx.cell? ⟨qb,j,none⟩=(#[.int .i64 3,.int .i64 (i:Int),.int .u32 co,.string ky,.int .i64 kk]:Array Value)[j]?) (by kernel_rfl) st (fun hHeld=>?_)
   clear st
   refine wR 0 ?_
   refine wR 1 ?_
   refine wR 2 ?_
   refine wC 3 fun K hK=>?_
   go_simp
   ((with_reducible refine (TC.out _ (L2.out.keep D2.out)).mono ?_);rintro e' w3 ⟨rfl,b3⟩;have D3:=zhz (G.below_on D2.out b3);clear b3)
   refine hK.out _ _ ((KB2.out.keep D3.out).rd) fun hHeld=>?_
   clear hK K
   try simp only [Act.put,zs1,zs2,zs3]
   refine wC 4 fun K hK=>?_
   go_simp
   ((with_reducible refine (CA.out _).mono ?_);rintro e' w10 ⟨vr,rfl,o10,b10⟩;have O10:=zhz (And.intro o10 b10);clear o10 b10)
   refine hK.out _ _ (((KB2.out.keep D3.out).keep O10.out.2).rd) fun hHeld=>?_
   clear hK K
   try simp only [Act.put,zs1,zs2,zs3]
   refine wR 5 ?_
   refine wpAnyH_done (by kernel_rfl) ?_ _
   clear hHeld
   go_wp2
   go_ret
   have hs:=O10.out.2.size
   have h3:=D3.out.size
   refine ⟨v,vr,rfl,?_,?_,?_,fun g hg=>Or.inl hg⟩
   ·rw [HZ2.out]
    exact G.own_more O10.out.1 (by have:=B2.out.size;omega)
   ·rw [HEV2.out,show mkE (i:Int) nw []=[] from rfl,List.append_nil,← HSE.out,HEQ.out]
    exact (H2.out.keep D3.out).keep O10.out.2
   ·exact ((Fr.of_below B2.out).trans ((Fr.of_below D3.out).trans (Fr.of_below O10.out.2))).mono (fun k (hk:False)=>hk.elim)
 ·as_aux_lemma =>
   have hev:ev=[]:=by rw [HEV.out,if_neg (by decide)]
   have hs':σ=σ':=by rw [HS'.out,if_neg (by decide),if_neg (by decide)]
   have hzs:=HZ.out
   rw [if_neg (by decide),if_neg (by decide),if_neg (by decide)] at hzs
   have HZ2:=zhz hzs
   have HEV2:=zhz hev
   have HSE:=zhz hs'
   have TR:=zhz L2.out.tracked
   have TN:=zhz (show min (topN kk N.S.N.n) σ.M.length≤255 from by have h1:=zd2 kk TR.out.2.2.1;have h2:=TR.out.2.2.2;omega)
   obtain ⟨n,hn⟩:=zeq (min (topN kk N.S.N.n) σ.M.length)
   obtain ⟨M,hM⟩:=zeq (σ.M.take (topN kk N.S.N.n))
   have HMX:=zhz (show ∀ a ∈ M.map triC,a.okV∧a.s.size≤64 from fun a ha=>by
    obtain ⟨x,hx,rfl⟩:=List.mem_map.1 ha
    rw [hM] at hx
    obtain ⟨h1,h2,h3⟩:=TR.out.1 x (List.mem_of_mem_take hx)
    exact ⟨⟨by show x.1.size≤maxLen;unfold maxLen;omega,h2,h3⟩,h1⟩)
   have TC:=zhz (fun wx (hx:LmAt wx N σ)=>show Calls Tryz.prog 248 #[.pointer (some ⟨N.l,0,none⟩),.int .i64 kk] wx (fun e w'=>∃ A c,e=.returned (.slice A n c)∧RdT wx.heap.size w' A n c M∧Below wx.heap.size wx w') from by rw [hn,hM];exact zih kk (by have:=HKK.out;omega) wx hx)
   rw [← hn] at TN
   rw [← hM] at HZ2
   have KB2:=zhz (KB.out.keep N1.out)
   clear hev hs' hzs hn hM
   go_upto_region 15 with (fail)
   clear kq
   have D2:=zhz (show Below w2.heap.size w2 w2.drew from zaa (Below.refl _ _) 1)
   have st:=(KB2.out.keep D2.out).rd
   refine wp_region_held_drew (S:=fun wx=>∀ j,wx.cell? ⟨qb,j,none⟩=(#[.int .i64 4,.int .i64 (i:Int),.int .u32 co,.string ky,.int .i64 kk]:Array Value)[j]?) (by kernel_rfl) st (fun hHeld=>?_)
   clear st
   refine wR 0 ?_
   refine wR 1 ?_
   refine wR 2 ?_
   refine wR 3 ?_
   refine wR 4 ?_
   refine wC 5 fun K hK=>?_
   go_simp
   ((with_reducible refine (TC.out _ (L2.out.keep D2.out)).mono ?_);rintro e' w3 ⟨A3,c3,rfl,r3,b3⟩;have D3:=zhz (G.below_on D2.out b3);have CA:=zhz (zgW (i:Int) A3 n c3 (M.map triC) HIB.out (by rw [List.length_map];exact r3.len) TN.out w3 (zjx r3) (fun a ha=>(HMX.out a ha).1) (fun a ha=>(HMX.out a ha).2));clear b3 r3)
   refine hK.out _ _ ((KB2.out.keep D3.out).rd) fun hHeld=>?_
   clear hK K
   try simp only [Act.put,zs1,zs2,zs3]
   refine wC 6 fun K hK=>?_
   go_simp
   ((with_reducible refine CA.out.mono ?_);rintro e' w10 ⟨vr,rfl,o10,b10⟩;have O10:=zhz (And.intro o10 b10);clear o10 b10)
   refine hK.out _ _ (((KB2.out.keep D3.out).keep O10.out.2).rd) fun hHeld=>?_
   clear hK K
   try simp only [Act.put,zs1,zs2,zs3]
   refine wR 7 ?_
   refine wpAnyH_done (by kernel_rfl) ?_ _
   clear hHeld
   go_wp2
   go_ret
   have hs:=O10.out.2.size
   have h3:=D3.out.size
   refine ⟨v,vr,rfl,?_,?_,?_,fun g hg=>Or.inl hg⟩
   ·rw [HZ2.out]
    exact G.own_more O10.out.1 (by have:=B2.out.size;omega)
   ·rw [HEV2.out,show mkE (i:Int) nw []=[] from rfl,List.append_nil,← HSE.out,HEQ.out]
    exact (H2.out.keep D3.out).keep O10.out.2
   ·exact ((Fr.of_below B2.out).trans ((Fr.of_below D3.out).trans (Fr.of_below O10.out.2))).mono (fun k (hk:False)=>hk.elim)
end
end
section
open Go.ChangeShapes Go.WideShapes Go.ChangeAt Go.RowKit
open Ar (inR)
structure HoN (rs:List RuZ) (Ns:List LmN):Prop where
 nl:Ns.length=rs.length
 l:rs.length≤8
 p:∀ r ∈ rs,r.p
 B:∀ (i:Nat) N,Ns[i]?=some N→LmB N
 T:∀ (i:Nat) r N,rs[i]?=some r→Ns[i]?=some N→(N.S.N.n:Int)=r.Tr
 lr:∀ (i:Nat) r N,rs[i]?=some r→Ns[i]?=some N→∃ zs,LmR r zs N
def okT (x:Tri):Bool:=decide (x.1.size≤64∧(-9223372036854775808≤x.2.1∧x.2.1≤9223372036854775807)∧(-9223372036854775808≤x.2.2∧x.2.2≤9223372036854775807))
def ansF (N:LmN) (now held:Int) (s:LmS) (q:Req):List Int :=
 if q.op=4 then ansQ N now held { s with M:=s.M.filter okT } q else ansQ N now held s q
theorem zk9 {w:World} {N:LmN} {s:LmS} (h:LmAt w N s) (now held:Int) (q:Req):ansF N now held s q=ansQ N now held s q:=by
 unfold ansF
 split
 ·rw [List.filter_eq_self.2 (fun x hx=>by
   obtain ⟨h1,h2,h3⟩:=h.tracked.1 x hx
   unfold okT
   exact decide_eq_true ⟨h1,h2,h3⟩)]
 ·rfl
theorem zaW {b:List Int} (hb:byt b):byt (frmZ b):=by
 intro z hz
 unfold frmZ at hz
 simp only [List.mem_cons,List.mem_append] at hz
 rcases hz with rfl | rfl | hz | hz
 ·omega
 ·omega
 ·rw [zkJ] at hz
  simp only [List.mem_cons,List.not_mem_nil,or_false] at hz
  omega
 ·exact hb z hz
theorem zdS {L:List Tri} (h:∀ x ∈ L,x.1.size≤64∧i64P x.2.1∧i64P x.2.2):oks (zs (L.map triC)):=by
 refine zmy (fun a ha=>?_) (fun a ha=>?_)
 ·obtain ⟨x,hx,rfl⟩:=List.mem_map.1 ha
  obtain ⟨h1,h2,h3⟩:=h x hx
  exact ⟨by show x.1.size≤maxLen;unfold maxLen;omega,h2,h3⟩
 ·obtain ⟨x,hx,rfl⟩:=List.mem_map.1 ha
  exact (h x hx).1
theorem zjp {N:LmN} {s:LmS} {q:Req} {rules:Int} {now held t:Int} (hq:okQ rules q) (hT:(N.S.N.n:Int)=t) (ht:1≤t):((ansF N now held s q).length:Int)≤largeZ q t:=by
 have hop:q.op=1∨q.op=2∨q.op=3∨q.op=4:=by have:=hq.1;unfold rightP at this;omega
 unfold ansF ansQ largeZ
 by_cases h4:q.op=4
 ·rw [if_pos h4,if_neg (by omega),if_neg (by omega),if_neg (by omega),if_neg (by omega),if_pos h4,zaY]
  have ho:oks (zs (((s.M.filter okT).take (topN q.k N.S.N.n)).map triC)):=zdS (fun x hx=>by
   have h1:=(List.mem_filter.1 (List.mem_of_mem_take hx)).2
   unfold okT at h1
   have h2:=of_decide_eq_true h1
   exact h2)
  have hl:=zcn ho
  rw [za1,List.length_map,List.length_take] at hl
  have e:(topZ q.rule (zs (((s.M.filter okT).take (topN q.k N.S.N.n)).map triC))).length=3+(flat (zs (((s.M.filter okT).take (topN q.k N.S.N.n)).map triC))).length:=by
   unfold topZ;simp only [List.length_cons];omega
  dsimp only
  rw [e]
  have hm:topN q.k N.S.N.n=(max 1 (min q.k t)).toNat:=by
   unfold topN;omega
  have hk:min (topN q.k N.S.N.n) (s.M.filter okT).length≤topN q.k N.S.N.n:=Nat.min_le_left _ _
  generalize (flat (zs (((s.M.filter okT).take (topN q.k N.S.N.n)).map triC))).length=fl at *
  generalize min (topN q.k N.S.N.n) (s.M.filter okT).length=mn at *
  omega
 ·rw [if_neg h4]
  rcases hop with h | h | h | h
  ·rw [if_pos h,if_neg (by omega),if_neg (by omega),zaY,zaP];omega
  ·rw [if_neg (by omega),if_pos h,if_neg (by omega),if_neg (by omega),zaY,zaP];omega
  ·rw [if_neg (by omega),if_neg (by omega),if_pos h,if_pos h,zaY,zb7];omega
  ·exact absurd h h4
theorem zjq {w:World} {N:LmN} {s:LmS} {q:Req} {now held m:Int} {n:Nat} (hn:n≤8) (hq:okQ (n:Int) q) (h:LmAt w N s) (hI:LmI N s (min now 4611686018427387904) m) (hb:LmB N) (hm:m+2097153≤576460752303423488) (hh:0≤held∧held≤9223372036854775807):byt (ansQ N now held s q):=by
 have hr:=hq.1
 unfold rightP at hr
 unfold ansQ
 split
 ·exact zaW (ans_byt (Or.inl rfl) (hI.check_p hb hm _ hh).1)
 ·split
  ·exact zaW (ans_byt (Or.inr rfl) (hI.peek_p hb _ hh).1)
  ·split
   ·exact zaW (zfN (by omega))
   ·refine zaW (zfM (by omega) ?_ (zdS (fun x hx=>h.tracked.1 x (List.mem_of_mem_take hx))))
    rw [za1,List.length_map,List.length_take]
    have h1:=zd2 q.k h.tracked.2.2.1
    have h2:=h.tracked.2.2.2
    omega
def HoZ.ans (rs:List RuZ) (Ns:List LmN) (h:HoZ) (q:Req):List Int :=
 match rs[q.rule.toNat]?,Ns[q.rule.toNat]?,h.Ss[q.rule.toNat]? with
 | some r,some N,some σ=>ansF N h.c.now (h.c.held r.W) σ q
 | _,_,_=>[]
def HoZ.nx (rs:List RuZ) (Ns:List LmN) (h:HoZ) (q:Req):HoZ :=
 match rs[q.rule.toNat]?,Ns[q.rule.toNat]?,h.Ss[q.rule.toNat]? with
 | some r,some N,some σ=>⟨h.c,h.Ss.set q.rule.toNat (nxQ N h.c.now (h.c.held r.W) σ q),h.evs++mkE (q.rule.toNat:Int) h.c.now (evQ N h.c.now (h.c.held r.W) σ q)⟩
 | _,_,_=>h
structure HoZ.bud (Ns:List LmN) (h:HoZ) (n:Nat):Prop where
 now:0≤h.c.now∧h.c.now≤9223372036854775807
 first:0≤h.c.first∧h.c.first≤9223372036854775807
 evs:h.evs.length+2*n≤1000000
 lm:∃ m:Int,m+n*2097153≤576460752303423488∧∀ (i:Nat) N σ,Ns[i]?=some N→h.Ss[i]?=some σ→LmI N σ (min h.c.now 4611686018427387904) m
theorem SvC.held_bd {c:SvC} (W:Int) (hn:0≤c.now):0≤c.held W∧c.held W≤9223372036854775807:=by
 unfold SvC.held clamp
 split
 ·split <;> (try split) <;> omega
 ·omega
theorem zlh (N:LmN) (now held:Int) (s:LmS) (q:Req):(evQ N now held s q).length≤2:=by
 unfold evQ
 split
 ·exact zd6 _ _ _ _ _ _
 ·simp
theorem LmI.nxQ {N:LmN} {s:LmS} {now held m:Int} (h:LmI N s (min now 4611686018427387904) m) (hm:m+2097153≤576460752303423488) (hh:0≤held) (q:Req):LmI N (nxQ N now held s q) (min now 4611686018427387904) (m+2097153):=by
 have hmm:=h.m
 unfold Go.Proofs.YtambcbbekoehiaaGreat.nxQ
 split
 ·exact h.check_any hm hh _
 ·split
  ·exact (h.peek_any hh).mono ⟨Int.le_refl _,h.t0.2⟩ (by omega)
  ·exact h.mono ⟨Int.le_refl _,h.t0.2⟩ (by omega)
theorem HoZ.bud_nx {rs:List RuZ} {Ns:List LmN} {h:HoZ} {n:Nat} (q:Req) (hb:h.bud Ns (n+1)):(h.nx rs Ns q).bud Ns n:=by
 obtain ⟨b1,b2,b3,m,b4,b5⟩:=hb
 unfold HoZ.nx
 split
 ·rename_i r N σ hr hN hσ
  refine ⟨b1,b2,?_,m+2097153,by omega,fun i M t hM ht=>?_⟩
  ·show (h.evs++_).length+_≤_
   rw [List.length_append,zfg]
   have:=zlh N h.c.now (h.c.held r.W) σ q
   omega
  ·dsimp only at ht ⊢
   by_cases e:i=q.rule.toNat
   ·subst e
    have hl:=(List.getElem?_eq_some_iff.1 hσ).1
    rw [List.getElem?_set_self hl] at ht
    injection ht with ht
    rw [hN] at hM
    injection hM with hM
    rw [← ht,← hM]
    exact (b5 _ _ _ hN hσ).nxQ (by omega) (SvC.held_bd _ b1.1).1 q
   ·rw [List.getElem?_set_ne (Ne.symm e)] at ht
    have h1:=b5 i M t hM ht
    exact h1.mono ⟨Int.le_refl _,h1.t0.2⟩ ⟨by omega,by omega⟩
 ·exact ⟨b1,b2,by omega,m,by omega,b5⟩
theorem HoZ.bud_le {Ns:List LmN} {h:HoZ} {n:Nat} (hb:h.bud Ns (n+1)):h.bud Ns n:=by
 obtain ⟨b1,b2,b3,m,b4,b5⟩:=hb
 exact ⟨b1,b2,by omega,m,by omega,b5⟩
noncomputable def hostS (base s B On:Nat) (rs:List RuZ) (Ns:List LmN) (hn:HoN rs Ns):HostC where
 S:=HoZ
 L:=Value
 T:=31
 pv:=.pointer (some ⟨s,0,none⟩)
 fM:=240
 fA:=239
 fS:=0
 wit:=false
 rules:=(rs.length:Int)
 At:=fun w h v=>HoAt w base s B rs Ns On h v
 F:=fun v k=>hoF s Ns v k
 most:=fun q=>match rs[q.rule.toNat]? with
  | some r=>largeZ q r.Tr
  | none=>0
 ans:=fun h q=>h.ans rs Ns q
 nx1:=fun h q=>h.nx rs Ns q
 nxt:=fun h q=>h.nx rs Ns q
 mM:=fun f w=>by kernel_rfl
 mA:=fun f w=>by kernel_rfl
 mS:=fun h=>by cases h
 eM:=fun args w=>by kernel_rfl
 eA:=fun args w=>by kernel_rfl
 eS:=fun h=>by cases h
 tA:=fun w=>run_typeAssert_lacksB Tryz.underlying318 (by kernel_rfl) (by kernel_rfl) _ _ w
 fr:=fun h hf hF=>h.fr hf hF
 lt:=fun h hk=>h.lt hk
 bud:=fun h n=>h.bud Ns n
 bud_le:=fun h=>HoZ.bud_le h
 bud_nxt:=fun q h=>HoZ.bud_nx q h
 same:=fun _ _ _=>rfl
 cM:=fun w h v q H hq=>by
  obtain ⟨i,hi,hl⟩:=zdR hq
  have ei:q.rule.toNat=i:=by omega
  obtain ⟨r,hr⟩:∃ r,rs[i]?=some r:=⟨_,List.getElem?_eq_getElem hl⟩
  obtain ⟨N,hN⟩:∃ N,Ns[i]?=some N:=⟨_,List.getElem?_eq_getElem (by rw [hn.nl];exact hl)⟩
  rw [ei,hr]
  exact zhm (c:={ h.c with nt:=v }) q i r N hi hr hN ⟨H.ok.o,H.ok.m,H.ok.on,H.ok.l,H.ok.p,H.ok.R⟩ H.cJ hq w H.sv
 cA:=fun w h v q H hbu hq=>by
  obtain ⟨i,hi,hl⟩:=zdR hq
  have ei:q.rule.toNat=i:=by omega
  obtain ⟨r,hr⟩:∃ r,rs[i]?=some r:=⟨_,List.getElem?_eq_getElem hl⟩
  obtain ⟨N,hN⟩:∃ N,Ns[i]?=some N:=⟨_,List.getElem?_eq_getElem (by rw [hn.nl];exact hl)⟩
  obtain ⟨σ,hσ⟩:∃ σ,h.Ss[i]?=some σ:=⟨_,List.getElem?_eq_getElem (by rw [← H.J.ln,hn.nl];exact hl)⟩
  obtain ⟨b1,b2,b3,m,b4,b5⟩:=hbu
  have hI:=b5 i N σ hN hσ
  have hL:=H.J.at_ i N σ hN hσ
  have ea:h.ans rs Ns q=ansQ N h.c.now (h.c.held r.W) σ q:=by
   unfold HoZ.ans
   rw [ei,hr,hN,hσ]
   exact zk9 hL _ _ _
  have en:h.nx rs Ns q=⟨h.c,h.Ss.set i (nxQ N h.c.now (h.c.held r.W) σ q),h.evs++mkE (i:Int) h.c.now (evQ N h.c.now (h.c.held r.W) σ q)⟩:=by
   unfold HoZ.nx
   rw [ei,hr,hN,hσ]
  rw [ea,en]
  refine (zeM q i r N σ m hi hr hN hσ hq hI (hn.B i N hN) (by omega) (by omega) b1 b2 w H).mono (fun e w' ⟨v1,vr,h1,h2,h3,h4,h5⟩=>?_)
  obtain ⟨A,c,h6,h7,h8⟩:=h2.rd (zjq hn.l hq hL hI (hn.B i N hN) (by omega) (SvC.held_bd _ b1.1))
  refine ⟨A,_,c,v1,by rw [h1,h6],h7,fun b off h0 hA=>?_,h3,h4,fun k hk=>?_⟩
  ·obtain ⟨g,h9,h10⟩:=h8 h0
   have h11:=(h2.lt g h10).1
   rw [hA] at h9
   injection h9 with h9
   injection h9 with h9
   omega
  ·rcases hk with hk | hk | hk
   ·exact Or.inl (Or.inl hk)
   ·exact Or.inl (Or.inr (Or.inl hk))
   ·rcases h5 k hk with h9 | h9
    ·exact Or.inl (Or.inr (Or.inr h9))
    ·exact Or.inr h9
 cS:=fun h=>by cases h
 len:=fun h q hq=>by
  obtain ⟨i,hi,hl⟩:=zdR hq
  have ei:q.rule.toNat=i:=by omega
  obtain ⟨r,hr⟩:∃ r,rs[i]?=some r:=⟨_,List.getElem?_eq_getElem hl⟩
  have hrp:=hn.p r (List.mem_of_getElem? hr)
  unfold RuZ.p ruleP at hrp
  have h0:0≤largeZ q r.Tr:=by unfold largeZ;split;omega;split <;> omega
  unfold HoZ.ans
  rw [ei,hr]
  cases hN:Ns[i]? with
  | none=>exact h0
  | some N =>
   cases hσ:h.Ss[i]? with
   | none=>exact h0
   | some σ=>exact zjp hq (hn.T i r N hr hN) (by omega)
end
section
open Go.ChangeShapes Go.WideShapes Go.ChangeAt Go.RowKit
abbrev stepQ (a b:Int) (A3:Option Addr) (n3 c3:Nat) (A4:Option Addr) (n4 c4:Nat):Value:=.agg #[.int .i64 a,.int .i64 b,.slice A3 n3 c3,.slice A4 n4 c4]
section
variable {w w' W:World} {s base B On:Nat} {c c':SvC} {K:CnN} {σ:CnS} {rs:List RuZ} {Ns:List LmN}
theorem zhp (ck cn n:Int) (m:Nat) (dat sed sp:Value) (hm:(m:Int)=max 0 (min n (σ.out.length:Int))) (w:World) (h:CnAt w K σ) (ho:σ.op=true) :
  Calls Tryz.prog 74 #[sp,.pointer (some ⟨K.c,0,none⟩),actV 3 ck cn dat n sed] w fun e w'=>∃ g,e=.returned (stepQ 0 0 (some ⟨g,0,none⟩) m m none 0 0)∧Blk w' g 5 (obbyC (σ.out.take m))∧CnAt w' K ⟨σ.z,σ.err,σ.out.drop m,σ.op⟩∧Fr K.F w w'∧w.heap.size≤g:=by
 obtain ⟨w1,hw1,k1,b1,s1⟩:=zad w (actC 3 ck cn dat n sed) 64
 obtain ⟨w2,hw2,k2,b2,s2⟩:=zad w1 #[.int .i64 0,.int .i64 0,.slice none 0 0,.slice none 0 0] 68
 have HLT:=zhz (show (∀ b,K.F b→b<w.heap.size) from h.lt)
 have H2:=zhz ((h.keep b1).keep b2)
 have B2:=zhz (show Below w.heap.size w w2 from b1.trans (b2.mono b1.size))
 obtain ⟨ab,hab⟩:=zeq (w.heap.size)
 obtain ⟨rb,hrb⟩:=zeq (w1.heap.size)
 rw [← hab] at k1
 rw [← hrb] at k2
 have K2:=zhz k2
 have HA:=zhz hab
 have HR:=zhz hrb
 have HSZ:=zhz (show w.heap.size≤rb∧rb<w2.heap.size from by rw [hrb];exact ⟨b1.size,by rw [s2];omega⟩)
 have kr:=(k1.keep b2).rd
 have CO:=zhz (show Calls Tryz.prog 108 #[.pointer (some ⟨K.c,0,none⟩)] w2 (fun e w'=>e=.returned (.bool true)∧w2=w') from by have:=zaI w2 H2.out;rw [ho] at this;exact this)
 have CD:=zhz (zgG n m w2 H2.out ho hm)
 have NRB:=zhz (show ¬ K.F rb from fun hb=>by have h1:=HLT.out rb hb;have h2:=HSZ.out.1;omega)
 clear h k1 k2 b1 b2 s1 s2 hm ho
 go_enter Tryz.func74,Tryz.ntmps74
 go_upto_region 1 with (fail)
 rw [← HR.out,← HA.out]
 clear hw1 hw2 hab hrb
 go_wp2_with (first
  | (go_at_call 108;((with_reducible refine CO.out.mono ?_);rintro e w3 ⟨rfl,rfl⟩))
  | (go_at_call 109;((with_reducible refine CD.out.mono ?_);rintro e w4 ⟨g,rfl,g4,h4,f4,l4⟩;have H4:=zhz (And.intro g4 (And.intro h4 (And.intro f4 l4)));have K4:=zhz (K2.out.fr f4 NRB.out);have kz:=K4.out.rd;have kzw:=K4.out.wr;clear g4 h4 f4 l4)))
 rw [zak K4.out]
 have fe:=Fr.setObj (F:=fun k=>k=rb) (Fr.refl _ w4) rfl (.cells #[.int .i64 0,.int .i64 0,.slice (some ⟨g,0,none⟩) m m,.slice none 0 0] 68 (0,0))
 obtain ⟨g4,h4,f4,l4⟩:=H4.out
 refine bodyPost_ret (results_cell_row rfl _ _ rb _ _ (0,0) _ rfl (zab (lt_of_block K4.out) _) Tryz.underlying68 rfl (by kernel_rfl)) rfl ?_
 refine ⟨g,rfl,g4.fr fe (fun e=>by have:=HSZ.out;omega),h4.fr fe (fun b hb e=>by have h1:=HLT.out b hb;have h2:=HSZ.out.1;omega),?_,by have:=B2.out.size;omega⟩
 exact Fr.drop_new (F:=K.F) (s:=rb) (((Fr.of_below B2.out).mono (fun k (hk:False)=>hk.elim)).trans ((f4.mono (fun k hk=>Or.inl hk)).trans (fe.mono (fun k hk=>Or.inr hk)))) HSZ.out.1
theorem zho {hn:HoN rs Ns} {h0:HoZ} {v:Value} (ck cn n:Int) (A:Option Addr) (na ca:Nat) (zs:List Int) (sed:Value) (w:World) (h:CH (hostS base s B On rs Ns hn) w K σ h0 v) (hr:(rs.length:Int)=K.rules) (hbud:h0.bud Ns na) (ho:σ.op=true) (hz:RdI w .u8 A na ca zs) (hap:∀ b off,0<na→A=some ⟨b,off,none⟩→¬ K.F b∧¬ hoF s Ns v b) :
  Calls Tryz.prog 74 #[.pointer (some ⟨s,0,none⟩),.pointer (some ⟨K.c,0,none⟩),actV 2 ck cn (.slice A na ca) n sed] w fun e w'=>∃ A4 n4 c4,e=.returned (stepQ 0 ((acceptC (hostS base s B On rs Ns hn) K σ h0 zs).1:Int) none 0 0 A4 n4 c4)∧CH (hostS base s B On rs Ns hn) w' K (acceptC (hostS base s B On rs Ns hn) K σ h0 zs).2.1 (acceptC (hostS base s B On rs Ns hn) K σ h0 zs).2.2.1 (.slice A4 n4 c4)∧Fr (fun k=>K.F k∨hoF s Ns v k) w w'∧(∀ k,hoF s Ns (.slice A4 n4 c4) k→hoF s Ns v k∨w.heap.size≤k):=by
 obtain ⟨w1,hw1,k1,b1,s1⟩:=zad w (actC 2 ck cn (.slice A na ca) n sed) 64
 obtain ⟨w2,hw2,k2,b2,s2⟩:=zad w1 #[.int .i64 0,.int .i64 0,.slice none 0 0,.slice none 0 0] 68
 have HLT:=zhz (show (∀ b,K.F b∨hoF s Ns v b→b<w.heap.size) from fun b hb=>by
  rcases hb with hb | hb
  ·exact h.c.lt b hb
  ·exact HoAt.lt h.h hb)
 have B2:=zhz (show Below w.heap.size w w2 from b1.trans (b2.mono b1.size))
 have H2:=zhz (h.keep B2.out)
 obtain ⟨ab,hab⟩:=zeq (w.heap.size)
 obtain ⟨rb,hrb⟩:=zeq (w1.heap.size)
 rw [← hab] at k1
 rw [← hrb] at k2
 have K2:=zhz k2
 have HA:=zhz hab
 have HR:=zhz hrb
 have HSZ:=zhz (show w.heap.size≤rb∧rb<w2.heap.size from by rw [hrb];exact ⟨b1.size,by rw [s2];omega⟩)
 have kr:=(k1.keep b2).rd
 have CO:=zhz (show Calls Tryz.prog 108 #[.pointer (some ⟨K.c,0,none⟩)] w2 (fun e w'=>e=.returned (.bool true)∧w2=w') from by have:=zaI w2 H2.out.c;rw [ho] at this;exact this)
 obtain ⟨R,hR⟩:=zeq (acceptC (hostS base s B On rs Ns hn) K σ h0 zs)
 have CA:=zhz (show Calls Tryz.prog 110 #[.pointer (some ⟨K.c,0,none⟩),.slice A na ca,.iface 31 (.pointer (some ⟨s,0,none⟩))] w2 (fun e w'=>∃ l',e=.returned (.int .i64 (R.1:Int))∧CH (hostS base s B On rs Ns hn) w' K R.2.1 R.2.2.1 l'∧Fr (fun k=>K.F k∨hoF s Ns v k) w2 w'∧(∀ k,hoF s Ns l' k→hoF s Ns v k∨w2.heap.size≤k)) from by
  rw [hR]
  exact zeX (H:=hostS base s B On rs Ns hn) (Kn:=K) A na ca zs w2 h0 v H2.out hr hbud ho (hz.below B2.out) (fun b off hn e=>hap b off hn e))
 rw [← hR]
 have NRB:=zhz (show ¬ (K.F rb∨hoF s Ns v rb) from fun hb=>by have h1:=HLT.out rb hb;have h2:=HSZ.out.1;omega)
 clear h k1 k2 b1 b2 s1 s2 ho hR hz hap hbud hr
 go_enter Tryz.func74,Tryz.ntmps74
 go_upto_region 1 with (fail)
 rw [← HR.out,← HA.out]
 clear hw1 hw2 hab hrb
 go_wp2_with (first
  | (go_at_call 108;((with_reducible refine CO.out.mono ?_);rintro e w3 ⟨rfl,rfl⟩))
  | (go_at_call 110;((with_reducible refine CA.out.mono ?_);rintro e w4 ⟨v4,rfl,h4,f4,g4⟩;obtain ⟨A4,c4,rfl,_,_,_⟩:=OwR.slice (show OwE w4 B v4 _ from h4.h.ev);have H4:=zhz (And.intro h4 (And.intro f4 g4));have K4:=zhz (K2.out.fr f4 NRB.out);have kz:=K4.out.rd;have kzw:=K4.out.wr;have kN:=(show Sv w4 s _ from h4.h.sv).cN;clear h4 f4 g4)))
 rw [zak K4.out]
 have fe:=Fr.setObj (F:=fun k=>k=rb) (Fr.refl _ w4) rfl (.cells #[.int .i64 0,.int .i64 (R.1:Int),.slice none 0 0,.slice A4 R.2.2.1.evs.length c4] 68 (0,0))
 obtain ⟨h4,f4,g4⟩:=H4.out
 refine bodyPost_ret (results_cell_row rfl _ _ rb _ _ (0,0) _ rfl (zab (lt_of_block K4.out) _) Tryz.underlying68 rfl (by kernel_rfl)) rfl ?_
 refine ⟨_,_,_,rfl,⟨h4.c.fr fe (fun b hb e=>by have h1:=HLT.out b (Or.inl hb);have h2:=HSZ.out.1;omega),HoAt.fr h4.h fe (fun k hk e=>?_),h4.ap⟩,?_,fun k hk=>?_⟩
 ·rcases g4 k hk with h1 | h1
  ·have h1:=HLT.out k (Or.inr h1);have h2:=HSZ.out.1;omega
  ·have h2:=HSZ.out.2;omega
 ·exact Fr.drop_new (F:=fun k=>K.F k∨hoF s Ns v k) (s:=rb) (((Fr.of_below B2.out).mono (fun k (hk:False)=>hk.elim)).trans ((f4.mono (fun k hk=>Or.inl hk)).trans (fe.mono (fun k hk=>Or.inr hk)))) HSZ.out.1
 ·rcases g4 k hk with h1 | h1
  ·exact Or.inl h1
  ·exact Or.inr (Nat.le_trans B2.out.size h1)
end
end
section
open Go.ChangeShapes Go.WideShapes Go.ChangeAt Go.RowKit
section
variable {w w' W:World} {s base B On:Nat} {c c':SvC} {K:CnN} {σ:CnS} {rs:List RuZ} {Ns:List LmN}
theorem zgz (kd ck cn n:Int) (dat sed:Value) (hk4:kd≠4) (w:World) (h:Sv w s c) (cE:SvC) (G:Nat→Prop) (hG:∀ k,G k→k<w.heap.size) (Q:World→World→Int→Int→Option Addr→Nat→Nat→Option Addr→Nat→Nat→Prop)
  (hcn:∀ wx c',Sv wx s c'→c'.K=c.K→Calls Tryz.prog 43 #[.pointer (some ⟨s,0,none⟩),.int .i64 cn] wx fun e w'=>e=.returned (.pointer (some ⟨K.c,0,none⟩))∧wx=w')
  (hon:∀ wx,Sv wx s (({ c with ac:=true }:SvC).read ck)→Fr (fun k=>k=s) w wx→Calls Tryz.prog 74 #[.pointer (some ⟨s,0,none⟩),.pointer (some ⟨K.c,0,none⟩),actV kd ck cn dat n sed] wx fun e w'=>∃ a b A3 n3 c3 A4 n4 c4,e=.returned (stepQ a b A3 n3 c3 A4 n4 c4)∧(∃ c1,Sv w' s c1∧c1.end=cE)∧Fr G wx w'∧Q wx w' a b A3 n3 c3 A4 n4 c4) :
  Calls Tryz.prog 30 #[.pointer (some ⟨s,0,none⟩),actV kd ck cn dat n sed] w fun e w'=>∃ wx w6 rb a b A3 n3 c3 A4 n4 c4,e=.returned (stepQ a b A3 n3 c3 A4 n4 c4)∧Fr (fun k=>k=s) w wx∧(w.heap.size≤rb∧rb<wx.heap.size)∧Fr G wx w6∧Q wx w6 a b A3 n3 c3 A4 n4 c4∧Sv w' s cE∧Fr (fun k=>k=s∨k=rb) w6 w':=by
 obtain ⟨w1,hw1,k1,b1,s1⟩:=zad w (actC kd ck cn dat n sed) 64
 obtain ⟨w2,hw2,k2,b2,s2⟩:=zad w1 #[.int .i64 0,.int .i64 0,.slice none 0 0,.slice none 0 0] 68
 have HLT:=zhz (show (∀ b,G b→b<w.heap.size)∧s<w.heap.size from ⟨hG,h.lt⟩)
 obtain ⟨ab,hab⟩:=zeq (w.heap.size)
 obtain ⟨rb,hrb⟩:=zeq (w1.heap.size)
 rw [← hab] at k1
 rw [← hrb] at k2
 have HA:=zhz hab
 have HR:=zhz hrb
 have HSZ:=zhz (show w.heap.size≤ab∧ab<rb∧rb<w2.heap.size from by rw [hrb,hab,s2,s1];omega)
 obtain ⟨w3,e3,h3,f3⟩:=((h.keep b1).keep b2).setAc true
 have H3:=zhz h3
 have F3:=zhz (show Fr (fun k=>k=s) w w3 from ((Fr.of_below (show Below w.heap.size w w2 from b1.trans (b2.mono b1.size))).mono (fun k (hk:False)=>hk.elim)).trans f3)
 have K1:=zhz ((k1.keep b2).fr f3 (fun e=>by have h1:=HLT.out.2;have h2:=HSZ.out;omega))
 have K2:=zhz (k2.fr f3 (fun e=>by have h1:=HLT.out.2;have h2:=HSZ.out;omega))
 have kA:=((h.keep b1).keep b2).cA
 have kw:=((h.keep b1).keep b2).wr
 have kr:=K1.out.rd
 have u4:(kd==4)=false:=by simpa using hk4
 have HCN:=zhz hcn
 have HON:=zhz hon
 have HZ3:=zhz f3.size
 clear h k1 k2 b1 b2 s1 s2 h3 f3 hcn hk4 hon hG
 go_enter_defers Tryz.func30,Tryz.ntmps30
 go_upto_region 1 with (fail)
 rw [← HR.out,← HA.out]
 clear hw1 hab hrb
 go_upto_region 10 with (fail)
 try rw [e3]
 clear hw2 e3 kA kw u4 kr
 have N0:=zhz (show Below w3.heap.size w3 w3.drew from zaa (Below.refl _ _) 1)
 have CRd:=zhz (fun wx (hx:Sv wx s { c with ac:=true })=>zdt ck wx hx)
 have st:=(K1.out.keep N0.out).rd
 refine wp_region_held_drew (S:=fun wx=>∀ j,wx.cell? ⟨ab,j,none⟩=(actC kd ck cn dat n sed)[j]?) (by kernel_rfl) st (fun hHeld=>?_)
 clear st
 refine wR 0 ?_ (hQ:=by exact putD (fn:=Tryz.f30) rfl (by decide))
 refine wR 1 ?_ (hQ:=by exact putD (fn:=Tryz.f30) rfl (by decide))
 refine wR 2 ?_ (hQ:=by exact putD (fn:=Tryz.f30) rfl (by decide))
 refine wR 3 ?_ (hQ:=by exact putD (fn:=Tryz.f30) rfl (by decide))
 refine wR 4 ?_ (hQ:=by exact putD (fn:=Tryz.f30) rfl (by decide))
 refine wC 5 fun K hK=>?_
 go_simp
 ((with_reducible refine (CRd.out _ (H3.out.keep N0.out)).mono ?_);rintro v w4 ⟨rfl,h4,f4⟩;have H4:=zhz h4;have K4:=zhz ((K1.out.keep N0.out).fr f4 (fun e=>by have h1:=HLT.out.2;have h2:=HSZ.out;omega));have R4:=zhz ((K2.out.keep N0.out).fr f4 (fun e=>by have h1:=HLT.out.2;have h2:=HSZ.out;omega));have F4:=zhz (show Fr (fun k=>k=s) w w4 from F3.out.trans (((Fr.of_below N0.out).mono (fun k (hk:False)=>hk.elim)).trans f4));clear h4 f4)
 refine hK.out _ _ K4.out.rd fun hHeld=>?_
 clear hK K
 try simp only [Act.put,zs1,zs2,zs3]
 refine wpAnyH_done (by kernel_rfl) ?_ _
 clear hHeld CRd K1 K2
 have kr:=K4.out.rd
 have CCn:=zhz (HCN.out w4 _ H4.out rfl)
 have COn:=zhz (HON.out w4 H4.out F4.out)
 have RLT:=zhz (lt_of_block R4.out)
 go_wp2_with (first
  | (go_at_call 43;((with_reducible refine CCn.out.mono ?_);rintro v w5 ⟨rfl,rfl⟩))
  | (go_at_call 74;((with_reducible refine COn.out.mono ?_);rintro v w6 ⟨oa,ob,A3,n3,c3,A4,n4,c4,rfl,⟨c1,h6,e6⟩,f6,q6⟩;have F6:=zhz f6;have H6:=zhz h6;have E6:=zhz e6;have Q6:=zhz q6;have R6:=zhz (R4.out.fr f6 (fun hb=>by have h1:=HLT.out.1 rb hb;have h2:=HSZ.out;omega));have kz:=R6.out.rd;have kzw:=R6.out.wr;clear h6 e6 f6 q6)))
 rw [zak R6.out]
 have fe:=Fr.setObj (F:=fun k=>k=rb) (Fr.refl _ w6) rfl (.cells #[.int .i64 oa,.int .i64 ob,.slice A3 n3 c3,.slice A4 n4 c4] 68 (0,0))
 have k7:Blk (setObj w6 rb (.cells #[.int .i64 oa,.int .i64 ob,.slice A3 n3 c3,.slice A4 n4 c4] 68 (0,0))) rb 68 #[.int .i64 oa,.int .i64 ob,.slice A3 n3 c3,.slice A4 n4 c4]:=zab (lt_of_block R6.out) _
 generalize setObj w6 rb (.cells #[.int .i64 oa,.int .i64 ob,.slice A3 n3 c3,.slice A4 n4 c4] 68 (0,0))=w7 at fe k7 ⊢
 have H7:=H6.out.fr fe (fun e=>by have h1:=HLT.out.2;have h2:=HSZ.out;omega)
 refine leaves_cons (f:=70) (args:=#[.pointer (some ⟨s,0,none⟩)]) (by simp) (by simp [go_sem]) ?_
 refine (zds .returning _ H7).mono ?_
 rintro e u' w8 ⟨rfl,rfl,h8,f8⟩
 refine ⟨_,results_cell_row rfl _ _ rb _ _ (0,0) _ rfl (Blk.fr k7 f8 (fun e=>by have h1:=HLT.out.2;have h2:=HSZ.out;omega)) Tryz.underlying68 rfl (by kernel_rfl),w4,w6,rb,oa,ob,A3,n3,c3,A4,n4,c4,rfl,F4.out,⟨by have h2:=HSZ.out;omega,RLT.out⟩,F6.out,Q6.out,by rw [← E6.out];exact h8,?_⟩
 exact (fe.mono (fun k hk=>Or.inr hk)).trans (f8.mono (fun k hk=>Or.inl hk))
end
end
section
open Go.ChangeShapes Go.WideShapes Go.ChangeAt Go.RowKit
section
variable {w w' W:World} {s base B On:Nat} {c c':SvC} {K:CnN} {σ:CnS} {rs:List RuZ} {Ns:List LmN} {Ss:List LmS} {Ks:List CnN} {σs:List CnS} {hn:HoN rs Ns}
noncomputable def accS (hn:HoN rs Ns) (K:CnN) (σ:CnS) (h:HoZ) (zs:List Int):Nat × CnS × HoZ × List Req:=acceptC (hostS 0 0 0 0 rs Ns hn) K σ h zs
noncomputable def comeS (hn:HoN rs Ns) (K:CnN) (σ:CnS) (h:HoZ) (x:Int):CnS × HoZ × List Req:=comeC (hostS 0 0 0 0 rs Ns hn) K σ h x
noncomputable def fitsS (hn:HoN rs Ns) (K:CnN) (σ:CnS) (x:Int):Bool:=fitsB (hostS 0 0 0 0 rs Ns hn) K σ x
theorem zeS {σ:CnS} {x:Int} (h:HoZ) (r:List Int) (hf:fitsS hn K σ x=false):accS hn K σ h (x :: r)=(0,σ,h,[]):=zbw hf
theorem zbG {σ:CnS} {x:Int} (h:HoZ) (r:List Int) (hf:fitsS hn K σ x=true):accS hn K σ h (x :: r)=((accS hn K (comeS hn K σ h x).1 (comeS hn K σ h x).2.1 r).1+1,(accS hn K (comeS hn K σ h x).1 (comeS hn K σ h x).2.1 r).2.1,(accS hn K (comeS hn K σ h x).1 (comeS hn K σ h x).2.1 r).2.2.1,(comeS hn K σ h x).2.2++(accS hn K (comeS hn K σ h x).1 (comeS hn K σ h x).2.1 r).2.2.2):=zbv hf
theorem zhv:∀ (zs:List Int) (σ:CnS) (h:HoZ),(acceptC (hostS base s B On rs Ns hn) K σ h zs:Nat × CnS × HoZ × List Req)=accS hn K σ h zs
 | [],_,_=>rfl
 | x :: r,σ,h=>by
  cases hf:fitsS hn K σ x with
  | false=>exact (zbw (H:=hostS base s B On rs Ns hn) (s:=h) (r:=r) hf).trans (zeS h r hf).symm
  | true =>
   have e:=zhv r (comeS hn K σ h x).1 (comeS hn K σ h x).2.1
   refine (zbv (H:=hostS base s B On rs Ns hn) (s:=h) (r:=r) hf).trans (Eq.trans ?_ (zbG h r hf).symm)
   exact congrArg (fun p:Nat × CnS × HoZ × List Req=>(p.1+1,p.2.1,p.2.2.1,(comeS hn K σ h x).2.2++p.2.2.2)) e
theorem zfY (h:HoZ) (x:Int):(comeS hn K σ h x).2.1=h∨(comeS hn K σ h x).2.1=h.nx rs Ns (parseZ (σ.z++[x]) K.rules).1:=by
 unfold comeS comeC
 split
 ·exact Or.inl rfl
 ·split
  ·exact Or.inr rfl
  ·exact Or.inl rfl
theorem nx_c (h:HoZ) (q:Req):(h.nx rs Ns q).c=h.c∧(h.nx rs Ns q).Ss.length=h.Ss.length:=by
 unfold HoZ.nx
 split
 ·exact ⟨rfl,by rw [List.length_set]⟩
 ·exact ⟨rfl,rfl⟩
theorem zk5:∀ (zs:List Int) (σ:CnS) (h:HoZ),(accS hn K σ h zs).2.2.1.c=h.c∧(accS hn K σ h zs).2.2.1.Ss.length=h.Ss.length∧(accS hn K σ h zs).2.1.op=σ.op∧(accS hn K σ h zs).1≤zs.length
 | [],_,_=>⟨rfl,rfl,rfl,Nat.le_refl _⟩
 | x :: r,σ,h=>by
  cases hf:fitsS hn K σ x with
  | false=>rw [zeS h r hf];exact ⟨rfl,rfl,rfl,Nat.zero_le _⟩
  | true =>
   rw [zbG h r hf]
   obtain ⟨e1,e2,e3,e4⟩:=zk5 r (comeS hn K σ h x).1 (comeS hn K σ h x).2.1
   dsimp only
   have e5:(comeS hn K σ h x).1.op=σ.op:=zlb (H:=hostS 0 0 0 0 rs Ns hn) h x
   refine ⟨?_,?_,by rw [e3,e5],by rw [List.length_cons];omega⟩
   ·rw [e1]
    rcases zfY (hn:=hn) (K:=K) (σ:=σ) h x with e | e
    ·rw [e]
    ·rw [e,(nx_c h _).1]
   ·rw [e2]
    rcases zfY (hn:=hn) (K:=K) (σ:=σ) h x with e | e
    ·rw [e]
    ·rw [e,(nx_c h _).2]
def chF (s:Nat) (Ns:List LmN) (K:CnN) (b:Nat):Prop:=K.F b∨b=s∨∃ (i:Nat) (N:LmN),Ns[i]?=some N∧N.all b
theorem zgh {s:Nat} {Ns:List LmN} {k:Nat} (h:hoF s Ns (.slice none 0 0) k):k=s∨∃ (i:Nat) (N:LmN),Ns[i]?=some N∧N.all k:=by
 rcases h with h | h | h
 ·exact Or.inl h
 ·exact Or.inr h
 ·cases h
theorem zhj (hn:HoN rs Ns) (ck n:Int) (k:Nat) (A:Option Addr) (na ca:Nat) (zs:List Int) (sed:Value) (w:World) (h:SvAt w base s c Ns Ss Ks σs) (hok:SvOk c rs On) (hnt:c.nt=.slice none 0 0) (hk16:k<16) (hK:Ks[k]?=some K) (hσ:σs[k]?=some σ) (hr:(rs.length:Int)=K.rules) (ho:σ.op=true)
  (hbud:HoZ.bud Ns ⟨({ c with ac:=true }:SvC).read ck,Ss,[]⟩ na) (hz:RdI w .u8 A na ca zs) (hap:∀ b off,0<na→A=some ⟨b,off,none⟩→¬ chF s Ns K b) :
  Calls Tryz.prog 30 #[.pointer (some ⟨s,0,none⟩),actV 2 ck (k:Int) (.slice A na ca) n sed] w fun e w'=>∃ A4 c4,e=.returned (stepQ 0 ((accS hn K σ ⟨({ c with ac:=true }:SvC).read ck,Ss,[]⟩ zs).1:Int) none 0 0 A4 (accS hn K σ ⟨({ c with ac:=true }:SvC).read ck,Ss,[]⟩ zs).2.2.1.evs.length c4) ∧
   SvAt w' base s (c.read ck).end Ns (accS hn K σ ⟨({ c with ac:=true }:SvC).read ck,Ss,[]⟩ zs).2.2.1.Ss Ks (σs.set k (accS hn K σ ⟨({ c with ac:=true }:SvC).read ck,Ss,[]⟩ zs).2.1) ∧
   OwE w' w.heap.size (.slice A4 (accS hn K σ ⟨({ c with ac:=true }:SvC).read ck,Ss,[]⟩ zs).2.2.1.evs.length c4) (accS hn K σ ⟨({ c with ac:=true }:SvC).read ck,Ss,[]⟩ zs).2.2.1.evs∧Fr (chF s Ns K) w w':=by
 obtain ⟨R,hR⟩:∃ R,R=accS hn K σ ⟨({ c with ac:=true }:SvC).read ck,Ss,[]⟩ zs:=⟨_,rfl⟩
 have hc:=(zk5 (hn:=hn) (K:=K) zs σ ⟨({ c with ac:=true }:SvC).read ck,Ss,[]⟩).1
 rw [← hR] at hc ⊢
 have hKlt:∀ b,K.F b→b<w.heap.size:=fun b hb=>h.K.lt hK b hb
 have hJlt:∀ (i:Nat) N,Ns[i]?=some N→∀ b,N.all b→b<w.heap.size:=fun i N hN b hb=>h.J.lt hN b hb
 have hslt:=h.sv.lt
 refine (zgz (K:=K) 2 ck (k:Int) n (.slice A na ca) sed (by decide) w h.sv (c.read ck).end (fun b=>K.F b∨hoF s Ns (.slice none 0 0) b) (fun b hb=>?_)
   (fun wx wz a b A3 n3 c3 A4 n4 c4=>a=0∧b=(R.1:Int)∧(A3=none∧n3=0∧c3=0)∧n4=R.2.2.1.evs.length∧CH (hostS base s wx.heap.size On rs Ns hn) wz K R.2.1 R.2.2.1 (.slice A4 n4 c4))
   (zcS h hk16 hK) (fun wx hx hf=>?_)).mono ?_
 ·rcases hb with hb | hb
  ·exact hKlt b hb
  ·rcases zgh hb with rfl | ⟨i,N,hN,hb⟩
   ·exact hslt
   ·exact hJlt i N hN b hb
 ·have hAt:HoAt wx base s wx.heap.size rs Ns On ⟨({ c with ac:=true }:SvC).read ck,Ss,[]⟩ (.slice none 0 0):=by
   refine ⟨?_,h.J.fr hf (fun i N hN b hb e=>h.nJ i N hN (by rw [← e];exact hb)),OwR.nil,rfl,⟨hok.o,hok.m,hok.on,hok.l,hok.p,hok.R⟩,h.cJ,h.nJ,Nat.lt_of_lt_of_le hslt hf.size,fun i N hN b hb=>Nat.lt_of_lt_of_le (hJlt i N hN b hb) hf.size,Nat.le_refl _,hn.nl⟩
   have e:({ (({ c with ac:=true }:SvC).read ck) with nt:=.slice none 0 0 }:SvC)=({ c with ac:=true }:SvC).read ck:=by
    show _=({ c with ac:=true }:SvC).read ck
    unfold SvC.read
    rw [← hnt]
   dsimp only
   rw [e];exact hx
  have hCH:CH (hostS base s wx.heap.size On rs Ns hn) wx K σ ⟨({ c with ac:=true }:SvC).read ck,Ss,[]⟩ (.slice none 0 0):=by
   refine ⟨(h.K.at_ k K σ hK hσ).fr hf (fun b hb e=>h.nK k K hK (by rw [← e];exact hb)),hAt,fun b hb hh=>?_⟩
   rcases zgh hh with e | ⟨i,N,hN,hb2⟩
   ·rw [e] at hb;exact h.nK k K hK hb
   ·exact h.ap i k N K hN hK b hb2 hb
  refine (zho (B:=wx.heap.size) ck (k:Int) n A na ca zs sed wx hCH hr hbud ho (ziL hz hf (fun b off h0 hA e=>hap b off h0 hA (Or.inr (Or.inl e)))) (fun b off h0 hA=>⟨fun hh=>hap b off h0 hA (Or.inl hh),fun hh=>hap b off h0 hA (Or.inr (zgh hh))⟩)).mono (fun e w' ⟨A4,n4,c4,h1,h2,h3,h4⟩=>?_)
  rw [zhv,← hR] at h1
  have h2':CH (hostS base s wx.heap.size On rs Ns hn) w' K R.2.1 R.2.2.1 (.slice A4 n4 c4):=by rw [hR,← zhv (base:=base) (s:=s) (B:=wx.heap.size) (On:=On)];exact h2
  refine ⟨_,_,_,_,_,_,_,_,h1,⟨_,h2'.h.sv,?_⟩,h3,rfl,rfl,⟨rfl,rfl,rfl⟩,?_,h2'⟩
  ·rw [hc];rfl
  ·obtain ⟨A5,c5,h5,_⟩:=OwR.slice (show OwE w' wx.heap.size (.slice A4 n4 c4) R.2.2.1.evs from h2'.h.ev)
   injection h5
 ·rintro e w' ⟨wx,w6,rb,a,b,A3,n3,c3,A4,n4,c4,h1,f1,hrb,f2,⟨rfl,rfl,⟨rfl,rfl,rfl⟩,rfl,h2⟩,h3,f3⟩
  have hs1:=f1.size
  have hs2:=f2.size
  have FT:Fr (chF s Ns K) w w':=Fr.drop_new (F:=chF s Ns K) (s:=rb) ((f1.mono (fun b (e:b=s)=>Or.inl (Or.inr (Or.inl e)))).trans ((f2.mono (fun b hb=>by
   rcases hb with hb | hb
   ·exact Or.inl (Or.inl hb)
   ·exact Or.inl (Or.inr (zgh hb)))).trans (f3.mono (fun b hb=>by
   rcases hb with e | e
   ·exact Or.inl (Or.inr (Or.inl e))
   ·exact Or.inr e)))) hrb.1
  refine ⟨A4,c4,h1,⟨h3,?_,?_,h.cJ,h.cK,h.lo,h.nJ,h.nK,h.ap⟩,?_,FT⟩
  ·refine (show JdAt w6 base Ns R.2.2.1.Ss from h2.h.J).fr f3 (fun i N hN b hb e=>?_)
   rcases e with e | e
   ·rw [e] at hb;exact h.nJ i N hN hb
   ·have:=hJlt i N hN b hb;omega
  ·refine h.K.set hK (h2.c.fr f3 (fun b hb e=>?_)) FT (fun j M hj hM b hb e=>?_)
   ·rcases e with e | e
    ·rw [e] at hb;exact h.nK k K hK hb
    ·have:=hKlt b hb;omega
   ·rcases e with e | e | ⟨i,N,hN,e⟩
    ·exact h.K.ap j k M K hj hM hK b hb e
    ·rw [e] at hb;exact h.nK j M hM hb
    ·exact h.ap i j N M hN hM b e hb
  ·have h5:OwE w6 wx.heap.size (.slice A4 R.2.2.1.evs.length c4) R.2.2.1.evs:=h2.h.ev
   refine G.own_more (OwR.fr h5 f3 (fun g hg e=>?_)) hs1
   have h6:=OwR.base_le h5 g hg
   rcases e with e | e <;> omega
theorem zhk (ck n:Int) (k m:Nat) (dat sed:Value) (w:World) (h:SvAt w base s c Ns Ss Ks σs) (hk16:k<16) (hK:Ks[k]?=some K) (hσ:σs[k]?=some σ) (ho:σ.op=true) (hm:(m:Int)=max 0 (min n (σ.out.length:Int))) :
  Calls Tryz.prog 30 #[.pointer (some ⟨s,0,none⟩),actV 3 ck (k:Int) dat n sed] w fun e w'=>∃ g,e=.returned (stepQ 0 0 (some ⟨g,0,none⟩) m m none 0 0)∧Blk w' g 5 (obbyC (σ.out.take m)) ∧
   SvAt w' base s (c.read ck).end Ns Ss Ks (σs.set k ⟨σ.z,σ.err,σ.out.drop m,σ.op⟩)∧Fr (fun b=>K.F b∨b=s) w w'∧w.heap.size≤g:=by
 have hKlt:∀ b,K.F b→b<w.heap.size:=fun b hb=>h.K.lt hK b hb
 have hslt:=h.sv.lt
 refine (zgz (K:=K) 3 ck (k:Int) n dat sed (by decide) w h.sv (c.read ck).end K.F hKlt
   (fun wx wz a b A3 n3 c3 A4 n4 c4=>a=0∧b=0∧(∃ g,A3=some ⟨g,0,none⟩∧Blk wz g 5 (obbyC (σ.out.take m))∧wx.heap.size≤g)∧(n3=m∧c3=m)∧(A4=none∧n4=0∧c4=0)∧CnAt wz K ⟨σ.z,σ.err,σ.out.drop m,σ.op⟩)
   (zcS h hk16 hK) (fun wx hx hf=>?_)).mono ?_
 ·refine (zhp ck (k:Int) n m dat sed (.pointer (some ⟨s,0,none⟩)) hm wx ((h.K.at_ k K σ hK hσ).fr hf (fun b hb e=>h.nK k K hK (by rw [← e];exact hb))) ho).mono (fun e w' ⟨g,h1,h2,h3,h4,h5⟩=>?_)
  exact ⟨_,_,_,_,_,_,_,_,h1,⟨_,hx.fr h4 (h.nK k K hK),rfl⟩,h4,rfl,rfl,⟨g,rfl,h2,h5⟩,⟨rfl,rfl⟩,⟨rfl,rfl,rfl⟩,h3⟩
 ·rintro e w' ⟨wx,w6,rb,a,b,A3,n3,c3,A4,n4,c4,h1,f1,hrb,f2,⟨rfl,rfl,⟨g,rfl,h2,hg⟩,⟨rfl,rfl⟩,⟨rfl,rfl,rfl⟩,h4⟩,h3,f3⟩
  have hs1:=f1.size
  have FT:Fr (fun b=>K.F b∨b=s) w w':=Fr.drop_new (F:=fun b=>K.F b∨b=s) (s:=rb) ((f1.mono (fun b (e:b=s)=>Or.inl (Or.inr e))).trans ((f2.mono (fun b hb=>Or.inl (Or.inl hb))).trans (f3.mono (fun b hb=>by
   rcases hb with e | e
   ·exact Or.inl (Or.inr e)
   ·exact Or.inr e)))) hrb.1
  refine ⟨g,h1,h2.fr f3 (fun e=>by rcases e with e | e <;> omega),⟨h3,h.J.fr FT (fun i N hN b hb e=>?_),?_,h.cJ,h.cK,h.lo,h.nJ,h.nK,h.ap⟩,FT,by omega⟩
  ·rcases e with e | e
   ·exact h.ap i k N K hN hK b hb e
   ·rw [e] at hb;exact h.nJ i N hN hb
  ·refine h.K.set hK (h4.fr f3 (fun b hb e=>?_)) FT (fun j M hj hM b hb e=>?_)
   ·rcases e with e | e
    ·rw [e] at hb;exact h.nK k K hK hb
    ·have:=hKlt b hb;omega
   ·rcases e with e | e
    ·exact h.K.ap j k M K hj hM hK b hb e
    ·rw [e] at hb;exact h.nK j M hM hb
end
end
section
open Go.ChangeShapes Go.WideShapes Go.ChangeAt Go.RowKit
section
variable {w w' W:World} {s base B On:Nat} {c c':SvC} {K:CnN} {σ:CnS} {rs:List RuZ} {Ns:List LmN} {Ss:List LmS} {Ks:List CnN} {σs:List CnS} {hn:HoN rs Ns}
def mostS (rs:List RuZ) (q:Req):Int:=match rs[q.rule.toNat]? with
 | some r=>largeZ q r.Tr
 | none=>0
theorem zfQ (hn:HoN rs Ns) {q:Req} (hq:okQ K.rules q) (hK:K.rules≤256) {o:List Int} (ho:mostS rs q≤((K.size - o.length:Nat):Int)) (h:HoZ) (more:List Int):∀ (j i:Nat),i+j=(encZ q).length→0<j →
  accS hn K ⟨(encZ q).take i,0,o,true⟩ h ((encZ q).drop i++more)=(j+(accS hn K ⟨[],0,o++h.ans rs Ns q,true⟩ (h.nx rs Ns q) more).1,(accS hn K ⟨[],0,o++h.ans rs Ns q,true⟩ (h.nx rs Ns q) more).2.1,(accS hn K ⟨[],0,o++h.ans rs Ns q,true⟩ (h.nx rs Ns q) more).2.2.1,q :: (accS hn K ⟨[],0,o++h.ans rs Ns q,true⟩ (h.nx rs Ns q) more).2.2.2)
 | 0,_,_,h0=>absurd h0 (by omega)
 | j+1,i,hij,_=>by
  have hil:i<(encZ q).length:=by omega
  rw [List.drop_eq_getElem_cons hil,List.cons_append]
  obtain ⟨x,hx⟩:=zeq ((encZ q)[i])
  rw [← hx]
  have et:(encZ q).take i++[x]=(encZ q).take (i+1):=by rw [hx];exact List.take_append_getElem hil
  by_cases hj:j=0
  ·subst hj
   have e1:(encZ q).take (i+1)=encZ q:=List.take_of_length_le (by omega)
   have hp:parseZ (encZ q) K.rules=(q,((encZ q).length:Int),0):=by
    have:=ziy hK hq.1 hq.2.1 []
    rw [List.append_nil] at this;exact this
   have hl:(0:Int)<((encZ q).length:Int):=by omega
   have hf:fitsS hn K ⟨(encZ q).take i,0,o,true⟩ x=true:=by
    unfold fitsS fitsB
    rw [if_neg (by simp),et,e1,hp]
    dsimp only
    rw [if_neg (by simp),if_pos hl]
    exact decide_eq_true ho
   have hc:comeS hn K ⟨(encZ q).take i,0,o,true⟩ h x=(⟨[],0,o++h.ans rs Ns q,true⟩,h.nx rs Ns q,[q]):=by
    unfold comeS comeC nextZ
    rw [et,e1,hp]
    dsimp only
    rw [if_neg (by simp),if_pos hl,if_pos (Or.inr hl)]
    rfl
   have e2:(encZ q).drop (i+1)=[]:=List.drop_eq_nil_of_le (by omega)
   rw [zbG _ _ hf,hc,e2,List.nil_append]
   dsimp only
   rw [Nat.add_comm]
   rfl
  ·have hp:parseZ ((encZ q).take (i+1)) K.rules=(req0,0,0):=zg4 hK hq.1 (i+1) (by omega)
   have hf:fitsS hn K ⟨(encZ q).take i,0,o,true⟩ x=true:=by
    unfold fitsS fitsB
    rw [if_neg (by simp),et,hp]
    dsimp only
    rw [if_neg (by simp),if_neg (by decide)]
   have hc:comeS hn K ⟨(encZ q).take i,0,o,true⟩ h x=(⟨(encZ q).take (i+1),0,o,true⟩,h,[]):=by
    unfold comeS comeC nextZ
    rw [et,hp]
    dsimp only
    rw [if_neg (by simp),if_neg (by decide),if_neg (by simp)]
    rfl
   have ih:=zfQ hn hq hK ho h more j (i+1) (by omega) (by omega)
   rw [zbG _ _ hf,hc]
   dsimp only
   rw [ih]
   dsimp only
   rw [List.nil_append,show j+1+(accS hn K ⟨[],0,o++h.ans rs Ns q,true⟩ (h.nx rs Ns q) more).1=j+(accS hn K ⟨[],0,o++h.ans rs Ns q,true⟩ (h.nx rs Ns q) more).1+1 by omega]
theorem zk4 (hn:HoN rs Ns) {q:Req} (hq:okQ K.rules q) (hK:K.rules≤256) {o:List Int} (ho:mostS rs q≤((K.size - o.length:Nat):Int)) (h:HoZ) :
  accS hn K ⟨[],0,o,true⟩ h (encZ q)=((encZ q).length,⟨[],0,o++h.ans rs Ns q,true⟩,h.nx rs Ns q,[q]):=by
 have:=zfQ hn hq hK ho h [] (encZ q).length 0 (by omega) (by have:=zdG hq.1;omega)
 rw [List.take_zero,List.drop_zero,List.append_nil] at this
 exact this
def allI (Ns:List LmN) (h:HoZ) (m:Int):Prop:=∀ (i:Nat) N σ,Ns[i]?=some N→h.Ss[i]?=some σ→LmI N σ (min h.c.now 4611686018427387904) m
theorem allI.mono {h:HoZ} {m m':Int} (H:allI Ns h m) (hm:m≤m'∧m'≤576460752303423488):allI Ns h m':=fun i N t hN ht=>by
 have h1:=H i N t hN ht
 exact h1.mono ⟨Int.le_refl _,h1.t0.2⟩ hm
theorem allI.nx {h:HoZ} {m:Int} (H:allI Ns h m) (hn:0≤h.c.now) (hm:m+2097153≤576460752303423488) (q:Req):allI Ns (h.nx rs Ns q) (m+2097153):=by
 unfold HoZ.nx
 split
 ·rename_i r N σ hr hN hσ
  intro i M t hM ht
  dsimp only at ht ⊢
  by_cases e:i=q.rule.toNat
  ·subst e
   have hl:=(List.getElem?_eq_some_iff.1 hσ).1
   rw [List.getElem?_set_self hl] at ht
   injection ht with ht
   rw [hN] at hM
   injection hM with hM
   rw [← ht,← hM]
   exact (H _ _ _ hN hσ).nxQ hm (SvC.held_bd _ hn).1 q
  ·rw [List.getElem?_set_ne (Ne.symm e)] at ht
   have h1:=H i M t hM ht
   exact h1.mono ⟨Int.le_refl _,h1.t0.2⟩ ⟨by omega,hm⟩
 ·exact H.mono ⟨by omega,hm⟩
theorem zkE:∀ (zs:List Int) (σ:CnS) (h:HoZ) (m:Int),0≤h.c.now→m+zs.length*2097153≤576460752303423488→allI Ns h m→allI Ns (accS hn K σ h zs).2.2.1 (m+zs.length*2097153)
 | [],_,h,m,_,_,H=>by
  have e:m+(([]:List Int).length:Int)*2097153=m:=by simp
  rw [e];exact H
 | x :: r,σ,h,m,h0,hm,H=>by
  rw [List.length_cons] at hm ⊢
  cases hf:fitsS hn K σ x with
  | false=>rw [zeS h r hf];exact H.mono ⟨by omega,by omega⟩
  | true =>
   rw [zbG h r hf]
   dsimp only
   rw [show m+((r.length+1:Nat):Int)*2097153=m+2097153+(r.length:Int)*2097153 by omega]
   refine zkE r _ _ _ ?_ (by omega) ?_
   ·rcases zfY (hn:=hn) (K:=K) (σ:=σ) h x with e | e
    ·rw [e];exact h0
    ·rw [e,(nx_c h _).1];exact h0
   ·rcases zfY (hn:=hn) (K:=K) (σ:=σ) h x with e | e
    ·rw [e];exact H.mono ⟨by omega,by omega⟩
    ·rw [e];exact H.nx h0 (by omega) _
structure SrB (w:World) (base s:Nat) (rs:List RuZ) (On:Nat) (Ns:List LmN) (Ks:List CnN) (c:SvC) (Ss:List LmS) (σs:List CnS) (m:Int):Prop where
 at_:SvAt w base s c Ns Ss Ks σs
 ok:SvOk c rs On
 nt:c.nt=.slice none 0 0
 hn:HoN rs Ns
 now:0≤c.now∧c.now≤9223372036854775807
 first:0≤c.first∧c.first≤9223372036854775807
 lm:∀ (i:Nat) N σ,Ns[i]?=some N→Ss[i]?=some σ→LmI N σ (min c.now 4611686018427387904) m
 K:∀ (k:Nat) K,Ks[k]?=some K→K.size=On∧K.rules=(rs.length:Int)
 k16:Ks.length≤16
abbrev SvC.next (c:SvC) (ck:Int):SvC:=(c.read ck).end
theorem zdQ {c:SvC} (ck:Int) (h:ck≤9223372036854775807) (hn:0≤c.now∧c.now≤9223372036854775807) (hf:0≤c.first∧c.first≤9223372036854775807) :
  (0≤(c.read ck).now∧(c.read ck).now≤9223372036854775807)∧(0≤(c.read ck).first∧(c.read ck).first≤9223372036854775807):=by
 unfold SvC.read
 dsimp only
 constructor
 ·omega
 ·split <;> omega
theorem SrB.keep {m:Int} (h:SrB w base s rs On Ns Ks c Ss σs m) (hb:Below w.heap.size w w'):SrB w' base s rs On Ns Ks c Ss σs m :=
 ⟨h.at_.keep hb,h.ok,h.nt,h.hn,h.now,h.first,h.lm,h.K,h.k16⟩
theorem SrB.mono {m m':Int} (h:SrB w base s rs On Ns Ks c Ss σs m) (hm:m≤m'∧m'≤576460752303423488):SrB w base s rs On Ns Ks c Ss σs m' :=
 ⟨h.at_,h.ok,h.nt,h.hn,h.now,h.first,fun i N σ hN hσ=>by
  have h1:=h.lm i N σ hN hσ
  exact h1.mono ⟨Int.le_refl _,h1.t0.2⟩ hm,h.K,h.k16⟩
theorem SvOk.next (h:SvOk c rs On) (ck:Int):SvOk (c.next ck) rs On:=⟨h.o,h.m,h.on,h.l,h.p,h.R⟩
theorem SrB.read {m:Int} (h:SrB w base s rs On Ns Ks c Ss σs m) {ck:Int} (hck:ck≤9223372036854775807) {Ss':List LmS} {σs':List CnS} (hat:SvAt w' base s (c.next ck) Ns Ss' Ks σs') {m':Int}
  (hl:∀ (i:Nat) N σ,Ns[i]?=some N→Ss'[i]?=some σ→LmI N σ (min (c.read ck).now 4611686018427387904) m'):SrB w' base s rs On Ns Ks (c.next ck) Ss' σs' m' :=
 ⟨hat,h.ok.next ck,rfl,h.hn,(zdQ ck hck h.now h.first).1,(zdQ ck hck h.now h.first).2,hl,h.K,h.k16⟩
theorem SrB.lm_to {m:Int} (h:SrB w base s rs On Ns Ks c Ss σs m) {ck:Int} (hck:ck≤9223372036854775807):∀ (i:Nat) N σ,Ns[i]?=some N→Ss[i]?=some σ→LmI N σ (min (c.read ck).now 4611686018427387904) m:=by
 intro i N σ hN hσ
 have h1:=h.lm i N σ hN hσ
 have hm:=h1.m
 refine h1.mono ⟨?_,by omega⟩ ⟨Int.le_refl _,hm.2⟩
 show min c.now _≤min (max c.now ck) _
 omega
abbrev ho0 (c:SvC) (ck:Int) (Ss:List LmS):HoZ:=⟨({ c with ac:=true }:SvC).read ck,Ss,[]⟩
theorem SrB.bud {m:Int} (h:SrB w base s rs On Ns Ks c Ss σs m) {ck:Int} (hck:ck≤9223372036854775807) {n:Nat} (hnn:n≤500000) (hm:m+n*2097153≤576460752303423488):(ho0 c ck Ss).bud Ns n :=
 ⟨(zdQ ck hck h.now h.first).1,(zdQ ck hck h.now h.first).2,by show 0+2*n≤_;omega,m,hm,h.lm_to hck⟩
theorem SrB.chunk {m:Int} (h:SrB w base s rs On Ns Ks c Ss σs m) (ck n:Int) (hck:ck≤9223372036854775807) (k:Nat) {K:CnN} {σ:CnS} (A:Option Addr) (na ca:Nat) (zs:List Int) (sed:Value) (hK:Ks[k]?=some K) (hσ:σs[k]?=some σ) (ho:σ.op=true)
  (hnn:na≤500000) (hm:m+na*2097153≤576460752303423488) (hz:RdI w .u8 A na ca zs) (hap:∀ b off,0<na→A=some ⟨b,off,none⟩→b<base∨(∀ k,chF s Ns K k→k≠b)) :
  Calls Tryz.prog 30 #[.pointer (some ⟨s,0,none⟩),actV 2 ck (k:Int) (.slice A na ca) n sed] w fun e w'=>∃ A4 c4,e=.returned (stepQ 0 ((accS h.hn K σ (ho0 c ck Ss) zs).1:Int) none 0 0 A4 (accS h.hn K σ (ho0 c ck Ss) zs).2.2.1.evs.length c4) ∧
   SrB w' base s rs On Ns Ks (c.next ck) (accS h.hn K σ (ho0 c ck Ss) zs).2.2.1.Ss (σs.set k (accS h.hn K σ (ho0 c ck Ss) zs).2.1) (m+na*2097153) ∧
   OwE w' w.heap.size (.slice A4 (accS h.hn K σ (ho0 c ck Ss) zs).2.2.1.evs.length c4) (accS h.hn K σ (ho0 c ck Ss) zs).2.2.1.evs∧Fr (chF s Ns K) w w':=by
 have hk16:k<16:=by have h1:=(List.getElem?_eq_some_iff.1 hK).1;have h2:=h.k16;omega
 have hb:=h.bud hck hnn hm
 refine (zhj h.hn ck n k A na ca zs sed w h.at_ h.ok h.nt hk16 hK hσ (h.K k K hK).2.symm ho hb hz (fun b off h0 hA hh=>?_)).mono ?_
 ·rcases hap b off h0 hA with h1 | h1
  ·rcases hh with hh | hh | ⟨i,N,hN,hh⟩
   ·have:=h.at_.K.lo k K hK b hh;omega
   ·have:=h.at_.lo;omega
   ·have:=h.at_.J.lo i N hN b hh;omega
  ·exact h1 b hh rfl
 ·rintro e w' ⟨A4,c4,h1,h2,h3,h4⟩
  refine ⟨A4,c4,h1,h.read hck h2 (fun i N t hN ht=>?_),h3,h4⟩
  have hl:=zkE (hn:=h.hn) (K:=K) zs σ (ho0 c ck Ss) m hb.now.1 (by rw [hz.len];exact hm) (h.lm_to hck)
  have hc:(accS h.hn K σ (ho0 c ck Ss) zs).2.2.1.c=(ho0 c ck Ss).c:=(zk5 (hn:=h.hn) (K:=K) zs σ (ho0 c ck Ss)).1
  have h6:=hl i N t hN ht
  rw [hc,hz.len] at h6
  exact h6
end
end
section
open Go.ChangeShapes Go.WideShapes Go.ChangeAt Go.RowKit
section
variable {w w' W:World} {s base B On:Nat} {c c':SvC} {K:CnN} {σ:CnS} {rs:List RuZ} {Ns:List LmN} {Ss:List LmS} {Ks:List CnN} {σs:List CnS} {m:Int}
theorem zco {p:RuZ} {zs:List Int} {N:LmN} (h:LmR (planR p) zs N):LmP N (lqL p.L) ((lqS p.W*lqN p.Sl:Nat):Int) (lqB p.L p.B) (lqN p.Sl) (lqS p.W) (lqR p.Ro) (lqW p.Wi) (lqC p.Ce) (lqT p.Tr) (lqM p.sm p.Sl) (rX zs) (rA zs) (rB zs):=by
 have h2:1≤lqN p.Sl∧lqN p.Sl≤8:=by unfold lqN;omega
 have e:((planR p).W / (planR p).Sl).toNat=lqS p.W:=by
  show ((((lqS p.W*lqN p.Sl:Nat):Int)) / ((lqN p.Sl:Nat):Int)).toNat=_
  rw [Int.natCast_mul,Int.mul_ediv_cancel _ (by omega)]
  omega
 have g:=h
 unfold LmR at g
 rw [e] at g
 exact g
theorem zmD {p:RuZ} {zs:List Int} {N:LmN} {w:World} (h:LmR (planR p) zs N) (hA:LmAt w N (lmZ (planR p).Ce.toNat)):LmI N (lmZ (planR p).Ce.toNat) 0 0:=zjT hA (zco h)
theorem zmC {p:RuZ} {zs:List Int} {N:LmN} (h:LmR (planR p) zs N):LmB N:=(zjS (zco h)).1
theorem zbK {ps:List RuZ} {i:Nat} {r:RuZ} (h:(confR ps)[i]?=some r):∃ p,r=planR p:=zbc ps r (List.mem_of_getElem? h)
theorem zlc {ps:List RuZ} {zf:Nat→List Int} (hl:Ns.length=(confR ps).length) (h:∀ (k:Nat) r N,(confR ps)[k]?=some r→Ns[k]?=some N→LmR r (zf k) N):HoN (confR ps) Ns:=by
 have hc:=zbL ps
 refine ⟨hl,by omega,fun r hr=>?_,fun i N hN=>?_,fun i r N hr hN=>?_,fun i r N hr hN=>⟨_,h i r N hr hN⟩⟩
 ·obtain ⟨p,rfl⟩:=zbc ps r hr;exact zcM p
 ·obtain ⟨r,hr⟩:∃ r,(confR ps)[i]?=some r:=⟨_,List.getElem?_eq_getElem (by rw [← hl];exact (List.getElem?_eq_some_iff.1 hN).1)⟩
  obtain ⟨p,rfl⟩:=zbK hr
  exact zmC (h i _ N hr hN)
 ·obtain ⟨p,rfl⟩:=zbK hr
  have h1:=(h i _ N hr hN).pT
  rw [h1]
  show (((planR p).Tr).toNat:Int)=_
  exact Int.toNat_of_nonneg (by show (0:Int)≤((lqT p.Tr:Nat):Int);omega)
theorem zlQ {rs:List RuZ} {i:Nat} {r:RuZ} (h:rs[i]?=some r):(rsZ rs)[i]?=some (lmZ r.Ce.toNat):=by
 unfold rsZ;rw [List.getElem?_map,h];rfl
theorem zld {ps:List RuZ} {zf:Nat→List Int} {t:Int} (ht:0≤t∧t≤4611686018427387904) (hl:Ns.length=(confR ps).length) (hJ:JdAt w base Ns (rsZ (confR ps))) (h:∀ (k:Nat) r N,(confR ps)[k]?=some r→Ns[k]?=some N→LmR r (zf k) N) :
  ∀ (i:Nat) N σ,Ns[i]?=some N→(rsZ (confR ps))[i]?=some σ→LmI N σ t 0:=by
 intro i N σ hN hσ
 obtain ⟨r,hr⟩:∃ r,(confR ps)[i]?=some r:=⟨_,List.getElem?_eq_getElem (by rw [← hl];exact (List.getElem?_eq_some_iff.1 hN).1)⟩
 have hA:=hJ.at_ i N σ hN hσ
 rw [zlQ hr] at hσ
 injection hσ with hσ
 obtain ⟨p,rfl⟩:=zbK hr
 rw [← hσ] at hA ⊢
 exact (zmD (h i _ N hr hN) hA).mono ⟨ht.1,ht.2⟩ ⟨Int.le_refl _,by decide⟩
structure SvNew (c:SvC):Prop where
 now:c.now=0
 first:c.first=0
 rd:c.rd=false
 rs:c.rs=false
theorem svnewB {ps:List RuZ} {zf:Nat→List Int} (Bu:Int) (On:Nat) (A:Option Addr) (n cc:Nat) (seeds:Value) (w:World) (hr:RdRu w A n cc (confR ps)) (hz:rightZ Bu 3 (On:Int) (confR ps)) (ho:1≤On∧On≤65536)
  (hd:∀ (i:Nat) r wx,(confR ps)[i]?=some r→Below w.heap.size w wx→Calls Tryz.prog 93 #[seeds,.int .i64 (i:Int),.int .i64 (3*(r.Ro+1))] wx fun e w'=>∃ A n c,e=.returned (.slice A n c)∧RdI w' .u64 A n c (zf i)∧Below wx.heap.size wx w') :
  Calls Tryz.prog 17 #[.agg #[.int .i64 Bu,.int .i64 3,.int .i64 (On:Int),.slice A n cc],seeds] w fun e w'=>∃ (s:Nat) (c:SvC) (Ns:List LmN) (Ks:List CnN),e=.returned (.tuple #[.pointer (some ⟨s,0,none⟩),.int .i64 0]) ∧
   SrB w' w.heap.size s (confR ps) On Ns Ks c (rsZ (confR ps)) [cZ,cZ,cZ] 0∧SvNew c∧(∀ (k:Nat) r N,(confR ps)[k]?=some r→Ns[k]?=some N→LmR r (zf k) N)∧Ks.length=3∧Below w.heap.size w w':=by
 refine (zjf Bu 3 (On:Int) A n cc seeds w hr hz hd).mono ?_
 rintro e w' ⟨s,Ns,Ks,rfl,h1,h2,h3,h4⟩
 have hl:=h1.K.ln
 have hnl:Ns.length=(confR ps).length:=by rw [h1.J.ln];unfold rsZ;rw [List.length_map]
 refine ⟨s,_,Ns,Ks,rfl,⟨h1,⟨rfl,rfl,ho,zbL ps |>.imp id (fun h=>by omega),fun r hr=>by obtain ⟨p,rfl⟩:=zbc ps r hr;exact zcM p,fun i r hi j hj=>?_⟩,rfl,zlc hnl h2,⟨Int.le_refl _,(show (0:Int)≤9223372036854775807 by decide)⟩,⟨Int.le_refl _,(show (0:Int)≤9223372036854775807 by decide)⟩,zld ⟨(show (0:Int)≤min 0 4611686018427387904 by decide),(show min (0:Int) 4611686018427387904≤4611686018427387904 by decide)⟩ hnl h1.J h2,fun k K hK=>⟨by rw [(h3 k K hK).1];exact Int.toNat_natCast On,(h3 k K hK).2⟩,by rw [hl];decide⟩,⟨rfl,rfl,rfl,rfl⟩,h2,by rw [hl];rfl,h4⟩
 show (ruL (confR ps)++_)[i*9+j]?=_
 rw [List.getElem?_append_left (by rw [zfx];have:=(List.getElem?_eq_some_iff.1 hi).1;omega)]
 exact zfw _ hi hj
theorem SrB.plain (h:SrB w base s rs On Ns Ks c Ss σs m) (kd ck n:Int) (hck:ck≤9223372036854775807) (k:Nat) (dat sed:Value) {K:CnN} {σ:CnS} (hK:Ks[k]?=some K) (hσ:σs[k]?=some σ) (hk4:kd≠4) (hk:kd=2∨kd=3→σ.op=false) :
  Calls Tryz.prog 30 #[.pointer (some ⟨s,0,none⟩),actV kd ck (k:Int) dat n sed] w fun e w'=>e=.returned (stepV (onS kd σ).1)∧SrB w' base s rs On Ns Ks (c.next ck) Ss (σs.set k (onS kd σ).2) m∧Fr (fun b=>K.F b∨b=s) w w':=by
 have hk16:k<16:=by have h1:=(List.getElem?_eq_some_iff.1 hK).1;have h2:=h.k16;omega
 refine (zlS kd ck k n dat sed w h.at_ hk16 hK hσ hk4 hk).mono ?_
 rintro e w' ⟨rfl,h1,h2⟩
 exact ⟨rfl,h.read hck h1 (h.lm_to hck),h2⟩
theorem SrB.drain (h:SrB w base s rs On Ns Ks c Ss σs m) (ck n:Int) (hck:ck≤9223372036854775807) (k d:Nat) (dat sed:Value) {K:CnN} {σ:CnS} (hK:Ks[k]?=some K) (hσ:σs[k]?=some σ) (ho:σ.op=true) (hd:(d:Int)=max 0 (min n (σ.out.length:Int))) :
  Calls Tryz.prog 30 #[.pointer (some ⟨s,0,none⟩),actV 3 ck (k:Int) dat n sed] w fun e w'=>∃ g,e=.returned (stepQ 0 0 (some ⟨g,0,none⟩) d d none 0 0)∧Blk w' g 5 (obbyC (σ.out.take d)) ∧
   SrB w' base s rs On Ns Ks (c.next ck) Ss (σs.set k ⟨σ.z,σ.err,σ.out.drop d,σ.op⟩) m∧Fr (fun b=>K.F b∨b=s) w w'∧w.heap.size≤g:=by
 have hk16:k<16:=by have h1:=(List.getElem?_eq_some_iff.1 hK).1;have h2:=h.k16;omega
 refine (zhk ck n k d dat sed w h.at_ hk16 hK hσ ho hd).mono ?_
 rintro e w' ⟨g,h1,h2,h3,h4,h5⟩
 exact ⟨g,h1,h2,h.read hck h3 (h.lm_to hck),h4,h5⟩
theorem SrB.ask (h:SrB w base s rs On Ns Ks c Ss σs m) (ck n:Int) (hck:ck≤9223372036854775807) (k:Nat) {K:CnN} (A:Option Addr) (na ca:Nat) (sed:Value) {q:Req} {o:List Int} (hK:Ks[k]?=some K) (hσ:σs[k]?=some ⟨[],0,o,true⟩) (hq:okQ (rs.length:Int) q) (hroom:mostS rs q≤((On - o.length:Nat):Int))
  (hnn:na≤500000) (hm:m+na*2097153≤576460752303423488) (hz:RdI w .u8 A na ca (encZ q)) (hap:∀ b off,0<na→A=some ⟨b,off,none⟩→b<base∨(∀ k,chF s Ns K k→k≠b)) :
  Calls Tryz.prog 30 #[.pointer (some ⟨s,0,none⟩),actV 2 ck (k:Int) (.slice A na ca) n sed] w fun e w'=>∃ A4 c4,e=.returned (stepQ 0 (na:Int) none 0 0 A4 ((ho0 c ck Ss).nx rs Ns q).evs.length c4) ∧
   SrB w' base s rs On Ns Ks (c.next ck) ((ho0 c ck Ss).nx rs Ns q).Ss (σs.set k ⟨[],0,o++(ho0 c ck Ss).ans rs Ns q,true⟩) (m+na*2097153) ∧
   OwE w' w.heap.size (.slice A4 ((ho0 c ck Ss).nx rs Ns q).evs.length c4) ((ho0 c ck Ss).nx rs Ns q).evs∧Fr (chF s Ns K) w w':=by
 obtain ⟨k1,k2⟩:=h.K k K hK
 have hl8:=h.hn.l
 have e:=zk4 (K:=K) h.hn (q:=q) (o:=o) (by rw [k2];exact hq) (by rw [k2];omega) (by rw [k1];exact hroom) (ho0 c ck Ss)
 have g:=h.chunk ck n hck k A na ca (encZ q) sed hK hσ rfl hnn hm hz hap
 rw [e,hz.len] at g
 exact g
end
end
section
open Go.ChangeShapes Go.WideShapes Go.ChangeAt Go.RowKit
section
variable {w w' W:World} {s base On:Nat} {c:SvC} {rs ps:List RuZ} {Ns:List LmN} {Ss:List LmS} {Ks:List CnN} {σs:List CnS} {m:Int}
def svF (s:Nat) (Ns:List LmN) (Ks:List CnN) (b:Nat):Prop:=b=s∨(∃ (i:Nat) (N:LmN),Ns[i]?=some N∧N.all b)∨∃ (k:Nat) (K:CnN),Ks[k]?=some K∧K.F b
theorem SrB.sv_lo (h:SrB w base s rs On Ns Ks c Ss σs m):∀ b,svF s Ns Ks b→base≤b:=by
 rintro b (hb | ⟨i,N,hN,hb⟩ | ⟨k,K,hK,hb⟩)
 ·rw [hb];exact h.at_.lo
 ·exact h.at_.J.lo i N hN b hb
 ·exact h.at_.K.lo k K hK b hb
theorem SrB.sv_lt (h:SrB w base s rs On Ns Ks c Ss σs m):∀ b,svF s Ns Ks b→b<w.heap.size:=by
 rintro b (hb | ⟨i,N,hN,hb⟩ | ⟨k,K,hK,hb⟩)
 ·rw [hb];exact h.at_.sv.lt
 ·exact h.at_.J.lt hN b hb
 ·exact h.at_.K.lt hK b hb
theorem zgH {k:Nat} {K:CnN} (hK:Ks[k]?=some K) {b:Nat} (h:chF s Ns K b):svF s Ns Ks b:=by
 rcases h with h | h | h
 ·exact Or.inr (Or.inr ⟨k,K,hK,h⟩)
 ·exact Or.inl h
 ·exact Or.inr (Or.inl h)
structure DoV where
 kd:Int
 ck:Int
 k:Nat
 A:Option Addr
 na:Nat
 ca:Nat
 n:Int
 B:Option Addr
 nb:Nat
 cb:Nat
def zfA (zs:List Int) (m:Nat) (rs:List RuZ) (i:Nat):List Int:=if m=0 then List.replicate (3*((rs.getD i planZ).Ro+1)).toNat 0 else zfS zs m rs i
theorem zeN (A:Option Addr) (c:Nat) (ru:Int) (n:Nat) (hn:n≤1000) (w:World) :
  Calls Tryz.prog 93 #[.slice A 0 c,.int .i64 ru,.int .i64 (n:Int)] w fun e w'=>∃ g,e=.returned (.slice (some ⟨g,0,none⟩) n n)∧RdI w' .u64 (some ⟨g,0,none⟩) n n (List.replicate n 0)∧Below w.heap.size w w':=by
 have hmk:=fun w=>G.make_one (P:=Tryz.prog) (t:=23) (e:=118) (z:=.int .u64 0) (B:=8) Tryz.underlying23 (i:=(Tryz.prog.info? 118).get (by kernel_rfl)) (by rfl) (by kernel_rfl) rfl (by kernel_rfl) (by kernel_rfl) n (by omega) (by omega) w
 obtain ⟨w1,hw1,k1,b1,s1⟩:=zad w (List.replicate n (.int .u64 0)).toArray 118
 have H1:=zhz (And.intro k1 b1)
 have HM:=zhz hn
 obtain ⟨z0,hz0⟩:=zeq ((List.replicate n (Value.int .u64 0)).toArray)
 simp only [← hz0] at hmk
 rw [← hz0] at hw1
 have HZ:=zhz hz0
 clear k1 b1 s1 hn hz0
 go_enter Tryz.func93,Tryz.ntmps93
 go_wp2
 go_ret
 refine ⟨_,rfl,zbj (zs:=List.replicate n 0) (by have:=H1.out.1;rw [List.map_replicate];exact this) (List.length_replicate) (by have:=HM.out;unfold maxLen;omega) (fun z hz=>by rw [List.eq_of_mem_replicate hz];rfl),H1.out.2⟩
theorem zl4 {rs:List RuZ} (hp:∀ r ∈ rs,r.p) (hl:rs.length≤8) {A:Option Addr} {m cc:Nat} {zs:List Int} (hm:m≤1000) (i:Nat) (r:RuZ) (wx:World) (hi:rs[i]?=some r) (hr:RdI wx .u64 A m cc zs) :
  Calls Tryz.prog 93 #[.slice A m cc,.int .i64 (i:Int),.int .i64 (3*(r.Ro+1))] wx fun e w'=>∃ A n c,e=.returned (.slice A n c)∧RdI w' .u64 A n c (zfA zs m rs i)∧Below wx.heap.size wx w':=by
 by_cases h:m=0
 ·subst h
  unfold zfA
  rw [if_pos rfl]
  have h1:=hp r (List.mem_of_getElem? hi)
  have hRo:1≤r.Ro∧r.Ro≤8:=h1.2.2.2.2.2.2.1
  have hg:rs.getD i planZ=r:=by rw [List.getD_eq_getElem?_getD,hi];rfl
  have:=zeN A cc (i:Int) (3*(r.Ro+1)).toNat (by omega) wx
  rw [Int.toNat_of_nonneg (by omega)] at this
  refine this.mono ?_
  rintro e w' ⟨g,rfl,h1,h2⟩
  exact ⟨_,_,_,rfl,by rw [hg];exact h1,h2⟩
 ·unfold zfA
  rw [if_neg h]
  exact zjI hp hl (by omega) i r wx hi hr
end
end
section
open Go.ChangeShapes Go.WideShapes Go.ChangeAt Go.RowKit
section
variable {N1 N2:LmN} {Ns1 Ns2:List LmN} {c1 c2:SvC} {rs:List RuZ} {K1 K2:CnN}
theorem zln {c:SvC} (h:c.rs=false) (W:Int):c.held W=0:=by
 unfold SvC.held
 rw [h];rfl
end
end
section
open Go.ChangeShapes Go.WideShapes Go.ChangeAt Go.RowKit
end
section
open Go.ChangeShapes Go.WideShapes Go.ChangeAt Go.RowKit
open Ar (inR)
section
variable {w w' W:World} {s base B On:Nat} {c c':SvC} {K:CnN} {σ:CnS} {rs:List RuZ} {Ns:List LmN} {Ss:List LmS} {Ks:List CnN} {σs:List CnS} {m:Int}
theorem zkK {g n:Nat} {zs:List Int} {w:World} (h:Blk w g 5 (obbyC zs)) (hl:zs.length=n) (hn:n≤1000000) (hb:byt zs):RdI w .u8 (some ⟨g,0,none⟩) n n zs :=
 zbj h hl (by unfold maxLen;omega) (fun z hz=>zbV (hb z hz))
theorem ziM {g:Nat} {op v rem ret:Int} {w:World} (h:Blk w g 5 (obbyC (frmZ (ansZ op v rem ret)))) (ho:op=1∨op=2) (hp:ansP (v,rem,ret)) :
  Calls Tryz.prog 38 #[.slice (some ⟨g,0,none⟩) 22 22] w fun e w'=>∃ LA LN LC,e=.returned (.tuple #[.agg (sdC op 0 v rem ret 0 0 0 0 0 (.slice LA LN LC) 0),.int .i64 22,.bool true])∧Below w.heap.size w w':=by
 obtain ⟨h1,h2,h3⟩:=hp
 have hl:(frmZ (ansZ op v rem ret)).length=22:=by rw [zaY,zaP]
 refine (zdg (zkK h hl (by decide) (zaW (ans_byt ho h1))) ho h1 h2 h3).mono ?_
 rintro e w' ⟨rfl,hb⟩
 exact ⟨none,0,0,rfl,hb⟩
theorem zkV {op ru co k:Int} {ky:ByteArray} {rules:Int} (hr:0≤ru∧ru<rules) (h8:rules≤8) (ho:op=1∨op=2) (hk:ky.size≤64) (h0:k=0) (hc:0≤co∧co<4294967296):okQ rules (mkR op ru co ky k) :=
 ⟨⟨⟨hr.1,hr.2,by show ru≤255;omega⟩,Or.inl ⟨ho,by show (nums ky).length≤64;rw [zbB];exact hk,h0⟩⟩,hc,ziq ky⟩
theorem zcH {op ru co k:Int} {ky:ByteArray} {rules:Int} (h8:rules≤256) (h:okQ rules (mkR op ru co ky k)):rightP (mkR op ru co ky k) 256:=by
 obtain ⟨⟨h1,h2,h3⟩,h4⟩:=h.1
 exact ⟨⟨h1,by omega,h3⟩,h4⟩
theorem SrB.ch_lt (h:SrB w base s rs On Ns Ks c Ss σs m) {k:Nat} {K:CnN} (hK:Ks[k]?=some K):∀ b,chF s Ns K b→b<w.heap.size:=by
 intro b hb
 rcases hb with hb | hb | ⟨i,N,hN,hb⟩
 ·exact h.at_.K.lt hK b hb
 ·rw [hb];exact h.at_.sv.lt
 ·exact h.at_.J.lt hN b hb
theorem SrB.ch_lo (h:SrB w base s rs On Ns Ks c Ss σs m) {k:Nat} {K:CnN} (hK:Ks[k]?=some K):∀ b,chF s Ns K b→base≤b:=by
 intro b hb
 rcases hb with hb | hb | ⟨i,N,hN,hb⟩
 ·exact h.at_.K.lo k K hK b hb
 ·rw [hb];exact h.at_.lo
 ·exact h.at_.J.lo i N hN b hb
theorem SrB.ask1 (h:SrB w base s rs On Ns Ks c Ss σs m) (ck n:Int) (hck:ck≤9223372036854775807) (k:Nat) {K:CnN} (g na ca:Nat) (sed:Value) {q:Req} {o:List Int} (hK:Ks[k]?=some K) (hσ:σs[k]?=some ⟨[],0,o,true⟩) (hq:okQ (rs.length:Int) q) (hroom:mostS rs q≤((On - o.length:Nat):Int))
  (hm:m+na*2097153≤576460752303423488) {wq:World} (hb:Below w.heap.size w wq) (hz:RdI wq .u8 (some ⟨g,0,none⟩) na ca (encZ q)) (hg:w.heap.size≤g) :
  Calls Tryz.prog 30 #[.pointer (some ⟨s,0,none⟩),actV 2 ck (k:Int) (.slice (some ⟨g,0,none⟩) na ca) n sed] wq fun e w'=>∃ A4 c4,e=.returned (stepQ 0 (na:Int) none 0 0 A4 ((ho0 c ck Ss).nx rs Ns q).evs.length c4) ∧
   SrB w' base s rs On Ns Ks (c.next ck) ((ho0 c ck Ss).nx rs Ns q).Ss (σs.set k ⟨[],0,o++(ho0 c ck Ss).ans rs Ns q,true⟩) (m+na*2097153) ∧
   OwE w' wq.heap.size (.slice A4 ((ho0 c ck Ss).nx rs Ns q).evs.length c4) ((ho0 c ck Ss).nx rs Ns q).evs∧Fr (chF s Ns K) wq w':=by
 have hl:=hz.len
 have h75:(encZ q).length≤75:=by
  rw [za8 hq.1]
  have:=zfm hq
  split
  ·omega
  ·split <;> omega
 exact (h.keep hb).ask ck n hck k _ na ca sed hK hσ hq hroom (by omega) hm hz (fun b off _ e=>Or.inr (fun k' hk' e'=>by
  injection e with e
  injection e with e
  have:=h.ch_lt hK k' hk'
  omega))
theorem zie (q:Req) {t:Int} (ht:1≤t∧t≤8):largeZ q t≤655:=by
 unfold largeZ
 split
 ·omega
 ·split <;> omega
theorem zgd (ps:List RuZ) (q:Req):mostS (confR ps) q≤655:=by
 unfold mostS
 split
 ·rename_i r hr
  obtain ⟨p,rfl⟩:=zbK hr
  refine zie q ?_
  have h9:1≤lqT p.Tr∧lqT p.Tr≤8:=by unfold lqT;omega
  show 1≤((lqT p.Tr:Nat):Int)∧((lqT p.Tr:Nat):Int)≤8
  omega
 ·omega
theorem zmf {h:HoZ} {q:Req} {i:Nat} {r:RuZ} {N:LmN} {σ:LmS} (hi:q.rule=(i:Int)) (hr:rs[i]?=some r) (hN:Ns[i]?=some N) (hσ:h.Ss[i]?=some σ) :
  h.nx rs Ns q=⟨h.c,h.Ss.set i (nxQ N h.c.now (h.c.held r.W) σ q),h.evs++mkE (i:Int) h.c.now (evQ N h.c.now (h.c.held r.W) σ q)⟩∧h.ans rs Ns q=ansF N h.c.now (h.c.held r.W) σ q:=by
 have ei:q.rule.toNat=i:=by omega
 unfold HoZ.nx HoZ.ans
 rw [ei,hr,hN,hσ]
 exact ⟨rfl,rfl⟩
end
end
section
open Go.ChangeShapes Go.WideShapes Go.ChangeAt Go.RowKit
section
variable {w w' W:World} {s base On:Nat} {c:SvC} {rs ps:List RuZ} {Ns:List LmN} {Ss:List LmS} {Ks:List CnN} {σs:List CnS} {m:Int} {K:CnN} {σ:CnS}
theorem SrB.frS {F:Nat→Prop} (h:SrB w base s rs On Ns Ks c Ss σs m) (hf:Fr F w w') (hF:∀ b,F b→¬ svF s Ns Ks b):SrB w' base s rs On Ns Ks c Ss σs m :=
 ⟨h.at_.fr hf (fun e=>hF _ e (Or.inl rfl)) (fun i N hN b hb e=>hF _ e (Or.inr (Or.inl ⟨i,N,hN,hb⟩))) (fun i K hK b hb e=>hF _ e (Or.inr (Or.inr ⟨i,K,hK,hb⟩))),h.ok,h.nt,h.hn,h.now,h.first,h.lm,h.K,h.k16⟩
theorem zjo {N:LmN} {s:LmS} {q:Req} {now held m:Int} {n:Nat} (hn:n≤8) (hq:okQ (n:Int) q) (hI:LmI N s (min now 4611686018427387904) m) (hb:LmB N) (hm:m+2097153≤576460752303423488) (hh:0≤held∧held≤9223372036854775807) (h64:1≤N.S.N.n∧N.S.N.n≤64):byt (ansF N now held s q):=by
 have hr:=hq.1
 unfold rightP at hr
 unfold ansF
 split
 ·rename_i h4
  unfold ansQ
  rw [if_neg (by omega),if_neg (by omega),if_neg (by omega)]
  refine zaW (zfM (by omega) ?_ (zdS (fun x hx=>?_)))
  ·rw [za1,List.length_map,List.length_take]
   have h1:=zd2 q.k h64.1
   omega
  ·have h1:=(List.mem_filter.1 (List.mem_of_mem_take hx)).2
   unfold okT at h1
   have h2:=of_decide_eq_true h1
   exact h2
 ·rename_i h4
  unfold ansQ
  split
  ·exact zaW (ans_byt (Or.inl rfl) (hI.check_p hb hm _ hh).1)
  ·split
   ·exact zaW (ans_byt (Or.inr rfl) (hI.peek_p hb _ hh).1)
   ·split
    ·exact zaW (zfN (by omega))
    ·exact absurd (show q.op=4 by omega) h4
theorem HoZ.ans_byt {h:HoZ} {q:Req} (hn:HoN rs Ns) (hb:h.bud Ns 1) (hq:okQ (rs.length:Int) q):byt (h.ans rs Ns q):=by
 unfold HoZ.ans
 split
 ·rename_i r N σ hr hN hσ
  obtain ⟨b1,b2,b3,m,b4,b5⟩:=hb
  have hp:=hn.p r (List.mem_of_getElem? hr)
  unfold RuZ.p ruleP at hp
  have hT:=hn.T _ r N hr hN
  exact zjo hn.l hq (b5 _ N σ hN hσ) (hn.B _ N hN) (by omega) (SvC.held_bd _ b1.1) (by omega)
 ·intro x hx;cases hx
end
end
section
open Go.ChangeShapes Go.WideShapes Go.ChangeAt Go.RowKit
section
variable {W w w':World} {lb:Nat} {vo:Value} {ls ps:List DoV} {lv:Nat→Value} {J:Nat→Prop} {now:Int}
end
end
section
open Go.ChangeShapes Go.WideShapes Go.ChangeAt Go.RowKit
section
variable {w:World} {A:Option Addr} {n c:Nat} {q:List Int}
end
section
variable {w wx wy:World} {lb db ab k:Nat} {vo:Value} {ls:List DoV} {lv:Nat→Value} {t kq:Int} {dC:Array Value} {zk:List Int}
end
end
section
open Go.ChangeShapes Go.WideShapes Go.ChangeAt Go.RowKit
end
section
open Go.ChangeShapes Go.WideShapes Go.ChangeAt Go.RowKit
section
variable {w w':World} {base s On:Nat} {ps:List RuZ} {now m:Int} {D:Nat→Prop}
end
end
section
open Go.ChangeShapes Go.WideShapes Go.ChangeAt Go.RowKit
section
variable {w w':World} {b1 s b2 t:Nat} {ps:List RuZ} {now m:Int} {D:Nat→Prop} {Ns1:List LmN} {Ks1:List CnN} {c1:SvC} {Ns2:List LmN} {Ks2:List CnN} {c2:SvC} {Ss:List LmS} {σs1 σs2:List CnS}
end
def NwS (w:World) (base s:Nat) (ps:List RuZ) (sd:List Int) (nb:Nat):Prop:=∃ c Ns Ks,SrB w base s (confR ps) 660 Ns Ks c (rsZ (confR ps)) [cZ,cZ,cZ] 0∧SvNew c∧(∀ (k:Nat) r N,(confR ps)[k]?=some r→Ns[k]?=some N→LmR r (zfA sd nb (confR ps) k) N)∧Ks.length=3
theorem svnewN (ps:List RuZ) (On:Nat) (A:Option Addr) (n cc:Nat) (As:Option Addr) (nb cs:Nat) (sd:List Int) (w:World) (hr:RdRu w A n cc (confR ps)) (hz:rightZ 4294967296 3 (660:Int) (confR ps)) (ho:1≤On∧On≤65536) (hm:nb≤1000) (hs:RdI w .u64 As nb cs sd) :
  Calls Tryz.prog 17 #[.agg #[.int .i64 4294967296,.int .i64 3,.int .i64 660,.slice A n cc],.slice As nb cs] w fun e w'=>∃ s,e=.returned (.tuple #[.pointer (some ⟨s,0,none⟩),.int .i64 0])∧NwS w' w.heap.size s ps sd nb∧Below w.heap.size w w':=by
 refine (svnewB (zf:=zfA sd nb (confR ps)) 4294967296 660 A n cc (.slice As nb cs) w hr hz (by omega) (fun i r wx hi hb=>zl4 (fun r hr=>by obtain ⟨p,rfl⟩:=zbc ps r hr;exact zcM p) (by have:=zbL ps;omega) hm i r wx hi (hs.below hb))).mono ?_
 rintro e w' ⟨s,c,Ns,Ks,rfl,h1,h2,h5,h3,h4⟩
 exact ⟨s,rfl,⟨c,Ns,Ks,h1,h2,h5,h3⟩,h4⟩
end
section
open Go.ChangeShapes Go.WideShapes Go.ChangeAt Go.RowKit
section
variable {W0 w w':World} {b1 s b2 t h0:Nat} {rs:List RuZ} {Ns1:List LmN} {Ks1:List CnN} {c1 c1':SvC} {Ss1 Ss1':List LmS} {σs1 σs1':List CnS} {Ns2:List LmN} {Ks2:List CnN} {c2 c2':SvC} {Ss2 Ss2':List LmS} {σs2 σs2':List CnS} {m m':Int}
end
section
variable {rs:List RuZ} {Ns1 Ns2:List LmN} {Sa Sb:List LmS} {now:Int} {ha hb:HoZ}
end
end
section
open Go.ChangeShapes Go.WideShapes Go.ChangeAt Go.RowKit
section
variable {w w' W:World} {s base B On:Nat} {c c':SvC} {Ns:List LmN} {N:LmN} {zs:List Int}
def keyA:ByteArray:=⟨#[97]⟩
theorem zjJ {c:SvC} (h:c.rs=false) (W:Int):c.held W=0:=by unfold SvC.held;rw [h];rfl
theorem zlB (h:LmR (planR planZ) zs N):LmP N 1 1 1 1 1 1 1 1 1 false (rX zs) (rA zs) (rB zs):=zco h
def soA:LmS:=⟨fitK,[(6,5,0,1)],⟨5,fun _=>0,fun _ _ _=>0⟩,[(⟨#[97]⟩,1,0)],1,1,0,0⟩
theorem zms {X A B:Nat→Nat} (hp:LmP N 1 1 1 1 1 1 1 1 1 false X A B):(lmZ 1).check N 5 0 ⟨#[97]⟩ 1=(soA,(1,0,0),[(⟨#[97]⟩,true)]):=by
 have hu:N.U=1:=by rw [hp.pU];decide
 have hr:refZ N 5 0 1=((0,0,0),false):=by unfold refZ;rw [hp.pB];decide
 have hs:(lmZ 1).seen N 5 ⟨#[97]⟩ 1=⟨kNew 1,[(0,0,0,0)],⟨5,fun _=>0,fun _ _ _=>0⟩,[(⟨#[97]⟩,1,0)],1,0,0,0⟩:=by
  unfold LmS.seen
  rw [hp.pT]
  rw [show offerM 1 (lmZ 1).M (lmZ 1).tot ⟨#[97]⟩ 1=([(⟨#[97]⟩,1,0)],1) by decide]
  rfl
 have he:=fun s=>zhQ (R:=N.R) (by rw [hp.ps];decide) 5 (fun _=>0) s
 have ha:LmS.adm ⟨kNew 1,[(0,0,0,0)],⟨5,fun _=>0,fun _ _ _=>0⟩,[(⟨#[97]⟩,1,0)],1,0,0,0⟩ N 5 ⟨#[97]⟩=(⟨fitK,[(5,5,0,0)],⟨5,fun _=>0,fun _ _ _=>0⟩,[(⟨#[97]⟩,1,0)],1,0,0,0⟩,[(⟨#[97]⟩,true)]):=by
  unfold LmS.adm LmS.full LmS.put
  rw [hp.pC]
  simp only [he]
  rfl
 have hj:LmS.judge ⟨fitK,[(5,5,0,0)],⟨5,fun _=>0,fun _ _ _=>0⟩,[(⟨#[97]⟩,1,0)],1,0,0,0⟩ N 5 ⟨#[97]⟩ 1=((1,0,0),⟨fitK,[(6,5,0,1)],⟨5,fun _=>0,fun _ _ _=>0⟩,[(⟨#[97]⟩,1,0)],1,0,0,0⟩):=by
  unfold LmS.judge
  rw [hp.pC,hu,hp.pW,hp.pB,hp.pL]
  rfl
 unfold LmS.check
 rw [hr,hs,ha]
 simp only [Bool.false_eq_true,if_false]
 rw [hj]
 rfl
theorem zkt (hN:Ns[0]?=some N) (hR:LmR (planR planZ) zs N) (hc:c.rs=false) (hn:c.now=0):((ho0 c 5 (rsZ (confR [planZ]))).nx (confR [planZ]) Ns (mkR 1 0 1 keyA 0)).evs.length=1∧(ho0 c 5 (rsZ (confR [planZ]))).ans (confR [planZ]) Ns (mkR 1 0 1 keyA 0)=frmZ (ansZ 1 1 0 0):=by
 have hr:(confR [planZ])[0]?=some (planR planZ):=rfl
 have hs:(rsZ (confR [planZ]))[0]?=some (lmZ 1):=rfl
 obtain ⟨e1,e2⟩:=zmf (rs:=confR [planZ]) (Ns:=Ns) (h:=ho0 c 5 (rsZ (confR [planZ]))) (q:=mkR 1 0 1 keyA 0) (i:=0) rfl hr hN hs
 have en:(ho0 c 5 (rsZ (confR [planZ]))).c.now=5:=by show max c.now 5=5;rw [hn];rfl
 have eh:∀ W,(ho0 c 5 (rsZ (confR [planZ]))).c.held W=0:=fun W=>zjJ (c:=(ho0 c 5 (rsZ (confR [planZ]))).c) hc W
 have f:=zms (zlB hR)
 have ek:strOfNums (mkR 1 0 1 keyA 0).key=⟨#[97]⟩:=by decide
 rw [e1,e2,en,eh]
 constructor
 ·show ([]++mkE _ _ (evQ N 5 0 (lmZ 1) (mkR 1 0 1 keyA 0))).length=1
  rw [List.nil_append,zfg]
  unfold evQ
  rw [if_pos (show (mkR 1 0 1 keyA 0).op=1 from rfl),ek]
  show ((lmZ 1).check N 5 0 ⟨#[97]⟩ 1).2.2.length=1
  rw [f]
  rfl
 ·unfold ansF ansQ
  rw [if_neg (show ¬ (mkR 1 0 1 keyA 0).op=4 by decide),if_pos (show (mkR 1 0 1 keyA 0).op=1 from rfl),ek]
  show frmZ (ansZ 1 ((lmZ 1).check N 5 0 ⟨#[97]⟩ 1).2.1.1 ((lmZ 1).check N 5 0 ⟨#[97]⟩ 1).2.1.2.1 ((lmZ 1).check N 5 0 ⟨#[97]⟩ 1).2.1.2.2)=_
  rw [f]
end
end
section
open Go.ChangeShapes Go.WideShapes Go.ChangeAt Go.RowKit
def zf0 (rs:List RuZ) (i:Nat):List Int:=List.replicate (3*((rs.getD i planZ).Ro+1)).toNat 0
theorem svnew0 (ps:List RuZ) (A:Option Addr) (n cc:Nat) (w:World) (hr:RdRu w A n cc (confR ps)) (hz:rightZ 4294967296 3 (660:Int) (confR ps)) :
  Calls Tryz.prog 17 #[.agg #[.int .i64 4294967296,.int .i64 3,.int .i64 660,.slice A n cc],.slice none 0 0] w fun e w'=>∃ (s:Nat) (c:SvC) (Ns:List LmN) (Ks:List CnN),e=.returned (.tuple #[.pointer (some ⟨s,0,none⟩),.int .i64 0]) ∧
   SrB w' w.heap.size s (confR ps) 660 Ns Ks c (rsZ (confR ps)) [cZ,cZ,cZ] 0∧SvNew c∧(∀ (k:Nat) r N,(confR ps)[k]?=some r→Ns[k]?=some N→LmR r (zf0 (confR ps) k) N)∧Ks.length=3∧Below w.heap.size w w' :=
 svnewB (zf:=zf0 (confR ps)) 4294967296 660 A n cc (.slice none 0 0) w hr hz (by omega) (fun i r wx hi _=>zl5 (fun r hr=>by obtain ⟨p,rfl⟩:=zbc ps r hr;exact zcM p) i r wx hi)
section
variable {w w' W:World} {s base On:Nat} {c:SvC} {rs:List RuZ} {Ns:List LmN} {Ss:List LmS} {Ks:List CnN} {σs:List CnS} {m:Int}
theorem SrB.open_ (h:SrB w base s rs On Ns Ks c Ss σs m) {ck:Int} (hck:ck≤9223372036854775807) (k:Nat) {K:CnN} {σ:CnS} (hK:Ks[k]?=some K) (hσ:σs[k]?=some σ) (ho:σ.op=false) (n:Int) (dat sed:Value) :
  Calls Tryz.prog 30 #[.pointer (some ⟨s,0,none⟩),actV 0 ck (k:Int) dat n sed] w fun e w'=>e=.returned (stepV 0)∧SrB w' base s rs On Ns Ks (c.next ck) Ss (σs.set k ⟨[],0,σ.out,true⟩) m∧Fr (chF s Ns K) w w':=by
 have e1:onS 0 σ=(0,⟨[],0,σ.out,true⟩):=by unfold onS;rw [if_pos rfl,ho];rfl
 refine (h.plain 0 ck n hck k dat sed hK hσ (by decide) (fun h=>by rcases h with h | h <;> cases h)).mono ?_
 rintro e w' ⟨rfl,h1,h2⟩
 rw [e1] at h1
 refine ⟨by rw [e1],h1,h2.mono (fun b hb=>?_)⟩
 rcases hb with hb | hb
 ·exact Or.inl hb
 ·exact Or.inr (Or.inl hb)
theorem SrB.below (h:SrB w base s rs On Ns Ks c Ss σs m) {k:Nat} {K:CnN} (hK:Ks[k]?=some K) {wb w':World} {B:Nat} (hf:Fr (chF s Ns K) w w') (hB:B≤base) (hb:Below B wb w) (hs:B≤wb.heap.size):Below B wb w' :=
 hb.trans (hf.below (Nat.le_trans hs hb.size) (fun b hb=>Nat.le_trans hB (h.ch_lo hK b hb)))
end
theorem zi8 (w:World):Calls Tryz.prog 14 #[] w fun e w'=>e=.returned (.bool true)∧Below w.heap.size w w':=by
 obtain ⟨w1,hw1,k1,b1,s1⟩:=zad w #[.int .i64 0,.int .i64 0,.int .i64 0,.int .i64 0,.int .i64 0,.int .i64 0,.int .i64 0,.int .i64 0,.bool false] 72
 obtain ⟨pb,hpb⟩:=zeq (w.heap.size)
 have hrd:RdRu w1 (some ⟨w.heap.size,0,none⟩) 1 1 [planZ]:=by
  refine ⟨Nat.le_refl _,by unfold maxLen;omega,rfl,fun _=>⟨w.heap.size,0,rfl,lt_of_block k1,fun i hi j hj=>?_⟩,fun r hr=>by rw [List.mem_singleton.1 hr];refine ⟨?_,?_,?_,?_,?_,?_,?_,?_⟩ <;> (unfold i64In planZ;dsimp only;omega)⟩
  have h0:i=0:=by simp at hi;exact hi
  subst h0
  rw [show 0+0*9+j=j by omega,k1.rd j]
  rfl
 have CF:=zhz (zgy [planZ] 660 (some ⟨w.heap.size,0,none⟩) 1 1 0 rfl w1 hrd)
 have B1:=zhz b1
 clear hrd k1 b1 s1
 rw [← hpb] at CF
 have HPB:=zhz hpb
 clear hpb
 go_enter Tryz.func14,Tryz.ntmps14
 go_upto_region 2 with (first
  | (rw [← HPB.out];go_at_call 16;((with_reducible refine CF.out.mono ?_);rintro e w2 ⟨A',m,c',rfl,r2,z2,b2⟩;have B2:=zhz (show Below w.heap.size w w2 from B1.out.trans (b2.mono B1.out.size));have CN:=zhz (svnew0 [planZ] A' m c' w2 r2 z2);clear r2 z2 b2))
  | (go_at_call 17;((with_reducible refine CN.out.mono ?_);rintro e w3 ⟨s,c,Ns,Ks,rfl,h3,n3,l3,p3,b3⟩;have B3:=zhz (show Below w.heap.size w w3 from B2.out.trans (b3.mono B2.out.size));have H3:=zhz h3;have N3:=zhz n3;have L3:=zhz l3;have P3:=zhz p3;clear h3 n3 l3 p3 b3)))
 obtain ⟨K0,hK0⟩:∃ K,Ks[0]?=some K:=⟨_,List.getElem?_eq_getElem (by rw [P3.out];decide)⟩
 have HK:=zhz hK0
 obtain ⟨base,hbase⟩:=zeq (w2.heap.size)
 rw [← hbase] at H3
 have HBS:=zhz (show w.heap.size≤base from by rw [hbase];exact B2.out.size)
 clear hK0 hbase
 have C1:=zhz (fun (wx:World) (hx:SrB wx base s (confR [planZ]) 660 Ns Ks c (rsZ (confR [planZ])) [cZ,cZ,cZ] 0)=>show Calls Tryz.prog 30 #[.pointer (some ⟨s,0,none⟩),.agg #[.int .i64 0,.int .i64 0,.int .i64 0,.slice none 0 0,.int .i64 0,.slice none 0 0]] wx (fun e w'=>e=.returned (stepV 0)∧SrB w' base s (confR [planZ]) 660 Ns Ks (c.next 0) (rsZ (confR [planZ])) [⟨[],0,[],true⟩,cZ,cZ] 0∧Fr (chF s Ns K0) wx w') from hx.open_ (ck:=0) (by decide) 0 HK.out rfl rfl 0 _ _)
 go_upto_region 5 with (go_at_call 30;((with_reducible refine (C1.out _ H3.out).mono ?_);rintro e w4 ⟨rfl,h4,f4⟩;have H4:=zhz h4;have B4:=zhz (H3.out.below HK.out f4 HBS.out B3.out (Nat.le_refl _));clear h4 f4))
 clear C1
 obtain ⟨c1,hc1⟩:=zeq (c.next 0)
 have hcn:c1.now=0∧c1.rs=false:=by rw [hc1];exact ⟨(show max c.now 0=0 by rw [N3.out.now];rfl),N3.out.rs⟩
 rw [← hc1] at H4
 have HQ:=zhz (show okQ ((confR [planZ]).length:Int) (mkR 1 0 1 keyA 0) from zkV (by decide) (by decide) (Or.inl rfl) (by decide) rfl (by decide))
 obtain ⟨N0,hN0⟩:∃ N,Ns[0]?=some N:=⟨_,List.getElem?_eq_getElem (by rw [H4.out.hn.nl];decide)⟩
 have SN:=zhz (zkt (c:=c1) hN0 (L3.out 0 _ N0 rfl hN0) hcn.2 hcn.1)
 have CE:=zhz (show Calls Tryz.prog 37 #[.agg #[.int .i64 1,.int .i64 0,.int .u32 1,.string ⟨#[97]⟩,.int .i64 0]] w4 (fun e w'=>∃ v,e=.returned v∧Own w' w4.heap.size v (encZ (mkR 1 0 1 keyA 0))∧Below w4.heap.size w4 w') from zc0 1 0 1 0 keyA w4 (zcH (rules:=1) (by decide) HQ.out) (by decide))
 have HEL:=zhz (show (encZ (mkR 1 0 1 keyA 0)).length=12∧byt (encZ (mkR 1 0 1 keyA 0)) from ⟨by decide,zhO (zcH (rules:=1) (by decide) HQ.out) (zcq keyA)⟩)
 clear hc1 hcn hN0
 obtain ⟨evn,hevn⟩:=zeq (((ho0 c1 5 (rsZ (confR [planZ]))).nx (confR [planZ]) Ns (mkR 1 0 1 keyA 0)).evs.length)
 have HEV:=zhz (show evn=1 from hevn.trans SN.out.1)
 obtain ⟨Ss1,hSs1⟩:=zeq (((ho0 c1 5 (rsZ (confR [planZ]))).nx (confR [planZ]) Ns (mkR 1 0 1 keyA 0)).Ss)
 have CK:=zhz (fun (wq:World) (g ca:Nat) (hb:Below w4.heap.size w4 wq) (hz:RdI wq .u8 (some ⟨g,0,none⟩) 12 ca (encZ (mkR 1 0 1 keyA 0))) (hg:w4.heap.size≤g)=>show Calls Tryz.prog 30 #[.pointer (some ⟨s,0,none⟩),.agg #[.int .i64 2,.int .i64 5,.int .i64 0,.slice (some ⟨g,0,none⟩) 12 ca,.int .i64 0,.slice none 0 0]] wq (fun e w'=>∃ A4 c4,e=.returned (stepQ 0 12 none 0 0 A4 1 c4)∧SrB w' base s (confR [planZ]) 660 Ns Ks (c1.next 5) Ss1 [⟨[],0,frmZ (ansZ 1 1 0 0),true⟩,cZ,cZ] (0+12*2097153)∧Fr (chF s Ns K0) wq w') from by
  refine (H4.out.ask1 5 0 (by decide) 0 g 12 ca (.slice none 0 0) (o:=[]) HK.out rfl HQ.out (by have:=zgd [planZ] (mkR 1 0 1 keyA 0);simp;omega) (by decide) hb hz hg).mono ?_
  rintro e w' ⟨A4,c4,he,h1,_,h2⟩
  rw [SN.out.2] at h1
  rw [SN.out.1] at he
  exact ⟨A4,c4,he,by rw [hSs1];exact h1,h2⟩)
 clear hevn hSs1
 go_upto_region 6 with (first
  | (go_at_call 37;((with_reducible refine CE.out.mono ?_);rintro e w5 ⟨v5,rfl,o5,b5⟩;obtain ⟨g5,ca5,rfl,r5,hg5,hl5⟩:=zb1 o5 HEL.out.2 12 HEL.out.1 (by decide);have R5:=zhz r5;have B5:=zhz b5;have G5:=zhz hg5;clear o5 b5 r5 hg5 hl5))
  | (go_at_call 30;((with_reducible refine (CK.out _ _ _ B5.out R5.out G5.out).mono ?_);rintro e w6 ⟨A6,c6,rfl,h6,f6⟩;have HB6:=zhz ((H4.out.keep B5.out).below HK.out f6 HBS.out (B4.out.trans (B5.out.mono B4.out.size)) (Nat.le_refl _));obtain ⟨y1,y2,ey1,kr,kw,ey2,b7,k7⟩:=box4S w6 (.int .i64 0) (.int .i64 12) (.slice none 0 0) (.slice A6 1 c6);have H7:=zhz (h6.keep b7);have K7:=zhz k7;have B7:=zhz (HB6.out.trans (b7.mono HB6.out.size));have NF7:=zhz (show ∀ b,chF s Ns K0 b→b<w6.heap.size from h6.ch_lt HK.out);clear h6 f6 b7 k7)))
 try rw [ey2]
 clear ey1 kr kw ey2 CE CK
 obtain ⟨xb,hxb⟩:=zeq (w6.heap.size)
 rw [← hxb] at K7 ⊢
 have NX:=zhz (show (∀ b,chF s Ns K0 b→b≠xb)∧xb<y2.heap.size from ⟨fun b hb e=>by have:=NF7.out b hb;omega,lt_of_block K7.out⟩)
 clear hxb
 have CD:=zhz (show Calls Tryz.prog 30 #[.pointer (some ⟨s,0,none⟩),.agg #[.int .i64 3,.int .i64 5,.int .i64 0,.slice none 0 0,.int .i64 99,.slice none 0 0]] y2 (fun e w'=>∃ g,e=.returned (stepQ 0 0 (some ⟨g,0,none⟩) 22 22 none 0 0)∧Blk w' g 5 (obbyC (frmZ (ansZ 1 1 0 0)))∧SrB w' base s (confR [planZ]) 660 Ns Ks ((c1.next 5).next 5) Ss1 [⟨[],0,(frmZ (ansZ 1 1 0 0)).drop 22,true⟩,cZ,cZ] (0+12*2097153)∧Fr (chF s Ns K0) y2 w') from by
  refine (H7.out.drain 5 99 (by decide) 0 22 (.slice none 0 0) (.slice none 0 0) HK.out rfl rfl (by decide)).mono ?_
  rintro e w' ⟨g,he,h1,h2,h3,_⟩
  exact ⟨g,he,h1,h2,h3.mono (fun b hb=>by rcases hb with hb | hb;exact Or.inl hb;exact Or.inr (Or.inl hb))⟩)
 go_upto_region 7 with (go_at_call 30;((with_reducible refine CD.out.mono ?_);rintro e w8 ⟨g8,rfl,o8,h8,f8⟩;have HB8:=zhz (H7.out.below HK.out f8 HBS.out B7.out (Nat.le_refl _));have HF8:=zhz f8;have KX8:=zhz (K7.out.fr f8 (fun e=>NX.out.1 _ e rfl));obtain ⟨y3,y4,ey3,kr,kw,ey4,b9,k9⟩:=box4S w8 (.int .i64 0) (.int .i64 0) (.slice (some ⟨g8,0,none⟩) 22 22) (.slice none 0 0);have O9:=zhz (o8.keep b9);have KX9:=zhz (KX8.out.keep b9);have K9:=zhz k9;have B9:=zhz (HB8.out.trans (b9.mono HB8.out.size));clear o8 h8 f8 b9 k9))
 try rw [ey4]
 clear ey3 kr kw ey4 CD
 have CR:=zhz (ziM (op:=1) (v:=1) (rem:=0) (ret:=0) O9.out (Or.inl rfl) (by unfold ansP i64P;dsimp only;omega))
 have k9r:=K9.out.rd
 go_upto_region 8 with (go_at_call 38;((with_reducible refine CR.out.mono ?_);rintro e w10 ⟨LA,LN,LC,rfl,b10⟩;obtain ⟨z1,z2,ez1,kr,kw,ez2,b11,k11⟩:=box12S w10 (.int .i64 1) (.int .i64 0) (.int .i64 1) (.int .i64 0) (.int .i64 0) (.int .i64 0) (.int .i64 0) (.int .i64 0) (.int .i64 0) (.int .i64 0) (.slice LA LN LC) (.int .i64 0);have KX11:=zhz ((KX9.out.keep b10).keep b11);have K11:=zhz k11;have B11:=zhz (show Below w.heap.size w z2 from (B9.out.trans (b10.mono B9.out.size)).trans (b11.mono (Nat.le_trans B9.out.size b10.size)));clear b10 b11 k11))
 try rw [ez2]
 clear ez1 kr kw ez2 k9r CR
 have kx:=KX11.out.rd
 have ky:=K11.out.rd
 go_wp2
 go_ret
 exact ⟨rfl,B11.out⟩
end
section
open Go.ChangeShapes Go.WideShapes Go.ChangeAt Go.RowKit
theorem zkf {w:World} {pb:Nat} {a b c d e f g h:Int} {sm:Bool} (hb:Blk w pb 72 (planC a b c d e f g h sm)) (hp:RuleOK a b c d e f g h):RdRu w (some ⟨pb,0,none⟩) 1 1 [⟨a,b,c,d,e,f,g,h,sm⟩]:=by
 refine ⟨Nat.le_refl _,by unfold maxLen;omega,rfl,fun _=>⟨pb,0,rfl,lt_of_block hb,fun i hi j hj=>?_⟩,fun r hr=>by rw [List.mem_singleton.1 hr];exact hp⟩
 have h0:i=0:=by simp at hi;exact hi
 subst h0
 rw [show 0+0*9+j=j by omega,hb.rd j]
 rfl
section
variable {w w' wq:World} {s base:Nat} {c:SvC} {rs:List RuZ} {Ns:List LmN} {Ss:List LmS} {Ks:List CnN} {σs:List CnS} {m:Int} {K:CnN}
theorem zl1 {op ru co k:Int} {ky:ByteArray} (hq:rightP (mkR op ru co ky k) 256) (hc:0≤co∧co<4294967296) (w:World) :
  Calls Tryz.prog 37 #[.agg #[.int .i64 op,.int .i64 ru,.int .u32 co,.string ky,.int .i64 k]] w fun e w'=>∃ g na ca,e=.returned (.slice (some ⟨g,0,none⟩) na ca)∧(encZ (mkR op ru co ky k)).length=na∧RdI w' .u8 (some ⟨g,0,none⟩) na ca (encZ (mkR op ru co ky k))∧w.heap.size≤g∧Below w.heap.size w w':=by
 refine (zc0 op ru co k ky w hq hc).mono ?_
 rintro e w' ⟨v,rfl,ho,hb⟩
 obtain ⟨g,ca,rfl,h1,h2,_⟩:=zb1 ho (zhO hq (zcq ky)) _ rfl (by have:=zdG hq;omega)
 exact ⟨g,_,ca,rfl,rfl,h1,h2,hb⟩
end
end
section
open Go.ChangeShapes Go.WideShapes Go.ChangeAt Go.RowKit
abbrev inS (b1 h0 b:Nat):Prop:=b1≤b∧b<h0
section
variable {W w w':World} {b1 s b2 t h0:Nat} {rs:List RuZ} {Na:List LmN} {Ka:List CnN} {Nb:List LmN} {Kb:List CnN} {now m:Int} {oa ob:List Int} {Ka0 Kb0:CnN} {q:Req}
end
end
section
open Go.ChangeShapes Go.WideShapes Go.ChangeAt Go.RowKit
section
variable {W w w':World} {base s h0:Nat} {rs:List RuZ} {Ns:List LmN} {Ks:List CnN} {c:SvC} {Ss:List LmS} {σs:List CnS} {now m:Int} {q:Req}
end
section
variable {W w w':World} {base s h0:Nat} {ps:List RuZ} {Ns:List LmN} {Ks:List CnN} {m:Int} {q:Req} {k:Nat} {x:List Int}
end
end
section
open Go.ChangeShapes Go.WideShapes Go.ChangeAt Go.RowKit
structure TxI (W w:World) (base s h0:Nat) (ps:List RuZ) (Ns:List LmN) (Ks:List CnN) (N0:LmN) (now m:Int) (o:List Int) (cn:Nat) (G:ByteArray→Option Int):Prop where
 st:∃ c Ss σ,SrB w base s (confR ps) 660 Ns Ks c Ss [⟨[],0,o,true⟩,cZ,cZ] m∧(c.rs=false∧c.now≤now)∧Ss[0]?=some σ∧LmX N0 σ cn G
 n0:Ns[0]?=some N0
 lo:W.heap.size≤base
 hi:∀ x,svF s Ns Ks x→x<h0
 hs:h0≤w.heap.size
 bl:Below W.heap.size W w
 k3:Ks.length=3
section
variable {W w w':World} {base s h0:Nat} {ps:List RuZ} {Ns:List LmN} {Ks:List CnN} {N0:LmN} {now m:Int} {o:List Int} {cn:Nat} {G:ByteArray→Option Int}
theorem TxI.keep (h:TxI W w base s h0 ps Ns Ks N0 now m o cn G) (hb:Below w.heap.size w w'):TxI W w' base s h0 ps Ns Ks N0 now m o cn G:=by
 obtain ⟨⟨c,Ss,σ,h1,h1'⟩,h2,h3,h4,h5,h6,h7⟩:=h
 exact ⟨⟨c,Ss,σ,h1.keep hb,h1'⟩,h2,h3,h4,Nat.le_trans h5 hb.size,h6.trans (hb.mono h6.size),h7⟩
theorem TxI.own (h:TxI W w base s h0 ps Ns Ks N0 now m o cn G) {F:Nat→Prop} (f:Fr F w w') (hF:∀ b,F b→h0≤b):TxI W w' base s h0 ps Ns Ks N0 now m o cn G:=by
 obtain ⟨⟨c,Ss,σ,h1,h1'⟩,h2,h3,h4,h5,h6,h7⟩:=h
 exact ⟨⟨c,Ss,σ,h1.frS f (fun b hb hs=>by have:=hF b hb;have:=h4 b hs;omega),h1'⟩,h2,h3,h4,Nat.le_trans h5 f.size,h6.trans (f.below h6.size (fun b hb=>by have h9:=hF b hb;have h10:=h1.at_.lo;have h11:=h4 s (Or.inl rfl);omega)),h7⟩
theorem TxI.bd (h:TxI W w base s h0 ps Ns Ks N0 now m o cn G) (hn:0≤now∧now≤4611686018427387904) {k:ByteArray} {F:Int} (hF:G k=some F):0≤F∧F≤now+1099511627776:=by
 obtain ⟨⟨c,Ss,σ,h1,⟨_,hnw⟩,hσ,hX⟩,hn0,_⟩:=h
 have hA:=h1.at_.J.at_ 0 N0 σ hn0 hσ
 have h9:=hX.bd (h1.lm 0 N0 σ hn0 hσ) hA.hp.len hF
 omega
theorem TxI.check (h:TxI W w base s h0 ps Ns Ks N0 now m [] cn G) {ck:Int} (hck:now≤ck∧ck<4611686018427387904) (h0n:0≤ck) {ky:ByteArray} (hky:ky.size≤64) {d:Int} (hd:1≤d∧d≤N0.B) (hroom:G ky≠none∨cn<N0.Q.N.n) (hq:okQ ((confR ps).length:Int) (mkR 1 0 d ky 0)) (hm:m+75*2097153≤576460752303423488)
  (A:Option Addr) (na ca:Nat) (hz:RdI w .u8 A na ca (encZ (mkR 1 0 d ky 0))) (hg:∀ b off,0<na→A=some ⟨b,off,none⟩→b<base∨h0≤b) (n:Int) (sed:Value) :
  Calls Tryz.prog 30 #[.pointer (some ⟨s,0,none⟩),actV 2 ck 0 (.slice A na ca) n sed] w fun e w'=>∃ A4 n4 c4,e=.returned (stepQ 0 (na:Int) none 0 0 A4 n4 c4)∧TxI W w' base s h0 ps Ns Ks N0 ck (m+75*2097153) (frmZ (ansZ 1 (exC ((G ky).getD ck) N0.U N0.B ck d).1 (exC ((G ky).getD ck) N0.U N0.B ck d).2.1 (exC ((G ky).getD ck) N0.U N0.B ck d).2.2)) (if (G ky).isSome then cn else cn+1) (updG G ky (exF ((G ky).getD ck) N0.U N0.B ck d))∧byt (frmZ (ansZ 1 (exC ((G ky).getD ck) N0.U N0.B ck d).1 (exC ((G ky).getD ck) N0.U N0.B ck d).2.1 (exC ((G ky).getD ck) N0.U N0.B ck d).2.2))∧ansP (exC ((G ky).getD ck) N0.U N0.B ck d)∧Fr (inS base h0) w w':=by
 obtain ⟨⟨c,Ss,σ,h1,⟨hr0,hnw⟩,hσ,hX⟩,hn0,h2,h3,h4,h5,h6⟩:=h
 obtain ⟨K,hK⟩:∃ K,Ks[0]?=some K:=⟨_,List.getElem?_eq_getElem (by omega)⟩
 obtain ⟨r,hr⟩:∃ r,(confR ps)[0]?=some r:=⟨_,List.getElem?_eq_getElem (by have:=(zbL ps).1;omega)⟩
 have h75:na≤75:=by
  rw [← hz.len,za8 hq.1]
  have:=zfm hq
  split
  ·omega
  ·split <;> omega
 have hin:∀ b,chF s Ns K b→inS base h0 b:=fun b hb=>⟨h1.sv_lo b (zgH hK hb),h3 b (zgH hK hb)⟩
 have hA:=h1.at_.J.at_ 0 N0 σ hn0 hσ
 have hLN:∃ span,LimN N0 span:=by
  obtain ⟨zs,hL⟩:=h1.hn.lr 0 r N0 hr hn0
  obtain ⟨p,rfl⟩:=zbK hr
  exact ⟨_,zjU (zco hL)⟩
 obtain ⟨span,hLN⟩:=hLN
 obtain ⟨hx1,hx2⟩:=zmf (rs:=confR ps) (Ns:=Ns) (h:=ho0 c ck Ss) (q:=mkR 1 0 d ky 0) (i:=0) rfl hr hn0 hσ
 have hhe:(ho0 c ck Ss).c.held r.W=0:=zln (c:=(ho0 c ck Ss).c) hr0 _
 have hcn:(ho0 c ck Ss).c.now=ck:=(show max c.now ck=ck by omega)
 have eo:(mkR 1 0 d ky 0).op=1:=rfl
 have ek:strOfNums (mkR 1 0 d ky 0).key=ky:=zkv ky
 have ed:(mkR 1 0 d ky 0).cost=d:=rfl
 have hbu:=h1.bud (ck:=ck) (by omega) (n:=1) (by omega) (by omega)
 obtain ⟨b1,_,_,m',b4,b5⟩:=hbu
 have hI:=b5 0 N0 σ hn0 hσ
 have b4':m'+2097153≤576460752303423488:=by simpa using b4
 have hP:=hI.check_p (h1.hn.B 0 N0 hn0) b4' ky (cost:=d) (show (0:Int)≤0∧(0:Int)≤9223372036854775807 by decide)
 rw [hcn] at hP
 rw [hcn,Int.min_eq_left (by omega)] at hI
 obtain ⟨e1,e2⟩:=hX.check hLN hI hck.2 hA.hp.len hA.ks ky hky hd hroom
 have hnq:nxQ N0 (ho0 c ck Ss).c.now ((ho0 c ck Ss).c.held r.W) σ (mkR 1 0 d ky 0)=(σ.check N0 ck 0 ky d).1:=by
  unfold nxQ
  rw [if_pos eo,hhe,hcn,ek,ed]
 have hans:(ho0 c ck Ss).ans (confR ps) Ns (mkR 1 0 d ky 0)=frmZ (ansZ 1 (σ.check N0 ck 0 ky d).2.1.1 (σ.check N0 ck 0 ky d).2.1.2.1 (σ.check N0 ck 0 ky d).2.1.2.2):=by
  rw [hx2]
  unfold ansF
  rw [if_neg (by rw [eo];decide)]
  unfold ansQ
  rw [if_pos eo,hhe,hcn,ek,ed]
 have hset:(((ho0 c ck Ss).nx (confR ps) Ns (mkR 1 0 d ky 0)).Ss)[0]?=some (σ.check N0 ck 0 ky d).1:=by
  rw [hx1,hnq]
  exact List.getElem?_set_self (List.getElem?_eq_some_iff.1 hσ).1
 have hby:=HoZ.ans_byt (h:=ho0 c ck Ss) h1.hn (h1.bud (ck:=ck) (by omega) (n:=1) (by omega) (by omega)) hq
 rw [hans,e1] at hby
 rw [e1] at hP
 refine (h1.ask ck n (by omega) 0 A na ca sed hK rfl hq (by have:=zgd ps (mkR 1 0 d ky 0);simp only [List.length_nil];omega) (by omega) (by omega) hz (fun b off e0 e=>Or.inr (fun b' hb' e'=>by
  have h8:=hg b off e0 e
  have h9:=hin b' hb'
  have h10:=h9.1
  have h11:=h9.2
  omega))).mono ?_
 rintro e w' ⟨A4,c4,rfl,k1,_,f⟩
 rw [List.nil_append,hans,e1] at k1
 exact ⟨A4,_,c4,rfl,⟨⟨_,_,_,k1.mono ⟨by omega,hm⟩,⟨hr0,(show max c.now ck≤ck by omega)⟩,hset,e2⟩,hn0,h2,h3,Nat.le_trans h4 f.size,h5.trans (f.below h5.size (fun b hb=>Nat.le_trans h2 (hin b hb).1)),h6⟩,hby,hP,f.mono hin⟩
theorem TxI.drain (h:TxI W w base s h0 ps Ns Ks N0 now m o cn G) {ck:Int} (hck:now≤ck∧ck≤9223372036854775807) (n:Int) (hn:(o.length:Int)≤n) (ho:o.length≤660) (hb:byt o) (hm:m≤576460752303423488) (dat sed:Value) :
  Calls Tryz.prog 30 #[.pointer (some ⟨s,0,none⟩),actV 3 ck 0 dat n sed] w fun e w'=>∃ g d,e=.returned (stepQ 0 0 (some ⟨g,0,none⟩) d d none 0 0)∧d=o.length∧RdI w' .u8 (some ⟨g,0,none⟩) d d o∧TxI W w' base s h0 ps Ns Ks N0 ck m [] cn G∧Fr (inS base h0) w w'∧w.heap.size≤g:=by
 obtain ⟨⟨c,Ss,σ,h1,⟨hr0,hnw⟩,h1'⟩,hn0,h2,h3,h4,h5,h6⟩:=h
 obtain ⟨K,hK⟩:∃ K,Ks[0]?=some K:=⟨_,List.getElem?_eq_getElem (by omega)⟩
 have hin:∀ b,chF s Ns K b→inS base h0 b:=fun b hb=>⟨h1.sv_lo b (zgH hK hb),h3 b (zgH hK hb)⟩
 refine (h1.drain ck n hck.2 0 o.length dat sed hK rfl rfl (by show (o.length:Int)=max 0 (min n (o.length:Int));omega)).mono ?_
 rintro e w' ⟨g,rfl,g1,g2,g3,g4⟩
 have f:Fr (chF s Ns K) w w':=g3.mono (fun b hb=>by
  rcases hb with hb | hb
  ·exact Or.inl hb
  ·exact Or.inr (Or.inl hb))
 rw [List.take_length] at g1
 rw [List.drop_length] at g2
 exact ⟨g,o.length,rfl,rfl,zkK g1 rfl (by omega) hb,⟨⟨_,_,σ,g2,⟨hr0,(show max c.now ck≤ck by omega)⟩,h1'⟩,hn0,h2,h3,Nat.le_trans h4 f.size,h5.trans (f.below h5.size (fun b hb=>Nat.le_trans h2 (hin b hb).1)),h6⟩,f.mono hin,g4⟩
end
end
section
open Go.ChangeShapes Go.WideShapes Go.ChangeAt Go.RowKit
section
variable {W0 W w w':World} {base s On hi:Nat} {ps:List RuZ} {now m:Int} {v:Value} {ls:List DoV} {X:Nat→Prop}
end
end
section
open Go.ChangeShapes Go.WideShapes Go.ChangeAt Go.RowKit
end
end Go.Proofs.YtambcbbekoehiaaGreat
