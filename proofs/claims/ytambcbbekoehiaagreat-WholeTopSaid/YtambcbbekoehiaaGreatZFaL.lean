import Derived.Test.YtambcbbekoehiaaGreatZFrN
import Derived.Test.YtambcbbekoehiaaGreatZRowF
set_option linter.unusedSimpArgs false
set_option linter.unusedVariables false
set_option maxRecDepth 100000
set_option maxHeartbeats 9000000
namespace Go.Proofs.YtambcbbekoehiaaGreat
open Go.ChangeShapes Go.WideShapes Go.ChangeAt Go.RowKit
section
open Go.Deep
structure CV where
 s:ByteArray
 n:Int
 e:Int
def CV.z (a:CV):Cnt:=⟨numsC a.s,a.n,a.e⟩
def CV.cells (a:CV):List Value:=[.string a.s,.int .i64 a.n,.int .i64 a.e]
abbrev cvC (s:ByteArray) (n e:Int):Array Value:=#[.string s,.int .i64 n,.int .i64 e]
def CV.okV (a:CV):Prop:=a.s.size≤maxLen∧i64P a.n∧i64P a.e
structure CvAt (w:World) (A:Option Addr) (c:Nat) (ls:List CV):Prop where
 cap:ls.length≤c
 max:c≤maxLen
 at_:0<ls.length→∃ g off,A=some ⟨g,off,none⟩∧g<w.heap.size∧∀ (j:Nat) (h:j<ls.length) (i:Nat),i<3→w.cell? ⟨g,off+j*3+i,none⟩=(ls[j]).cells[i]?
theorem CvAt.below {w w':World} {c:Nat} {A:Option Addr} {ls:List CV} (h:CvAt w A c ls) (hb:Below w.heap.size w w'):CvAt w' A c ls :=
 ⟨h.cap,h.max,fun h0=>by
  obtain ⟨g,off,e,hlt,hc⟩:=h.at_ h0
  exact ⟨g,off,e,Nat.lt_of_lt_of_le hlt hb.size,fun j hj i hi=>(hb.cell (p:=⟨g,off+j*3+i,none⟩) hlt).trans (hc j hj i hi)⟩⟩
section
variable {H:Type} {enc:TypeId × Value→H} {P:Program}
end
theorem CV.ok {a:CV} (h:a.okV) (hs:a.s.size≤64):a.z.ok:=⟨by show (numsC a.s).length≤64;rw [zax];exact hs,zcF _,h.2.1,h.2.2⟩
def zs (ls:List CV):List Cnt:=ls.map CV.z
theorem zna {ls:List CV} (h:∀ a ∈ ls,a.okV) (hs:∀ a ∈ ls,a.s.size≤64):oks (zs ls):=fun c hc=>by
 obtain ⟨a,ha,rfl⟩:=List.mem_map.1 hc
 exact CV.ok (h a ha) (hs a ha)
theorem za9 (ls:List CV):(zs ls).length=ls.length:=List.length_map _
theorem zf8 {rule:Int} {l:List Cnt} (hr:0≤rule∧rule≤255) (hl:l.length≤255) (h:oks l):byt (topZ rule l):=by
 intro z hz
 unfold topZ at hz
 simp only [List.mem_cons] at hz
 rcases hz with rfl | rfl | rfl | hz
 ·omega
 ·omega
 ·omega
 ·exact zgp h z hz
theorem zdK (rule:Int) (l:List Cnt):(topZ rule l).length=3+sumL l:=by unfold topZ;simp [zdW];omega
theorem zmB {ls:List CV} {i:Nat} (hi:i<ls.length):flat (zs (ls.take (i+1)))=flat (zs (ls.take i))++(ls[i]).z.z:=by
 unfold zs
 rw [List.take_succ_eq_append_getElem hi,List.map_append,zgo]
 simp [flat]
theorem zis {ls:List CV} (h:oks (zs ls)) (i:Nat):(flat (zs (ls.take i))).length≤81*ls.length:=by
 have h1:oks (zs (ls.take i)):=fun c hc=>h c (by
  unfold zs at hc ⊢
  rw [List.map_take] at hc
  exact List.mem_of_mem_take hc)
 have:=zcD h1
 rw [za9,List.length_take] at this
 omega
theorem zhf (rule:Int) (A:Option Addr) (n c:Nat) (ls:List CV) (hr:0≤rule∧rule≤255) (hl:ls.length=n) (hn:n≤255) (w:World) (ha:CvAt w A c ls) (hok:∀ a ∈ ls,a.okV) (hsz:∀ a ∈ ls,a.s.size≤64) :
  Calls Tryz.prog 247 #[.int .i64 rule,.slice A n c] w fun e w'=>∃ v',e=.returned v'∧Own w' w.heap.size v' (frmZ (topZ rule (zs ls)))∧Below w.heap.size w w':=by
 have eop:IntKind.u8.wrap rule=rule:=by rw [IntKind.wrap_u8];omega
 have en:IntKind.u8.wrap (n:Int)=(n:Int):=by rw [IntKind.wrap_u8];omega
 have hcp:=ha.cap
 rw [hl] at hcp
 have hmx:=ha.max
 unfold maxLen at hmx
 have HL:=zhz hl
 have HA:=zhz ha
 have HOK:=zhz hok
 have HSZ:=zhz hsz
 have HOZ:=zhz (zna hok hsz)
 have HRL:=zhz hr
 have hn1:(n:Int)≤255:=by omega
 have OL:=zhz (show Own (w.alloc (.cells #[.int .u8 132,.int .u8 rule,.int .u8 (n:Int)] 5)) w.heap.size (.slice (some ⟨w.heap.size,0,none⟩) 3 3) [132,rule,(n:Int)] from zcU w w.heap.size 3 [132,rule,(n:Int)] (Nat.le_refl _) rfl (by unfold maxLen;omega))
 have F0:=zhz (FrU.alloc (B:=w.heap.size) (Nat.le_refl w.heap.size) (.cells #[.int .u8 132,.int .u8 rule,.int .u8 (n:Int)] 5))
 clear hr hl ha hok hsz
 go_enter Tryz.func247,Tryz.ntmps247
 go_upto_region 3 with (fail)
 go_loopg [5,16] n (fun k v s16 wr=>∃ i:Nat,i≤n∧k=n - i∧s16=.int .i64 (i:Int)∧Own wr w.heap.size v ([132,rule,(n:Int)]++flat (zs (ls.take i)))∧FrU w.heap.size w wr)
 case atStart=>exact ⟨0,by omega,by omega,rfl,by simpa [zs,flat] using OL.out,F0.out⟩
 case round =>
  obtain ⟨i,hi,hkk,rfl,hown,hf⟩:=hrel
  have HK:=zhz hkk
  have HOW:=zhz hown
  have HF:=zhz hf
  clear hkk hown
  by_cases hin:i<n
  ·have hil:i<ls.length:=by rw [HL.out];exact hin
   have HNX:=zhz (zmB hil)
   have HLE:=zhz (zis HOZ.out i)
   obtain ⟨a,haa⟩:=zeq (ls[i])
   have hal:a ∈ ls:=by rw [haa];exact List.getElem_mem hil
   have OKA:=zhz (HOK.out a hal)
   have hss:=HSZ.out a hal
   obtain ⟨g,off,rfl,hlt,hc⟩:=(HA.out.below (hf.below (Nat.le_refl _))).at_ (by omega)
   have c0:=hc i hil 0 (by omega)
   have c1:=hc i hil 1 (by omega)
   have c2:=hc i hil 2 (by omega)
   rw [← haa] at c0 c1 c2 HNX
   obtain ⟨s,cn,ce⟩:=a
   have HS64:=zhz (show s.size≤64 from hss)
   have HZZ:=zhz (show ∀ l:List Int,((l++((s.size % 256:Nat):Int) :: numsC s)++be8s [cn,ce])=l++(CV.z ⟨s,cn,ce⟩).z from fun l=>by
    unfold CV.z Cnt.z
    have:s.size≤64:=hss
    rw [Nat.mod_eq_of_lt (by omega)]
    simp [be8s,zax])
   simp [CV.cells] at c0 c1 c2
   clear haa hc hf hal hss
   go_upto_region 5 with (fail)
   clear c0 c1 c2
   obtain ⟨w3,hw3,hbk,hbl,hsz3⟩:=zad wr (cvC s cn ce) 121
   change Code.wp _ _ _ _ (wr.alloc (.cells (cvC s cn ce) 121))
   rw [hw3]
   obtain ⟨b3,hb3⟩:=zeq (wr.heap.size)
   rw [← hb3] at hbk ⊢
   have SZR:=zhz (show w.heap.size≤wr.heap.size from HF.out.size)
   have F3:=zhz (show FrU w.heap.size w w3.drew from by rw [← hw3];exact (HF.out.trans (FrU.alloc SZR.out _)).trans (FrU.of_below (zaa (Below.refl _ _) 1)))
   have y1:∀ j,w3.drew.cell? ⟨b3,j,none⟩=(cvC s cn ce)[j]?:=(Blk.drew hbk).rd
   have BK:=zhz (show Blk w3.drew b3 121 (cvC s cn ce) from hbk.drew)
   have O3:=zhz (show Own w3.drew w.heap.size u5 ([132,rule,(n:Int)]++flat (zs (ls.take i))) from (HOW.out.below hbl).below (zaa (Below.refl _ _) 1))
   have SZ3:=zhz (show w.heap.size≤w3.drew.heap.size from F3.out.size)
   have CT:=zhz (zlE w.heap.size u5 _ s (by have:=HS64.out;omega) (by have:=HLE.out;have:=HL.out;simp;omega) w3.drew O3.out SZ3.out)
   clear hw3 hbk hbl hsz3 hb3
   have CNN:=zhz (fun (v4:Value) (wx:World) (gx:Nat) (ho:Own wx w.heap.size v4 (([132,rule,(n:Int)]++flat (zs (ls.take i)))++((s.size % 256:Nat):Int) :: numsC s)) (hs:w.heap.size≤wx.heap.size) (hg:Blk wx gx 2 #[.int .i64 cn,.int .i64 ce]) =>
    zcT w.heap.size v4 _ gx 2 [cn,ce] (zcS (P:=i64P) OKA.out.2.1 OKA.out.2.2) rfl (by have:=HLE.out;have:=HL.out;have:=HS64.out;simp [zax];omega) wx ho hs hg)
   refine wp_region_held_drew (S:=fun w'=>∀ j,w'.cell? ⟨b3,j,none⟩=(cvC s cn ce)[j]?) (by kernel_rfl) y1 (fun hHeld=>?_)
   clear y1
   refine wR 0 ?_
   refine wR 1 ?_
   refine wR 2 ?_
   refine wR 4 ?_
   refine wR 5 ?_
   refine wR 6 ?_
   refine wR 7 ?_
   refine wpAnyH_ready (rs:=[3,8]) (by kernel_rfl) (by simp) ?_
   refine AllReadyH.cons (o:=?_) ?_ ?_ ?_
   rotate_left 1
   ·simp only [List.getElem?_toArray,List.getElem?_cons_succ,List.getElem?_cons_zero];rfl
   ·skip
    intro K hK
    go_simp
    ((with_reducible refine CT.out.mono ?_);rintro e w4 ⟨v4,rfl,o4,f4⟩;have O4:=zhz o4;have BK4:=zhz (f4.blk BK.out (.inr (by decide)));have F4:=zhz (F3.out.trans f4);have SZ4:=zhz (show w.heap.size≤w4.heap.size from F4.out.size);clear o4 f4)
    refine hK.out _ _ BK4.out.rd (fun hHeld=>?_)
    clear hK K
    try simp only [Act.put,zs1,zs2,zs3]
    have O5:=zhz (O4.out.below ((Below.refl _ _).alloc (Nat.le_refl _) (.cells #[.int .i64 cn,.int .i64 ce] 2)))
    have K5:=zhz (heap_alloc_new w4 (.cells #[.int .i64 cn,.int .i64 ce] 2))
    have BK5:=zhz (BK4.out.alloc (.cells #[.int .i64 cn,.int .i64 ce] 2))
    have F5:=zhz (F4.out.trans (FrU.alloc SZ4.out (.cells #[.int .i64 cn,.int .i64 ce] 2)))
    refine wC 8 fun K hK=>?_
    go_simp
    skip
    refine hK.out _ _ BK5.out.rd fun hHeld=>?_
    clear hK K
    try simp only [Act.put,zs1,zs2,zs3]
    refine wC 9 fun K hK=>?_
    go_simp
    ((with_reducible refine (CNN.out _ _ _ O5.out F5.out.size K5.out).mono ?_);rintro e w6 ⟨v6,rfl,o6,f6⟩;have O6:=zhz o6;have BK6:=zhz (f6.blk BK5.out (.inr (by decide)));have F6:=zhz (F5.out.trans f6);clear o6 f6)
    refine hK.out _ _ BK6.out.rd fun hHeld=>?_
    clear hK K
    try simp only [Act.put,zs1,zs2,zs3]
    refine wR 10 ?_
    refine wpAnyH_done (by kernel_rfl) ?_ _
    clear hHeld
    go_wp2
    go_roundg (n - (i+1))
    case measure=>have:=HK.out;omega
    case rel=>exact ⟨i+1,by omega,by omega,by go_num,by rw [HNX.out,← List.append_assoc,← HZZ.out];exact O6.out,F6.out⟩
   ·skip
    have OA:=zhz (show Own (w3.alloc (.cells #[.int .i64 cn,.int .i64 ce] 2)).drew w.heap.size u5 ([132,rule,(n:Int)]++flat (zs (ls.take i))) from O3.out.below ((Below.refl _ _).alloc (Nat.le_refl _) (.cells #[.int .i64 cn,.int .i64 ce] 2)))
    have KA:=zhz (show Blk (w3.alloc (.cells #[.int .i64 cn,.int .i64 ce] 2)).drew w3.heap.size 2 #[.int .i64 cn,.int .i64 ce] from heap_alloc_new w3.drew (.cells #[.int .i64 cn,.int .i64 ce] 2))
    have BKA:=zhz (show Blk (w3.alloc (.cells #[.int .i64 cn,.int .i64 ce] 2)).drew b3 121 (cvC s cn ce) from BK.out.alloc (.cells #[.int .i64 cn,.int .i64 ce] 2))
    have FA:=zhz (show FrU w.heap.size w (w3.alloc (.cells #[.int .i64 cn,.int .i64 ce] 2)).drew from F3.out.trans (FrU.alloc SZ3.out (.cells #[.int .i64 cn,.int .i64 ce] 2)))
    have CTA:=zhz (zlE w.heap.size u5 _ s (by have:=HS64.out;omega) (by have:=HLE.out;have:=HL.out;simp;omega) _ OA.out FA.out.size)
    refine AllReadyH.cons (o:=?_) ?_ ?_ ?_
    rotate_left 1
    ·simp only [List.getElem?_toArray,List.getElem?_cons_succ,List.getElem?_cons_zero];rfl
    rotate_left 1
    ·exact AllReadyH.nil
    intro K hK
    go_simp
    skip
    refine hK.out _ _ BKA.out.rd (fun hHeld=>?_)
    clear hK K
    try simp only [Act.put,zs1,zs2,zs3]
    refine wC 3 fun K hK=>?_
    go_simp
    ((with_reducible refine CTA.out.mono ?_);rintro e w4 ⟨v4,rfl,o4,f4⟩;have O4:=zhz o4;have BK4:=zhz (f4.blk BKA.out (.inr (by decide)));have K4:=zhz (f4.blk KA.out (.inr (by decide)));have F4:=zhz (FA.out.trans f4);clear o4 f4)
    refine hK.out _ _ BK4.out.rd fun hHeld=>?_
    clear hK K
    try simp only [Act.put,zs1,zs2,zs3]
    refine wC 9 fun K hK=>?_
    go_simp
    ((with_reducible refine (CNN.out _ _ _ O4.out F4.out.size K4.out).mono ?_);rintro e w6 ⟨v6,rfl,o6,f6⟩;have O6:=zhz o6;have BK6:=zhz (f6.blk BK4.out (.inr (by decide)));have F6:=zhz (F4.out.trans f6);clear o6 f6)
    refine hK.out _ _ BK6.out.rd fun hHeld=>?_
    clear hK K
    try simp only [Act.put,zs1,zs2,zs3]
    refine wR 10 ?_
    refine wpAnyH_done (by kernel_rfl) ?_ _
    clear hHeld
    go_wp2
    go_roundg (n - (i+1))
    case measure=>have:=HK.out;omega
    case rel=>exact ⟨i+1,by omega,by omega,by go_num,by rw [HNX.out,← List.append_assoc,← HZZ.out];exact O6.out,F6.out⟩
  ·have hie:i=n:=by omega
   subst hie
   have HTP:=zhz (show [132,rule,(i:Int)]++flat (zs (ls.take i))=topZ rule (zs ls) from by
    rw [List.take_of_length_le (by rw [HL.out];exact Nat.le_refl _)]
    unfold topZ
    rw [za9,HL.out]
    rfl)
   have HBL:=zhz (hf.below (Nat.le_refl _))
   have OZ:=HOW.out
   rw [HTP.out] at OZ
   obtain ⟨g5,c5,rfl,r5,_⟩:=zce OZ (zf8 HRL.out (by rw [za9,HL.out];omega) HOZ.out) (3+sumL (zs ls)) (zdK _ _) (by omega)
   have R5:=zhz r5
   have HS:=zhz (show 3+sumL (zs ls)≤60000 from by
    have:=zcD HOZ.out
    rw [zdW,za9,HL.out] at this
    omega)
   clear hf OZ r5
   go_wp2_with (go_at_call 82;((with_reducible refine (zaX 168 (by omega) _ _ _ _ HS.out _ R5.out).mono ?_);rintro e w5 ⟨v5,rfl,o5,b5⟩;have O5:=zhz o5;have BL5:=zhz (HBL.out.trans (b5.mono HBL.out.size));clear o5 b5))
   go_ret
   refine ⟨v5,rfl,?_,BL5.out⟩
   have:=O5.out.more (base':=w.heap.size) HBL.out.size
   unfold frmZ
   rw [zdK]
   exact this
end
section
open Go.Deep
theorem zks {q:List Int} {m k:Nat} {pre:List Cnt} (hk:q.getD 0 0=(k:Int)) (h1:17≤q.length) (h2:k≤64) (h3:17+k≤q.length) :
  (lstZ (m+1) q).map (pre++·)=(lstZ m (q.drop (17+k))).map ((pre++[⟨(q.drop 1).take k,num8 (q.drop (1+k)),num8 (q.drop (9+k))⟩])++·):=by
 rw [lstZ,hk,if_neg (by omega),Int.toNat_natCast]
 cases lstZ m (q.drop (17+k)) with
 | none=>rfl
 | some l=>simp
theorem ziM {q:List Int} {m:Nat} (h:q.length<17∨64<q.getD 0 0∨q.length<17+(q.getD 0 0).toNat):lstZ (m+1) q=none:=by
 rw [lstZ,if_pos h]
theorem za8 {x:Int} (h:0≤x∧x<18446744073709551616):IntKind.i64.wrap x=sg x:=by
 rw [IntKind.wrap_i64]
 unfold sg
 split <;> omega
theorem infoCnt:(Tryz.prog.info? 121).map (fun i=>(i.zero,i.size,i.bytes))=some (some (.agg #[.string ⟨#[]⟩,.int .i64 0,.int .i64 0]),3,32):=by kernel_rfl
def cells3:List CV→List Value
 | []=>[]
 | x :: r=>x.cells++cells3 r
theorem zdd:∀ l m,cells3 (l++m)=cells3 l++cells3 m
 | [],_=>rfl
 | x :: r,m=>by rw [List.cons_append,cells3,cells3,zdd r m,List.append_assoc]
theorem zbx {w:World} {base sz n:Nat} {e:TypeId} {v:Value} {xs:List Value} (h:w.ownsRow base e sz v n xs):∀ g,v.ownBlock=some g→base≤g∧g<w.heap.size:=by
 intro g hg
 rcases h.2 with ⟨rfl,_⟩ | ⟨g',cap,cur,rfl,hb,hh,_⟩
 ·cases hg
 ·have:g'=g:=by simpa [Value.ownBlock] using hg
  subst this
  exact ⟨hb,lt_of_block hh⟩
theorem zbw {w w':World} {F:Nat→Prop} {base sz n:Nat} {e:TypeId} {v:Value} {xs:List Value} (h:w.ownsRow base e sz v n xs) (hf:Fr F w w') (hF:∀ g,v.ownBlock=some g→¬ F g):w'.ownsRow base e sz v n xs:=by
 refine ⟨h.1,?_⟩
 rcases h.2 with h0 | ⟨g,cap,cur,hv,hb,hg,hr⟩
 ·exact .inl h0
 ·exact .inr ⟨g,cap,cur,hv,hb,(hf.block g (lt_of_block hg) (hF g (by rw [hv];rfl))).trans hg,hr⟩
theorem zcf {w w':World} {base sz n:Nat} {e:TypeId} {v:Value} {xs:List Value} (h:w.ownsRow base e sz v n xs) (hb:Below w.heap.size w w'):w'.ownsRow base e sz v n xs:=zbw h (F:=fun _=>False) (Fr.of_below hb) (fun _ _=>id)
def isSl (v:Value):Prop:=∃ LA LN LC,v=.slice LA LN LC
theorem zb0:isSl (.slice none 0 0):=⟨_,_,_,rfl⟩
theorem zcV {w:World} {base sz n:Nat} {e:TypeId} {v:Value} {xs:List Value} (h:w.ownsRow base e sz v n xs):isSl v:=by
 rcases h.2 with ⟨rfl,_⟩ | ⟨g',cap,cur,rfl,_⟩
 ·exact zb0
 ·exact ⟨_,_,_,rfl⟩
theorem zjf {w:World} {d off n c:Nat} {q:List Int} (h:RdI w .u8 (some ⟨d,off,none⟩) n c q) {m l:Nat} (hm:m+l≤n) (hmc:m<n):RdI w .u8 (some ⟨d,off+m,none⟩) l (c - m) ((q.drop m).take l):=by
 have r1:=zaM h (m:=m) (by omega)
 have hl:=h.len
 have hc:=h.cap
 refine ⟨by rw [List.length_take,List.length_drop];omega,by omega,by have:=r1.max;omega,fun h0=>?_,fun x hx=>h.wf x (List.mem_of_mem_drop (List.mem_of_mem_take hx))⟩
 obtain ⟨b',off',e,hlt,hcs⟩:=r1.at_ (by omega)
 refine ⟨b',off',e,hlt,fun i hi=>?_⟩
 rw [hcs i (by omega)]
 simp [List.getD,List.getElem?_take,hi]
theorem zhr (A:Option Addr) (n c:Nat) (q:List Int) (N:Nat) (r:Option (List Cnt)) (hN:N≤255) (hn:n≤100000) (w:World) (hr:RdI w .u8 A n c q) (h:lstZ N q=r) :
  Calls Tryz.prog 116 #[.slice A n c,.int .i64 (N:Int)] w fun e w'=>∃ v,e=.returned (.tuple #[v,.bool r.isSome])∧isSl v∧(∀ l,r=some l→∃ ls:List CV,zs ls=l∧w'.ownsRow w.heap.size 121 3 v ls.length (cells3 ls))∧Below w.heap.size w w':=by
 have HR:=zhz hr
 have HH:=zhz h
 obtain ⟨rb,hrb⟩:=zeq (r.isSome)
 have HRB:=zhz hrb
 rw [← hrb]
 clear hrb
 have hNb:(N:Int)≤255:=by omega
 have HN:=zhz hn
 clear hr h hn
 go_enter Tryz.func116,Tryz.ntmps116
 go_wp2
 go_loopg [0,6,10] N (fun k s0 s6 s10 wr=>∃ (i:Nat) (A1:Option Addr) (n1 c1:Nat) (q1:List Int) (ls:List CV),i≤N∧k=N - i∧s10=.int .i64 (i:Int)∧s0=.slice A1 n1 c1∧RdI w .u8 A1 n1 c1 q1∧n1≤n∧(lstZ (N - i) q1).map (zs ls++·)=r∧ls.length=i∧wr.ownsRow w.heap.size 121 3 s6 ls.length (cells3 ls)∧Below w.heap.size w wr)
 case atStart=>exact ⟨0,A,n,c,q,[],by omega,by omega,rfl,rfl,HR.out,Nat.le_refl _,by rw [Nat.sub_zero,HH.out];cases r <;> simp [zs],rfl,World.ownsRow_nil _ _ _ _,Below.refl _ _⟩
 case round =>
  obtain ⟨i,A1,n1,c1,q1,ls,hi,hkk,rfl,rfl,hr1,hn1,hlz,hll,hown,hb⟩:=hrel
  have HK:=zhz hkk
  have HO:=zhz hown
  have HB:=zhz hb
  have HR1:=zhz hr1
  have HLZ:=zhz hlz
  have HLL:=zhz hll
  have hl1:=hr1.len
  have hcp:=hr1.cap
  have hmx:=hr1.max
  have HBY:=zhz (show byt q1 from fun x hx=>zbS (hr1.wf x hx))
  unfold maxLen at hmx
  have HL1:=zhz hl1
  have HN1:=zhz hn1
  have hn1c:(n1:Int)≤(c1:Int):=by omega
  clear hkk hown hb hr1 hlz hll hn1
  by_cases hiN:i<N
  ·have hiN':(i:Int)<(N:Int):=by omega
   obtain ⟨m,hm⟩:∃ m,N - i=m+1:=⟨N - i - 1,by omega⟩
   have HM:=zhz hm
   clear hm
   by_cases h17:n1<17
   ·have hnone:r=none:=by
     rw [← HLZ.out,HM.out,ziM (by have:=HL1.out;omega)];rfl
    have HNO:=zhz hnone
    have hrf:rb=false:=by rw [HRB.out,hnone];rfl
    subst hrf
    clear hnone
    have t1:(n1:Int)<17:=by omega
    clear hl1
    go_wp2
    go_ret2
    exact ⟨_,rfl,(by first | exact zb0 | exact zcV HO.out),(fun l hl=>by rw [HNO.out] at hl;cases hl),HB.out⟩
   ·have t1:¬ (n1:Int)<17:=by omega
    obtain ⟨d,off,rfl,hlt,hc⟩:=(HR1.out.below HB.out).at_ (by omega)
    have c00:=hc 0 (by omega)
    rw [Nat.add_zero] at c00
    have hb0:=zan HBY.out 0
    obtain ⟨k,hk⟩:∃ k:Nat,q1.getD 0 0=(k:Int):=⟨(q1.getD 0 0).toNat,by omega⟩
    rw [hk] at c00 hb0
    have HKK:=zhz hk
    have HLT:=zhz hlt
    have ek:IntKind.i64.wrap (k:Int)=(k:Int):=by rw [IntKind.wrap_i64];omega
    have t0:(0:Int)<(n1:Int):=by omega
    clear hc hk hlt hl1
    by_cases h64:64<k
    ·have hnone:r=none:=by
      rw [← HLZ.out,HM.out,ziM (by have:=HKK.out;omega)];rfl
     have HNO:=zhz hnone
     have hrf:rb=false:=by rw [HRB.out,hnone];rfl
     subst hrf
     clear hnone
     have t2:(64:Int)<(k:Int):=by omega
     go_wp2
     go_ret2
     exact ⟨_,rfl,(by first | exact zb0 | exact zcV HO.out),(fun l hl=>by rw [HNO.out] at hl;cases hl),HB.out⟩
    ·have t2:¬ (64:Int)<(k:Int):=by omega
     by_cases h17k:n1<17+k
     ·have hnone:r=none:=by
       rw [← HLZ.out,HM.out,ziM (by have:=HKK.out;have:=HL1.out;omega)];rfl
      have HNO:=zhz hnone
      have hrf:rb=false:=by rw [HRB.out,hnone];rfl
      subst hrf
      clear hnone
      have t3:(n1:Int)<17+(k:Int):=by omega
      go_wp2
      go_ret2
      exact ⟨_,rfl,(by first | exact zb0 | exact zcV HO.out),(fun l hl=>by rw [HNO.out] at hl;cases hl),HB.out⟩
     ·have t3:¬ (n1:Int)<17+(k:Int):=by omega
      obtain ⟨j1,hj1⟩:∃ j1:Nat,j1=1+k:=⟨_,rfl⟩
      obtain ⟨j17,hj17⟩:∃ j17:Nat,j17=17+k:=⟨_,rfl⟩
      have e1:(1:Int)+(k:Int)=(j1:Int):=by omega
      have e17:(17:Int)+(k:Int)=(j17:Int):=by omega
      have HJ1:=zhz hj1
      have HJ17:=zhz hj17
      rw [e17] at t3
      obtain ⟨key,hkey⟩:=zeq (strOfNums ((q1.drop 1).take k))
      have HKEY:=zhz hkey
      have hks:key.size=k:=by rw [hkey,zgQ,List.length_take,List.length_drop,HL1.out];omega
      have hcv:(convert 56 9 (.slice (some ⟨d,off+1,none⟩) k (c1 - 1))).run Tryz.prog wr=.ok (.string key) wr:=by
       rw [zcA (by rfl) (by rfl) (by rfl) (zjf (HR1.out.below HB.out) (m:=1) (l:=k) (by omega) (by omega)),hkey]
      have R1:=zhz (show RdI wr .u8 (some ⟨d,off+j1,none⟩) (n1 - j1) (c1 - j1) (q1.drop j1) from zaM (HR1.out.below HB.out) (m:=j1) (by omega))
      obtain ⟨s,hs⟩:=zeq (wr.heap.size)
      have HSE:=zhz hs
      have CR:=zhz (zaK (some ⟨d,off+j1,none⟩) (n1 - j1) (c1 - j1) d (q1.drop j1) wr R1.out (fun _=>⟨_,rfl⟩) HLT.out s hs.symm)
      obtain ⟨X,hX⟩:=zeq (preZ (q1.drop j1) 8)
      obtain ⟨Y,hY⟩:=zeq (preZ ((q1.drop j1).drop 8) 8)
      have hXb:=za6 (zaC HBY.out j1)
      have hYb:=za6 (zaC (zaC HBY.out j1) 8)
      rw [← hX] at hXb
      rw [← hY] at hYb
      obtain ⟨cn,hcn⟩:=zeq (sg X)
      obtain ⟨ce,hce⟩:=zeq (sg Y)
      have eX:IntKind.i64.wrap X=cn:=by rw [hcn];exact za8 hXb
      have eY:IntKind.i64.wrap Y=ce:=by rw [hce];exact za8 hYb
      have HX:=zhz hX
      have HY:=zhz hY
      have HA:=zhz (show (CV.z ⟨key,cn,ce⟩)=⟨(q1.drop 1).take k,num8 (q1.drop (1+k)),num8 (q1.drop (9+k))⟩ from by
       unfold CV.z num8
       rw [hcn,hce,hX,hY,hkey,ziU (zdQ (zaC HBY.out _) _),hj1,List.drop_drop,show 1+k+8=9+k by omega])
      have HLS:=zhz (zks (m:=m) (pre:=zs ls) HKK.out (by have:=HL1.out;omega) (by omega) (by have:=HL1.out;omega))
      have hj1n:(j1:Int)≤(n1:Int):=by omega
      have hj1c:¬ c1=j1:=by omega
      have hc1:¬ c1=1:=by omega
      have hj1cc:(j1:Int)≤(c1:Int):=by omega
      have h1j:(1:Int)≤(j1:Int):=by omega
      have hjk:j1 - 1=k:=by omega
      have HDS:=zhz (show d≠s from by have:=HLT.out;omega)
      obtain ⟨i0,hi0,hz0,hz1,hz2⟩:=info_parts infoCnt
      have CN1:=zhz (fun (wx:World) (hx:SrcAt wx s d (q1.drop j1))=>zaJ s d (q1.drop j1) ((q1.drop j1).drop 8) X 8 8 rfl (by omega) (by rw [List.length_drop,HL1.out];omega) (by omega) wx hx HDS.out HX.out.symm rfl)
      have CN2:=zhz (fun (wx:World) (hx:SrcAt wx s d ((q1.drop j1).drop 8))=>zaJ s d ((q1.drop j1).drop 8) (((q1.drop j1).drop 8).drop 8) Y 8 8 rfl (by omega) (by rw [List.length_drop,List.length_drop,HL1.out];omega) (by omega) wx hx HDS.out HY.out.symm rfl)
      clear hj1 hj17 hkey hs hX hY hXb hYb hcn hce
      go_upto_region 9 with (first
       | (go_at_call 115;((with_reducible refine CR.out.mono ?_);rintro e w2 ⟨rfl,s2,b2⟩;have S2:=zhz s2;have B2:=zhz b2;clear s2 b2))
       | (go_at_call 160;((with_reducible refine (CN1.out _ S2.out).mono ?_);rintro e w3 ⟨rfl,s3,f3⟩;have S3:=zhz s3;have F3:=zhz f3;clear s3 f3))
       | (go_at_call 160;((with_reducible refine (CN2.out _ S3.out).mono ?_);rintro e w4 ⟨rfl,s4,f4⟩;have F4:=zhz (F3.out.trans f4);have O4:=zhz (zbw (zcf HO.out B2.out) F4.out (fun g hg=>by have:=(zbx HO.out g hg).2;have:=HSE.out;omega));have B4:=zhz (HB.out.trans ((B2.out.trans (F4.out.below B2.out.size (fun k hk=>by have:=HSE.out;omega))).mono HB.out.size));have NW:=zhz (heap_alloc_new w4 (.cells (cvC key cn ce) 121));clear s4 f4))
       | (at_builtin;refine wpList_append_lies _ (by rfl) _ _ 90 (by rfl) w.heap.size 121 i0 (.agg #[.string ⟨#[]⟩,.int .i64 0,.int .i64 0]) 3 32 Tryz.underlying90 hi0 hz0 hz1 hz2 (by rfl) (by omega) u6 ls.length (cells3 ls) (by rfl) (O4.out.alloc _) ⟨w4.heap.size,0,none⟩ 1 1 [.string key,.int .i64 cn,.int .i64 ce] (by rfl) (by rfl) (World.news_of_block NW.out) (by simp [Value.oneCell']) (by omega) (by have:=HLL.out;unfold maxLen;omega) (by have:=HLL.out;omega) (by have:=B4.out.size;simp;omega) (w4.heap.size+1) (by simp) ?_;intro gl cl w9 hown9 hgrow9 hat9 hlt9;have HO9:=zhz hown9;have HG9:=zhz hgrow9;clear hown9 hgrow9 hat9 hlt9))
      have HO9':=zhz (show w9.ownsRow w.heap.size 121 3 (.slice (some ⟨gl,0,none⟩) (ls.length+1) cl) (ls++[(⟨key,cn,ce⟩:CV)]).length (cells3 (ls++[(⟨key,cn,ce⟩:CV)])) from by
       rw [zdd,List.length_append]
       exact HO9.out)
      have B9:=zhz (show Below w.heap.size w w9 from by
       refine (B4.out.alloc B4.out.size (.cells (cvC key cn ce) 121)).trans ((fr_row HG9.out).below (by have:=B4.out.size;simp;omega) (fun g hg=>(zbx HO.out g hg).1))
       )
      have HZ9:=zhz (show (lstZ (N - (i+1)) (q1.drop j17)).map (zs (ls++[(⟨key,cn,ce⟩:CV)])++·)=r from by
       rw [← HLZ.out,HM.out,HLS.out,show N - (i+1)=m by have:=HM.out;omega,HJ17.out]
       unfold zs
       rw [List.map_append,List.map_singleton,HA.out])
      by_cases hcj:c1=j17
      ·have hnj:n1=j17:=by have:=HJ17.out;omega
       subst hnj
       subst hcj
       clear hcv
       go_wp2
       go_roundg (N - (i+1))
       case measure=>have:=HK.out;omega
       case rel =>
        refine ⟨i+1,_,0,0,q1.drop c1,ls++[(⟨key,cn,ce⟩:CV)],by omega,by omega,by go_num,rfl,?_,by omega,HZ9.out,by rw [List.length_append,HLL.out];rfl,HO9'.out,B9.out⟩
        rw [List.drop_eq_nil_of_le (by rw [HL1.out];exact Nat.le_refl _)]
        exact zbg (by unfold maxLen;omega)
      ·clear hcv
       go_wp2
       go_roundg (N - (i+1))
       case measure=>have:=HK.out;omega
       case rel =>
        exact ⟨i+1,_,n1 - j17,c1 - j17,q1.drop j17,ls++[(⟨key,cn,ce⟩:CV)],by omega,by omega,by go_num,rfl,zaM HR1.out (m:=j17) (by have:=HJ17.out;omega),by have:=HN1.out;omega,HZ9.out,by rw [List.length_append,HLL.out];rfl,HO9'.out,B9.out⟩
  ·have hie:i=N:=by omega
   subst hie
   have hz:=HLZ.out
   rw [Nat.sub_self] at hz
   by_cases hq:n1=0
   ·subst hq
    have hq0:q1=[]:=List.length_eq_zero_iff.1 HL1.out
    rw [hq0] at hz
    have hrs:r=some (zs ls):=by rw [← hz];simp [lstZ]
    have HNO:=zhz hrs
    have hrf:rb=true:=by rw [HRB.out,hrs];rfl
    subst hrf
    clear hz hl1 hrs
    go_wp2
    go_ret2
    exact ⟨_,rfl,zcV HO.out,(fun l hl=>by rw [HNO.out] at hl;injection hl with hl;subst hl;exact ⟨ls,rfl,HO.out⟩),HB.out⟩
   ·have hq0:q1≠[]:=fun e=>hq (by rw [← HL1.out,e];rfl)
    have hrs:r=none:=by rw [← hz,lstZ,if_neg hq0];rfl
    have HNO:=zhz hrs
    have hrf:rb=false:=by rw [HRB.out,hrs];rfl
    subst hrf
    clear hrs
    have t0:((n1:Int)==0)=false:=by simp;omega
    clear hz hl1
    go_wp2
    go_ret2
    exact ⟨_,rfl,(by first | exact zb0 | exact zcV HO.out),(fun l hl=>by rw [HNO.out] at hl;cases hl),HB.out⟩
end
section
open Go.Deep
abbrev nilV:Value:=.slice none 0 0
abbrev sdC (op rule v rem ret a d b c wt:Int) (lv:Value) (e:Int):Array Value:=#[.int .i64 op,.int .i64 rule,.int .i64 v,.int .i64 rem,.int .i64 ret,.int .i64 a,.int .i64 d,.int .i64 b,.int .i64 c,.int .i64 wt,lv,.int .i64 e]
def sdV (s:Sd) (lv:Value):Array Value:=sdC s.op s.rule s.v s.rem s.ret s.a s.d s.b s.c s.wt lv s.err
theorem zal {P:Program} {fn:Func} {p u1:Tmp} {ty:TypeId} (h:fn.results=#[.cell p ty,.tmp u1]) (tmps:Array Value) (w:World) (g:Nat) (t:TypeId) (cs:Array Value) (fr:Nat × Nat) (d:TypeDesc)
  (hp:tmps.getD p undef=.pointer (some ⟨g,0,none⟩)) (hg:w.heap[g]?=some (.cells cs t fr))
  (hu:P.underlying ty=some d) (hd:(match d with | .struct _ | .array _ _=>true | _=>false)=true) (hi:(P.info? ty).map (·.size)=some cs.size) :
  (results fn tmps).run P w=.ok (.tuple #[.agg cs,tmps.getD u1 undef]) w:=by
 have hp':tmps[p]?.getD undef=.pointer (some ⟨g,0,none⟩):=by simpa using hp
 simp [results,h,hp',asAddr,run_loadVar_row w g t ty cs fr d hg hu hd hi]
theorem zai {w:World} {b:Nat} {t:TypeId} {a0 a1 a2 a3 a4 a5 a6 a7 a8 a9 a10 a11 v0 v1 v2 v3 v4 v5 v6 v7 v8 v9 v10 v11:Value} (h:Blk w b t #[a0,a1,a2,a3,a4,a5,a6,a7,a8,a9,a10,a11]) :
  ((((((((((((w.setCell ⟨b,0,none⟩ v0).setCell ⟨b,1,none⟩ v1).setCell ⟨b,2,none⟩ v2).setCell ⟨b,3,none⟩ v3).setCell ⟨b,4,none⟩ v4).setCell ⟨b,5,none⟩ v5).setCell ⟨b,6,none⟩ v6).setCell ⟨b,7,none⟩ v7).setCell ⟨b,8,none⟩ v8).setCell ⟨b,9,none⟩ v9).setCell ⟨b,10,none⟩ v10).setCell ⟨b,11,none⟩ v11)=setObj w b (.cells #[v0,v1,v2,v3,v4,v5,v6,v7,v8,v9,v10,v11] t (0,0)):=by
 have hl:=lt_of_block h
 rw [zac h]
 simp only [zak hl,zs1,zs2,zs3]
theorem zcx {w:World} {b i:Nat} {t:TypeId} {c:Array Value} {v0 v1 v2:Value} (h:Blk w b t c) :
  (((w.setCell ⟨b,i,none⟩ v0).setCell ⟨b,i+1,none⟩ v1).setCell ⟨b,i+2,none⟩ v2)=setObj w b (.cells (((c.setIfInBounds i v0).setIfInBounds (i+1) v1).setIfInBounds (i+2) v2) t (0,0)):=by
 have hl:=lt_of_block h
 rw [zac h]
 simp only [zak hl]
theorem zge {w:World} {b i:Nat} {t:TypeId} {c:Array Value} {v0 v1 v2 v3 v4:Value} (h:Blk w b t c) :
  (((((w.setCell ⟨b,i,none⟩ v0).setCell ⟨b,i+1,none⟩ v1).setCell ⟨b,i+2,none⟩ v2).setCell ⟨b,i+3,none⟩ v3).setCell ⟨b,i+4,none⟩ v4)=setObj w b (.cells (((((c.setIfInBounds i v0).setIfInBounds (i+1) v1).setIfInBounds (i+2) v2).setIfInBounds (i+3) v3).setIfInBounds (i+4) v4) t (0,0)):=by
 have hl:=lt_of_block h
 rw [zac h]
 simp only [zak hl]
def isSd (v:Value):Prop:=∃ o ru v1 re rt a d b c wt LA LN LC er,v=.agg (sdC o ru v1 re rt a d b c wt (.slice LA LN LC) er)
theorem zau (o ru v1 re rt a d b c wt er:Int) (LA:Option Addr) (LN LC:Nat):isSd (.agg #[.int .i64 o,.int .i64 ru,.int .i64 v1,.int .i64 re,.int .i64 rt,.int .i64 a,.int .i64 d,.int .i64 b,.int .i64 c,.int .i64 wt,.slice LA LN LC,.int .i64 er]):=⟨o,ru,v1,re,rt,a,d,b,c,wt,LA,LN,LC,er,rfl⟩
theorem zcl {x:Int} (h:0≤x∧x≤255):IntKind.i64.wrap x=x:=by rw [IntKind.wrap_i64];omega
theorem zcn (A:Option Addr) (n c:Nat) (q:List Int) (op:Int) (w:World) (hr:RdI w .u8 A n c q) (h0:q.getD 0 0=128+op) (hop:0≤op) (h2:2≤n) (ho:op=1∨op=2) (h18:n=18) (hv:1≤q.getD 1 0∧q.getD 1 0≤3) :
  Calls Tryz.prog 83 #[.slice A n c] w fun e w'=>e=.returned (.tuple #[.agg (sdC op 0 (q.getD 1 0) (num8 (q.drop 2)) (num8 (q.drop 10)) 0 0 0 0 0 nilV 0),.bool true])∧Below w.heap.size w w':=by
 have hcp:=hr.cap
 have hmx:=hr.max
 unfold maxLen at hmx
 obtain ⟨d,off,rfl,hlt,hc⟩:=hr.at_ (by omega)
 have hby:byt q:=fun x hx=>zbS (hr.wf x hx)
 have HR:=zhz hr
 have HL:=zhz hr.len
 have HBY:=zhz hby
 have HDL:=zhz hlt
 have hb0:=zan hby 0
 have c00:=hc 0 (by omega)
 obtain ⟨y,hy⟩:=zeq (128+op)
 rw [h0,← hy] at hb0 c00
 rw [Nat.add_zero] at c00
 have e0:y - 128=op:=by omega
 have e1:IntKind.u8.wrap op=op:=by rw [IntKind.wrap_u8];omega
 have e2:IntKind.i64.wrap op=op:=by rw [IntKind.wrap_i64];omega
 have t1:¬ (n:Int)<2:=by omega
 have t2:¬ y<128:=by omega
 have g0:(0:Int)<(n:Int):=by omega
 have g1:(1:Int)≤(n:Int):=by omega
 have g2:(n:Int)≤(c:Int):=by omega
 have g3:¬ c=1:=by omega
 have HY:=zhz hy
 have HOP:=zhz hop
 clear hr hc hby hy h0 hlt hop
 have HV:=zhz hv
 have t12:(op==1)=true∨((op==1)=false∧(op==2)=true):=by rcases ho with rfl | rfl <;> simp
 subst h18
 clear hv ho
 obtain ⟨v,hv⟩:=zeq (q.getD 1 0)
 have hvb:=zan HBY.out 1
 rw [← hv] at hvb
 have Hv:=zhz hv
 have Pv:=zhz (show preZ (q.drop 1) 1=v from by rw [pre1,hv];simp [List.getD])
 have ev:IntKind.i64.wrap v=v:=zcl hvb
 clear hv
 obtain ⟨X,hX⟩:=zeq (preZ (q.drop 2) 8)
 have hXb:=za6 (zaC HBY.out 2)
 rw [← hX] at hXb
 obtain ⟨rem,hrem⟩:=zeq (num8 (q.drop 2))
 have eX:IntKind.i64.wrap X=rem:=by rw [hrem];unfold num8;rw [← hX];exact za8 hXb
 have Hrem:=zhz hrem
 have HX:=zhz hX
 clear hX hXb hrem
 obtain ⟨Y,hYY⟩:=zeq (preZ (q.drop 10) 8)
 have hYb:=za6 (zaC HBY.out 10)
 rw [← hYY] at hYb
 obtain ⟨ret,hret⟩:=zeq (num8 (q.drop 10))
 have eY:IntKind.i64.wrap Y=ret:=by rw [hret];unfold num8;rw [← hYY];exact za8 hYb
 have Hret:=zhz hret
 have HYY:=zhz hYY
 clear hYY hYb hret
 rw [← Hv.out] at HV
 rw [← Hv.out,← Hrem.out,← Hret.out]
 go_enter Tryz.func83,Tryz.ntmps83
 go_upto_region 1 with (fail)
 obtain ⟨w1,hw1,hbk,hbl,hsz1⟩:=zad w (sdC 0 0 0 0 0 0 0 0 0 0 nilV 0) 92
 change Code.wp _ _ _ _ (w.alloc (.cells (sdC 0 0 0 0 0 0 0 0 0 0 nilV 0) 92))
 rw [hw1]
 obtain ⟨b0,hb0⟩:=zeq (w.heap.size)
 rw [← hb0] at hbk hsz1 ⊢
 have HB0:=zhz hb0
 have BK:=zhz hbk
 have BL:=zhz hbl
 have S1:=zhz hsz1
 have c01:w1.cell? ⟨d,off,none⟩=some (.int .u8 y):=by rw [← c00];exact hbl.cell (p:=⟨d,off,none⟩) HDL.out
 clear hbk hbl hsz1 hw1 hb0 c00
 go_upto_region 4 with (fail)
 obtain ⟨w2,hw2,hbk,hbl,hsz2⟩:=zad w1 (sdC op 0 0 0 0 0 0 0 0 0 nilV 0) 92
 change Code.wp _ _ _ _ (w1.alloc (.cells (sdC op 0 0 0 0 0 0 0 0 0 nilV 0) 92))
 rw [hw2]
 obtain ⟨b1,hb1⟩:=zeq (w1.heap.size)
 rw [← hb1] at hbk hsz2 ⊢
 have HB1:=zhz (show b1=b0+1 from by rw [hb1,S1.out])
 have S2:=zhz hsz2
 have BQ2:=zhz hbk
 have BK2:=zhz (BK.out.keep hbl)
 have BL2:=zhz (BL.out.trans (hbl.mono BL.out.size))
 have R1:=zhz (show RdI w2 .u8 (some ⟨d,off+1,none⟩) 17 (c - 1) (q.drop 1) from (zaM HR.out (m:=1) (by omega)).below BL2.out)
 have HD2:=zhz (show d<w2.heap.size from Nat.lt_of_lt_of_le HDL.out BL2.out.size)
 have HDN:=zhz (show d≠b1+1∧d≠b1∧d≠b0 from by have h1:=HB0.out;have h2:=HB1.out;have h3:=HDL.out;omega)
 have CR:=zhz (zaK _ _ _ d _ _ R1.out (fun _=>⟨_,rfl⟩) HD2.out (b1+1) S2.out)
 clear hbk hbl hsz2 hw2 hb1 c01
 go_upto_region 5 with (go_at_call 115;((with_reducible refine CR.out.mono ?_);rintro e w3 ⟨rfl,s3,b3⟩;have S3:=zhz s3;have B3:=zhz b3;clear s3 b3))
 have BK3:=zhz (BK2.out.keep B3.out)
 have BQ3:=zhz (BQ2.out.keep B3.out)
 have BL3:=zhz (BL2.out.trans (B3.out.mono BL2.out.size))
 have NE:=zhz (show b0≠b1∧b0≠b1+1∧b1≠b1+1∧b1≠b0 from by have:=HB1.out;omega)
 have k3:=BQ3.out.rd
 have CN1:=zhz (fun (wx:World) (hx:SrcAt wx (b1+1) d (q.drop 1))=>zaJ (b1+1) d (q.drop 1) (q.drop 2) v 1 1 rfl (by omega) (by rw [List.length_drop,HL.out];omega) (by omega) wx hx HDN.out.1 Pv.out (by rw [List.drop_drop]))
 have CN2:=zhz (fun (wx:World) (hx:SrcAt wx (b1+1) d (q.drop 2))=>zaJ (b1+1) d (q.drop 2) (q.drop 10) X 8 8 rfl (by omega) (by rw [List.length_drop,HL.out];omega) (by omega) wx hx HDN.out.1 HX.out.symm (by rw [List.drop_drop]))
 have CN3:=zhz (fun (wx:World) (hx:SrcAt wx (b1+1) d (q.drop 10))=>zaJ (b1+1) d (q.drop 10) (q.drop 18) Y 8 8 rfl (by omega) (by rw [List.length_drop,HL.out];omega) (by omega) wx hx HDN.out.1 HYY.out.symm (by rw [List.drop_drop]))
 rcases t12 with t1 | ⟨t1,t2⟩
 all_goals
   go_upto_region 7 with (first
    | (go_at_call 160;((with_reducible refine (CN1.out _ S3.out).mono ?_);rintro e w4 ⟨rfl,s4,f4⟩;have S4:=zhz s4;have BK4:=zhz (BK3.out.fr f4 NE.out.2.1);have BQ4:=zhz (BQ3.out.fr f4 NE.out.2.2.1);have BL4:=zhz (BL3.out.trans (f4.below BL3.out.size (fun k hk=>by have h1:=HB0.out;have h2:=HB1.out;omega)));have k4:=BQ4.out.rd;have q4:=BQ4.out.wr;clear s4 f4))
    | (go_at_call 160;((with_reducible refine (CN2.out _ S4.out).mono ?_);rintro e w5 ⟨rfl,s5,f5⟩;have S5:=zhz s5;have BK5:=zhz (BK4.out.fr f5 NE.out.2.1);have BQ5:=zhz (BQ4.out.fr f5 NE.out.2.2.1);have BL5:=zhz (BL4.out.trans (f5.below BL4.out.size (fun k hk=>by have h1:=HB0.out;have h2:=HB1.out;omega)));have k5:=BQ5.out.rd;have q5:=BQ5.out.wr;clear s5 f5))
    | (go_at_call 160;((with_reducible refine (CN3.out _ S5.out).mono ?_);rintro e w6 ⟨rfl,s6,f6⟩;have S6:=zhz s6;have BK6:=zhz (BK5.out.fr f6 NE.out.2.1);have BQ6:=zhz (BQ5.out.fr f6 NE.out.2.2.1);have BL6:=zhz (BL5.out.trans (f6.below BL5.out.size (fun k hk=>by have h1:=HB0.out;have h2:=HB1.out;omega)));have k6:=BQ6.out.rd;have q6:=BQ6.out.wr;clear s6 f6)))
   have BQ7:=zhz (show Blk (((w6.setCell ⟨b1,2,none⟩ (.int .i64 v)).setCell ⟨b1,3,none⟩ (.int .i64 rem)).setCell ⟨b1,4,none⟩ (.int .i64 ret)) b1 92 (sdC op 0 v rem ret 0 0 0 0 0 nilV 0) from by rw [zcx (i:=2) BQ6.out];exact zab (lt_of_block BQ6.out) _)
   have FR7:=zhz (show Fr (fun k=>k=b1) w6 (((w6.setCell ⟨b1,2,none⟩ (.int .i64 v)).setCell ⟨b1,3,none⟩ (.int .i64 rem)).setCell ⟨b1,4,none⟩ (.int .i64 ret)) from by rw [zcx (i:=2) BQ6.out];exact Fr.setObj (F:=fun k=>k=b1) (Fr.refl _ _) rfl _)
   obtain ⟨w7,hw7⟩:=zeq ((((w6.setCell ⟨b1,2,none⟩ (.int .i64 v)).setCell ⟨b1,3,none⟩ (.int .i64 rem)).setCell ⟨b1,4,none⟩ (.int .i64 ret)))
   rw [← hw7] at BQ7 FR7 ⊢
   have BK7:=zhz (show Blk w7 b0 92 (sdC 0 0 0 0 0 0 0 0 0 0 nilV 0) from BK6.out.fr FR7.out NE.out.1)
   have BL7:=zhz (show Below w.heap.size w w7 from (BL6.out.trans (FR7.out.below BL6.out.size (fun k hk=>by have h1:=HB0.out;have h2:=HB1.out;omega))))
   have BQ8:=zhz (show Blk w7.drew b1 92 (sdC op 0 v rem ret 0 0 0 0 0 nilV 0) from BQ7.out.drew)
   clear hw7 k3 k4 k5 k6 q4 q5 q6
   have y1:∀ i,w7.drew.cell? ⟨b1,i,none⟩=(sdC op 0 v rem ret 0 0 0 0 0 nilV 0)[i]?:=BQ8.out.rd
   have hv0:=HV.out
   have t5:(1:Int)≤v:=hv0.1
   have t6:v≤(3:Int):=hv0.2
   have t5':decide ((1:Int)≤v)=true:=decide_eq_true t5
   have t6':decide (v≤(3:Int))=true:=decide_eq_true t6
   clear hv0
   have kw:=BK7.out.wr
   have kr:=BK7.out.rd
   refine wp_region_held_drew (S:=fun w'=>∀ i,w'.cell? ⟨b1,i,none⟩=(sdC op 0 v rem ret 0 0 0 0 0 nilV 0)[i]?) (by kernel_rfl) y1 (fun hHeld=>?_)
   clear y1
   refine wR 0 ?_
   refine wR 1 ?_
   refine wR 2 ?_
   refine wR 3 ?_
   refine wR 4 ?_
   refine wR 5 ?_
   refine wR 6 ?_
   refine wR 7 ?_
   refine wR 8 ?_
   refine wR 9 ?_
   refine wR 10 ?_
   refine wC 11 fun K hK=>?_
   go_simp
   skip
   refine hK.out _ _ (by rw [zai BK7.out];exact (Blk.drew (BQ7.out.fr (Fr.setObj (F:=fun k=>k=b0) (Fr.refl _ _) rfl _) NE.out.2.2.2)).rd) fun hHeld=>?_
   clear hK K
   try simp only [Act.put,zs1,zs2,zs3]
   refine wR 12 ?_
   refine wpAnyH_done (by kernel_rfl) ?_ _
   clear kw kr hHeld
   go_wp2
   rw [zai BK7.out]
   refine bodyPost_ret (zal rfl _ _ b0 _ _ (0,0) _ rfl (zab (lt_of_block BK7.out) _) Tryz.underlying92 rfl (by kernel_rfl)) rfl ?_
   first | exact ⟨rfl,zaa (BL7.out.trans ((Fr.setObj (F:=fun k=>k=b0) (Fr.refl _ _) rfl _).below BL7.out.size (fun k hk=>by have:=HB0.out;omega))) 1⟩ | exact ⟨_,rfl,zau _ _ _ _ _ _ _ _ _ _ _ _ _ _,zaa (BL7.out.trans ((Fr.setObj (F:=fun k=>k=b0) (Fr.refl _ _) rfl _).below BL7.out.size (fun k hk=>by have:=HB0.out;omega))) 1⟩ | exact ⟨zau _ _ _ _ _ _ _ _ _ _ _ _ _ _,zaa (BL7.out.trans ((Fr.setObj (F:=fun k=>k=b0) (Fr.refl _ _) rfl _).below BL7.out.size (fun k hk=>by have:=HB0.out;omega))) 1⟩
end
section
open Go.Deep
theorem zeo (A:Option Addr) (n c:Nat) (q:List Int) (op:Int) (w:World) (hr:RdI w .u8 A n c q) (h0:q.getD 0 0=128+op) (hop:0≤op) (h2:2≤n) (ho:op=1∨op=2) (h18:n=18) (hv:¬ (1≤q.getD 1 0∧q.getD 1 0≤3)) :
  Calls Tryz.prog 83 #[.slice A n c] w fun e w'=>∃ sv,e=.returned (.tuple #[sv,.bool false])∧isSd sv∧Below w.heap.size w w':=by
 have hcp:=hr.cap
 have hmx:=hr.max
 unfold maxLen at hmx
 obtain ⟨d,off,rfl,hlt,hc⟩:=hr.at_ (by omega)
 have hby:byt q:=fun x hx=>zbS (hr.wf x hx)
 have HR:=zhz hr
 have HL:=zhz hr.len
 have HBY:=zhz hby
 have HDL:=zhz hlt
 have hb0:=zan hby 0
 have c00:=hc 0 (by omega)
 obtain ⟨y,hy⟩:=zeq (128+op)
 rw [h0,← hy] at hb0 c00
 rw [Nat.add_zero] at c00
 have e0:y - 128=op:=by omega
 have e1:IntKind.u8.wrap op=op:=by rw [IntKind.wrap_u8];omega
 have e2:IntKind.i64.wrap op=op:=by rw [IntKind.wrap_i64];omega
 have t1:¬ (n:Int)<2:=by omega
 have t2:¬ y<128:=by omega
 have g0:(0:Int)<(n:Int):=by omega
 have g1:(1:Int)≤(n:Int):=by omega
 have g2:(n:Int)≤(c:Int):=by omega
 have g3:¬ c=1:=by omega
 have HY:=zhz hy
 have HOP:=zhz hop
 clear hr hc hby hy h0 hlt hop
 have HV:=zhz hv
 have t12:(op==1)=true∨((op==1)=false∧(op==2)=true):=by rcases ho with rfl | rfl <;> simp
 subst h18
 clear hv ho
 obtain ⟨v,hv⟩:=zeq (q.getD 1 0)
 have hvb:=zan HBY.out 1
 rw [← hv] at hvb
 have Hv:=zhz hv
 have Pv:=zhz (show preZ (q.drop 1) 1=v from by rw [pre1,hv];simp [List.getD])
 have ev:IntKind.i64.wrap v=v:=zcl hvb
 clear hv
 obtain ⟨X,hX⟩:=zeq (preZ (q.drop 2) 8)
 have hXb:=za6 (zaC HBY.out 2)
 rw [← hX] at hXb
 obtain ⟨rem,hrem⟩:=zeq (num8 (q.drop 2))
 have eX:IntKind.i64.wrap X=rem:=by rw [hrem];unfold num8;rw [← hX];exact za8 hXb
 have Hrem:=zhz hrem
 have HX:=zhz hX
 clear hX hXb hrem
 obtain ⟨Y,hYY⟩:=zeq (preZ (q.drop 10) 8)
 have hYb:=za6 (zaC HBY.out 10)
 rw [← hYY] at hYb
 obtain ⟨ret,hret⟩:=zeq (num8 (q.drop 10))
 have eY:IntKind.i64.wrap Y=ret:=by rw [hret];unfold num8;rw [← hYY];exact za8 hYb
 have Hret:=zhz hret
 have HYY:=zhz hYY
 clear hYY hYb hret
 rw [← Hv.out] at HV
 go_enter Tryz.func83,Tryz.ntmps83
 go_upto_region 1 with (fail)
 obtain ⟨w1,hw1,hbk,hbl,hsz1⟩:=zad w (sdC 0 0 0 0 0 0 0 0 0 0 nilV 0) 92
 change Code.wp _ _ _ _ (w.alloc (.cells (sdC 0 0 0 0 0 0 0 0 0 0 nilV 0) 92))
 rw [hw1]
 obtain ⟨b0,hb0⟩:=zeq (w.heap.size)
 rw [← hb0] at hbk hsz1 ⊢
 have HB0:=zhz hb0
 have BK:=zhz hbk
 have BL:=zhz hbl
 have S1:=zhz hsz1
 have c01:w1.cell? ⟨d,off,none⟩=some (.int .u8 y):=by rw [← c00];exact hbl.cell (p:=⟨d,off,none⟩) HDL.out
 clear hbk hbl hsz1 hw1 hb0 c00
 go_upto_region 4 with (fail)
 obtain ⟨w2,hw2,hbk,hbl,hsz2⟩:=zad w1 (sdC op 0 0 0 0 0 0 0 0 0 nilV 0) 92
 change Code.wp _ _ _ _ (w1.alloc (.cells (sdC op 0 0 0 0 0 0 0 0 0 nilV 0) 92))
 rw [hw2]
 obtain ⟨b1,hb1⟩:=zeq (w1.heap.size)
 rw [← hb1] at hbk hsz2 ⊢
 have HB1:=zhz (show b1=b0+1 from by rw [hb1,S1.out])
 have S2:=zhz hsz2
 have BQ2:=zhz hbk
 have BK2:=zhz (BK.out.keep hbl)
 have BL2:=zhz (BL.out.trans (hbl.mono BL.out.size))
 have R1:=zhz (show RdI w2 .u8 (some ⟨d,off+1,none⟩) 17 (c - 1) (q.drop 1) from (zaM HR.out (m:=1) (by omega)).below BL2.out)
 have HD2:=zhz (show d<w2.heap.size from Nat.lt_of_lt_of_le HDL.out BL2.out.size)
 have HDN:=zhz (show d≠b1+1∧d≠b1∧d≠b0 from by have h1:=HB0.out;have h2:=HB1.out;have h3:=HDL.out;omega)
 have CR:=zhz (zaK _ _ _ d _ _ R1.out (fun _=>⟨_,rfl⟩) HD2.out (b1+1) S2.out)
 clear hbk hbl hsz2 hw2 hb1 c01
 go_upto_region 5 with (go_at_call 115;((with_reducible refine CR.out.mono ?_);rintro e w3 ⟨rfl,s3,b3⟩;have S3:=zhz s3;have B3:=zhz b3;clear s3 b3))
 have BK3:=zhz (BK2.out.keep B3.out)
 have BQ3:=zhz (BQ2.out.keep B3.out)
 have BL3:=zhz (BL2.out.trans (B3.out.mono BL2.out.size))
 have NE:=zhz (show b0≠b1∧b0≠b1+1∧b1≠b1+1∧b1≠b0 from by have:=HB1.out;omega)
 have k3:=BQ3.out.rd
 have CN1:=zhz (fun (wx:World) (hx:SrcAt wx (b1+1) d (q.drop 1))=>zaJ (b1+1) d (q.drop 1) (q.drop 2) v 1 1 rfl (by omega) (by rw [List.length_drop,HL.out];omega) (by omega) wx hx HDN.out.1 Pv.out (by rw [List.drop_drop]))
 have CN2:=zhz (fun (wx:World) (hx:SrcAt wx (b1+1) d (q.drop 2))=>zaJ (b1+1) d (q.drop 2) (q.drop 10) X 8 8 rfl (by omega) (by rw [List.length_drop,HL.out];omega) (by omega) wx hx HDN.out.1 HX.out.symm (by rw [List.drop_drop]))
 have CN3:=zhz (fun (wx:World) (hx:SrcAt wx (b1+1) d (q.drop 10))=>zaJ (b1+1) d (q.drop 10) (q.drop 18) Y 8 8 rfl (by omega) (by rw [List.length_drop,HL.out];omega) (by omega) wx hx HDN.out.1 HYY.out.symm (by rw [List.drop_drop]))
 rcases t12 with t1 | ⟨t1,t2⟩
 all_goals
   go_upto_region 7 with (first
    | (go_at_call 160;((with_reducible refine (CN1.out _ S3.out).mono ?_);rintro e w4 ⟨rfl,s4,f4⟩;have S4:=zhz s4;have BK4:=zhz (BK3.out.fr f4 NE.out.2.1);have BQ4:=zhz (BQ3.out.fr f4 NE.out.2.2.1);have BL4:=zhz (BL3.out.trans (f4.below BL3.out.size (fun k hk=>by have h1:=HB0.out;have h2:=HB1.out;omega)));have k4:=BQ4.out.rd;have q4:=BQ4.out.wr;clear s4 f4))
    | (go_at_call 160;((with_reducible refine (CN2.out _ S4.out).mono ?_);rintro e w5 ⟨rfl,s5,f5⟩;have S5:=zhz s5;have BK5:=zhz (BK4.out.fr f5 NE.out.2.1);have BQ5:=zhz (BQ4.out.fr f5 NE.out.2.2.1);have BL5:=zhz (BL4.out.trans (f5.below BL4.out.size (fun k hk=>by have h1:=HB0.out;have h2:=HB1.out;omega)));have k5:=BQ5.out.rd;have q5:=BQ5.out.wr;clear s5 f5))
    | (go_at_call 160;((with_reducible refine (CN3.out _ S5.out).mono ?_);rintro e w6 ⟨rfl,s6,f6⟩;have S6:=zhz s6;have BK6:=zhz (BK5.out.fr f6 NE.out.2.1);have BQ6:=zhz (BQ5.out.fr f6 NE.out.2.2.1);have BL6:=zhz (BL5.out.trans (f6.below BL5.out.size (fun k hk=>by have h1:=HB0.out;have h2:=HB1.out;omega)));have k6:=BQ6.out.rd;have q6:=BQ6.out.wr;clear s6 f6)))
   have BQ7:=zhz (show Blk (((w6.setCell ⟨b1,2,none⟩ (.int .i64 v)).setCell ⟨b1,3,none⟩ (.int .i64 rem)).setCell ⟨b1,4,none⟩ (.int .i64 ret)) b1 92 (sdC op 0 v rem ret 0 0 0 0 0 nilV 0) from by rw [zcx (i:=2) BQ6.out];exact zab (lt_of_block BQ6.out) _)
   have FR7:=zhz (show Fr (fun k=>k=b1) w6 (((w6.setCell ⟨b1,2,none⟩ (.int .i64 v)).setCell ⟨b1,3,none⟩ (.int .i64 rem)).setCell ⟨b1,4,none⟩ (.int .i64 ret)) from by rw [zcx (i:=2) BQ6.out];exact Fr.setObj (F:=fun k=>k=b1) (Fr.refl _ _) rfl _)
   obtain ⟨w7,hw7⟩:=zeq ((((w6.setCell ⟨b1,2,none⟩ (.int .i64 v)).setCell ⟨b1,3,none⟩ (.int .i64 rem)).setCell ⟨b1,4,none⟩ (.int .i64 ret)))
   rw [← hw7] at BQ7 FR7 ⊢
   have BK7:=zhz (show Blk w7 b0 92 (sdC 0 0 0 0 0 0 0 0 0 0 nilV 0) from BK6.out.fr FR7.out NE.out.1)
   have BL7:=zhz (show Below w.heap.size w w7 from (BL6.out.trans (FR7.out.below BL6.out.size (fun k hk=>by have h1:=HB0.out;have h2:=HB1.out;omega))))
   have BQ8:=zhz (show Blk w7.drew b1 92 (sdC op 0 v rem ret 0 0 0 0 0 nilV 0) from BQ7.out.drew)
   clear hw7 k3 k4 k5 k6 q4 q5 q6
   have y1:∀ i,w7.drew.cell? ⟨b1,i,none⟩=(sdC op 0 v rem ret 0 0 0 0 0 nilV 0)[i]?:=BQ8.out.rd
   have hv0:=HV.out
   by_cases hv1:(1:Int)≤v
   ·skip
    have t5':decide ((1:Int)≤v)=true:=decide_eq_true hv1
    have t6:¬ v≤(3:Int):=by omega
    have t6':decide (v≤(3:Int))=false:=decide_eq_false t6
    clear hv0
    have kw:=BK7.out.wr
    have kr:=BK7.out.rd
    refine wp_region_held_drew (S:=fun w'=>∀ i,w'.cell? ⟨b1,i,none⟩=(sdC op 0 v rem ret 0 0 0 0 0 nilV 0)[i]?) (by kernel_rfl) y1 (fun hHeld=>?_)
    clear y1
    refine wR 0 ?_
    refine wR 1 ?_
    refine wR 2 ?_
    refine wR 3 ?_
    refine wR 4 ?_
    refine wR 5 ?_
    refine wR 6 ?_
    refine wR 7 ?_
    refine wR 8 ?_
    refine wR 9 ?_
    refine wR 10 ?_
    refine wC 11 fun K hK=>?_
    go_simp
    skip
    refine hK.out _ _ (by rw [zai BK7.out];exact (Blk.drew (BQ7.out.fr (Fr.setObj (F:=fun k=>k=b0) (Fr.refl _ _) rfl _) NE.out.2.2.2)).rd) fun hHeld=>?_
    clear hK K
    try simp only [Act.put,zs1,zs2,zs3]
    refine wR 12 ?_
    refine wpAnyH_done (by kernel_rfl) ?_ _
    clear kw kr hHeld
    go_wp2
    rw [zai BK7.out]
    refine bodyPost_ret (zal rfl _ _ b0 _ _ (0,0) _ rfl (zab (lt_of_block BK7.out) _) Tryz.underlying92 rfl (by kernel_rfl)) rfl ?_
    first | exact ⟨rfl,zaa (BL7.out.trans ((Fr.setObj (F:=fun k=>k=b0) (Fr.refl _ _) rfl _).below BL7.out.size (fun k hk=>by have:=HB0.out;omega))) 1⟩ | exact ⟨_,rfl,zau _ _ _ _ _ _ _ _ _ _ _ _ _ _,zaa (BL7.out.trans ((Fr.setObj (F:=fun k=>k=b0) (Fr.refl _ _) rfl _).below BL7.out.size (fun k hk=>by have:=HB0.out;omega))) 1⟩ | exact ⟨zau _ _ _ _ _ _ _ _ _ _ _ _ _ _,zaa (BL7.out.trans ((Fr.setObj (F:=fun k=>k=b0) (Fr.refl _ _) rfl _).below BL7.out.size (fun k hk=>by have:=HB0.out;omega))) 1⟩
   ·skip
    have t5':decide ((1:Int)≤v)=false:=decide_eq_false hv1
    clear hv0
    have kw:=BK7.out.wr
    have kr:=BK7.out.rd
    refine wp_region_held_drew (S:=fun w'=>∀ i,w'.cell? ⟨b1,i,none⟩=(sdC op 0 v rem ret 0 0 0 0 0 nilV 0)[i]?) (by kernel_rfl) y1 (fun hHeld=>?_)
    clear y1
    refine wR 0 ?_
    refine wR 1 ?_
    refine wR 2 ?_
    refine wR 3 ?_
    refine wR 4 ?_
    refine wR 5 ?_
    refine wO 6 ?_
    refine wO 7 ?_
    refine wO 8 ?_
    refine wO 9 ?_
    refine wR 10 ?_
    refine wC 11 fun K hK=>?_
    go_simp
    skip
    refine hK.out _ _ (by rw [zai BK7.out];exact (Blk.drew (BQ7.out.fr (Fr.setObj (F:=fun k=>k=b0) (Fr.refl _ _) rfl _) NE.out.2.2.2)).rd) fun hHeld=>?_
    clear hK K
    try simp only [Act.put,zs1,zs2,zs3]
    refine wR 12 ?_
    refine wpAnyH_done (by kernel_rfl) ?_ _
    clear kw kr hHeld
    go_wp2
    rw [zai BK7.out]
    refine bodyPost_ret (zal rfl _ _ b0 _ _ (0,0) _ rfl (zab (lt_of_block BK7.out) _) Tryz.underlying92 rfl (by kernel_rfl)) rfl ?_
    first | exact ⟨rfl,zaa (BL7.out.trans ((Fr.setObj (F:=fun k=>k=b0) (Fr.refl _ _) rfl _).below BL7.out.size (fun k hk=>by have:=HB0.out;omega))) 1⟩ | exact ⟨_,rfl,zau _ _ _ _ _ _ _ _ _ _ _ _ _ _,zaa (BL7.out.trans ((Fr.setObj (F:=fun k=>k=b0) (Fr.refl _ _) rfl _).below BL7.out.size (fun k hk=>by have:=HB0.out;omega))) 1⟩ | exact ⟨zau _ _ _ _ _ _ _ _ _ _ _ _ _ _,zaa (BL7.out.trans ((Fr.setObj (F:=fun k=>k=b0) (Fr.refl _ _) rfl _).below BL7.out.size (fun k hk=>by have:=HB0.out;omega))) 1⟩
theorem zib (A:Option Addr) (n c:Nat) (q:List Int) (op:Int) (w:World) (hr:RdI w .u8 A n c q) (h0:q.getD 0 0=128+op) (hop:0≤op) (h2:2≤n) (ho:op=3) (h42:n=42) :
  Calls Tryz.prog 83 #[.slice A n c] w fun e w'=>e=.returned (.tuple #[.agg (sdC op (q.getD 1 0) 0 0 0 (num8 (q.drop 2)) (num8 (q.drop 10)) (num8 (q.drop 18)) (num8 (q.drop 26)) (num8 (q.drop 34)) nilV 0),.bool true])∧Below w.heap.size w w':=by
 have hcp:=hr.cap
 have hmx:=hr.max
 unfold maxLen at hmx
 obtain ⟨d,off,rfl,hlt,hc⟩:=hr.at_ (by omega)
 have hby:byt q:=fun x hx=>zbS (hr.wf x hx)
 have HR:=zhz hr
 have HL:=zhz hr.len
 have HBY:=zhz hby
 have HDL:=zhz hlt
 have hb0:=zan hby 0
 have c00:=hc 0 (by omega)
 obtain ⟨y,hy⟩:=zeq (128+op)
 rw [h0,← hy] at hb0 c00
 rw [Nat.add_zero] at c00
 have e0:y - 128=op:=by omega
 have e1:IntKind.u8.wrap op=op:=by rw [IntKind.wrap_u8];omega
 have e2:IntKind.i64.wrap op=op:=by rw [IntKind.wrap_i64];omega
 have t1:¬ (n:Int)<2:=by omega
 have t2:¬ y<128:=by omega
 have g0:(0:Int)<(n:Int):=by omega
 have g1:(1:Int)≤(n:Int):=by omega
 have g2:(n:Int)≤(c:Int):=by omega
 have g3:¬ c=1:=by omega
 have HY:=zhz hy
 have HOP:=zhz hop
 clear hr hc hby hy h0 hlt hop
 have t3:(op==1)=false:=by rw [ho];rfl
 have t4:(op==2)=false:=by rw [ho];rfl
 have t5:(op==3)=true:=by rw [ho];rfl
 subst h42
 clear ho
 obtain ⟨v,hv⟩:=zeq (q.getD 1 0)
 have hvb:=zan HBY.out 1
 rw [← hv] at hvb
 have Hv:=zhz hv
 have Pv:=zhz (show preZ (q.drop 1) 1=v from by rw [pre1,hv];simp [List.getD])
 have ev:IntKind.i64.wrap v=v:=zcl hvb
 clear hv
 obtain ⟨X,hX⟩:=zeq (preZ (q.drop 2) 8)
 have hXb:=za6 (zaC HBY.out 2)
 rw [← hX] at hXb
 obtain ⟨va,hva⟩:=zeq (num8 (q.drop 2))
 have eX:IntKind.i64.wrap X=va:=by rw [hva];unfold num8;rw [← hX];exact za8 hXb
 have Hva:=zhz hva
 have HX:=zhz hX
 clear hX hXb hva
 obtain ⟨X2,hX2⟩:=zeq (preZ (q.drop 10) 8)
 have hX2b:=za6 (zaC HBY.out 10)
 rw [← hX2] at hX2b
 obtain ⟨vd,hvd⟩:=zeq (num8 (q.drop 10))
 have eX2:IntKind.i64.wrap X2=vd:=by rw [hvd];unfold num8;rw [← hX2];exact za8 hX2b
 have Hvd:=zhz hvd
 have HX2:=zhz hX2
 clear hX2 hX2b hvd
 obtain ⟨X3,hX3⟩:=zeq (preZ (q.drop 18) 8)
 have hX3b:=za6 (zaC HBY.out 18)
 rw [← hX3] at hX3b
 obtain ⟨vb,hvb⟩:=zeq (num8 (q.drop 18))
 have eX3:IntKind.i64.wrap X3=vb:=by rw [hvb];unfold num8;rw [← hX3];exact za8 hX3b
 have Hvb:=zhz hvb
 have HX3:=zhz hX3
 clear hX3 hX3b hvb
 obtain ⟨X4,hX4⟩:=zeq (preZ (q.drop 26) 8)
 have hX4b:=za6 (zaC HBY.out 26)
 rw [← hX4] at hX4b
 obtain ⟨vc,hvc⟩:=zeq (num8 (q.drop 26))
 have eX4:IntKind.i64.wrap X4=vc:=by rw [hvc];unfold num8;rw [← hX4];exact za8 hX4b
 have Hvc:=zhz hvc
 have HX4:=zhz hX4
 clear hX4 hX4b hvc
 obtain ⟨X5,hX5⟩:=zeq (preZ (q.drop 34) 8)
 have hX5b:=za6 (zaC HBY.out 34)
 rw [← hX5] at hX5b
 obtain ⟨vw,hvw⟩:=zeq (num8 (q.drop 34))
 have eX5:IntKind.i64.wrap X5=vw:=by rw [hvw];unfold num8;rw [← hX5];exact za8 hX5b
 have Hvw:=zhz hvw
 have HX5:=zhz hX5
 clear hX5 hX5b hvw
 rw [← Hv.out,← Hva.out,← Hvd.out,← Hvb.out,← Hvc.out,← Hvw.out]
 go_enter Tryz.func83,Tryz.ntmps83
 go_upto_region 1 with (fail)
 obtain ⟨w1,hw1,hbk,hbl,hsz1⟩:=zad w (sdC 0 0 0 0 0 0 0 0 0 0 nilV 0) 92
 change Code.wp _ _ _ _ (w.alloc (.cells (sdC 0 0 0 0 0 0 0 0 0 0 nilV 0) 92))
 rw [hw1]
 obtain ⟨b0,hb0⟩:=zeq (w.heap.size)
 rw [← hb0] at hbk hsz1 ⊢
 have HB0:=zhz hb0
 have BK:=zhz hbk
 have BL:=zhz hbl
 have S1:=zhz hsz1
 have c01:w1.cell? ⟨d,off,none⟩=some (.int .u8 y):=by rw [← c00];exact hbl.cell (p:=⟨d,off,none⟩) HDL.out
 clear hbk hbl hsz1 hw1 hb0 c00
 go_upto_region 4 with (fail)
 obtain ⟨w2,hw2,hbk,hbl,hsz2⟩:=zad w1 (sdC op 0 0 0 0 0 0 0 0 0 nilV 0) 92
 change Code.wp _ _ _ _ (w1.alloc (.cells (sdC op 0 0 0 0 0 0 0 0 0 nilV 0) 92))
 rw [hw2]
 obtain ⟨b1,hb1⟩:=zeq (w1.heap.size)
 rw [← hb1] at hbk hsz2 ⊢
 have HB1:=zhz (show b1=b0+1 from by rw [hb1,S1.out])
 have S2:=zhz hsz2
 have BQ2:=zhz hbk
 have BK2:=zhz (BK.out.keep hbl)
 have BL2:=zhz (BL.out.trans (hbl.mono BL.out.size))
 have R1:=zhz (show RdI w2 .u8 (some ⟨d,off+1,none⟩) 41 (c - 1) (q.drop 1) from (zaM HR.out (m:=1) (by omega)).below BL2.out)
 have HD2:=zhz (show d<w2.heap.size from Nat.lt_of_lt_of_le HDL.out BL2.out.size)
 have HDN:=zhz (show d≠b1+1∧d≠b1∧d≠b0 from by have h1:=HB0.out;have h2:=HB1.out;have h3:=HDL.out;omega)
 have CR:=zhz (zaK _ _ _ d _ _ R1.out (fun _=>⟨_,rfl⟩) HD2.out (b1+1) S2.out)
 clear hbk hbl hsz2 hw2 hb1 c01
 go_upto_region 5 with (go_at_call 115;((with_reducible refine CR.out.mono ?_);rintro e w3 ⟨rfl,s3,b3⟩;have S3:=zhz s3;have B3:=zhz b3;clear s3 b3))
 have BK3:=zhz (BK2.out.keep B3.out)
 have BQ3:=zhz (BQ2.out.keep B3.out)
 have BL3:=zhz (BL2.out.trans (B3.out.mono BL2.out.size))
 have NE:=zhz (show b0≠b1∧b0≠b1+1∧b1≠b1+1∧b1≠b0 from by have:=HB1.out;omega)
 have k3:=BQ3.out.rd
 have CN1:=zhz (fun (wx:World) (hx:SrcAt wx (b1+1) d (q.drop 1))=>zaJ (b1+1) d (q.drop 1) (q.drop 2) v 1 1 rfl (by omega) (by rw [List.length_drop,HL.out];omega) (by omega) wx hx HDN.out.1 Pv.out (by rw [List.drop_drop]))
 have CN2:=zhz (fun (wx:World) (hx:SrcAt wx (b1+1) d (q.drop 2))=>zaJ (b1+1) d (q.drop 2) (q.drop 10) X 8 8 rfl (by omega) (by rw [List.length_drop,HL.out];omega) (by omega) wx hx HDN.out.1 HX.out.symm (by rw [List.drop_drop]))
 have CN3:=zhz (fun (wx:World) (hx:SrcAt wx (b1+1) d (q.drop 10))=>zaJ (b1+1) d (q.drop 10) (q.drop 18) X2 8 8 rfl (by omega) (by rw [List.length_drop,HL.out];omega) (by omega) wx hx HDN.out.1 HX2.out.symm (by rw [List.drop_drop]))
 have CN4:=zhz (fun (wx:World) (hx:SrcAt wx (b1+1) d (q.drop 18))=>zaJ (b1+1) d (q.drop 18) (q.drop 26) X3 8 8 rfl (by omega) (by rw [List.length_drop,HL.out];omega) (by omega) wx hx HDN.out.1 HX3.out.symm (by rw [List.drop_drop]))
 have CN5:=zhz (fun (wx:World) (hx:SrcAt wx (b1+1) d (q.drop 26))=>zaJ (b1+1) d (q.drop 26) (q.drop 34) X4 8 8 rfl (by omega) (by rw [List.length_drop,HL.out];omega) (by omega) wx hx HDN.out.1 HX4.out.symm (by rw [List.drop_drop]))
 have CN6:=zhz (fun (wx:World) (hx:SrcAt wx (b1+1) d (q.drop 34))=>zaJ (b1+1) d (q.drop 34) (q.drop 42) X5 8 8 rfl (by omega) (by rw [List.length_drop,HL.out];omega) (by omega) wx hx HDN.out.1 HX5.out.symm (by rw [List.drop_drop]))
 go_upto_region 10 with (first
  | (go_at_call 160;((with_reducible refine (CN1.out _ S3.out).mono ?_);rintro e w4 ⟨rfl,s4,f4⟩;have S4:=zhz s4;have BK4:=zhz (BK3.out.fr f4 NE.out.2.1);have BQ4:=zhz (BQ3.out.fr f4 NE.out.2.2.1);have BL4:=zhz (BL3.out.trans (f4.below BL3.out.size (fun k hk=>by have h1:=HB0.out;have h2:=HB1.out;omega)));have k4:=BQ4.out.rd;have q4:=BQ4.out.wr;clear s4 f4)))
 have BQ5:=zhz (show Blk (w4.setCell ⟨b1,1,none⟩ (.int .i64 v)) b1 92 (sdC op v 0 0 0 0 0 0 0 0 nilV 0) from by rw [zac BQ4.out];exact zab (lt_of_block BQ4.out) _)
 have FR5:=zhz (zbs (i:=1) (v:=.int .i64 v) BQ4.out)
 obtain ⟨w5,hw5⟩:=zeq ((w4.setCell ⟨b1,1,none⟩ (.int .i64 v)))
 rw [← hw5] at BQ5 FR5 ⊢
 have BK5:=zhz (BK4.out.fr FR5.out NE.out.1)
 have S5:=zhz (S4.out.fr FR5.out (fun e=>NE.out.2.2.1 e.symm) HDN.out.2.1)
 have BL5:=zhz (BL4.out.trans (FR5.out.below BL4.out.size (fun k hk=>by have h1:=HB0.out;have h2:=HB1.out;omega)))
 have k5:=BQ5.out.rd
 clear hw5 k3 k4 q4
 go_upto_region 11 with (first
  | (go_at_call 160;((with_reducible refine (CN2.out _ S5.out).mono ?_);rintro e w6 ⟨rfl,s6,f6⟩;have S6:=zhz s6;have BK6:=zhz (BK5.out.fr f6 NE.out.2.1);have BQ6:=zhz (BQ5.out.fr f6 NE.out.2.2.1);have BL6:=zhz (BL5.out.trans (f6.below BL5.out.size (fun k hk=>by have h1:=HB0.out;have h2:=HB1.out;omega)));have k6:=BQ6.out.rd;have q6:=BQ6.out.wr;clear s6 f6))
  | (go_at_call 160;((with_reducible refine (CN3.out _ S6.out).mono ?_);rintro e w7 ⟨rfl,s7,f7⟩;have S7:=zhz s7;have BK7:=zhz (BK6.out.fr f7 NE.out.2.1);have BQ7:=zhz (BQ6.out.fr f7 NE.out.2.2.1);have BL7:=zhz (BL6.out.trans (f7.below BL6.out.size (fun k hk=>by have h1:=HB0.out;have h2:=HB1.out;omega)));have k7:=BQ7.out.rd;have q7:=BQ7.out.wr;clear s7 f7))
  | (go_at_call 160;((with_reducible refine (CN4.out _ S7.out).mono ?_);rintro e w8 ⟨rfl,s8,f8⟩;have S8:=zhz s8;have BK8:=zhz (BK7.out.fr f8 NE.out.2.1);have BQ8:=zhz (BQ7.out.fr f8 NE.out.2.2.1);have BL8:=zhz (BL7.out.trans (f8.below BL7.out.size (fun k hk=>by have h1:=HB0.out;have h2:=HB1.out;omega)));have k8:=BQ8.out.rd;have q8:=BQ8.out.wr;clear s8 f8))
  | (go_at_call 160;((with_reducible refine (CN5.out _ S8.out).mono ?_);rintro e w9 ⟨rfl,s9,f9⟩;have S9:=zhz s9;have BK9:=zhz (BK8.out.fr f9 NE.out.2.1);have BQ9:=zhz (BQ8.out.fr f9 NE.out.2.2.1);have BL9:=zhz (BL8.out.trans (f9.below BL8.out.size (fun k hk=>by have h1:=HB0.out;have h2:=HB1.out;omega)));have k9:=BQ9.out.rd;have q9:=BQ9.out.wr;clear s9 f9))
  | (go_at_call 160;((with_reducible refine (CN6.out _ S9.out).mono ?_);rintro e w10 ⟨rfl,s10,f10⟩;have S10:=zhz s10;have BK10:=zhz (BK9.out.fr f10 NE.out.2.1);have BQ10:=zhz (BQ9.out.fr f10 NE.out.2.2.1);have BL10:=zhz (BL9.out.trans (f10.below BL9.out.size (fun k hk=>by have h1:=HB0.out;have h2:=HB1.out;omega)));have k10:=BQ10.out.rd;have q10:=BQ10.out.wr;clear s10 f10)))
 have BQ11:=zhz (show Blk (((((w10.setCell ⟨b1,5,none⟩ (.int .i64 va)).setCell ⟨b1,6,none⟩ (.int .i64 vd)).setCell ⟨b1,7,none⟩ (.int .i64 vb)).setCell ⟨b1,8,none⟩ (.int .i64 vc)).setCell ⟨b1,9,none⟩ (.int .i64 vw)) b1 92 (sdC op v 0 0 0 va vd vb vc vw nilV 0) from by rw [zge (i:=5) BQ10.out];exact zab (lt_of_block BQ10.out) _)
 have FR11:=zhz (show Fr (fun k=>k=b1) w10 (((((w10.setCell ⟨b1,5,none⟩ (.int .i64 va)).setCell ⟨b1,6,none⟩ (.int .i64 vd)).setCell ⟨b1,7,none⟩ (.int .i64 vb)).setCell ⟨b1,8,none⟩ (.int .i64 vc)).setCell ⟨b1,9,none⟩ (.int .i64 vw)) from by rw [zge (i:=5) BQ10.out];exact Fr.setObj (F:=fun k=>k=b1) (Fr.refl _ _) rfl _)
 obtain ⟨w11,hw11⟩:=zeq ((((((w10.setCell ⟨b1,5,none⟩ (.int .i64 va)).setCell ⟨b1,6,none⟩ (.int .i64 vd)).setCell ⟨b1,7,none⟩ (.int .i64 vb)).setCell ⟨b1,8,none⟩ (.int .i64 vc)).setCell ⟨b1,9,none⟩ (.int .i64 vw)))
 rw [← hw11] at BQ11 FR11 ⊢
 have BK11:=zhz (BK10.out.fr FR11.out NE.out.1)
 have BL11:=zhz (BL10.out.trans (FR11.out.below BL10.out.size (fun k hk=>by have h1:=HB0.out;have h2:=HB1.out;omega)))
 have k11:=BQ11.out.rd
 have kw:=BK11.out.wr
 have kr:=BK11.out.rd
 clear hw11 k5 k6 k7 k8 k9 k10 q6 q7 q8 q9 q10
 go_wp2
 rw [zai BK11.out]
 refine bodyPost_ret (zal rfl _ _ b0 _ _ (0,0) _ rfl (zab (lt_of_block BK11.out) _) Tryz.underlying92 rfl (by kernel_rfl)) rfl ?_
 exact ⟨rfl,BL11.out.trans ((Fr.setObj (F:=fun k=>k=b0) (Fr.refl _ _) rfl _).below BL11.out.size (fun k hk=>by have:=HB0.out;omega))⟩
theorem zer (A:Option Addr) (n c:Nat) (q:List Int) (op:Int) (w:World) (hr:RdI w .u8 A n c q) (h0:q.getD 0 0=128+op) (hop:0≤op) (h2:2≤n) (ho:op=127) (h2n:n=2) (hv:q.getD 1 0≠0) :
  Calls Tryz.prog 83 #[.slice A n c] w fun e w'=>e=.returned (.tuple #[.agg (sdC op 0 0 0 0 0 0 0 0 0 nilV (q.getD 1 0)),.bool true])∧Below w.heap.size w w':=by
 have hcp:=hr.cap
 have hmx:=hr.max
 unfold maxLen at hmx
 obtain ⟨d,off,rfl,hlt,hc⟩:=hr.at_ (by omega)
 have hby:byt q:=fun x hx=>zbS (hr.wf x hx)
 have HR:=zhz hr
 have HL:=zhz hr.len
 have HBY:=zhz hby
 have HDL:=zhz hlt
 have hb0:=zan hby 0
 have c00:=hc 0 (by omega)
 obtain ⟨y,hy⟩:=zeq (128+op)
 rw [h0,← hy] at hb0 c00
 rw [Nat.add_zero] at c00
 have e0:y - 128=op:=by omega
 have e1:IntKind.u8.wrap op=op:=by rw [IntKind.wrap_u8];omega
 have e2:IntKind.i64.wrap op=op:=by rw [IntKind.wrap_i64];omega
 have t1:¬ (n:Int)<2:=by omega
 have t2:¬ y<128:=by omega
 have g0:(0:Int)<(n:Int):=by omega
 have g1:(1:Int)≤(n:Int):=by omega
 have g2:(n:Int)≤(c:Int):=by omega
 have g3:¬ c=1:=by omega
 have HY:=zhz hy
 have HOP:=zhz hop
 clear hr hc hby hy h0 hlt hop
 have t3:(op==1)=false:=by rw [ho];rfl
 have t4:(op==2)=false:=by rw [ho];rfl
 have t5:(op==3)=false:=by rw [ho];rfl
 have t6:(op==4)=false:=by rw [ho];rfl
 have t7:(op==127)=true:=by rw [ho];rfl
 subst h2n
 have HVV:=zhz hv
 clear ho h2 hv
 obtain ⟨v,hv⟩:=zeq (q.getD 1 0)
 have hvb:=zan HBY.out 1
 rw [← hv] at hvb
 have Hv:=zhz hv
 have Pv:=zhz (show preZ (q.drop 1) 1=v from by rw [pre1,hv];simp [List.getD])
 have ev:IntKind.i64.wrap v=v:=zcl hvb
 clear hv
 rw [← Hv.out] at HVV
 rw [← Hv.out]
 have t8:(v != 0)=true:=by have:=HVV.out;simpa using this
 go_enter Tryz.func83,Tryz.ntmps83
 go_upto_region 1 with (fail)
 obtain ⟨w1,hw1,hbk,hbl,hsz1⟩:=zad w (sdC 0 0 0 0 0 0 0 0 0 0 nilV 0) 92
 change Code.wp _ _ _ _ (w.alloc (.cells (sdC 0 0 0 0 0 0 0 0 0 0 nilV 0) 92))
 rw [hw1]
 obtain ⟨b0,hb0⟩:=zeq (w.heap.size)
 rw [← hb0] at hbk hsz1 ⊢
 have HB0:=zhz hb0
 have BK:=zhz hbk
 have BL:=zhz hbl
 have S1:=zhz hsz1
 have c01:w1.cell? ⟨d,off,none⟩=some (.int .u8 y):=by rw [← c00];exact hbl.cell (p:=⟨d,off,none⟩) HDL.out
 clear hbk hbl hsz1 hw1 hb0 c00
 go_upto_region 4 with (fail)
 obtain ⟨w2,hw2,hbk,hbl,hsz2⟩:=zad w1 (sdC op 0 0 0 0 0 0 0 0 0 nilV 0) 92
 change Code.wp _ _ _ _ (w1.alloc (.cells (sdC op 0 0 0 0 0 0 0 0 0 nilV 0) 92))
 rw [hw2]
 obtain ⟨b1,hb1⟩:=zeq (w1.heap.size)
 rw [← hb1] at hbk hsz2 ⊢
 have HB1:=zhz (show b1=b0+1 from by rw [hb1,S1.out])
 have S2:=zhz hsz2
 have BQ2:=zhz hbk
 have BK2:=zhz (BK.out.keep hbl)
 have BL2:=zhz (BL.out.trans (hbl.mono BL.out.size))
 have R1:=zhz (show RdI w2 .u8 (some ⟨d,off+1,none⟩) 1 (c - 1) (q.drop 1) from (zaM HR.out (m:=1) (by omega)).below BL2.out)
 have HD2:=zhz (show d<w2.heap.size from Nat.lt_of_lt_of_le HDL.out BL2.out.size)
 have HDN:=zhz (show d≠b1+1∧d≠b1∧d≠b0 from by have h1:=HB0.out;have h2:=HB1.out;have h3:=HDL.out;omega)
 have CR:=zhz (zaK _ _ _ d _ _ R1.out (fun _=>⟨_,rfl⟩) HD2.out (b1+1) S2.out)
 clear hbk hbl hsz2 hw2 hb1 c01
 go_upto_region 5 with (go_at_call 115;((with_reducible refine CR.out.mono ?_);rintro e w3 ⟨rfl,s3,b3⟩;have S3:=zhz s3;have B3:=zhz b3;clear s3 b3))
 have BK3:=zhz (BK2.out.keep B3.out)
 have BQ3:=zhz (BQ2.out.keep B3.out)
 have BL3:=zhz (BL2.out.trans (B3.out.mono BL2.out.size))
 have NE:=zhz (show b0≠b1∧b0≠b1+1∧b1≠b1+1∧b1≠b0 from by have:=HB1.out;omega)
 have k3:=BQ3.out.rd
 have CN1:=zhz (fun (wx:World) (hx:SrcAt wx (b1+1) d (q.drop 1))=>zaJ (b1+1) d (q.drop 1) (q.drop 2) v 1 1 rfl (by omega) (by rw [List.length_drop,HL.out];omega) (by omega) wx hx HDN.out.1 Pv.out (by rw [List.drop_drop]))
 go_upto_region 19 with (first
  | (go_at_call 160;((with_reducible refine (CN1.out _ S3.out).mono ?_);rintro e w4 ⟨rfl,s4,f4⟩;have S4:=zhz s4;have BK4:=zhz (BK3.out.fr f4 NE.out.2.1);have BQ4:=zhz (BQ3.out.fr f4 NE.out.2.2.1);have BL4:=zhz (BL3.out.trans (f4.below BL3.out.size (fun k hk=>by have h1:=HB0.out;have h2:=HB1.out;omega)));have k4:=BQ4.out.rd;have q4:=BQ4.out.wr;clear s4 f4)))
 have BQ5:=zhz (show Blk (w4.setCell ⟨b1,11,none⟩ (.int .i64 v)) b1 92 (sdC op 0 0 0 0 0 0 0 0 0 nilV v) from by rw [zac BQ4.out];exact zab (lt_of_block BQ4.out) _)
 have FR5:=zhz (zbs (i:=11) (v:=.int .i64 v) BQ4.out)
 obtain ⟨w5,hw5⟩:=zeq ((w4.setCell ⟨b1,11,none⟩ (.int .i64 v)))
 rw [← hw5] at BQ5 FR5 ⊢
 have BK5:=zhz (BK4.out.fr FR5.out NE.out.1)
 have BL5:=zhz (BL4.out.trans (FR5.out.below BL4.out.size (fun k hk=>by have h1:=HB0.out;have h2:=HB1.out;omega)))
 have kw:=BK5.out.wr
 have kr:=BK5.out.rd
 have y1:∀ i,w5.drew.cell? ⟨b1,i,none⟩=(sdC op 0 0 0 0 0 0 0 0 0 nilV v)[i]?:=BQ5.out.drew.rd
 clear hw5 k3 k4 q4
 refine wp_region_held_drew (S:=fun w'=>∀ i,w'.cell? ⟨b1,i,none⟩=(sdC op 0 0 0 0 0 0 0 0 0 nilV v)[i]?) (by kernel_rfl) y1 (fun hHeld=>?_)
 clear y1
 refine wR 0 ?_
 refine wR 1 ?_
 refine wR 2 ?_
 refine wR 3 ?_
 refine wC 4 fun K hK=>?_
 go_simp
 skip
 refine hK.out _ _ (by rw [zai BK5.out];exact (Blk.drew (BQ5.out.fr (Fr.setObj (F:=fun k=>k=b0) (Fr.refl _ _) rfl _) NE.out.2.2.2)).rd) fun hHeld=>?_
 clear hK K
 try simp only [Act.put,zs1,zs2,zs3]
 refine wR 5 ?_
 refine wpAnyH_done (by kernel_rfl) ?_ _
 clear kw kr hHeld
 go_wp2
 rw [zai BK5.out]
 refine bodyPost_ret (zal rfl _ _ b0 _ _ (0,0) _ rfl (zab (lt_of_block BK5.out) _) Tryz.underlying92 rfl (by kernel_rfl)) rfl ?_
 first | exact ⟨rfl,zaa (BL5.out.trans ((Fr.setObj (F:=fun k=>k=b0) (Fr.refl _ _) rfl _).below BL5.out.size (fun k hk=>by have:=HB0.out;omega))) 1⟩ | exact ⟨_,rfl,zau _ _ _ _ _ _ _ _ _ _ _ _ _ _,zaa (BL5.out.trans ((Fr.setObj (F:=fun k=>k=b0) (Fr.refl _ _) rfl _).below BL5.out.size (fun k hk=>by have:=HB0.out;omega))) 1⟩ | exact ⟨zau _ _ _ _ _ _ _ _ _ _ _ _ _ _,zaa (BL5.out.trans ((Fr.setObj (F:=fun k=>k=b0) (Fr.refl _ _) rfl _).below BL5.out.size (fun k hk=>by have:=HB0.out;omega))) 1⟩
theorem zep (A:Option Addr) (n c:Nat) (q:List Int) (op:Int) (w:World) (hr:RdI w .u8 A n c q) (h0:q.getD 0 0=128+op) (hop:0≤op) (h2:2≤n) (ho:op=127) (h2n:n=2) (hv:q.getD 1 0=0) :
  Calls Tryz.prog 83 #[.slice A n c] w fun e w'=>∃ sv,e=.returned (.tuple #[sv,.bool false])∧isSd sv∧Below w.heap.size w w':=by
 have hcp:=hr.cap
 have hmx:=hr.max
 unfold maxLen at hmx
 obtain ⟨d,off,rfl,hlt,hc⟩:=hr.at_ (by omega)
 have hby:byt q:=fun x hx=>zbS (hr.wf x hx)
 have HR:=zhz hr
 have HL:=zhz hr.len
 have HBY:=zhz hby
 have HDL:=zhz hlt
 have hb0:=zan hby 0
 have c00:=hc 0 (by omega)
 obtain ⟨y,hy⟩:=zeq (128+op)
 rw [h0,← hy] at hb0 c00
 rw [Nat.add_zero] at c00
 have e0:y - 128=op:=by omega
 have e1:IntKind.u8.wrap op=op:=by rw [IntKind.wrap_u8];omega
 have e2:IntKind.i64.wrap op=op:=by rw [IntKind.wrap_i64];omega
 have t1:¬ (n:Int)<2:=by omega
 have t2:¬ y<128:=by omega
 have g0:(0:Int)<(n:Int):=by omega
 have g1:(1:Int)≤(n:Int):=by omega
 have g2:(n:Int)≤(c:Int):=by omega
 have g3:¬ c=1:=by omega
 have HY:=zhz hy
 have HOP:=zhz hop
 clear hr hc hby hy h0 hlt hop
 have t3:(op==1)=false:=by rw [ho];rfl
 have t4:(op==2)=false:=by rw [ho];rfl
 have t5:(op==3)=false:=by rw [ho];rfl
 have t6:(op==4)=false:=by rw [ho];rfl
 have t7:(op==127)=true:=by rw [ho];rfl
 subst h2n
 have HVV:=zhz hv
 clear ho h2 hv
 obtain ⟨v,hv⟩:=zeq (q.getD 1 0)
 have hvb:=zan HBY.out 1
 rw [← hv] at hvb
 have Hv:=zhz hv
 have Pv:=zhz (show preZ (q.drop 1) 1=v from by rw [pre1,hv];simp [List.getD])
 have ev:IntKind.i64.wrap v=v:=zcl hvb
 clear hv
 rw [← Hv.out] at HVV
 have t8:(v != 0)=false:=by have:=HVV.out;simpa using this
 go_enter Tryz.func83,Tryz.ntmps83
 go_upto_region 1 with (fail)
 obtain ⟨w1,hw1,hbk,hbl,hsz1⟩:=zad w (sdC 0 0 0 0 0 0 0 0 0 0 nilV 0) 92
 change Code.wp _ _ _ _ (w.alloc (.cells (sdC 0 0 0 0 0 0 0 0 0 0 nilV 0) 92))
 rw [hw1]
 obtain ⟨b0,hb0⟩:=zeq (w.heap.size)
 rw [← hb0] at hbk hsz1 ⊢
 have HB0:=zhz hb0
 have BK:=zhz hbk
 have BL:=zhz hbl
 have S1:=zhz hsz1
 have c01:w1.cell? ⟨d,off,none⟩=some (.int .u8 y):=by rw [← c00];exact hbl.cell (p:=⟨d,off,none⟩) HDL.out
 clear hbk hbl hsz1 hw1 hb0 c00
 go_upto_region 4 with (fail)
 obtain ⟨w2,hw2,hbk,hbl,hsz2⟩:=zad w1 (sdC op 0 0 0 0 0 0 0 0 0 nilV 0) 92
 change Code.wp _ _ _ _ (w1.alloc (.cells (sdC op 0 0 0 0 0 0 0 0 0 nilV 0) 92))
 rw [hw2]
 obtain ⟨b1,hb1⟩:=zeq (w1.heap.size)
 rw [← hb1] at hbk hsz2 ⊢
 have HB1:=zhz (show b1=b0+1 from by rw [hb1,S1.out])
 have S2:=zhz hsz2
 have BQ2:=zhz hbk
 have BK2:=zhz (BK.out.keep hbl)
 have BL2:=zhz (BL.out.trans (hbl.mono BL.out.size))
 have R1:=zhz (show RdI w2 .u8 (some ⟨d,off+1,none⟩) 1 (c - 1) (q.drop 1) from (zaM HR.out (m:=1) (by omega)).below BL2.out)
 have HD2:=zhz (show d<w2.heap.size from Nat.lt_of_lt_of_le HDL.out BL2.out.size)
 have HDN:=zhz (show d≠b1+1∧d≠b1∧d≠b0 from by have h1:=HB0.out;have h2:=HB1.out;have h3:=HDL.out;omega)
 have CR:=zhz (zaK _ _ _ d _ _ R1.out (fun _=>⟨_,rfl⟩) HD2.out (b1+1) S2.out)
 clear hbk hbl hsz2 hw2 hb1 c01
 go_upto_region 5 with (go_at_call 115;((with_reducible refine CR.out.mono ?_);rintro e w3 ⟨rfl,s3,b3⟩;have S3:=zhz s3;have B3:=zhz b3;clear s3 b3))
 have BK3:=zhz (BK2.out.keep B3.out)
 have BQ3:=zhz (BQ2.out.keep B3.out)
 have BL3:=zhz (BL2.out.trans (B3.out.mono BL2.out.size))
 have NE:=zhz (show b0≠b1∧b0≠b1+1∧b1≠b1+1∧b1≠b0 from by have:=HB1.out;omega)
 have k3:=BQ3.out.rd
 have CN1:=zhz (fun (wx:World) (hx:SrcAt wx (b1+1) d (q.drop 1))=>zaJ (b1+1) d (q.drop 1) (q.drop 2) v 1 1 rfl (by omega) (by rw [List.length_drop,HL.out];omega) (by omega) wx hx HDN.out.1 Pv.out (by rw [List.drop_drop]))
 go_upto_region 19 with (first
  | (go_at_call 160;((with_reducible refine (CN1.out _ S3.out).mono ?_);rintro e w4 ⟨rfl,s4,f4⟩;have S4:=zhz s4;have BK4:=zhz (BK3.out.fr f4 NE.out.2.1);have BQ4:=zhz (BQ3.out.fr f4 NE.out.2.2.1);have BL4:=zhz (BL3.out.trans (f4.below BL3.out.size (fun k hk=>by have h1:=HB0.out;have h2:=HB1.out;omega)));have k4:=BQ4.out.rd;have q4:=BQ4.out.wr;clear s4 f4)))
 have BQ5:=zhz (show Blk (w4.setCell ⟨b1,11,none⟩ (.int .i64 v)) b1 92 (sdC op 0 0 0 0 0 0 0 0 0 nilV v) from by rw [zac BQ4.out];exact zab (lt_of_block BQ4.out) _)
 have FR5:=zhz (zbs (i:=11) (v:=.int .i64 v) BQ4.out)
 obtain ⟨w5,hw5⟩:=zeq ((w4.setCell ⟨b1,11,none⟩ (.int .i64 v)))
 rw [← hw5] at BQ5 FR5 ⊢
 have BK5:=zhz (BK4.out.fr FR5.out NE.out.1)
 have BL5:=zhz (BL4.out.trans (FR5.out.below BL4.out.size (fun k hk=>by have h1:=HB0.out;have h2:=HB1.out;omega)))
 have kw:=BK5.out.wr
 have kr:=BK5.out.rd
 have y1:∀ i,w5.drew.cell? ⟨b1,i,none⟩=(sdC op 0 0 0 0 0 0 0 0 0 nilV v)[i]?:=BQ5.out.drew.rd
 clear hw5 k3 k4 q4
 refine wp_region_held_drew (S:=fun w'=>∀ i,w'.cell? ⟨b1,i,none⟩=(sdC op 0 0 0 0 0 0 0 0 0 nilV v)[i]?) (by kernel_rfl) y1 (fun hHeld=>?_)
 clear y1
 refine wR 0 ?_
 refine wR 1 ?_
 refine wR 2 ?_
 refine wR 3 ?_
 refine wC 4 fun K hK=>?_
 go_simp
 skip
 refine hK.out _ _ (by rw [zai BK5.out];exact (Blk.drew (BQ5.out.fr (Fr.setObj (F:=fun k=>k=b0) (Fr.refl _ _) rfl _) NE.out.2.2.2)).rd) fun hHeld=>?_
 clear hK K
 try simp only [Act.put,zs1,zs2,zs3]
 refine wR 5 ?_
 refine wpAnyH_done (by kernel_rfl) ?_ _
 clear kw kr hHeld
 go_wp2
 rw [zai BK5.out]
 refine bodyPost_ret (zal rfl _ _ b0 _ _ (0,0) _ rfl (zab (lt_of_block BK5.out) _) Tryz.underlying92 rfl (by kernel_rfl)) rfl ?_
 first | exact ⟨rfl,zaa (BL5.out.trans ((Fr.setObj (F:=fun k=>k=b0) (Fr.refl _ _) rfl _).below BL5.out.size (fun k hk=>by have:=HB0.out;omega))) 1⟩ | exact ⟨_,rfl,zau _ _ _ _ _ _ _ _ _ _ _ _ _ _,zaa (BL5.out.trans ((Fr.setObj (F:=fun k=>k=b0) (Fr.refl _ _) rfl _).below BL5.out.size (fun k hk=>by have:=HB0.out;omega))) 1⟩ | exact ⟨zau _ _ _ _ _ _ _ _ _ _ _ _ _ _,zaa (BL5.out.trans ((Fr.setObj (F:=fun k=>k=b0) (Fr.refl _ _) rfl _).below BL5.out.size (fun k hk=>by have:=HB0.out;omega))) 1⟩
end
section
open Go.Deep
theorem zkN {w:World} {d off n c:Nat} {q:List Int} (h:RdI w .u8 (some ⟨d,off,none⟩) n c q) {m l:Nat} (hm:m+l≤n) (hmc:m<c):RdI w .u8 (some ⟨d,off+m,none⟩) l (c - m) ((q.drop m).take l):=by
 have hl:=h.len
 have hcp:=h.cap
 refine ⟨by rw [List.length_take,List.length_drop];omega,by omega,by have:=h.max;omega,fun h0=>?_,fun z hz=>h.wf z (List.mem_of_mem_drop (List.mem_of_mem_take hz))⟩
 obtain ⟨b,off',e,hlt,hc⟩:=h.at_ (by omega)
 injection e with e
 injection e with e1 e2
 subst e1 e2
 refine ⟨d,off+m,rfl,hlt,fun i hi=>?_⟩
 rw [Nat.add_assoc,hc (m+i) (by omega)]
 congr 2
 simp only [List.getD_eq_getElem?_getD,List.getElem?_take,List.getElem?_drop]
 rw [if_pos hi]
theorem zji {d off c m:Nat} {body:List Int} {w:World} {op ru v re rt a dd b cc wt er:Int} (hm:2≤m∧m≤60000) (hl:body.length=m) (hr:RdI w .u8 (some ⟨d,off,none⟩) (4+m) c (frmZ body))
  (CS0:∀ wx,RdI wx .u8 (some ⟨d,off+4,none⟩) m (c - 4) body→Calls Tryz.prog 83 #[.slice (some ⟨d,off+4,none⟩) m (c - 4)] wx fun e w'=>e=.returned (.tuple #[.agg (sdC op ru v re rt a dd b cc wt nilV er),.bool true])∧Below wx.heap.size wx w') :
  Calls Tryz.prog 38 #[.slice (some ⟨d,off,none⟩) (4+m) c] w fun e w'=>e=.returned (.tuple #[.agg (sdC op ru v re rt a dd b cc wt nilV er),.int .i64 ((4+m:Nat):Int),.bool true])∧Below w.heap.size w w':=by
 obtain ⟨n,hn⟩:=zeq (4+m)
 rw [← hn] at hr ⊢
 have ez:frmZ body=168 :: 1 :: ((m:Int) / 256 % 256) :: ((m:Int) % 256) :: body:=by unfold frmZ;rw [zhY,hl];rfl
 have hcp:=hr.cap
 have hmx:=hr.max
 unfold maxLen at hmx
 obtain ⟨b',off',e',hlt,hc⟩:=hr.at_ (by omega)
 injection e' with e'
 injection e' with e1 e2
 subst e1 e2
 have HC:=zhz (fun (wx:World) (hx:Below w.heap.size w wx) (i:Nat) (hi:i<n)=>(hx.cell (p:=⟨d,off+i,none⟩) hlt).trans (hc i hi))
 obtain ⟨y2,hy2⟩:∃ y,y=(m:Int) / 256 % 256:=⟨_,rfl⟩
 obtain ⟨y3,hy3⟩:∃ y,y=(m:Int) % 256:=⟨_,rfl⟩
 have k2:0≤y2∧y2≤255:=by omega
 have k3:0≤y3∧y3≤255:=by omega
 have hmm:y2*256+y3=(m:Int):=by omega
 have KC:=zhz (fun (wx:World) (hx:Below w.heap.size w wx)=>show wx.cell? ⟨d,off,none⟩=some (.int .u8 168)∧wx.cell? ⟨d,off+1,none⟩=some (.int .u8 1)∧wx.cell? ⟨d,off+2,none⟩=some (.int .u8 y2)∧wx.cell? ⟨d,off+3,none⟩=some (.int .u8 y3) from by
  have a0:=HC.out wx hx 0 (by omega)
  have a1:=HC.out wx hx 1 (by omega)
  have a2:=HC.out wx hx 2 (by omega)
  have a3:=HC.out wx hx 3 (by omega)
  rw [ez] at a0 a1 a2 a3
  rw [Nat.add_zero] at a0
  rw [hy2,hy3]
  exact ⟨a0,a1,a2,a3⟩)
 have HR:=zhz (fun (wx:World) (hx:Below w.heap.size w wx)=>show RdI wx .u8 (some ⟨d,off+4,none⟩) m (c - 4) body from by
  have h:=zkN (hr.below hx) (m:=4) (l:=m) (by omega) (by omega)
  rw [ez] at h
  have e:((168 :: 1 :: ((m:Int) / 256 % 256) :: ((m:Int) % 256) :: body).drop 4).take m=body:=List.take_of_length_le (by show body.length≤m;omega)
  rw [e] at h
  exact h)
 have t1:¬ (n:Int)<4:=by omega
 have g0:(0:Int)<(n:Int):=by omega
 have g1:(1:Int)<(n:Int):=by omega
 have g2:(2:Int)<(n:Int):=by omega
 have g3:(3:Int)<(n:Int):=by omega
 have ea:IntKind.i64.wrap (y2*256)=y2*256:=by rw [IntKind.wrap_i64];omega
 have eb:IntKind.i64.wrap (4+y2*256)=4+y2*256:=by rw [IntKind.wrap_i64];omega
 have ec:IntKind.i64.wrap (4+y2*256+y3)=(n:Int):=by rw [IntKind.wrap_i64];omega
 have ed:4+y2*256+y3=(n:Int):=by omega
 have ew2:IntKind.i64.wrap y2=y2:=by rw [IntKind.wrap_i64];omega
 have ew3:IntKind.i64.wrap y3=y3:=by rw [IntKind.wrap_i64];omega
 have ep:(2:Int) ^ 8=256:=rfl
 have t4:¬ (n:Int)<(n:Int):=by omega
 have g4:(4:Int)≤(n:Int):=by omega
 have g5:(n:Int)≤(c:Int):=by omega
 have hMm:n - 4=m:=by omega
 have hc4:¬ c=4:=by omega
 have CY:=zhz CS0
 clear hc hr hlt hn hy2 hy3 hmm CS0 ez hm hl
 go_enter Tryz.func38,Tryz.ntmps38
 go_upto_region 1 with (fail)
 obtain ⟨w1,hw1,hbk,hbl,hsz1⟩:=zad w (sdC 0 0 0 0 0 0 0 0 0 0 nilV 0) 92
 change Code.wp _ _ _ _ (w.alloc (.cells (sdC 0 0 0 0 0 0 0 0 0 0 nilV 0) 92))
 rw [hw1]
 obtain ⟨b0,hb0⟩:=zeq (w.heap.size)
 rw [← hb0] at hbk ⊢
 have HB0:=zhz hb0
 have BK:=zhz hbk
 have BL:=zhz hbl
 obtain ⟨a0,a1,a2,a3⟩:=KC.out w1 hbl
 clear hbk hbl hsz1 hw1 hb0
 go_upto_region 3 with (fail)
 go_quiet (fail)
 have BK2:=zhz (show Blk (w1.drewN nq) b0 92 (sdC 0 0 0 0 0 0 0 0 0 0 nilV 0) from BK.out.keep (zaa (Below.refl _ _) nq))
 have BL2:=zhz (show Below w.heap.size w (w1.drewN nq) from zaa BL.out nq)
 obtain ⟨w2,hw2⟩:=zeq (w1.drewN nq)
 rw [← hw2] at BK2 BL2 ⊢
 have R2:=zhz (HR.out w2 BL2.out)
 clear a0 a1 a2 a3 hw2
 go_upto_region 7 with (go_at_call 83;((with_reducible refine (CY.out _ R2.out).mono ?_);rintro e w3 ⟨rfl,b3⟩;have BK3:=zhz (BK2.out.keep b3);have BL3:=zhz (BL2.out.trans (b3.mono BL2.out.size));clear b3))
 obtain ⟨w4,hw4,hbk,hbl,hsz4⟩:=zad w3 (sdC op ru v re rt a dd b cc wt nilV er) 92
 change Code.wp _ _ _ _ (w3.alloc (.cells (sdC op ru v re rt a dd b cc wt nilV er) 92))
 rw [hw4]
 have kq:=hbk.rd
 have BK4:=zhz (BK3.out.keep hbl)
 have kw:=BK4.out.wr
 have kr:=BK4.out.rd
 have BL4:=zhz (BL3.out.trans (hbl.mono BL3.out.size))
 clear hw4 hbk hbl hsz4
 go_wp2
 rw [zai BK4.out]
 refine bodyPost_ret (zaj rfl _ _ b0 _ _ (0,0) _ rfl (zab (lt_of_block BK4.out) _) Tryz.underlying92 rfl (by kernel_rfl)) rfl ?_
 exact ⟨rfl,BL4.out.trans ((Fr.setObj (F:=fun k=>k=b0) (Fr.refl _ _) rfl _).below BL4.out.size (fun k hk=>by have:=HB0.out;omega))⟩
theorem zhs {d off c:Nat} {op v rem ret:Int} {w:World} (hr:RdI w .u8 (some ⟨d,off,none⟩) 22 c (frmZ (ansZ op v rem ret))) (ho:op=1∨op=2) (hv:1≤v∧v≤3) (h1:i64P rem) (h2:i64P ret) :
  Calls Tryz.prog 38 #[.slice (some ⟨d,off,none⟩) 22 c] w fun e w'=>e=.returned (.tuple #[.agg (sdC op 0 v rem ret 0 0 0 0 0 nilV 0),.int .i64 22,.bool true])∧Below w.heap.size w w':=by
 have hs:=zk1 ho hv h1 h2
 have el:(ansZ op v rem ret).length=18:=zaT _ _ _ _
 have e0:(ansZ op v rem ret).getD 0 0=128+op:=rfl
 have e1:(ansZ op v rem ret).getD 1 0=v:=rfl
 unfold saidZ at hs
 rw [el,e0,e1,if_neg (by omega),if_pos ⟨by omega,rfl⟩,if_pos hv] at hs
 injection hs with hs
 unfold ansS at hs
 injection hs with _ _ _ g1 g2
 refine zji (m:=18) (by decide) el hr (fun wx hx=>?_)
 have h:=zcn _ 18 (c - 4) _ op wx hx e0 (by omega) (by decide) ho rfl (by rw [e1];exact hv)
 rw [e1,g1,g2] at h
 exact h
end
section
open Go.Deep
theorem zia (A:Option Addr) (n c:Nat) (q:List Int) (op:Int) (w:World) (hr:RdI w .u8 A n c q) (h0:q.getD 0 0=128+op) (hop:0≤op) (h2:2≤n) (ho:op=4) (h3n:3≤n) (hn:n≤100000) (r:Option (List Cnt)) (rb:Bool) (hrb:rb=r.isSome) (hlz:lstZ (q.getD 2 0).toNat (q.drop 3)=r) :
  Calls Tryz.prog 83 #[.slice A n c] w fun e w'=>∃ LA LN LC,e=.returned (.tuple #[.agg (sdC op (q.getD 1 0) 0 0 0 0 0 0 0 0 (.slice LA LN LC) 0),.bool rb])∧(∀ l,r=some l→∃ ls:List CV,zs ls=l∧w'.ownsRow w.heap.size 121 3 (.slice LA LN LC) ls.length (cells3 ls))∧Below w.heap.size w w':=by
 have hcp:=hr.cap
 have hmx:=hr.max
 unfold maxLen at hmx
 obtain ⟨d,off,rfl,hlt,hc⟩:=hr.at_ (by omega)
 have hby:byt q:=fun x hx=>zbS (hr.wf x hx)
 have HR:=zhz hr
 have HL:=zhz hr.len
 have HBY:=zhz hby
 have HDL:=zhz hlt
 have hb0:=zan hby 0
 have c00:=hc 0 (by omega)
 obtain ⟨y,hy⟩:=zeq (128+op)
 rw [h0,← hy] at hb0 c00
 rw [Nat.add_zero] at c00
 have e0:y - 128=op:=by omega
 have e1:IntKind.u8.wrap op=op:=by rw [IntKind.wrap_u8];omega
 have e2:IntKind.i64.wrap op=op:=by rw [IntKind.wrap_i64];omega
 have t1:¬ (n:Int)<2:=by omega
 have t2:¬ y<128:=by omega
 have g0:(0:Int)<(n:Int):=by omega
 have g1:(1:Int)≤(n:Int):=by omega
 have g2:(n:Int)≤(c:Int):=by omega
 have g3:¬ c=1:=by omega
 have HY:=zhz hy
 have HOP:=zhz hop
 clear hr hc hby hy h0 hlt hop
 have t3:(op==1)=false:=by rw [ho];rfl
 have t4:(op==2)=false:=by rw [ho];rfl
 have t5:(op==3)=false:=by rw [ho];rfl
 have t6:(op==4)=true:=by rw [ho];rfl
 have t7:(3:Int)≤(n:Int):=by omega
 have HRB:=zhz hrb
 have HLZ:=zhz hlz
 have HN:=zhz hn
 clear ho hrb hlz hn
 obtain ⟨v,hv⟩:=zeq (q.getD 1 0)
 have hvb:=zan HBY.out 1
 rw [← hv] at hvb
 have Hv:=zhz hv
 have Pv:=zhz (show preZ (q.drop 1) 1=v from by rw [pre1,hv];simp [List.getD])
 have ev:IntKind.i64.wrap v=v:=zcl hvb
 clear hv
 have hm0:=zan HBY.out 2
 obtain ⟨m,hm⟩:∃ m:Nat,q.getD 2 0=(m:Int):=⟨(q.getD 2 0).toNat,by omega⟩
 have HM:=zhz hm
 have Pm:=zhz (show preZ (q.drop 2) 1=(m:Int) from by rw [pre1,← hm];simp [List.getD])
 have hmb:m≤255:=by omega
 have em:IntKind.i64.wrap (m:Int)=(m:Int):=by rw [IntKind.wrap_i64];omega
 have HLM:=zhz (show lstZ m (q.drop 3)=r from by have h:=HLZ.out;rw [hm,Int.toNat_natCast] at h;exact h)
 rw [← Hv.out]
 clear hm hm0
 go_enter Tryz.func83,Tryz.ntmps83
 go_upto_region 1 with (fail)
 obtain ⟨w1,hw1,hbk,hbl,hsz1⟩:=zad w (sdC 0 0 0 0 0 0 0 0 0 0 nilV 0) 92
 change Code.wp _ _ _ _ (w.alloc (.cells (sdC 0 0 0 0 0 0 0 0 0 0 nilV 0) 92))
 rw [hw1]
 obtain ⟨b0,hb0⟩:=zeq (w.heap.size)
 rw [← hb0] at hbk hsz1 ⊢
 have HB0:=zhz hb0
 have BK:=zhz hbk
 have BL:=zhz hbl
 have S1:=zhz hsz1
 have c01:w1.cell? ⟨d,off,none⟩=some (.int .u8 y):=by rw [← c00];exact hbl.cell (p:=⟨d,off,none⟩) HDL.out
 clear hbk hbl hsz1 hw1 hb0 c00
 go_upto_region 4 with (fail)
 obtain ⟨w2,hw2,hbk,hbl,hsz2⟩:=zad w1 (sdC op 0 0 0 0 0 0 0 0 0 nilV 0) 92
 change Code.wp _ _ _ _ (w1.alloc (.cells (sdC op 0 0 0 0 0 0 0 0 0 nilV 0) 92))
 rw [hw2]
 obtain ⟨b1,hb1⟩:=zeq (w1.heap.size)
 rw [← hb1] at hbk hsz2 ⊢
 have HB1:=zhz (show b1=b0+1 from by rw [hb1,S1.out])
 have S2:=zhz hsz2
 have BQ2:=zhz hbk
 have BK2:=zhz (BK.out.keep hbl)
 have BL2:=zhz (BL.out.trans (hbl.mono BL.out.size))
 have R1:=zhz (show RdI w2 .u8 (some ⟨d,off+1,none⟩) (n - 1) (c - 1) (q.drop 1) from (zaM HR.out (m:=1) (by omega)).below BL2.out)
 have HD2:=zhz (show d<w2.heap.size from Nat.lt_of_lt_of_le HDL.out BL2.out.size)
 have HDN:=zhz (show d≠b1+1∧d≠b1∧d≠b0 from by have h1:=HB0.out;have h2:=HB1.out;have h3:=HDL.out;omega)
 have CR:=zhz (zaK _ _ _ d _ _ R1.out (fun _=>⟨_,rfl⟩) HD2.out (b1+1) S2.out)
 clear hbk hbl hsz2 hw2 hb1 c01
 go_upto_region 5 with (go_at_call 115;((with_reducible refine CR.out.mono ?_);rintro e w3 ⟨rfl,s3,b3⟩;have S3:=zhz s3;have B3:=zhz b3;clear s3 b3))
 have BK3:=zhz (BK2.out.keep B3.out)
 have BQ3:=zhz (BQ2.out.keep B3.out)
 have BL3:=zhz (BL2.out.trans (B3.out.mono BL2.out.size))
 have NE:=zhz (show b0≠b1∧b0≠b1+1∧b1≠b1+1∧b1≠b0 from by have:=HB1.out;omega)
 have k3:=BQ3.out.rd
 have CN1:=zhz (fun (wx:World) (hx:SrcAt wx (b1+1) d (q.drop 1))=>zaJ (b1+1) d (q.drop 1) (q.drop 2) v 1 1 rfl (by omega) (by rw [List.length_drop,HL.out];omega) (by omega) wx hx HDN.out.1 Pv.out (by rw [List.drop_drop]))
 have CN2:=zhz (fun (wx:World) (hx:SrcAt wx (b1+1) d (q.drop 2))=>zaJ (b1+1) d (q.drop 2) (q.drop 3) (m:Int) 1 1 rfl (by omega) (by rw [List.length_drop,HL.out];omega) (by omega) wx hx HDN.out.1 Pm.out (by rw [List.drop_drop]))
 go_upto_region 14 with (first
  | (go_at_call 160;((with_reducible refine (CN1.out _ S3.out).mono ?_);rintro e w4 ⟨rfl,s4,f4⟩;have S4:=zhz s4;have BK4:=zhz (BK3.out.fr f4 NE.out.2.1);have BQ4:=zhz (BQ3.out.fr f4 NE.out.2.2.1);have BL4:=zhz (BL3.out.trans (f4.below BL3.out.size (fun k hk=>by have h1:=HB0.out;have h2:=HB1.out;omega)));have k4:=BQ4.out.rd;have q4:=BQ4.out.wr;clear s4 f4)))
 have BQ5:=zhz (show Blk (w4.setCell ⟨b1,1,none⟩ (.int .i64 v)) b1 92 (sdC op v 0 0 0 0 0 0 0 0 nilV 0) from by rw [zac BQ4.out];exact zab (lt_of_block BQ4.out) _)
 have FR5:=zhz (zbs (i:=1) (v:=.int .i64 v) BQ4.out)
 obtain ⟨w5,hw5⟩:=zeq ((w4.setCell ⟨b1,1,none⟩ (.int .i64 v)))
 rw [← hw5] at BQ5 FR5 ⊢
 have BK5:=zhz (BK4.out.fr FR5.out NE.out.1)
 have S5:=zhz (show SrcAt w5.drew (b1+1) d (q.drop 2) from (S4.out.fr FR5.out (fun e=>NE.out.2.2.1 e.symm) HDN.out.2.1).keep (zaa (Below.refl _ _) 1))
 have BL5:=zhz (BL4.out.trans (FR5.out.below BL4.out.size (fun k hk=>by have h1:=HB0.out;have h2:=HB1.out;omega)))
 clear hw5 k3 k4 q4
 have BL5d:=zhz (show Below w.heap.size w w5.drew from zaa BL5.out 1)
 have hcase:(n=3∧c=3)∨¬ c=3:=by omega
 have CL:=zhz (fun (A':Option Addr) (n' c':Nat) (wx:World) (h:RdI wx .u8 A' n' c' (q.drop 3)) (hn':n'≤n)=>zhr A' n' c' (q.drop 3) m r hmb (by have:=HN.out;omega) wx h HLM.out)
 rw [← HRB.out] at CL
 rcases hcase with ⟨rfl,rfl⟩ | hc3
 ·have RT:=zhz (show q.drop 3=[] from List.drop_eq_nil_of_le (by rw [HL.out];exact Nat.le_refl _))
  refine wp_region_held_drew (S:=fun _=>True) (by kernel_rfl) trivial (fun hHeld=>?_)
  refine wR 0 ?_
  refine wR 1 ?_
  refine wR 2 ?_
  refine wC 3 fun K hK=>?_
  go_simp
  ((with_reducible refine (CN2.out _ S5.out).mono ?_);rintro e w6 ⟨rfl,s6,f6⟩;have BK6:=zhz ((show Blk w5.drew b0 92 (sdC 0 0 0 0 0 0 0 0 0 0 nilV 0) from BK5.out.drew).fr f6 NE.out.2.1);have BQ6:=zhz ((show Blk w5.drew b1 92 (sdC op v 0 0 0 0 0 0 0 0 nilV 0) from BQ5.out.drew).fr f6 NE.out.2.2.1);have BL6:=zhz (BL5d.out.trans (f6.below BL5d.out.size (fun k hk=>by have h1:=HB0.out;have h2:=HB1.out;omega)));clear s6 f6)
  refine hK.out _ _ trivial fun hHeld=>?_
  clear hK K
  try simp only [Act.put,zs1,zs2,zs3]
  refine wR 4 ?_
  refine wC 5 fun K hK=>?_
  go_simp
  ((with_reducible refine (CL.out _ _ _ _ (by rw [RT.out];exact zbg (by unfold maxLen;omega)) (by omega)).mono ?_);rintro e w7 ⟨lv,rfl,⟨LA,LN,LC,rfl⟩,hls,b7⟩;have HLS:=zhz hls;have BK7:=zhz (BK6.out.keep b7);have BQ7:=zhz (BQ6.out.keep b7);have BL7:=zhz (BL6.out.trans (b7.mono BL6.out.size));have B7:=zhz b7;clear hls b7)
  refine hK.out _ _ trivial fun hHeld=>?_
  clear hK K
  try simp only [Act.put,zs1,zs2,zs3]
  refine wR 6 ?_
  refine wR 7 ?_
  refine wR 8 ?_
  refine wR 9 ?_
  refine wR 10 ?_
  refine wpAnyH_done (by kernel_rfl) ?_ _
  clear hHeld
  have k7:=BQ7.out.rd
  have q7:=BQ7.out.wr
  go_upto_region 16 with (fail)
  have BQ8:=zhz (show Blk (w7.setCell ⟨b1,10,none⟩ (.slice LA LN LC)) b1 92 (sdC op v 0 0 0 0 0 0 0 0 (.slice LA LN LC) 0) from by rw [zac BQ7.out];exact zab (lt_of_block BQ7.out) _)
  have FR8:=zhz (zbs (i:=10) (v:=.slice LA LN LC) BQ7.out)
  obtain ⟨w8,hw8⟩:=zeq ((w7.setCell ⟨b1,10,none⟩ (.slice LA LN LC)))
  rw [← hw8] at BQ8 FR8 ⊢
  have BK8:=zhz (BK7.out.fr FR8.out NE.out.1)
  have BL8:=zhz (BL7.out.trans (FR8.out.below BL7.out.size (fun k hk=>by have h1:=HB0.out;have h2:=HB1.out;omega)))
  have HLS8:=zhz (fun (l:List Cnt) (hl:r=some l)=>show ∃ ls:List CV,zs ls=l∧(setObj w8 b0 (.cells (sdC op v 0 0 0 0 0 0 0 0 (.slice LA LN LC) 0) 92 (0,0))).ownsRow w.heap.size 121 3 (.slice LA LN LC) ls.length (cells3 ls) from by
   obtain ⟨ls,h1,h2⟩:=HLS.out l hl
   have h6:=BL6.out.size
   have g1:=lt_of_block BQ6.out
   have h3:=zbw h2 FR8.out (fun g hg=>by have h4:=(zbx h2 g hg).1;have g2:=HB1.out;omega)
   have h5:=zbw h3 (Fr.setObj (F:=fun k=>k=b0) (Fr.refl _ _) rfl (.cells (sdC op v 0 0 0 0 0 0 0 0 (.slice LA LN LC) 0) 92 (0,0))) (fun g hg=>by have h4:=(zbx h2 g hg).1;have g2:=HB1.out;omega)
   refine ⟨ls,h1,h5.1,?_⟩
   rcases h5.2 with h0 | ⟨g,cap,cur,hv,hb,hr⟩
   ·exact .inl h0
   ·exact .inr ⟨g,cap,cur,hv,by omega,hr⟩)
  clear hw8 k7 q7
  have k8:=BQ8.out.rd
  have kw:=BK8.out.wr
  have kr:=BK8.out.rd
  go_wp2
  rw [zai BK8.out]
  refine bodyPost_ret (zal rfl _ _ b0 _ _ (0,0) _ rfl (zab (lt_of_block BK8.out) _) Tryz.underlying92 rfl (by kernel_rfl)) rfl ?_
  exact ⟨LA,LN,LC,rfl,HLS8.out,BL8.out.trans ((Fr.setObj (F:=fun k=>k=b0) (Fr.refl _ _) rfl _).below BL8.out.size (fun k hk=>by have:=HB0.out;omega))⟩
 ·have RT:=zhz (show RdI w .u8 (some ⟨d,off+3,none⟩) (n - 3) (c - 3) (q.drop 3) from zaM HR.out (m:=3) (by omega))
  refine wp_region_held_drew (S:=fun _=>True) (by kernel_rfl) trivial (fun hHeld=>?_)
  refine wR 0 ?_
  refine wR 1 ?_
  refine wR 2 ?_
  refine wC 3 fun K hK=>?_
  go_simp
  ((with_reducible refine (CN2.out _ S5.out).mono ?_);rintro e w6 ⟨rfl,s6,f6⟩;have BK6:=zhz ((show Blk w5.drew b0 92 (sdC 0 0 0 0 0 0 0 0 0 0 nilV 0) from BK5.out.drew).fr f6 NE.out.2.1);have BQ6:=zhz ((show Blk w5.drew b1 92 (sdC op v 0 0 0 0 0 0 0 0 nilV 0) from BQ5.out.drew).fr f6 NE.out.2.2.1);have BL6:=zhz (BL5d.out.trans (f6.below BL5d.out.size (fun k hk=>by have h1:=HB0.out;have h2:=HB1.out;omega)));clear s6 f6)
  refine hK.out _ _ trivial fun hHeld=>?_
  clear hK K
  try simp only [Act.put,zs1,zs2,zs3]
  refine wR 4 ?_
  refine wC 5 fun K hK=>?_
  go_simp
  ((with_reducible refine (CL.out _ _ _ _ (RT.out.below BL6.out) (by omega)).mono ?_);rintro e w7 ⟨lv,rfl,⟨LA,LN,LC,rfl⟩,hls,b7⟩;have HLS:=zhz hls;have BK7:=zhz (BK6.out.keep b7);have BQ7:=zhz (BQ6.out.keep b7);have BL7:=zhz (BL6.out.trans (b7.mono BL6.out.size));have B7:=zhz b7;clear hls b7)
  refine hK.out _ _ trivial fun hHeld=>?_
  clear hK K
  try simp only [Act.put,zs1,zs2,zs3]
  refine wR 6 ?_
  refine wR 7 ?_
  refine wR 8 ?_
  refine wR 9 ?_
  refine wR 10 ?_
  refine wpAnyH_done (by kernel_rfl) ?_ _
  clear hHeld
  have k7:=BQ7.out.rd
  have q7:=BQ7.out.wr
  go_upto_region 16 with (fail)
  have BQ8:=zhz (show Blk (w7.setCell ⟨b1,10,none⟩ (.slice LA LN LC)) b1 92 (sdC op v 0 0 0 0 0 0 0 0 (.slice LA LN LC) 0) from by rw [zac BQ7.out];exact zab (lt_of_block BQ7.out) _)
  have FR8:=zhz (zbs (i:=10) (v:=.slice LA LN LC) BQ7.out)
  obtain ⟨w8,hw8⟩:=zeq ((w7.setCell ⟨b1,10,none⟩ (.slice LA LN LC)))
  rw [← hw8] at BQ8 FR8 ⊢
  have BK8:=zhz (BK7.out.fr FR8.out NE.out.1)
  have BL8:=zhz (BL7.out.trans (FR8.out.below BL7.out.size (fun k hk=>by have h1:=HB0.out;have h2:=HB1.out;omega)))
  have HLS8:=zhz (fun (l:List Cnt) (hl:r=some l)=>show ∃ ls:List CV,zs ls=l∧(setObj w8 b0 (.cells (sdC op v 0 0 0 0 0 0 0 0 (.slice LA LN LC) 0) 92 (0,0))).ownsRow w.heap.size 121 3 (.slice LA LN LC) ls.length (cells3 ls) from by
   obtain ⟨ls,h1,h2⟩:=HLS.out l hl
   have h6:=BL6.out.size
   have g1:=lt_of_block BQ6.out
   have h3:=zbw h2 FR8.out (fun g hg=>by have h4:=(zbx h2 g hg).1;have g2:=HB1.out;omega)
   have h5:=zbw h3 (Fr.setObj (F:=fun k=>k=b0) (Fr.refl _ _) rfl (.cells (sdC op v 0 0 0 0 0 0 0 0 (.slice LA LN LC) 0) 92 (0,0))) (fun g hg=>by have h4:=(zbx h2 g hg).1;have g2:=HB1.out;omega)
   refine ⟨ls,h1,h5.1,?_⟩
   rcases h5.2 with h0 | ⟨g,cap,cur,hv,hb,hr⟩
   ·exact .inl h0
   ·exact .inr ⟨g,cap,cur,hv,by omega,hr⟩)
  clear hw8 k7 q7
  have k8:=BQ8.out.rd
  have kw:=BK8.out.wr
  have kr:=BK8.out.rd
  go_wp2
  rw [zai BK8.out]
  refine bodyPost_ret (zal rfl _ _ b0 _ _ (0,0) _ rfl (zab (lt_of_block BK8.out) _) Tryz.underlying92 rfl (by kernel_rfl)) rfl ?_
  exact ⟨LA,LN,LC,rfl,HLS8.out,BL8.out.trans ((Fr.setObj (F:=fun k=>k=b0) (Fr.refl _ _) rfl _).below BL8.out.size (fun k hk=>by have:=HB0.out;omega))⟩
theorem zj3 (A:Option Addr) (n c:Nat) (q:List Int) (op:Int) (w:World) (hr:RdI w .u8 A n c q) (h0:q.getD 0 0=128+op) (hop:0≤op) (h2:2≤n) (ho:¬ ((op=1∨op=2)∧n=18)) (ho3:¬ (op=3∧n=42)) (ho4:¬ (op=4∧3≤n)) (ho5:¬ (op=127∧n=2)) :
  Calls Tryz.prog 83 #[.slice A n c] w fun e w'=>∃ sv,e=.returned (.tuple #[sv,.bool false])∧isSd sv∧Below w.heap.size w w':=by
 have hcp:=hr.cap
 have hmx:=hr.max
 unfold maxLen at hmx
 obtain ⟨d,off,rfl,hlt,hc⟩:=hr.at_ (by omega)
 have hby:byt q:=fun x hx=>zbS (hr.wf x hx)
 have HR:=zhz hr
 have HL:=zhz hr.len
 have HBY:=zhz hby
 have HDL:=zhz hlt
 have hb0:=zan hby 0
 have c00:=hc 0 (by omega)
 obtain ⟨y,hy⟩:=zeq (128+op)
 rw [h0,← hy] at hb0 c00
 rw [Nat.add_zero] at c00
 have e0:y - 128=op:=by omega
 have e1:IntKind.u8.wrap op=op:=by rw [IntKind.wrap_u8];omega
 have e2:IntKind.i64.wrap op=op:=by rw [IntKind.wrap_i64];omega
 have t1:¬ (n:Int)<2:=by omega
 have t2:¬ y<128:=by omega
 have g0:(0:Int)<(n:Int):=by omega
 have g1:(1:Int)≤(n:Int):=by omega
 have g2:(n:Int)≤(c:Int):=by omega
 have g3:¬ c=1:=by omega
 have HY:=zhz hy
 have HOP:=zhz hop
 clear hr hc hby hy h0 hlt hop
 have HO:=zhz (And.intro ho (And.intro ho3 (And.intro ho4 ho5)))
 clear ho ho3 ho4 ho5
 go_enter Tryz.func83,Tryz.ntmps83
 go_upto_region 1 with (fail)
 obtain ⟨w1,hw1,hbk,hbl,hsz1⟩:=zad w (sdC 0 0 0 0 0 0 0 0 0 0 nilV 0) 92
 change Code.wp _ _ _ _ (w.alloc (.cells (sdC 0 0 0 0 0 0 0 0 0 0 nilV 0) 92))
 rw [hw1]
 obtain ⟨b0,hb0⟩:=zeq (w.heap.size)
 rw [← hb0] at hbk hsz1 ⊢
 have HB0:=zhz hb0
 have BK:=zhz hbk
 have BL:=zhz hbl
 have S1:=zhz hsz1
 have c01:w1.cell? ⟨d,off,none⟩=some (.int .u8 y):=by rw [← c00];exact hbl.cell (p:=⟨d,off,none⟩) HDL.out
 clear hbk hbl hsz1 hw1 hb0 c00
 go_upto_region 4 with (fail)
 obtain ⟨w2,hw2,hbk,hbl,hsz2⟩:=zad w1 (sdC op 0 0 0 0 0 0 0 0 0 nilV 0) 92
 change Code.wp _ _ _ _ (w1.alloc (.cells (sdC op 0 0 0 0 0 0 0 0 0 nilV 0) 92))
 rw [hw2]
 obtain ⟨b1,hb1⟩:=zeq (w1.heap.size)
 rw [← hb1] at hbk hsz2 ⊢
 have HB1:=zhz (show b1=b0+1 from by rw [hb1,S1.out])
 have S2:=zhz hsz2
 have BQ2:=zhz hbk
 have BK2:=zhz (BK.out.keep hbl)
 have BL2:=zhz (BL.out.trans (hbl.mono BL.out.size))
 have R1:=zhz (show RdI w2 .u8 (some ⟨d,off+1,none⟩) (n - 1) (c - 1) (q.drop 1) from (zaM HR.out (m:=1) (by omega)).below BL2.out)
 have HD2:=zhz (show d<w2.heap.size from Nat.lt_of_lt_of_le HDL.out BL2.out.size)
 have HDN:=zhz (show d≠b1+1∧d≠b1∧d≠b0 from by have h1:=HB0.out;have h2:=HB1.out;have h3:=HDL.out;omega)
 have CR:=zhz (zaK _ _ _ d _ _ R1.out (fun _=>⟨_,rfl⟩) HD2.out (b1+1) S2.out)
 clear hbk hbl hsz2 hw2 hb1 c01
 go_upto_region 5 with (go_at_call 115;((with_reducible refine CR.out.mono ?_);rintro e w3 ⟨rfl,s3,b3⟩;have S3:=zhz s3;have B3:=zhz b3;clear s3 b3))
 have BK3:=zhz (BK2.out.keep B3.out)
 have BQ3:=zhz (BQ2.out.keep B3.out)
 have BL3:=zhz (BL2.out.trans (B3.out.mono BL2.out.size))
 have NE:=zhz (show b0≠b1∧b0≠b1+1∧b1≠b1+1∧b1≠b0 from by have:=HB1.out;omega)
 have k3:=BQ3.out.rd
 have kw:=BK3.out.wr
 have kr:=BK3.out.rd
 have HW:((op==1)=true∧((n:Int)==18)=false)∨((op==1)=false∧(op==2)=true∧((n:Int)==18)=false)∨((op==1)=false∧(op==2)=false∧(op==3)=true∧((n:Int)==42)=false)∨((op==1)=false∧(op==2)=false∧(op==3)=false∧(op==4)=true∧¬ (3:Int)≤(n:Int))∨((op==1)=false∧(op==2)=false∧(op==3)=false∧(op==4)=false∧(op==127)=true∧((n:Int)==2)=false)∨((op==1)=false∧(op==2)=false∧(op==3)=false∧(op==4)=false∧(op==127)=false):=by
  obtain ⟨h1,h2,h3,h4⟩:=HO.out
  simp only [beq_iff_eq,beq_eq_false_iff_ne]
  by_cases g1:op=1
  ·exact .inl ⟨g1,fun e=>h1 ⟨.inl g1,by omega⟩⟩
  by_cases g2:op=2
  ·exact .inr (.inl ⟨g1,g2,fun e=>h1 ⟨.inr g2,by omega⟩⟩)
  by_cases g3:op=3
  ·exact .inr (.inr (.inl ⟨g1,g2,g3,fun e=>h2 ⟨g3,by omega⟩⟩))
  by_cases g4:op=4
  ·exact .inr (.inr (.inr (.inl ⟨g1,g2,g3,g4,fun e=>h3 ⟨g4,by omega⟩⟩)))
  by_cases g5:op=127
  ·exact .inr (.inr (.inr (.inr (.inl ⟨g1,g2,g3,g4,g5,fun e=>h4 ⟨g5,by omega⟩⟩))))
  ·exact .inr (.inr (.inr (.inr (.inr ⟨g1,g2,g3,g4,g5⟩))))
 rcases HW with ⟨u1,u2⟩ | ⟨u1,u2,u3⟩ | ⟨u1,u2,u3,u4⟩ | ⟨u1,u2,u3,u4,u5⟩ | ⟨u1,u2,u3,u4,u5,u6⟩ | ⟨u1,u2,u3,u4,u5⟩
 ·have v3:(op==3)=false:=by have:=eq_of_beq u1;rw [this];rfl
  have v4:(op==4)=false:=by have:=eq_of_beq u1;rw [this];rfl
  have v127:(op==127)=false:=by have:=eq_of_beq u1;rw [this];rfl
  go_wp2
  rw [zai BK3.out]
  refine bodyPost_ret (zal rfl _ _ b0 _ _ (0,0) _ rfl (zab (lt_of_block BK3.out) _) Tryz.underlying92 rfl (by kernel_rfl)) rfl ?_
  first | exact ⟨_,rfl,zau _ _ _ _ _ _ _ _ _ _ _ _ _ _,BL3.out.trans ((Fr.setObj (F:=fun k=>k=b0) (Fr.refl _ _) rfl _).below BL3.out.size (fun k hk=>by have:=HB0.out;omega))⟩ | exact ⟨zau _ _ _ _ _ _ _ _ _ _ _ _ _ _,BL3.out.trans ((Fr.setObj (F:=fun k=>k=b0) (Fr.refl _ _) rfl _).below BL3.out.size (fun k hk=>by have:=HB0.out;omega))⟩
 ·have v3:(op==3)=false:=by have:=eq_of_beq u2;rw [this];rfl
  have v4:(op==4)=false:=by have:=eq_of_beq u2;rw [this];rfl
  have v127:(op==127)=false:=by have:=eq_of_beq u2;rw [this];rfl
  go_wp2
  rw [zai BK3.out]
  refine bodyPost_ret (zal rfl _ _ b0 _ _ (0,0) _ rfl (zab (lt_of_block BK3.out) _) Tryz.underlying92 rfl (by kernel_rfl)) rfl ?_
  first | exact ⟨_,rfl,zau _ _ _ _ _ _ _ _ _ _ _ _ _ _,BL3.out.trans ((Fr.setObj (F:=fun k=>k=b0) (Fr.refl _ _) rfl _).below BL3.out.size (fun k hk=>by have:=HB0.out;omega))⟩ | exact ⟨zau _ _ _ _ _ _ _ _ _ _ _ _ _ _,BL3.out.trans ((Fr.setObj (F:=fun k=>k=b0) (Fr.refl _ _) rfl _).below BL3.out.size (fun k hk=>by have:=HB0.out;omega))⟩
 ·have v4:(op==4)=false:=by have:=eq_of_beq u3;rw [this];rfl
  have v127:(op==127)=false:=by have:=eq_of_beq u3;rw [this];rfl
  go_wp2
  rw [zai BK3.out]
  refine bodyPost_ret (zal rfl _ _ b0 _ _ (0,0) _ rfl (zab (lt_of_block BK3.out) _) Tryz.underlying92 rfl (by kernel_rfl)) rfl ?_
  first | exact ⟨_,rfl,zau _ _ _ _ _ _ _ _ _ _ _ _ _ _,BL3.out.trans ((Fr.setObj (F:=fun k=>k=b0) (Fr.refl _ _) rfl _).below BL3.out.size (fun k hk=>by have:=HB0.out;omega))⟩ | exact ⟨zau _ _ _ _ _ _ _ _ _ _ _ _ _ _,BL3.out.trans ((Fr.setObj (F:=fun k=>k=b0) (Fr.refl _ _) rfl _).below BL3.out.size (fun k hk=>by have:=HB0.out;omega))⟩
 ·have v127:(op==127)=false:=by have:=eq_of_beq u4;rw [this];rfl
  go_wp2
  rw [zai BK3.out]
  refine bodyPost_ret (zal rfl _ _ b0 _ _ (0,0) _ rfl (zab (lt_of_block BK3.out) _) Tryz.underlying92 rfl (by kernel_rfl)) rfl ?_
  first | exact ⟨_,rfl,zau _ _ _ _ _ _ _ _ _ _ _ _ _ _,BL3.out.trans ((Fr.setObj (F:=fun k=>k=b0) (Fr.refl _ _) rfl _).below BL3.out.size (fun k hk=>by have:=HB0.out;omega))⟩ | exact ⟨zau _ _ _ _ _ _ _ _ _ _ _ _ _ _,BL3.out.trans ((Fr.setObj (F:=fun k=>k=b0) (Fr.refl _ _) rfl _).below BL3.out.size (fun k hk=>by have:=HB0.out;omega))⟩
 ·skip
  go_wp2
  rw [zai BK3.out]
  refine bodyPost_ret (zal rfl _ _ b0 _ _ (0,0) _ rfl (zab (lt_of_block BK3.out) _) Tryz.underlying92 rfl (by kernel_rfl)) rfl ?_
  first | exact ⟨_,rfl,zau _ _ _ _ _ _ _ _ _ _ _ _ _ _,BL3.out.trans ((Fr.setObj (F:=fun k=>k=b0) (Fr.refl _ _) rfl _).below BL3.out.size (fun k hk=>by have:=HB0.out;omega))⟩ | exact ⟨zau _ _ _ _ _ _ _ _ _ _ _ _ _ _,BL3.out.trans ((Fr.setObj (F:=fun k=>k=b0) (Fr.refl _ _) rfl _).below BL3.out.size (fun k hk=>by have:=HB0.out;omega))⟩
 ·skip
  go_wp2
  rw [zai BK3.out]
  refine bodyPost_ret (zal rfl _ _ b0 _ _ (0,0) _ rfl (zab (lt_of_block BK3.out) _) Tryz.underlying92 rfl (by kernel_rfl)) rfl ?_
  first | exact ⟨_,rfl,zau _ _ _ _ _ _ _ _ _ _ _ _ _ _,BL3.out.trans ((Fr.setObj (F:=fun k=>k=b0) (Fr.refl _ _) rfl _).below BL3.out.size (fun k hk=>by have:=HB0.out;omega))⟩ | exact ⟨zau _ _ _ _ _ _ _ _ _ _ _ _ _ _,BL3.out.trans ((Fr.setObj (F:=fun k=>k=b0) (Fr.refl _ _) rfl _).below BL3.out.size (fun k hk=>by have:=HB0.out;omega))⟩
end
section
open Go.Deep
theorem zje {w:World} {A:Option Addr} {n c:Nat} {q:List Int} (h:RdI w .u8 A n c q):byt q:=fun x hx=>zbS (h.wf x hx)
theorem zfh (A:Option Addr) (n c:Nat) (q:List Int) (w:World) (hr:RdI w .u8 A n c q) (h:n<2∨q.getD 0 0<128) :
  Calls Tryz.prog 83 #[.slice A n c] w fun e w'=>∃ sv,e=.returned (.tuple #[sv,.bool false])∧isSd sv∧Below w.heap.size w w':=by
 have hcp:=hr.cap
 have hmx:=hr.max
 unfold maxLen at hmx
 have HR:=zhz hr
 have hb:=zan (zje hr) 0
 clear hr
 by_cases h2:n<2
 ·have t1:(n:Int)<2:=by omega
  clear h
  go_enter Tryz.func83,Tryz.ntmps83
  go_upto_region 1 with (fail)
  obtain ⟨w1,hw1,hbk,hbl,hsz1⟩:=zad w (sdC 0 0 0 0 0 0 0 0 0 0 nilV 0) 92
  change Code.wp _ _ _ _ (w.alloc (.cells (sdC 0 0 0 0 0 0 0 0 0 0 nilV 0) 92))
  rw [hw1]
  obtain ⟨b0,hb0⟩:=zeq (w.heap.size)
  rw [← hb0] at hbk ⊢
  have HB0:=zhz hb0
  have BK:=zhz hbk
  have BL:=zhz hbl
  have kw:=hbk.wr
  have kr:=hbk.rd
  clear hbk hbl hsz1 hw1 hb0
  go_wp2
  rw [zai BK.out]
  refine bodyPost_ret (zal rfl _ _ b0 _ _ (0,0) _ rfl (zab (lt_of_block BK.out) _) Tryz.underlying92 rfl (by kernel_rfl)) rfl ?_
  first | exact ⟨_,rfl,zau _ _ _ _ _ _ _ _ _ _ _ _ _ _,BL.out.trans ((Fr.setObj (F:=fun k=>k=b0) (Fr.refl _ _) rfl _).below BL.out.size (fun k hk=>by have:=HB0.out;omega))⟩ | exact ⟨zau _ _ _ _ _ _ _ _ _ _ _ _ _ _,BL.out.trans ((Fr.setObj (F:=fun k=>k=b0) (Fr.refl _ _) rfl _).below BL.out.size (fun k hk=>by have:=HB0.out;omega))⟩
 ·have h128:q.getD 0 0<128:=by omega
  have t1:¬ (n:Int)<2:=by omega
  obtain ⟨d,off,rfl,hlt,hc⟩:=HR.out.at_ (by omega)
  have c00:=hc 0 (by omega)
  rw [Nat.add_zero] at c00
  obtain ⟨y,hy⟩:=zeq (q.getD 0 0)
  rw [← hy] at c00 h128
  have g0:(0:Int)<(n:Int):=by omega
  have HDL:=zhz hlt
  clear h hc hy hb hlt
  go_enter Tryz.func83,Tryz.ntmps83
  go_upto_region 1 with (fail)
  obtain ⟨w1,hw1,hbk,hbl,hsz1⟩:=zad w (sdC 0 0 0 0 0 0 0 0 0 0 nilV 0) 92
  change Code.wp _ _ _ _ (w.alloc (.cells (sdC 0 0 0 0 0 0 0 0 0 0 nilV 0) 92))
  rw [hw1]
  obtain ⟨b0,hb0⟩:=zeq (w.heap.size)
  rw [← hb0] at hbk ⊢
  have HB0:=zhz hb0
  have BK:=zhz hbk
  have BL:=zhz hbl
  have kw:=hbk.wr
  have kr:=hbk.rd
  have c01:w1.cell? ⟨d,off,none⟩=some (.int .u8 y):=by rw [← c00];exact hbl.cell (p:=⟨d,off,none⟩) HDL.out
  clear hbk hbl hsz1 hw1 hb0 c00
  go_wp2
  rw [zai BK.out]
  refine bodyPost_ret (zal rfl _ _ b0 _ _ (0,0) _ rfl (zab (lt_of_block BK.out) _) Tryz.underlying92 rfl (by kernel_rfl)) rfl ?_
  first | exact ⟨_,rfl,zau _ _ _ _ _ _ _ _ _ _ _ _ _ _,BL.out.trans ((Fr.setObj (F:=fun k=>k=b0) (Fr.refl _ _) rfl _).below BL.out.size (fun k hk=>by have:=HB0.out;omega))⟩ | exact ⟨zau _ _ _ _ _ _ _ _ _ _ _ _ _ _,BL.out.trans ((Fr.setObj (F:=fun k=>k=b0) (Fr.refl _ _) rfl _).below BL.out.size (fun k hk=>by have:=HB0.out;omega))⟩
def YesP (w:World) (s:Sd) (e:Ending) (w':World):Prop:=∃ LA LN LC,e=.returned (.tuple #[.agg (sdV s (.slice LA LN LC)),.bool true])∧(∃ ls:List CV,zs ls=s.list∧w'.ownsRow w.heap.size 121 3 (.slice LA LN LC) ls.length (cells3 ls))∧Below w.heap.size w w'
theorem zgb {w w':World} {s:Sd} {e:Ending} (hs:s.list=[]) (h:e=.returned (.tuple #[.agg (sdV s nilV),.bool true])∧Below w.heap.size w w'):YesP w s e w' :=
 ⟨none,0,0,h.1,⟨[],by rw [hs];rfl,World.ownsRow_nil _ _ _ _⟩,h.2⟩
theorem zk2 (A:Option Addr) (n c:Nat) (q:List Int) (w:World) (hr:RdI w .u8 A n c q) (hn:n≤100000) :
  (∀ s,saidZ q=some s→Calls Tryz.prog 83 #[.slice A n c] w (YesP w s)) ∧
  (saidZ q=none→Calls Tryz.prog 83 #[.slice A n c] w fun e w'=>∃ sv,e=.returned (.tuple #[sv,.bool false])∧isSd sv∧Below w.heap.size w w'):=by
 have hl:=hr.len
 have hby:=zje hr
 have g0:=zan hby 0
 have g1:=zan hby 1
 unfold saidZ
 rw [hl]
 by_cases c1:n<2∨q.getD 0 0<128
 ·rw [if_pos c1]
  exact ⟨(fun s h=>by cases h),fun _=>zfh A n c q w hr c1⟩
 rw [if_neg c1]
 obtain ⟨op,hop⟩:=zeq (q.getD 0 0 - 128)
 have h0:q.getD 0 0=128+op:=by omega
 by_cases c2:(q.getD 0 0=129∨q.getD 0 0=130)∧n=18
 ·rw [if_pos c2]
  by_cases c3:1≤q.getD 1 0∧q.getD 1 0≤3
  ·rw [if_pos c3]
   refine ⟨fun s h=>?_,fun h=>by cases h⟩
   injection h with h
   subst h
   rw [← hop]
   exact (zcn A n c q op w hr h0 (by omega) (by omega) (by omega) c2.2 c3).mono (fun e w' h=>zgb rfl h)
  ·rw [if_neg c3]
   exact ⟨(fun s h=>by cases h),fun _=>zeo A n c q op w hr h0 (by omega) (by omega) (by omega) c2.2 c3⟩
 rw [if_neg c2]
 by_cases c3:q.getD 0 0=131∧n=42
 ·rw [if_pos c3]
  refine ⟨fun s h=>?_,fun h=>by cases h⟩
  injection h with h
  subst h
  have:=zib A n c q op w hr h0 (by omega) (by omega) (by omega) c3.2
  rw [show op=3 by omega] at this
  exact this.mono (fun e w' h=>zgb rfl h)
 rw [if_neg c3]
 by_cases c4:q.getD 0 0=132∧3≤n
 ·rw [if_pos c4]
  have:=zia A n c q op w hr h0 (by omega) (by omega) (by omega) c4.2 hn _ _ rfl rfl
  rw [show op=4 by omega] at this
  cases hz:lstZ (q.getD 2 0).toNat (q.drop 3) with
  | none =>
   rw [hz] at this
   refine ⟨(fun s h=>by cases h),fun _=>this.mono ?_⟩
   rintro e w' ⟨LA,LN,LC,rfl,_,hb⟩
   exact ⟨_,rfl,zau _ _ _ _ _ _ _ _ _ _ _ _ _ _,hb⟩
  | some l =>
   rw [hz] at this
   refine ⟨fun s h=>?_,fun h=>by cases h⟩
   simp only [Option.map_some,Option.some.injEq] at h
   subst h
   refine this.mono ?_
   rintro e w' ⟨LA,LN,LC,rfl,hls,hb⟩
   obtain ⟨ls,h1,h2⟩:=hls l rfl
   exact ⟨LA,LN,LC,rfl,⟨ls,h1,h2⟩,hb⟩
 rw [if_neg c4]
 by_cases c5:q.getD 0 0=255∧n=2
 ·rw [if_pos c5]
  by_cases c6:q.getD 1 0=0
  ·rw [if_pos c6]
   exact ⟨(fun s h=>by cases h),fun _=>zep A n c q op w hr h0 (by omega) (by omega) (by omega) c5.2 c6⟩
  ·rw [if_neg c6]
   refine ⟨fun s h=>?_,fun h=>by cases h⟩
   injection h with h
   subst h
   have:=zer A n c q op w hr h0 (by omega) (by omega) (by omega) c5.2 c6
   rw [show op=127 by omega] at this
   exact this.mono (fun e w' h=>zgb rfl h)
 rw [if_neg c5]
 exact ⟨(fun s h=>by cases h),fun _=>zj3 A n c q op w hr h0 (by omega) (by omega) (fun h=>c2 ⟨by omega,h.2⟩) (fun h=>c3 ⟨by omega,h.2⟩) (fun h=>c4 ⟨by omega,h.2⟩) (fun h=>c5 ⟨by omega,h.2⟩)⟩
end
section
open Go.Deep
theorem zkM {w:World} {d off n c:Nat} {q:List Int} (h:RdI w .u8 (some ⟨d,off,none⟩) n c q) {m l:Nat} (hm:m+l≤n) (hmc:m<c):RdI w .u8 (some ⟨d,off+m,none⟩) l (c - m) ((q.drop m).take l):=by
 by_cases h0:m<n
 ·exact zjf h hm h0
 ·have hl:l=0:=by omega
  subst hl
  rw [List.take_zero]
  exact zbg (by have:=h.max;omega)
abbrev zeroS:Array Value:=sdC 0 0 0 0 0 0 0 0 0 0 nilV 0
theorem zjh (A:Option Addr) (n c:Nat) (z:List Int) (w:World) (hr:RdI w .u8 A n c z) (h:n<4∨z.getD 0 0≠168∨z.getD 1 0≠1) :
  Calls Tryz.prog 38 #[.slice A n c] w fun e w'=>e=.returned (.tuple #[.agg zeroS,.int .i64 0,.bool false])∧Below w.heap.size w w':=by
 have hcp:=hr.cap
 have hmx:=hr.max
 unfold maxLen at hmx
 have HR:=zhz hr
 have H:=zhz h
 clear hr h
 go_enter Tryz.func38,Tryz.ntmps38
 go_upto_region 1 with (fail)
 obtain ⟨w1,hw1,hbk,hbl,hsz1⟩:=zad w zeroS 92
 change Code.wp _ _ _ _ (w.alloc (.cells zeroS 92))
 rw [hw1]
 obtain ⟨b0,hb0⟩:=zeq (w.heap.size)
 rw [← hb0] at hbk ⊢
 have HB0:=zhz hb0
 have BK:=zhz hbk
 have BL:=zhz hbl
 have kw:=hbk.wr
 have kr:=hbk.rd
 clear hbk hbl hsz1 hw1 hb0
 by_cases h4:n<4
 ·have t1:(n:Int)<4:=by omega
  go_wp2
  rw [zai BK.out]
  refine bodyPost_ret (zaj rfl _ _ b0 _ _ (0,0) _ rfl (zab (lt_of_block BK.out) _) Tryz.underlying92 rfl (by kernel_rfl)) rfl ?_
  exact ⟨rfl,BL.out.trans ((Fr.setObj (F:=fun k=>k=b0) (Fr.refl _ _) rfl _).below BL.out.size (fun k hk=>by have:=HB0.out;omega))⟩
 ·have t1:¬ (n:Int)<4:=by omega
  obtain ⟨d,off,rfl,hlt,hc⟩:=(HR.out.below BL.out).at_ (by omega)
  have c0:=hc 0 (by omega)
  have c1:=hc 1 (by omega)
  rw [Nat.add_zero] at c0
  obtain ⟨y0,hy0⟩:=zeq (z.getD 0 0)
  obtain ⟨y1,hy1⟩:=zeq (z.getD 1 0)
  have h:=H.out
  rw [← hy0] at c0 h
  rw [← hy1] at c1 h
  have g0:(0:Int)<(n:Int):=by omega
  have g1:(1:Int)<(n:Int):=by omega
  clear hc hy0 hy1 hlt H
  by_cases h0:y0=168
  ·have t2:(y0 != 168)=false:=by simpa using h0
   have t3:(y1 != 1)=true:=by simp;omega
   clear h h0
   go_wp2
   rw [zai BK.out]
   refine bodyPost_ret (zaj rfl _ _ b0 _ _ (0,0) _ rfl (zab (lt_of_block BK.out) _) Tryz.underlying92 rfl (by kernel_rfl)) rfl ?_
   exact ⟨rfl,BL.out.trans ((Fr.setObj (F:=fun k=>k=b0) (Fr.refl _ _) rfl _).below BL.out.size (fun k hk=>by have:=HB0.out;omega))⟩
  ·have t2:(y0 != 168)=true:=by simpa using h0
   clear h h0
   go_wp2
   rw [zai BK.out]
   refine bodyPost_ret (zaj rfl _ _ b0 _ _ (0,0) _ rfl (zab (lt_of_block BK.out) _) Tryz.underlying92 rfl (by kernel_rfl)) rfl ?_
   exact ⟨rfl,BL.out.trans ((Fr.setObj (F:=fun k=>k=b0) (Fr.refl _ _) rfl _).below BL.out.size (fun k hk=>by have:=HB0.out;omega))⟩
theorem zkQ (A:Option Addr) (n c:Nat) (z:List Int) (w:World) (hn:n≤100000) (hr:RdI w .u8 A n c z) :
  (∀ s m,readZ z=some (s,m)→Calls Tryz.prog 38 #[.slice A n c] w fun e w'=>∃ LA LN LC,e=.returned (.tuple #[.agg (sdV s (.slice LA LN LC)),.int .i64 (m:Int),.bool true])∧(∃ ls:List CV,zs ls=s.list∧w'.ownsRow w.heap.size 121 3 (.slice LA LN LC) ls.length (cells3 ls))∧Below w.heap.size w w') ∧
  (readZ z=none→Calls Tryz.prog 38 #[.slice A n c] w fun e w'=>e=.returned (.tuple #[.agg zeroS,.int .i64 0,.bool false])∧Below w.heap.size w w'):=by
 have hl:=hr.len
 unfold readZ
 rw [hl]
 by_cases c1:n<4∨z.getD 0 0≠168∨z.getD 1 0≠1
 ·rw [if_pos c1]
  exact ⟨(fun s m h=>by cases h),fun _=>zjh A n c z w hr c1⟩
 rw [if_neg c1]
 have hby:=zje hr
 have k2:=zan hby 2
 have k3:=zan hby 3
 have hcp:=hr.cap
 have hmx:=hr.max
 unfold maxLen at hmx
 obtain ⟨d,off,rfl,hlt,hc⟩:=hr.at_ (by omega)
 have HC:=zhz (fun (wx:World) (hx:Below w.heap.size w wx) (i:Nat) (hi:i<n)=>(hx.cell (p:=⟨d,off+i,none⟩) hlt).trans (hc i hi))
 obtain ⟨y2,hy2⟩:=zeq (z.getD 2 0)
 obtain ⟨y3,hy3⟩:=zeq (z.getD 3 0)
 have e0:z.getD 0 0=168:=by omega
 have e1:z.getD 1 0=1:=by omega
 rw [← hy2] at k2 ⊢
 rw [← hy3] at k3 ⊢
 obtain ⟨m,hm⟩:∃ m:Nat,y2*256+y3=(m:Int):=⟨(y2*256+y3).toNat,by omega⟩
 rw [hm,Int.toNat_natCast]
 obtain ⟨M,hM⟩:∃ M:Nat,M=4+m:=⟨_,rfl⟩
 rw [← hM]
 have KC:=zhz (fun (wx:World) (hx:Below w.heap.size w wx)=>show wx.cell? ⟨d,off,none⟩=some (.int .u8 168)∧wx.cell? ⟨d,off+1,none⟩=some (.int .u8 1)∧wx.cell? ⟨d,off+2,none⟩=some (.int .u8 y2)∧wx.cell? ⟨d,off+3,none⟩=some (.int .u8 y3) from by
  have a0:=HC.out wx hx 0 (by omega)
  have a1:=HC.out wx hx 1 (by omega)
  have a2:=HC.out wx hx 2 (by omega)
  have a3:=HC.out wx hx 3 (by omega)
  rw [e0,Nat.add_zero] at a0
  rw [e1] at a1
  rw [← hy2] at a2
  rw [← hy3] at a3
  exact ⟨a0,a1,a2,a3⟩)
 have HR:=zhz hr
 have HHM:=zhz hM
 have HHN:=zhz hn
 have t1:¬ (n:Int)<4:=by omega
 have g0:(0:Int)<(n:Int):=by omega
 have g1:(1:Int)<(n:Int):=by omega
 have g2:(2:Int)<(n:Int):=by omega
 have g3:(3:Int)<(n:Int):=by omega
 have ea:IntKind.i64.wrap (y2*256)=y2*256:=by rw [IntKind.wrap_i64];omega
 have eb:IntKind.i64.wrap (4+y2*256)=4+y2*256:=by rw [IntKind.wrap_i64];omega
 have ec:IntKind.i64.wrap (4+y2*256+y3)=(M:Int):=by rw [IntKind.wrap_i64];omega
 have ed:4+y2*256+y3=(M:Int):=by omega
 have ew2:IntKind.i64.wrap y2=y2:=by rw [IntKind.wrap_i64];omega
 have ew3:IntKind.i64.wrap y3=y3:=by rw [IntKind.wrap_i64];omega
 have ep:(2:Int) ^ 8=256:=rfl
 clear hc hr hlt hm hM hy2 hy3 e0 e1 c1 hl hn hby
 by_cases hs:n<M
 ·rw [if_pos hs]
  refine ⟨(fun s m h=>by cases h),fun _=>?_⟩
  have t4:(n:Int)<(M:Int):=by omega
  go_enter Tryz.func38,Tryz.ntmps38
  go_upto_region 1 with (fail)
  obtain ⟨w1,hw1,hbk,hbl,hsz1⟩:=zad w zeroS 92
  change Code.wp _ _ _ _ (w.alloc (.cells zeroS 92))
  rw [hw1]
  obtain ⟨b0,hb0⟩:=zeq (w.heap.size)
  rw [← hb0] at hbk ⊢
  have HB0:=zhz hb0
  have BK:=zhz hbk
  have BL:=zhz hbl
  obtain ⟨a0,a1,a2,a3⟩:=KC.out w1 hbl
  clear hbk hbl hsz1 hw1 hb0
  go_upto_region 3 with (fail)
  go_quiet (fail)
  have BK2:=zhz (show Blk (w1.drewN nq) b0 92 zeroS from BK.out.keep (zaa (Below.refl _ _) nq))
  have BL2:=zhz (show Below w.heap.size w (w1.drewN nq) from zaa BL.out nq)
  obtain ⟨w2,hw2⟩:=zeq (w1.drewN nq)
  rw [← hw2] at BK2 BL2 ⊢
  have kw:=BK2.out.wr
  have kr:=BK2.out.rd
  clear a0 a1 a2 a3 hw2
  go_wp2
  rw [zai BK2.out]
  refine bodyPost_ret (zaj rfl _ _ b0 _ _ (0,0) _ rfl (zab (lt_of_block BK2.out) _) Tryz.underlying92 rfl (by kernel_rfl)) rfl ?_
  exact ⟨rfl,BL2.out.trans ((Fr.setObj (F:=fun k=>k=b0) (Fr.refl _ _) rfl _).below BL2.out.size (fun k hk=>by have:=HB0.out;omega))⟩
 ·rw [if_neg hs]
  have t4:¬ (n:Int)<(M:Int):=by omega
  have g4:(4:Int)≤(M:Int):=by omega
  have g5:(M:Int)≤(c:Int):=by omega
  have hMm:M - 4=m:=by have:=HHM.out;omega
  have hmN:m≤100000:=by have:=HHM.out;have:=HHN.out;omega
  have hmn:4+m≤n:=by have:=HHM.out;omega
  have CS:=zhz (fun (A':Option Addr) (c':Nat) (wx:World) (h:RdI wx .u8 A' m c' ((z.drop 4).take m))=>zk2 A' m c' ((z.drop 4).take m) wx h hmN)
  by_cases hc4:c=4
  ·have hm0:m=0:=by omega
   subst hm0
   subst hc4
   have hM4:M=4:=by have:=HHM.out;omega
   have HR4:=zhz (fun (wx:World) (_:Below w.heap.size w wx)=>show RdI wx .u8 (some ⟨d,off,none⟩) 0 0 ((z.drop 4).take 0) from by rw [List.take_zero];exact zbg (by unfold maxLen;omega))
   subst hM4
   clear hmN hmn
   refine ⟨fun s M' hsr=>?_,fun hsr=>?_⟩
   ·cases hsz:saidZ ((z.drop 4).take 0) with
    | none=>rw [hsz] at hsr;cases hsr
    | some s' =>
     rw [hsz] at hsr
     simp only [Option.map_some,Option.some.injEq,Prod.mk.injEq] at hsr
     obtain ⟨rfl,rfl⟩:=hsr
     obtain ⟨op,ru,v,re,rt,a,dd,b,cc,wt,l,er⟩:=s'
     have CY:=zhz (fun (wx:World) (h:RdI wx .u8 (some ⟨d,off,none⟩) 0 0 ((z.drop 4).take 0))=>show Calls Tryz.prog 83 #[.slice (some ⟨d,off,none⟩) 0 0] wx (fun e w'=>∃ LA LN LC,e=.returned (.tuple #[.agg (sdC op ru v re rt a dd b cc wt (.slice LA LN LC) er),.bool true])∧(∃ ls:List CV,zs ls=l∧w'.ownsRow wx.heap.size 121 3 (.slice LA LN LC) ls.length (cells3 ls))∧Below wx.heap.size wx w') from (CS.out _ _ wx h).1 _ hsz)
     clear CS hsz
     go_enter Tryz.func38,Tryz.ntmps38
     go_upto_region 1 with (fail)
     obtain ⟨w1,hw1,hbk,hbl,hsz1⟩:=zad w zeroS 92
     change Code.wp _ _ _ _ (w.alloc (.cells zeroS 92))
     rw [hw1]
     obtain ⟨b0,hb0⟩:=zeq (w.heap.size)
     rw [← hb0] at hbk ⊢
     have HB0:=zhz hb0
     have BK:=zhz hbk
     have BL:=zhz hbl
     obtain ⟨a0,a1,a2,a3⟩:=KC.out w1 hbl
     clear hbk hbl hsz1 hw1 hb0
     go_upto_region 3 with (fail)
     go_quiet (fail)
     have BK2:=zhz (show Blk (w1.drewN nq) b0 92 zeroS from BK.out.keep (zaa (Below.refl _ _) nq))
     have BL2:=zhz (show Below w.heap.size w (w1.drewN nq) from zaa BL.out nq)
     obtain ⟨w2,hw2⟩:=zeq (w1.drewN nq)
     rw [← hw2] at BK2 BL2 ⊢
     have R2:=zhz (HR4.out w2 BL2.out)
     clear a0 a1 a2 a3 hw2
     go_upto_region 7 with (go_at_call 83;((with_reducible refine (CY.out _ R2.out).mono ?_);rintro e w3 ⟨LA,LN,LC,rfl,hls,b3⟩;have HLS:=zhz hls;have BK3:=zhz (BK2.out.keep b3);have BL3:=zhz (BL2.out.trans (b3.mono BL2.out.size));have B3:=zhz b3;clear hls b3))
     obtain ⟨w4,hw4,hbk,hbl,hsz4⟩:=zad w3 (sdC op ru v re rt a dd b cc wt (.slice LA LN LC) er) 92
     change Code.wp _ _ _ _ (w3.alloc (.cells (sdC op ru v re rt a dd b cc wt (.slice LA LN LC) er) 92))
     rw [hw4]
     have kq:=hbk.rd
     have BK4:=zhz (BK3.out.keep hbl)
     have kw:=BK4.out.wr
     have kr:=BK4.out.rd
     have BL4:=zhz (BL3.out.trans (hbl.mono BL3.out.size))
     have HLS4:=zhz (show ∃ ls:List CV,zs ls=l∧(setObj w4 b0 (.cells (sdC op ru v re rt a dd b cc wt (.slice LA LN LC) er) 92 (0,0))).ownsRow w.heap.size 121 3 (.slice LA LN LC) ls.length (cells3 ls) from by
      obtain ⟨ls,h1,h2⟩:=HLS.out
      have g1:=lt_of_block BK2.out
      have h3:=zcf h2 hbl
      have h5:=zbw h3 (Fr.setObj (F:=fun k=>k=b0) (Fr.refl _ _) rfl (.cells (sdC op ru v re rt a dd b cc wt (.slice LA LN LC) er) 92 (0,0))) (fun g hg=>by have h4:=(zbx h2 g hg).1;omega)
      refine ⟨ls,h1,h5.1,?_⟩
      rcases h5.2 with h0 | ⟨g,cap,cur,hv,hb,hr⟩
      ·exact .inl h0
      ·exact .inr ⟨g,cap,cur,hv,by have:=BL2.out.size;omega,hr⟩)
     clear hw4 hbk hbl hsz4
     go_wp2
     rw [zai BK4.out]
     refine bodyPost_ret (zaj rfl _ _ b0 _ _ (0,0) _ rfl (zab (lt_of_block BK4.out) _) Tryz.underlying92 rfl (by kernel_rfl)) rfl ?_
     exact ⟨LA,LN,LC,rfl,HLS4.out,BL4.out.trans ((Fr.setObj (F:=fun k=>k=b0) (Fr.refl _ _) rfl _).below BL4.out.size (fun k hk=>by have:=HB0.out;omega))⟩
   ·have hsn:saidZ ((z.drop 4).take 0)=none:=by
     cases hsz:saidZ ((z.drop 4).take 0) with
     | none=>rfl
     | some s'=>rw [hsz] at hsr;cases hsr
    have CY:=zhz (fun (wx:World) (h:RdI wx .u8 (some ⟨d,off,none⟩) 0 0 ((z.drop 4).take 0))=>show Calls Tryz.prog 83 #[.slice (some ⟨d,off,none⟩) 0 0] wx (fun e w'=>∃ sv,e=.returned (.tuple #[sv,.bool false])∧isSd sv∧Below wx.heap.size wx w') from (CS.out _ _ wx h).2 hsn)
    clear CS hsr hsn
    go_enter Tryz.func38,Tryz.ntmps38
    go_upto_region 1 with (fail)
    obtain ⟨w1,hw1,hbk,hbl,hsz1⟩:=zad w zeroS 92
    change Code.wp _ _ _ _ (w.alloc (.cells zeroS 92))
    rw [hw1]
    obtain ⟨b0,hb0⟩:=zeq (w.heap.size)
    rw [← hb0] at hbk ⊢
    have HB0:=zhz hb0
    have BK:=zhz hbk
    have BL:=zhz hbl
    obtain ⟨a0,a1,a2,a3⟩:=KC.out w1 hbl
    clear hbk hbl hsz1 hw1 hb0
    go_upto_region 3 with (fail)
    go_quiet (fail)
    have BK2:=zhz (show Blk (w1.drewN nq) b0 92 zeroS from BK.out.keep (zaa (Below.refl _ _) nq))
    have BL2:=zhz (show Below w.heap.size w (w1.drewN nq) from zaa BL.out nq)
    obtain ⟨w2,hw2⟩:=zeq (w1.drewN nq)
    rw [← hw2] at BK2 BL2 ⊢
    have R2:=zhz (HR4.out w2 BL2.out)
    clear a0 a1 a2 a3 hw2
    go_upto_region 7 with (go_at_call 83;((with_reducible refine (CY.out _ R2.out).mono ?_);rintro e w3 ⟨sv,rfl,⟨op,ru,v,re,rt,a,dd,b,cc,wt,LA,LN,LC,er,rfl⟩,b3⟩;have BK3:=zhz (BK2.out.keep b3);have BL3:=zhz (BL2.out.trans (b3.mono BL2.out.size));clear b3))
    obtain ⟨w4,hw4,hbk,hbl,hsz4⟩:=zad w3 (sdC op ru v re rt a dd b cc wt (.slice LA LN LC) er) 92
    change Code.wp _ _ _ _ (w3.alloc (.cells (sdC op ru v re rt a dd b cc wt (.slice LA LN LC) er) 92))
    rw [hw4]
    have BK4:=zhz (BK3.out.keep hbl)
    have kw:=BK4.out.wr
    have kr:=BK4.out.rd
    have BL4:=zhz (BL3.out.trans (hbl.mono BL3.out.size))
    clear hw4 hbk hbl hsz4
    go_wp2
    rw [zai BK4.out]
    refine bodyPost_ret (zaj rfl _ _ b0 _ _ (0,0) _ rfl (zab (lt_of_block BK4.out) _) Tryz.underlying92 rfl (by kernel_rfl)) rfl ?_
    exact ⟨rfl,BL4.out.trans ((Fr.setObj (F:=fun k=>k=b0) (Fr.refl _ _) rfl _).below BL4.out.size (fun k hk=>by have:=HB0.out;omega))⟩
  ·have HR4:=zhz (fun (wx:World) (hx:Below w.heap.size w wx)=>show RdI wx .u8 (some ⟨d,off+4,none⟩) m (c - 4) ((z.drop 4).take m) from zkM (HR.out.below hx) hmn (by omega))
   clear hmN hmn
   refine ⟨fun s M' hsr=>?_,fun hsr=>?_⟩
   ·cases hsz:saidZ ((z.drop 4).take m) with
    | none=>rw [hsz] at hsr;cases hsr
    | some s' =>
     rw [hsz] at hsr
     simp only [Option.map_some,Option.some.injEq,Prod.mk.injEq] at hsr
     obtain ⟨rfl,rfl⟩:=hsr
     obtain ⟨op,ru,v,re,rt,a,dd,b,cc,wt,l,er⟩:=s'
     have CY:=zhz (fun (wx:World) (h:RdI wx .u8 (some ⟨d,off+4,none⟩) m (c - 4) ((z.drop 4).take m))=>show Calls Tryz.prog 83 #[.slice (some ⟨d,off+4,none⟩) m (c - 4)] wx (fun e w'=>∃ LA LN LC,e=.returned (.tuple #[.agg (sdC op ru v re rt a dd b cc wt (.slice LA LN LC) er),.bool true])∧(∃ ls:List CV,zs ls=l∧w'.ownsRow wx.heap.size 121 3 (.slice LA LN LC) ls.length (cells3 ls))∧Below wx.heap.size wx w') from (CS.out _ _ wx h).1 _ hsz)
     clear CS hsz
     go_enter Tryz.func38,Tryz.ntmps38
     go_upto_region 1 with (fail)
     obtain ⟨w1,hw1,hbk,hbl,hsz1⟩:=zad w zeroS 92
     change Code.wp _ _ _ _ (w.alloc (.cells zeroS 92))
     rw [hw1]
     obtain ⟨b0,hb0⟩:=zeq (w.heap.size)
     rw [← hb0] at hbk ⊢
     have HB0:=zhz hb0
     have BK:=zhz hbk
     have BL:=zhz hbl
     obtain ⟨a0,a1,a2,a3⟩:=KC.out w1 hbl
     clear hbk hbl hsz1 hw1 hb0
     go_upto_region 3 with (fail)
     go_quiet (fail)
     have BK2:=zhz (show Blk (w1.drewN nq) b0 92 zeroS from BK.out.keep (zaa (Below.refl _ _) nq))
     have BL2:=zhz (show Below w.heap.size w (w1.drewN nq) from zaa BL.out nq)
     obtain ⟨w2,hw2⟩:=zeq (w1.drewN nq)
     rw [← hw2] at BK2 BL2 ⊢
     have R2:=zhz (HR4.out w2 BL2.out)
     clear a0 a1 a2 a3 hw2
     go_upto_region 7 with (go_at_call 83;((with_reducible refine (CY.out _ R2.out).mono ?_);rintro e w3 ⟨LA,LN,LC,rfl,hls,b3⟩;have HLS:=zhz hls;have BK3:=zhz (BK2.out.keep b3);have BL3:=zhz (BL2.out.trans (b3.mono BL2.out.size));have B3:=zhz b3;clear hls b3))
     obtain ⟨w4,hw4,hbk,hbl,hsz4⟩:=zad w3 (sdC op ru v re rt a dd b cc wt (.slice LA LN LC) er) 92
     change Code.wp _ _ _ _ (w3.alloc (.cells (sdC op ru v re rt a dd b cc wt (.slice LA LN LC) er) 92))
     rw [hw4]
     have kq:=hbk.rd
     have BK4:=zhz (BK3.out.keep hbl)
     have kw:=BK4.out.wr
     have kr:=BK4.out.rd
     have BL4:=zhz (BL3.out.trans (hbl.mono BL3.out.size))
     have HLS4:=zhz (show ∃ ls:List CV,zs ls=l∧(setObj w4 b0 (.cells (sdC op ru v re rt a dd b cc wt (.slice LA LN LC) er) 92 (0,0))).ownsRow w.heap.size 121 3 (.slice LA LN LC) ls.length (cells3 ls) from by
      obtain ⟨ls,h1,h2⟩:=HLS.out
      have g1:=lt_of_block BK2.out
      have h3:=zcf h2 hbl
      have h5:=zbw h3 (Fr.setObj (F:=fun k=>k=b0) (Fr.refl _ _) rfl (.cells (sdC op ru v re rt a dd b cc wt (.slice LA LN LC) er) 92 (0,0))) (fun g hg=>by have h4:=(zbx h2 g hg).1;omega)
      refine ⟨ls,h1,h5.1,?_⟩
      rcases h5.2 with h0 | ⟨g,cap,cur,hv,hb,hr⟩
      ·exact .inl h0
      ·exact .inr ⟨g,cap,cur,hv,by have:=BL2.out.size;omega,hr⟩)
     clear hw4 hbk hbl hsz4
     go_wp2
     rw [zai BK4.out]
     refine bodyPost_ret (zaj rfl _ _ b0 _ _ (0,0) _ rfl (zab (lt_of_block BK4.out) _) Tryz.underlying92 rfl (by kernel_rfl)) rfl ?_
     exact ⟨LA,LN,LC,rfl,HLS4.out,BL4.out.trans ((Fr.setObj (F:=fun k=>k=b0) (Fr.refl _ _) rfl _).below BL4.out.size (fun k hk=>by have:=HB0.out;omega))⟩
   ·have hsn:saidZ ((z.drop 4).take m)=none:=by
     cases hsz:saidZ ((z.drop 4).take m) with
     | none=>rfl
     | some s'=>rw [hsz] at hsr;cases hsr
    have CY:=zhz (fun (wx:World) (h:RdI wx .u8 (some ⟨d,off+4,none⟩) m (c - 4) ((z.drop 4).take m))=>show Calls Tryz.prog 83 #[.slice (some ⟨d,off+4,none⟩) m (c - 4)] wx (fun e w'=>∃ sv,e=.returned (.tuple #[sv,.bool false])∧isSd sv∧Below wx.heap.size wx w') from (CS.out _ _ wx h).2 hsn)
    clear CS hsr hsn
    go_enter Tryz.func38,Tryz.ntmps38
    go_upto_region 1 with (fail)
    obtain ⟨w1,hw1,hbk,hbl,hsz1⟩:=zad w zeroS 92
    change Code.wp _ _ _ _ (w.alloc (.cells zeroS 92))
    rw [hw1]
    obtain ⟨b0,hb0⟩:=zeq (w.heap.size)
    rw [← hb0] at hbk ⊢
    have HB0:=zhz hb0
    have BK:=zhz hbk
    have BL:=zhz hbl
    obtain ⟨a0,a1,a2,a3⟩:=KC.out w1 hbl
    clear hbk hbl hsz1 hw1 hb0
    go_upto_region 3 with (fail)
    go_quiet (fail)
    have BK2:=zhz (show Blk (w1.drewN nq) b0 92 zeroS from BK.out.keep (zaa (Below.refl _ _) nq))
    have BL2:=zhz (show Below w.heap.size w (w1.drewN nq) from zaa BL.out nq)
    obtain ⟨w2,hw2⟩:=zeq (w1.drewN nq)
    rw [← hw2] at BK2 BL2 ⊢
    have R2:=zhz (HR4.out w2 BL2.out)
    clear a0 a1 a2 a3 hw2
    go_upto_region 7 with (go_at_call 83;((with_reducible refine (CY.out _ R2.out).mono ?_);rintro e w3 ⟨sv,rfl,⟨op,ru,v,re,rt,a,dd,b,cc,wt,LA,LN,LC,er,rfl⟩,b3⟩;have BK3:=zhz (BK2.out.keep b3);have BL3:=zhz (BL2.out.trans (b3.mono BL2.out.size));clear b3))
    obtain ⟨w4,hw4,hbk,hbl,hsz4⟩:=zad w3 (sdC op ru v re rt a dd b cc wt (.slice LA LN LC) er) 92
    change Code.wp _ _ _ _ (w3.alloc (.cells (sdC op ru v re rt a dd b cc wt (.slice LA LN LC) er) 92))
    rw [hw4]
    have BK4:=zhz (BK3.out.keep hbl)
    have kw:=BK4.out.wr
    have kr:=BK4.out.rd
    have BL4:=zhz (BL3.out.trans (hbl.mono BL3.out.size))
    clear hw4 hbk hbl hsz4
    go_wp2
    rw [zai BK4.out]
    refine bodyPost_ret (zaj rfl _ _ b0 _ _ (0,0) _ rfl (zab (lt_of_block BK4.out) _) Tryz.underlying92 rfl (by kernel_rfl)) rfl ?_
    exact ⟨rfl,BL4.out.trans ((Fr.setObj (F:=fun k=>k=b0) (Fr.refl _ _) rfl _).below BL4.out.size (fun k hk=>by have:=HB0.out;omega))⟩
end
end Go.Proofs.YtambcbbekoehiaaGreat
