import Derived.Test.YtambcbbekoehiaaGreatZFrN
import Derived.Test.YtambcbbekoehiaaGreatZRowF
set_option linter.unusedSimpArgs false
set_option linter.unusedVariables false
set_option maxRecDepth 100000
set_option maxHeartbeats 9000000
namespace Go.Proofs.YtambcbbekoehiaaGreat
section
open Go.ChangeShapes Go.WideShapes Go.ChangeAt Go.RowKit Go.Deep
structure CV where
 s:ByteArray
 n:Int
 e:Int
def CV.z (a:CV):Cnt:=⟨numsC a.s,a.n,a.e⟩
def CV.cells (a:CV):List Value:=[.string a.s,.int .i64 a.n,.int .i64 a.e]
abbrev cvC (s:ByteArray) (n e:Int):Array Value:=#[.string s,.int .i64 n,.int .i64 e]
def CV.okV (a:CV):Prop:=a.s.size≤maxLen∧i64P a.n∧i64P a.e
structure CvAt (w:World) (A:Option Addr) (c:Nat) (ls:List CV):Prop where
 cap:ls.length≤c
 max:c≤maxLen
 at_:0<ls.length→∃ g off,A=some ⟨g,off,none⟩∧g<w.heap.size∧∀ (j:Nat) (h:j<ls.length) (i:Nat),i<3→w.cell? ⟨g,off+j*3+i,none⟩=(ls[j]).cells[i]?
theorem CvAt.below {w w':World} {c:Nat} {A:Option Addr} {ls:List CV} (h:CvAt w A c ls) (hb:Below w.heap.size w w'):CvAt w' A c ls :=
 ⟨h.cap,h.max,fun h0=>by
  obtain ⟨g,off,e,hlt,hc⟩:=h.at_ h0
  exact ⟨g,off,e,Nat.lt_of_lt_of_le hlt hb.size,fun j hj i hi=>(hb.cell (p:=⟨g,off+j*3+i,none⟩) hlt).trans (hc j hj i hi)⟩⟩
section
variable {H:Type} {enc:TypeId × Value→H} {P:Program}
end
theorem CV.ok {a:CV} (h:a.okV) (hs:a.s.size≤64):a.z.ok:=⟨by show (numsC a.s).length≤64;rw [zao];exact hs,zcF _,h.2.1,h.2.2⟩
def zs (ls:List CV):List Cnt:=ls.map CV.z
theorem znv {ls:List CV} (h:∀ a ∈ ls,a.okV) (hs:∀ a ∈ ls,a.s.size≤64):oks (zs ls):=fun c hc=>by
 obtain ⟨a,ha,rfl⟩:=List.mem_map.1 hc
 exact CV.ok (h a ha) (hs a ha)
theorem za5 (ls:List CV):(zs ls).length=ls.length:=List.length_map _
theorem zf9 {rule:Int} {l:List Cnt} (hr:0≤rule∧rule≤255) (hl:l.length≤255) (h:oks l):byt (topZ rule l):=by
 intro z hz
 unfold topZ at hz
 simp only [List.mem_cons] at hz
 rcases hz with rfl | rfl | rfl | hz
 ·omega
 ·omega
 ·omega
 ·exact zgr h z hz
theorem zdI (rule:Int) (l:List Cnt):(topZ rule l).length=3+sumL l:=by unfold topZ;simp [zdV];omega
theorem zmK {ls:List CV} {i:Nat} (hi:i<ls.length):flat (zs (ls.take (i+1)))=flat (zs (ls.take i))++(ls[i]).z.z:=by
 unfold zs
 rw [List.take_succ_eq_append_getElem hi,List.map_append,zgq]
 simp [flat]
theorem ziq {ls:List CV} (h:oks (zs ls)) (i:Nat):(flat (zs (ls.take i))).length≤81*ls.length:=by
 have h1:oks (zs (ls.take i)):=fun c hc=>h c (by
  unfold zs at hc ⊢
  rw [List.map_take] at hc
  exact List.mem_of_mem_take hc)
 have:=zcD h1
 rw [za5,List.length_take] at this
 omega
theorem zhk (rule:Int) (A:Option Addr) (n c:Nat) (ls:List CV) (hr:0≤rule∧rule≤255) (hl:ls.length=n) (hn:n≤255) (w:World) (ha:CvAt w A c ls) (hok:∀ a ∈ ls,a.okV) (hsz:∀ a ∈ ls,a.s.size≤64) :
  Calls Tryz.prog 247 #[.int .i64 rule,.slice A n c] w fun e w'=>∃ v',e=.returned v'∧Own w' w.heap.size v' (frmZ (topZ rule (zs ls)))∧Below w.heap.size w w':=by
 have eop:IntKind.u8.wrap rule=rule:=by rw [IntKind.wrap_u8];omega
 have en:IntKind.u8.wrap (n:Int)=(n:Int):=by rw [IntKind.wrap_u8];omega
 have hcp:=ha.cap
 rw [hl] at hcp
 have hmx:=ha.max
 unfold maxLen at hmx
 have HL:=zhz hl
 have HA:=zhz ha
 have HOK:=zhz hok
 have HSZ:=zhz hsz
 have HOZ:=zhz (znv hok hsz)
 have HRL:=zhz hr
 have hn1:(n:Int)≤255:=by omega
 have OL:=zhz (show Own (w.alloc (.cells #[.int .u8 132,.int .u8 rule,.int .u8 (n:Int)] 5)) w.heap.size (.slice (some ⟨w.heap.size,0,none⟩) 3 3) [132,rule,(n:Int)] from zbs w w.heap.size 3 [132,rule,(n:Int)] (Nat.le_refl _) rfl (by unfold maxLen;omega))
 have F0:=zhz (FrU.alloc (B:=w.heap.size) (Nat.le_refl w.heap.size) (.cells #[.int .u8 132,.int .u8 rule,.int .u8 (n:Int)] 5))
 clear hr hl ha hok hsz
 go_enter Tryz.func247,Tryz.ntmps247
 go_upto_region 3 with (fail)
 go_loopg [5,16] n (fun k v s16 wr=>∃ i:Nat,i≤n∧k=n - i∧s16=.int .i64 (i:Int)∧Own wr w.heap.size v ([132,rule,(n:Int)]++flat (zs (ls.take i)))∧FrU w.heap.size w wr)
 case atStart=>exact ⟨0,by omega,by omega,rfl,by simpa [zs,flat] using OL.out,F0.out⟩
 case round =>
  obtain ⟨i,hi,hkk,rfl,hown,hf⟩:=hrel
  have HK:=zhz hkk
  have HOW:=zhz hown
  have HF:=zhz hf
  clear hkk hown
  by_cases hin:i<n
  ·have hil:i<ls.length:=by rw [HL.out];exact hin
   have HNX:=zhz (zmK hil)
   have HLE:=zhz (ziq HOZ.out i)
   obtain ⟨a,haa⟩:=zeq (ls[i])
   have hal:a ∈ ls:=by rw [haa];exact List.getElem_mem hil
   have OKA:=zhz (HOK.out a hal)
   have hss:=HSZ.out a hal
   obtain ⟨g,off,rfl,hlt,hc⟩:=(HA.out.below (hf.below (Nat.le_refl _))).at_ (by omega)
   have c0:=hc i hil 0 (by omega)
   have c1:=hc i hil 1 (by omega)
   have c2:=hc i hil 2 (by omega)
   rw [← haa] at c0 c1 c2 HNX
   obtain ⟨s,cn,ce⟩:=a
   have HS64:=zhz (show s.size≤64 from hss)
   have HZZ:=zhz (show ∀ l:List Int,((l++((s.size % 256:Nat):Int) :: numsC s)++be8s [cn,ce])=l++(CV.z ⟨s,cn,ce⟩).z from fun l=>by
    unfold CV.z Cnt.z
    have:s.size≤64:=hss
    rw [Nat.mod_eq_of_lt (by omega)]
    simp [be8s,zao])
   simp [CV.cells] at c0 c1 c2
   clear haa hc hf hal hss
   go_upto_region 5 with (fail)
   clear c0 c1 c2
   obtain ⟨w3,hw3,hbk,hbl,hsz3⟩:=zad wr (cvC s cn ce) 121
   change Code.wp _ _ _ _ (wr.alloc (.cells (cvC s cn ce) 121))
   rw [hw3]
   obtain ⟨b3,hb3⟩:=zeq (wr.heap.size)
   rw [← hb3] at hbk ⊢
   have SZR:=zhz (show w.heap.size≤wr.heap.size from HF.out.size)
   have F3:=zhz (show FrU w.heap.size w w3.drew from by rw [← hw3];exact (HF.out.trans (FrU.alloc SZR.out _)).trans (FrU.of_below (zaa (Below.refl _ _) 1)))
   have y1:∀ j,w3.drew.cell? ⟨b3,j,none⟩=(cvC s cn ce)[j]?:=(Blk.drew hbk).rd
   have BK:=zhz (show Blk w3.drew b3 121 (cvC s cn ce) from hbk.drew)
   have O3:=zhz (show Own w3.drew w.heap.size u5 ([132,rule,(n:Int)]++flat (zs (ls.take i))) from (HOW.out.below hbl).below (zaa (Below.refl _ _) 1))
   have SZ3:=zhz (show w.heap.size≤w3.drew.heap.size from F3.out.size)
   have CT:=zhz (zlz w.heap.size u5 _ s (by have:=HS64.out;omega) (by have:=HLE.out;have:=HL.out;simp;omega) w3.drew O3.out SZ3.out)
   clear hw3 hbk hbl hsz3 hb3
   have CNN:=zhz (fun (v4:Value) (wx:World) (gx:Nat) (ho:Own wx w.heap.size v4 (([132,rule,(n:Int)]++flat (zs (ls.take i)))++((s.size % 256:Nat):Int) :: numsC s)) (hs:w.heap.size≤wx.heap.size) (hg:Blk wx gx 2 #[.int .i64 cn,.int .i64 ce]) =>
    zcX w.heap.size v4 _ gx 2 [cn,ce] (zcW (P:=i64P) OKA.out.2.1 OKA.out.2.2) rfl (by have:=HLE.out;have:=HL.out;have:=HS64.out;simp [zao];omega) wx ho hs hg)
   refine wp_region_held_drew (S:=fun w'=>∀ j,w'.cell? ⟨b3,j,none⟩=(cvC s cn ce)[j]?) (by kernel_rfl) y1 (fun hHeld=>?_)
   clear y1
   refine wR 0 ?_
   refine wR 1 ?_
   refine wR 2 ?_
   refine wR 4 ?_
   refine wR 5 ?_
   refine wR 6 ?_
   refine wR 7 ?_
   refine wpAnyH_ready (rs:=[3,8]) (by kernel_rfl) (by simp) ?_
   refine AllReadyH.cons (o:=?_) ?_ ?_ ?_
   rotate_left 1
   ·simp only [List.getElem?_toArray,List.getElem?_cons_succ,List.getElem?_cons_zero];rfl
   ·skip
    intro K hK
    go_simp
    ((with_reducible refine CT.out.mono ?_);rintro e w4 ⟨v4,rfl,o4,f4⟩;have O4:=zhz o4;have BK4:=zhz (f4.blk BK.out (.inr (by decide)));have F4:=zhz (F3.out.trans f4);have SZ4:=zhz (show w.heap.size≤w4.heap.size from F4.out.size);clear o4 f4)
    refine hK.out _ _ BK4.out.rd (fun hHeld=>?_)
    clear hK K
    try simp only [Act.put,zs1,zs2,zs3]
    have O5:=zhz (O4.out.below ((Below.refl _ _).alloc (Nat.le_refl _) (.cells #[.int .i64 cn,.int .i64 ce] 2)))
    have K5:=zhz (heap_alloc_new w4 (.cells #[.int .i64 cn,.int .i64 ce] 2))
    have BK5:=zhz (BK4.out.alloc (.cells #[.int .i64 cn,.int .i64 ce] 2))
    have F5:=zhz (F4.out.trans (FrU.alloc SZ4.out (.cells #[.int .i64 cn,.int .i64 ce] 2)))
    refine wC 8 fun K hK=>?_
    go_simp
    skip
    refine hK.out _ _ BK5.out.rd fun hHeld=>?_
    clear hK K
    try simp only [Act.put,zs1,zs2,zs3]
    refine wC 9 fun K hK=>?_
    go_simp
    ((with_reducible refine (CNN.out _ _ _ O5.out F5.out.size K5.out).mono ?_);rintro e w6 ⟨v6,rfl,o6,f6⟩;have O6:=zhz o6;have BK6:=zhz (f6.blk BK5.out (.inr (by decide)));have F6:=zhz (F5.out.trans f6);clear o6 f6)
    refine hK.out _ _ BK6.out.rd fun hHeld=>?_
    clear hK K
    try simp only [Act.put,zs1,zs2,zs3]
    refine wR 10 ?_
    refine wpAnyH_done (by kernel_rfl) ?_ _
    clear hHeld
    go_wp2
    go_roundg (n - (i+1))
    case measure=>have:=HK.out;omega
    case rel=>exact ⟨i+1,by omega,by omega,by go_num,by rw [HNX.out,← List.append_assoc,← HZZ.out];exact O6.out,F6.out⟩
   ·skip
    have OA:=zhz (show Own (w3.alloc (.cells #[.int .i64 cn,.int .i64 ce] 2)).drew w.heap.size u5 ([132,rule,(n:Int)]++flat (zs (ls.take i))) from O3.out.below ((Below.refl _ _).alloc (Nat.le_refl _) (.cells #[.int .i64 cn,.int .i64 ce] 2)))
    have KA:=zhz (show Blk (w3.alloc (.cells #[.int .i64 cn,.int .i64 ce] 2)).drew w3.heap.size 2 #[.int .i64 cn,.int .i64 ce] from heap_alloc_new w3.drew (.cells #[.int .i64 cn,.int .i64 ce] 2))
    have BKA:=zhz (show Blk (w3.alloc (.cells #[.int .i64 cn,.int .i64 ce] 2)).drew b3 121 (cvC s cn ce) from BK.out.alloc (.cells #[.int .i64 cn,.int .i64 ce] 2))
    have FA:=zhz (show FrU w.heap.size w (w3.alloc (.cells #[.int .i64 cn,.int .i64 ce] 2)).drew from F3.out.trans (FrU.alloc SZ3.out (.cells #[.int .i64 cn,.int .i64 ce] 2)))
    have CTA:=zhz (zlz w.heap.size u5 _ s (by have:=HS64.out;omega) (by have:=HLE.out;have:=HL.out;simp;omega) _ OA.out FA.out.size)
    refine AllReadyH.cons (o:=?_) ?_ ?_ ?_
    rotate_left 1
    ·simp only [List.getElem?_toArray,List.getElem?_cons_succ,List.getElem?_cons_zero];rfl
    rotate_left 1
    ·exact AllReadyH.nil
    intro K hK
    go_simp
    skip
    refine hK.out _ _ BKA.out.rd (fun hHeld=>?_)
    clear hK K
    try simp only [Act.put,zs1,zs2,zs3]
    refine wC 3 fun K hK=>?_
    go_simp
    ((with_reducible refine CTA.out.mono ?_);rintro e w4 ⟨v4,rfl,o4,f4⟩;have O4:=zhz o4;have BK4:=zhz (f4.blk BKA.out (.inr (by decide)));have K4:=zhz (f4.blk KA.out (.inr (by decide)));have F4:=zhz (FA.out.trans f4);clear o4 f4)
    refine hK.out _ _ BK4.out.rd fun hHeld=>?_
    clear hK K
    try simp only [Act.put,zs1,zs2,zs3]
    refine wC 9 fun K hK=>?_
    go_simp
    ((with_reducible refine (CNN.out _ _ _ O4.out F4.out.size K4.out).mono ?_);rintro e w6 ⟨v6,rfl,o6,f6⟩;have O6:=zhz o6;have BK6:=zhz (f6.blk BK4.out (.inr (by decide)));have F6:=zhz (F4.out.trans f6);clear o6 f6)
    refine hK.out _ _ BK6.out.rd fun hHeld=>?_
    clear hK K
    try simp only [Act.put,zs1,zs2,zs3]
    refine wR 10 ?_
    refine wpAnyH_done (by kernel_rfl) ?_ _
    clear hHeld
    go_wp2
    go_roundg (n - (i+1))
    case measure=>have:=HK.out;omega
    case rel=>exact ⟨i+1,by omega,by omega,by go_num,by rw [HNX.out,← List.append_assoc,← HZZ.out];exact O6.out,F6.out⟩
  ·have hie:i=n:=by omega
   subst hie
   have HTP:=zhz (show [132,rule,(i:Int)]++flat (zs (ls.take i))=topZ rule (zs ls) from by
    rw [List.take_of_length_le (by rw [HL.out];exact Nat.le_refl _)]
    unfold topZ
    rw [za5,HL.out]
    rfl)
   have HBL:=zhz (hf.below (Nat.le_refl _))
   have OZ:=HOW.out
   rw [HTP.out] at OZ
   obtain ⟨g5,c5,rfl,r5,_⟩:=zcY OZ (zf9 HRL.out (by rw [za5,HL.out];omega) HOZ.out) (3+sumL (zs ls)) (zdI _ _) (by omega)
   have R5:=zhz r5
   have HS:=zhz (show 3+sumL (zs ls)≤60000 from by
    have:=zcD HOZ.out
    rw [zdV,za5,HL.out] at this
    omega)
   clear hf OZ r5
   go_wp2_with (go_at_call 82;((with_reducible refine (zaQ 168 (by omega) _ _ _ _ HS.out _ R5.out).mono ?_);rintro e w5 ⟨v5,rfl,o5,b5⟩;have O5:=zhz o5;have BL5:=zhz (HBL.out.trans (b5.mono HBL.out.size));clear o5 b5))
   go_ret
   refine ⟨v5,rfl,?_,BL5.out⟩
   have:=O5.out.more (base':=w.heap.size) HBL.out.size
   unfold frmZ
   rw [zdI]
   exact this
end
section
open Go.ChangeShapes Go.WideShapes Go.ChangeAt Go.RowKit Go.Deep
theorem zjN {x:Int} (h:0≤x∧x<18446744073709551616):IntKind.i64.wrap x=sg x:=by
 rw [IntKind.wrap_i64]
 unfold sg
 split <;> omega
end
section
open Go.ChangeShapes Go.WideShapes Go.ChangeAt Go.RowKit Go.Deep
abbrev nilV:Value:=.slice none 0 0
abbrev sdC (op rule v rem ret a d b c wt:Int) (lv:Value) (e:Int):Array Value:=#[.int .i64 op,.int .i64 rule,.int .i64 v,.int .i64 rem,.int .i64 ret,.int .i64 a,.int .i64 d,.int .i64 b,.int .i64 c,.int .i64 wt,lv,.int .i64 e]
theorem zd8 {P:Program} {fn:Func} {p u1:Tmp} {ty:TypeId} (h:fn.results=#[.cell p ty,.tmp u1]) (tmps:Array Value) (w:World) (g:Nat) (t:TypeId) (cs:Array Value) (fr:Nat × Nat) (d:TypeDesc)
  (hp:tmps.getD p undef=.pointer (some ⟨g,0,none⟩)) (hg:w.heap[g]?=some (.cells cs t fr))
  (hu:P.underlying ty=some d) (hd:(match d with | .struct _ | .array _ _=>true | _=>false)=true) (hi:(P.info? ty).map (·.size)=some cs.size) :
  (results fn tmps).run P w=.ok (.tuple #[.agg cs,tmps.getD u1 undef]) w:=by
 have hp':tmps[p]?.getD undef=.pointer (some ⟨g,0,none⟩):=by simpa using hp
 simp [results,h,hp',asAddr,run_loadVar_row w g t ty cs fr d hg hu hd hi]
theorem zck {w:World} {b:Nat} {t:TypeId} {a0 a1 a2 a3 a4 a5 a6 a7 a8 a9 a10 a11 v0 v1 v2 v3 v4 v5 v6 v7 v8 v9 v10 v11:Value} (h:Blk w b t #[a0,a1,a2,a3,a4,a5,a6,a7,a8,a9,a10,a11]) :
  ((((((((((((w.setCell ⟨b,0,none⟩ v0).setCell ⟨b,1,none⟩ v1).setCell ⟨b,2,none⟩ v2).setCell ⟨b,3,none⟩ v3).setCell ⟨b,4,none⟩ v4).setCell ⟨b,5,none⟩ v5).setCell ⟨b,6,none⟩ v6).setCell ⟨b,7,none⟩ v7).setCell ⟨b,8,none⟩ v8).setCell ⟨b,9,none⟩ v9).setCell ⟨b,10,none⟩ v10).setCell ⟨b,11,none⟩ v11)=setObj w b (.cells #[v0,v1,v2,v3,v4,v5,v6,v7,v8,v9,v10,v11] t (0,0)):=by
 have hl:=lt_of_block h
 rw [zac h]
 simp only [zai hl,zs1,zs2,zs3]
theorem zgg {w:World} {b i:Nat} {t:TypeId} {c:Array Value} {v0 v1 v2:Value} (h:Blk w b t c) :
  (((w.setCell ⟨b,i,none⟩ v0).setCell ⟨b,i+1,none⟩ v1).setCell ⟨b,i+2,none⟩ v2)=setObj w b (.cells (((c.setIfInBounds i v0).setIfInBounds (i+1) v1).setIfInBounds (i+2) v2) t (0,0)):=by
 have hl:=lt_of_block h
 rw [zac h]
 simp only [zai hl]
def isSd (v:Value):Prop:=∃ o ru v1 re rt a d b c wt LA LN LC er,v=.agg (sdC o ru v1 re rt a d b c wt (.slice LA LN LC) er)
theorem ziy (o ru v1 re rt a d b c wt er:Int) (LA:Option Addr) (LN LC:Nat):isSd (.agg #[.int .i64 o,.int .i64 ru,.int .i64 v1,.int .i64 re,.int .i64 rt,.int .i64 a,.int .i64 d,.int .i64 b,.int .i64 c,.int .i64 wt,.slice LA LN LC,.int .i64 er]):=⟨o,ru,v1,re,rt,a,d,b,c,wt,LA,LN,LC,er,rfl⟩
theorem zmG {x:Int} (h:0≤x∧x≤255):IntKind.i64.wrap x=x:=by rw [IntKind.wrap_i64];omega
theorem zel (A:Option Addr) (n c:Nat) (q:List Int) (op:Int) (w:World) (hr:RdI w .u8 A n c q) (h0:q.getD 0 0=128+op) (hop:0≤op) (h2:2≤n) (ho:op=1∨op=2) (h18:n=18) (hv:1≤q.getD 1 0∧q.getD 1 0≤3) :
  Calls Tryz.prog 83 #[.slice A n c] w fun e w'=>e=.returned (.tuple #[.agg (sdC op 0 (q.getD 1 0) (num8 (q.drop 2)) (num8 (q.drop 10)) 0 0 0 0 0 nilV 0),.bool true])∧Below w.heap.size w w':=by
 have hcp:=hr.cap
 have hmx:=hr.max
 unfold maxLen at hmx
 obtain ⟨d,off,rfl,hlt,hc⟩:=hr.at_ (by omega)
 have hby:byt q:=fun x hx=>ze8 (hr.wf x hx)
 have HR:=zhz hr
 have HL:=zhz hr.len
 have HBY:=zhz hby
 have HDL:=zhz hlt
 have hb0:=zaP hby 0
 have c00:=hc 0 (by omega)
 obtain ⟨y,hy⟩:=zeq (128+op)
 rw [h0,← hy] at hb0 c00
 rw [Nat.add_zero] at c00
 have e0:y - 128=op:=by omega
 have e1:IntKind.u8.wrap op=op:=by rw [IntKind.wrap_u8];omega
 have e2:IntKind.i64.wrap op=op:=by rw [IntKind.wrap_i64];omega
 have t1:¬ (n:Int)<2:=by omega
 have t2:¬ y<128:=by omega
 have g0:(0:Int)<(n:Int):=by omega
 have g1:(1:Int)≤(n:Int):=by omega
 have g2:(n:Int)≤(c:Int):=by omega
 have g3:¬ c=1:=by omega
 have HY:=zhz hy
 have HOP:=zhz hop
 clear hr hc hby hy h0 hlt hop
 have HV:=zhz hv
 have t12:(op==1)=true∨((op==1)=false∧(op==2)=true):=by rcases ho with rfl | rfl <;> simp
 subst h18
 clear hv ho
 obtain ⟨v,hv⟩:=zeq (q.getD 1 0)
 have hvb:=zaP HBY.out 1
 rw [← hv] at hvb
 have Hv:=zhz hv
 have Pv:=zhz (show preZ (q.drop 1) 1=v from by rw [pre1,hv];simp [List.getD])
 have ev:IntKind.i64.wrap v=v:=zmG hvb
 clear hv
 obtain ⟨X,hX⟩:=zeq (preZ (q.drop 2) 8)
 have hXb:=zja (zbR HBY.out 2)
 rw [← hX] at hXb
 obtain ⟨rem,hrem⟩:=zeq (num8 (q.drop 2))
 have eX:IntKind.i64.wrap X=rem:=by rw [hrem];unfold num8;rw [← hX];exact zjN hXb
 have Hrem:=zhz hrem
 have HX:=zhz hX
 clear hX hXb hrem
 obtain ⟨Y,hYY⟩:=zeq (preZ (q.drop 10) 8)
 have hYb:=zja (zbR HBY.out 10)
 rw [← hYY] at hYb
 obtain ⟨ret,hret⟩:=zeq (num8 (q.drop 10))
 have eY:IntKind.i64.wrap Y=ret:=by rw [hret];unfold num8;rw [← hYY];exact zjN hYb
 have Hret:=zhz hret
 have HYY:=zhz hYY
 clear hYY hYb hret
 rw [← Hv.out] at HV
 rw [← Hv.out,← Hrem.out,← Hret.out]
 go_enter Tryz.func83,Tryz.ntmps83
 go_upto_region 1 with (fail)
 obtain ⟨w1,hw1,hbk,hbl,hsz1⟩:=zad w (sdC 0 0 0 0 0 0 0 0 0 0 nilV 0) 92
 change Code.wp _ _ _ _ (w.alloc (.cells (sdC 0 0 0 0 0 0 0 0 0 0 nilV 0) 92))
 rw [hw1]
 obtain ⟨b0,hb0⟩:=zeq (w.heap.size)
 rw [← hb0] at hbk hsz1 ⊢
 have HB0:=zhz hb0
 have BK:=zhz hbk
 have BL:=zhz hbl
 have S1:=zhz hsz1
 have c01:w1.cell? ⟨d,off,none⟩=some (.int .u8 y):=by rw [← c00];exact hbl.cell (p:=⟨d,off,none⟩) HDL.out
 clear hbk hbl hsz1 hw1 hb0 c00
 go_upto_region 4 with (fail)
 obtain ⟨w2,hw2,hbk,hbl,hsz2⟩:=zad w1 (sdC op 0 0 0 0 0 0 0 0 0 nilV 0) 92
 change Code.wp _ _ _ _ (w1.alloc (.cells (sdC op 0 0 0 0 0 0 0 0 0 nilV 0) 92))
 rw [hw2]
 obtain ⟨b1,hb1⟩:=zeq (w1.heap.size)
 rw [← hb1] at hbk hsz2 ⊢
 have HB1:=zhz (show b1=b0+1 from by rw [hb1,S1.out])
 have S2:=zhz hsz2
 have BQ2:=zhz hbk
 have BK2:=zhz (BK.out.keep hbl)
 have BL2:=zhz (BL.out.trans (hbl.mono BL.out.size))
 have R1:=zhz (show RdI w2 .u8 (some ⟨d,off+1,none⟩) 17 (c - 1) (q.drop 1) from (zbN HR.out (m:=1) (by omega)).below BL2.out)
 have HD2:=zhz (show d<w2.heap.size from Nat.lt_of_lt_of_le HDL.out BL2.out.size)
 have HDN:=zhz (show d≠b1+1∧d≠b1∧d≠b0 from by have h1:=HB0.out;have h2:=HB1.out;have h3:=HDL.out;omega)
 have CR:=zhz (zdx _ _ _ d _ _ R1.out (fun _=>⟨_,rfl⟩) HD2.out (b1+1) S2.out)
 clear hbk hbl hsz2 hw2 hb1 c01
 go_upto_region 5 with (go_at_call 115;((with_reducible refine CR.out.mono ?_);rintro e w3 ⟨rfl,s3,b3⟩;have S3:=zhz s3;have B3:=zhz b3;clear s3 b3))
 have BK3:=zhz (BK2.out.keep B3.out)
 have BQ3:=zhz (BQ2.out.keep B3.out)
 have BL3:=zhz (BL2.out.trans (B3.out.mono BL2.out.size))
 have NE:=zhz (show b0≠b1∧b0≠b1+1∧b1≠b1+1∧b1≠b0 from by have:=HB1.out;omega)
 have k3:=BQ3.out.rd
 have CN1:=zhz (fun (wx:World) (hx:SrcAt wx (b1+1) d (q.drop 1))=>zcs (b1+1) d (q.drop 1) (q.drop 2) v 1 1 rfl (by omega) (by rw [List.length_drop,HL.out];omega) (by omega) wx hx HDN.out.1 Pv.out (by rw [List.drop_drop]))
 have CN2:=zhz (fun (wx:World) (hx:SrcAt wx (b1+1) d (q.drop 2))=>zcs (b1+1) d (q.drop 2) (q.drop 10) X 8 8 rfl (by omega) (by rw [List.length_drop,HL.out];omega) (by omega) wx hx HDN.out.1 HX.out.symm (by rw [List.drop_drop]))
 have CN3:=zhz (fun (wx:World) (hx:SrcAt wx (b1+1) d (q.drop 10))=>zcs (b1+1) d (q.drop 10) (q.drop 18) Y 8 8 rfl (by omega) (by rw [List.length_drop,HL.out];omega) (by omega) wx hx HDN.out.1 HYY.out.symm (by rw [List.drop_drop]))
 rcases t12 with t1 | ⟨t1,t2⟩
 all_goals
   go_upto_region 7 with (first
    | (go_at_call 160;((with_reducible refine (CN1.out _ S3.out).mono ?_);rintro e w4 ⟨rfl,s4,f4⟩;have S4:=zhz s4;have BK4:=zhz (BK3.out.fr f4 NE.out.2.1);have BQ4:=zhz (BQ3.out.fr f4 NE.out.2.2.1);have BL4:=zhz (BL3.out.trans (f4.below BL3.out.size (fun k hk=>by have h1:=HB0.out;have h2:=HB1.out;omega)));have k4:=BQ4.out.rd;have q4:=BQ4.out.wr;clear s4 f4))
    | (go_at_call 160;((with_reducible refine (CN2.out _ S4.out).mono ?_);rintro e w5 ⟨rfl,s5,f5⟩;have S5:=zhz s5;have BK5:=zhz (BK4.out.fr f5 NE.out.2.1);have BQ5:=zhz (BQ4.out.fr f5 NE.out.2.2.1);have BL5:=zhz (BL4.out.trans (f5.below BL4.out.size (fun k hk=>by have h1:=HB0.out;have h2:=HB1.out;omega)));have k5:=BQ5.out.rd;have q5:=BQ5.out.wr;clear s5 f5))
    | (go_at_call 160;((with_reducible refine (CN3.out _ S5.out).mono ?_);rintro e w6 ⟨rfl,s6,f6⟩;have S6:=zhz s6;have BK6:=zhz (BK5.out.fr f6 NE.out.2.1);have BQ6:=zhz (BQ5.out.fr f6 NE.out.2.2.1);have BL6:=zhz (BL5.out.trans (f6.below BL5.out.size (fun k hk=>by have h1:=HB0.out;have h2:=HB1.out;omega)));have k6:=BQ6.out.rd;have q6:=BQ6.out.wr;clear s6 f6)))
   have BQ7:=zhz (show Blk (((w6.setCell ⟨b1,2,none⟩ (.int .i64 v)).setCell ⟨b1,3,none⟩ (.int .i64 rem)).setCell ⟨b1,4,none⟩ (.int .i64 ret)) b1 92 (sdC op 0 v rem ret 0 0 0 0 0 nilV 0) from by rw [zgg (i:=2) BQ6.out];exact zab (lt_of_block BQ6.out) _)
   have FR7:=zhz (show Fr (fun k=>k=b1) w6 (((w6.setCell ⟨b1,2,none⟩ (.int .i64 v)).setCell ⟨b1,3,none⟩ (.int .i64 rem)).setCell ⟨b1,4,none⟩ (.int .i64 ret)) from by rw [zgg (i:=2) BQ6.out];exact Fr.setObj (F:=fun k=>k=b1) (Fr.refl _ _) rfl _)
   obtain ⟨w7,hw7⟩:=zeq ((((w6.setCell ⟨b1,2,none⟩ (.int .i64 v)).setCell ⟨b1,3,none⟩ (.int .i64 rem)).setCell ⟨b1,4,none⟩ (.int .i64 ret)))
   rw [← hw7] at BQ7 FR7 ⊢
   have BK7:=zhz (show Blk w7 b0 92 (sdC 0 0 0 0 0 0 0 0 0 0 nilV 0) from BK6.out.fr FR7.out NE.out.1)
   have BL7:=zhz (show Below w.heap.size w w7 from (BL6.out.trans (FR7.out.below BL6.out.size (fun k hk=>by have h1:=HB0.out;have h2:=HB1.out;omega))))
   have BQ8:=zhz (show Blk w7.drew b1 92 (sdC op 0 v rem ret 0 0 0 0 0 nilV 0) from BQ7.out.drew)
   clear hw7 k3 k4 k5 k6 q4 q5 q6
   have y1:∀ i,w7.drew.cell? ⟨b1,i,none⟩=(sdC op 0 v rem ret 0 0 0 0 0 nilV 0)[i]?:=BQ8.out.rd
   have hv0:=HV.out
   have t5:(1:Int)≤v:=hv0.1
   have t6:v≤(3:Int):=hv0.2
   have t5':decide ((1:Int)≤v)=true:=decide_eq_true t5
   have t6':decide (v≤(3:Int))=true:=decide_eq_true t6
   clear hv0
   have kw:=BK7.out.wr
   have kr:=BK7.out.rd
   refine wp_region_held_drew (S:=fun w'=>∀ i,w'.cell? ⟨b1,i,none⟩=(sdC op 0 v rem ret 0 0 0 0 0 nilV 0)[i]?) (by kernel_rfl) y1 (fun hHeld=>?_)
   clear y1
   refine wR 0 ?_
   refine wR 1 ?_
   refine wR 2 ?_
   refine wR 3 ?_
   refine wR 4 ?_
   refine wR 5 ?_
   refine wR 6 ?_
   refine wR 7 ?_
   refine wR 8 ?_
   refine wR 9 ?_
   refine wR 10 ?_
   refine wC 11 fun K hK=>?_
   go_simp
   skip
   refine hK.out _ _ (by rw [zck BK7.out];exact (Blk.drew (BQ7.out.fr (Fr.setObj (F:=fun k=>k=b0) (Fr.refl _ _) rfl _) NE.out.2.2.2)).rd) fun hHeld=>?_
   clear hK K
   try simp only [Act.put,zs1,zs2,zs3]
   refine wR 12 ?_
   refine wpAnyH_done (by kernel_rfl) ?_ _
   clear kw kr hHeld
   go_wp2
   rw [zck BK7.out]
   refine bodyPost_ret (zd8 rfl _ _ b0 _ _ (0,0) _ rfl (zab (lt_of_block BK7.out) _) Tryz.underlying92 rfl (by kernel_rfl)) rfl ?_
   first | exact ⟨rfl,zaa (BL7.out.trans ((Fr.setObj (F:=fun k=>k=b0) (Fr.refl _ _) rfl _).below BL7.out.size (fun k hk=>by have:=HB0.out;omega))) 1⟩ | exact ⟨_,rfl,ziy _ _ _ _ _ _ _ _ _ _ _ _ _ _,zaa (BL7.out.trans ((Fr.setObj (F:=fun k=>k=b0) (Fr.refl _ _) rfl _).below BL7.out.size (fun k hk=>by have:=HB0.out;omega))) 1⟩ | exact ⟨ziy _ _ _ _ _ _ _ _ _ _ _ _ _ _,zaa (BL7.out.trans ((Fr.setObj (F:=fun k=>k=b0) (Fr.refl _ _) rfl _).below BL7.out.size (fun k hk=>by have:=HB0.out;omega))) 1⟩
end
section
open Go.ChangeShapes Go.WideShapes Go.ChangeAt Go.RowKit Go.Deep
end
section
open Go.ChangeShapes Go.WideShapes Go.ChangeAt Go.RowKit Go.Deep
theorem zkH {w:World} {d off n c:Nat} {q:List Int} (h:RdI w .u8 (some ⟨d,off,none⟩) n c q) {m l:Nat} (hm:m+l≤n) (hmc:m<c):RdI w .u8 (some ⟨d,off+m,none⟩) l (c - m) ((q.drop m).take l):=by
 have hl:=h.len
 have hcp:=h.cap
 refine ⟨by rw [List.length_take,List.length_drop];omega,by omega,by have:=h.max;omega,fun h0=>?_,fun z hz=>h.wf z (List.mem_of_mem_drop (List.mem_of_mem_take hz))⟩
 obtain ⟨b,off',e,hlt,hc⟩:=h.at_ (by omega)
 injection e with e
 injection e with e1 e2
 subst e1 e2
 refine ⟨d,off+m,rfl,hlt,fun i hi=>?_⟩
 rw [Nat.add_assoc,hc (m+i) (by omega)]
 congr 2
 simp only [List.getD_eq_getElem?_getD,List.getElem?_take,List.getElem?_drop]
 rw [if_pos hi]
theorem zje {d off c m:Nat} {body:List Int} {w:World} {op ru v re rt a dd b cc wt er:Int} (hm:2≤m∧m≤60000) (hl:body.length=m) (hr:RdI w .u8 (some ⟨d,off,none⟩) (4+m) c (frmZ body))
  (CS0:∀ wx,RdI wx .u8 (some ⟨d,off+4,none⟩) m (c - 4) body→Calls Tryz.prog 83 #[.slice (some ⟨d,off+4,none⟩) m (c - 4)] wx fun e w'=>e=.returned (.tuple #[.agg (sdC op ru v re rt a dd b cc wt nilV er),.bool true])∧Below wx.heap.size wx w') :
  Calls Tryz.prog 38 #[.slice (some ⟨d,off,none⟩) (4+m) c] w fun e w'=>e=.returned (.tuple #[.agg (sdC op ru v re rt a dd b cc wt nilV er),.int .i64 ((4+m:Nat):Int),.bool true])∧Below w.heap.size w w':=by
 obtain ⟨n,hn⟩:=zeq (4+m)
 rw [← hn] at hr ⊢
 have ez:frmZ body=168 :: 1 :: ((m:Int) / 256 % 256) :: ((m:Int) % 256) :: body:=by unfold frmZ;rw [zle,hl];rfl
 have hcp:=hr.cap
 have hmx:=hr.max
 unfold maxLen at hmx
 obtain ⟨b',off',e',hlt,hc⟩:=hr.at_ (by omega)
 injection e' with e'
 injection e' with e1 e2
 subst e1 e2
 have HC:=zhz (fun (wx:World) (hx:Below w.heap.size w wx) (i:Nat) (hi:i<n)=>(hx.cell (p:=⟨d,off+i,none⟩) hlt).trans (hc i hi))
 obtain ⟨y2,hy2⟩:∃ y,y=(m:Int) / 256 % 256:=⟨_,rfl⟩
 obtain ⟨y3,hy3⟩:∃ y,y=(m:Int) % 256:=⟨_,rfl⟩
 have k2:0≤y2∧y2≤255:=by omega
 have k3:0≤y3∧y3≤255:=by omega
 have hmm:y2*256+y3=(m:Int):=by omega
 have KC:=zhz (fun (wx:World) (hx:Below w.heap.size w wx)=>show wx.cell? ⟨d,off,none⟩=some (.int .u8 168)∧wx.cell? ⟨d,off+1,none⟩=some (.int .u8 1)∧wx.cell? ⟨d,off+2,none⟩=some (.int .u8 y2)∧wx.cell? ⟨d,off+3,none⟩=some (.int .u8 y3) from by
  have a0:=HC.out wx hx 0 (by omega)
  have a1:=HC.out wx hx 1 (by omega)
  have a2:=HC.out wx hx 2 (by omega)
  have a3:=HC.out wx hx 3 (by omega)
  rw [ez] at a0 a1 a2 a3
  rw [Nat.add_zero] at a0
  rw [hy2,hy3]
  exact ⟨a0,a1,a2,a3⟩)
 have HR:=zhz (fun (wx:World) (hx:Below w.heap.size w wx)=>show RdI wx .u8 (some ⟨d,off+4,none⟩) m (c - 4) body from by
  have h:=zkH (hr.below hx) (m:=4) (l:=m) (by omega) (by omega)
  rw [ez] at h
  have e:((168 :: 1 :: ((m:Int) / 256 % 256) :: ((m:Int) % 256) :: body).drop 4).take m=body:=List.take_of_length_le (by show body.length≤m;omega)
  rw [e] at h
  exact h)
 have t1:¬ (n:Int)<4:=by omega
 have g0:(0:Int)<(n:Int):=by omega
 have g1:(1:Int)<(n:Int):=by omega
 have g2:(2:Int)<(n:Int):=by omega
 have g3:(3:Int)<(n:Int):=by omega
 have ea:IntKind.i64.wrap (y2*256)=y2*256:=by rw [IntKind.wrap_i64];omega
 have eb:IntKind.i64.wrap (4+y2*256)=4+y2*256:=by rw [IntKind.wrap_i64];omega
 have ec:IntKind.i64.wrap (4+y2*256+y3)=(n:Int):=by rw [IntKind.wrap_i64];omega
 have ed:4+y2*256+y3=(n:Int):=by omega
 have ew2:IntKind.i64.wrap y2=y2:=by rw [IntKind.wrap_i64];omega
 have ew3:IntKind.i64.wrap y3=y3:=by rw [IntKind.wrap_i64];omega
 have ep:(2:Int) ^ 8=256:=rfl
 have t4:¬ (n:Int)<(n:Int):=by omega
 have g4:(4:Int)≤(n:Int):=by omega
 have g5:(n:Int)≤(c:Int):=by omega
 have hMm:n - 4=m:=by omega
 have hc4:¬ c=4:=by omega
 have CY:=zhz CS0
 clear hc hr hlt hn hy2 hy3 hmm CS0 ez hm hl
 go_enter Tryz.func38,Tryz.ntmps38
 go_upto_region 1 with (fail)
 obtain ⟨w1,hw1,hbk,hbl,hsz1⟩:=zad w (sdC 0 0 0 0 0 0 0 0 0 0 nilV 0) 92
 change Code.wp _ _ _ _ (w.alloc (.cells (sdC 0 0 0 0 0 0 0 0 0 0 nilV 0) 92))
 rw [hw1]
 obtain ⟨b0,hb0⟩:=zeq (w.heap.size)
 rw [← hb0] at hbk ⊢
 have HB0:=zhz hb0
 have BK:=zhz hbk
 have BL:=zhz hbl
 obtain ⟨a0,a1,a2,a3⟩:=KC.out w1 hbl
 clear hbk hbl hsz1 hw1 hb0
 go_upto_region 3 with (fail)
 go_quiet (fail)
 have BK2:=zhz (show Blk (w1.drewN nq) b0 92 (sdC 0 0 0 0 0 0 0 0 0 0 nilV 0) from BK.out.keep (zaa (Below.refl _ _) nq))
 have BL2:=zhz (show Below w.heap.size w (w1.drewN nq) from zaa BL.out nq)
 obtain ⟨w2,hw2⟩:=zeq (w1.drewN nq)
 rw [← hw2] at BK2 BL2 ⊢
 have R2:=zhz (HR.out w2 BL2.out)
 clear a0 a1 a2 a3 hw2
 go_upto_region 7 with (go_at_call 83;((with_reducible refine (CY.out _ R2.out).mono ?_);rintro e w3 ⟨rfl,b3⟩;have BK3:=zhz (BK2.out.keep b3);have BL3:=zhz (BL2.out.trans (b3.mono BL2.out.size));clear b3))
 obtain ⟨w4,hw4,hbk,hbl,hsz4⟩:=zad w3 (sdC op ru v re rt a dd b cc wt nilV er) 92
 change Code.wp _ _ _ _ (w3.alloc (.cells (sdC op ru v re rt a dd b cc wt nilV er) 92))
 rw [hw4]
 have kq:=hbk.rd
 have BK4:=zhz (BK3.out.keep hbl)
 have kw:=BK4.out.wr
 have kr:=BK4.out.rd
 have BL4:=zhz (BL3.out.trans (hbl.mono BL3.out.size))
 clear hw4 hbk hbl hsz4
 go_wp2
 rw [zck BK4.out]
 refine bodyPost_ret (zar rfl _ _ b0 _ _ (0,0) _ rfl (zab (lt_of_block BK4.out) _) Tryz.underlying92 rfl (by kernel_rfl)) rfl ?_
 exact ⟨rfl,BL4.out.trans ((Fr.setObj (F:=fun k=>k=b0) (Fr.refl _ _) rfl _).below BL4.out.size (fun k hk=>by have:=HB0.out;omega))⟩
theorem zhv {d off c:Nat} {op v rem ret:Int} {w:World} (hr:RdI w .u8 (some ⟨d,off,none⟩) 22 c (frmZ (ansZ op v rem ret))) (ho:op=1∨op=2) (hv:1≤v∧v≤3) (h1:i64P rem) (h2:i64P ret) :
  Calls Tryz.prog 38 #[.slice (some ⟨d,off,none⟩) 22 c] w fun e w'=>e=.returned (.tuple #[.agg (sdC op 0 v rem ret 0 0 0 0 0 nilV 0),.int .i64 22,.bool true])∧Below w.heap.size w w':=by
 have hs:=zkQ ho hv h1 h2
 have el:(ansZ op v rem ret).length=18:=za0 _ _ _ _
 have e0:(ansZ op v rem ret).getD 0 0=128+op:=rfl
 have e1:(ansZ op v rem ret).getD 1 0=v:=rfl
 unfold saidZ at hs
 rw [el,e0,e1,if_neg (by omega),if_pos ⟨by omega,rfl⟩,if_pos hv] at hs
 injection hs with hs
 unfold ansS at hs
 injection hs with _ _ _ g1 g2
 refine zje (m:=18) (by decide) el hr (fun wx hx=>?_)
 have h:=zel _ 18 (c - 4) _ op wx hx e0 (by omega) (by decide) ho rfl (by rw [e1];exact hv)
 rw [e1,g1,g2] at h
 exact h
end
end Go.Proofs.YtambcbbekoehiaaGreat
