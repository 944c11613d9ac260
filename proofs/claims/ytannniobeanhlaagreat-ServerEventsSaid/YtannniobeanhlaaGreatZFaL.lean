import Derived.Test.YtannniobeanhlaaGreatZFrN
import Derived.Test.YtannniobeanhlaaGreatZRowF
set_option linter.unusedSimpArgs false
set_option linter.unusedVariables false
set_option maxRecDepth 100000
set_option maxHeartbeats 9000000
namespace Go.Proofs.YtannniobeanhlaaGreat
section
open Go.ChangeShapes Go.WideShapes Go.ChangeAt Go.RowKit Go.Deep
structure CV where
 s:ByteArray
 n:Int
 e:Int
def CV.z (a:CV):Cnt:=⟨numsC a.s,a.n,a.e⟩
def CV.cells (a:CV):List Value:=[.string a.s,.int .i64 a.n,.int .i64 a.e]
abbrev cvC (s:ByteArray) (n e:Int):Array Value:=#[.string s,.int .i64 n,.int .i64 e]
def CV.okV (a:CV):Prop:=a.s.size≤maxLen∧i64P a.n∧i64P a.e
structure CvAt (w:World) (A:Option Addr) (c:Nat) (ls:List CV):Prop where
 cap:ls.length≤c
 max:c≤maxLen
 at_:0<ls.length→∃ g off,A=some ⟨g,off,none⟩∧g<w.heap.size∧∀ (j:Nat) (h:j<ls.length) (i:Nat),i<3→w.cell? ⟨g,off+j*3+i,none⟩=(ls[j]).cells[i]?
theorem CvAt.below {w w':World} {c:Nat} {A:Option Addr} {ls:List CV} (h:CvAt w A c ls) (hb:Below w.heap.size w w'):CvAt w' A c ls :=
 ⟨h.cap,h.max,fun h0=>by
  obtain ⟨g,off,e,hlt,hc⟩:=h.at_ h0
  exact ⟨g,off,e,Nat.lt_of_lt_of_le hlt hb.size,fun j hj i hi=>(hb.cell (p:=⟨g,off+j*3+i,none⟩) hlt).trans (hc j hj i hi)⟩⟩
section
variable {H:Type} {enc:TypeId × Value→H} {P:Program}
end
theorem CV.ok {a:CV} (h:a.okV) (hs:a.s.size≤64):a.z.ok:=⟨by show (numsC a.s).length≤64;rw [zaC];exact hs,zgm _,h.2.1,h.2.2⟩
def zs (ls:List CV):List Cnt:=ls.map CV.z
theorem zmT {ls:List CV} (h:∀ a ∈ ls,a.okV) (hs:∀ a ∈ ls,a.s.size≤64):oks (zs ls):=fun c hc=>by
 obtain ⟨a,ha,rfl⟩:=List.mem_map.1 hc
 exact CV.ok (h a ha) (hs a ha)
theorem zaZ (ls:List CV):(zs ls).length=ls.length:=List.length_map _
theorem zfO {rule:Int} {l:List Cnt} (hr:0≤rule∧rule≤255) (hl:l.length≤255) (h:oks l):byt (topZ rule l):=by
 intro z hz
 unfold topZ at hz
 simp only [List.mem_cons] at hz
 rcases hz with rfl | rfl | rfl | hz
 ·omega
 ·omega
 ·omega
 ·exact zf9 h z hz
theorem zds (rule:Int) (l:List Cnt):(topZ rule l).length=3+sumL l:=by unfold topZ;simp [zdH];omega
theorem zmh {ls:List CV} {i:Nat} (hi:i<ls.length):flat (zs (ls.take (i+1)))=flat (zs (ls.take i))++(ls[i]).z.z:=by
 unfold zs
 rw [List.take_succ_eq_append_getElem hi,List.map_append,zf8]
 simp [flat]
theorem zib {ls:List CV} (h:oks (zs ls)) (i:Nat):(flat (zs (ls.take i))).length≤81*ls.length:=by
 have h1:oks (zs (ls.take i)):=fun c hc=>h c (by
  unfold zs at hc ⊢
  rw [List.map_take] at hc
  exact List.mem_of_mem_take hc)
 have:=zcp h1
 rw [zaZ,List.length_take] at this
 omega
theorem zg6 (rule:Int) (A:Option Addr) (n c:Nat) (ls:List CV) (hr:0≤rule∧rule≤255) (hl:ls.length=n) (hn:n≤255) (w:World) (ha:CvAt w A c ls) (hok:∀ a ∈ ls,a.okV) (hsz:∀ a ∈ ls,a.s.size≤64) :
  Calls Tryz.prog 214 #[.int .i64 rule,.slice A n c] w fun e w'=>∃ v',e=.returned v'∧Own w' w.heap.size v' (frmZ (topZ rule (zs ls)))∧Below w.heap.size w w':=by
 have eop:IntKind.u8.wrap rule=rule:=by rw [IntKind.wrap_u8];omega
 have en:IntKind.u8.wrap (n:Int)=(n:Int):=by rw [IntKind.wrap_u8];omega
 have hcp:=ha.cap
 rw [hl] at hcp
 have hmx:=ha.max
 unfold maxLen at hmx
 have HL:=zhz hl
 have HA:=zhz ha
 have HOK:=zhz hok
 have HSZ:=zhz hsz
 have HOZ:=zhz (zmT hok hsz)
 have HRL:=zhz hr
 have hn1:(n:Int)≤255:=by omega
 have OL:=zhz (show Own (w.alloc (.cells #[.int .u8 132,.int .u8 rule,.int .u8 (n:Int)] 5)) w.heap.size (.slice (some ⟨w.heap.size,0,none⟩) 3 3) [132,rule,(n:Int)] from zb5 w w.heap.size 3 [132,rule,(n:Int)] (Nat.le_refl _) rfl (by unfold maxLen;omega))
 have F0:=zhz (FrU.alloc (B:=w.heap.size) (Nat.le_refl w.heap.size) (.cells #[.int .u8 132,.int .u8 rule,.int .u8 (n:Int)] 5))
 clear hr hl ha hok hsz
 go_enter Tryz.func214,Tryz.ntmps214
 go_upto_region 3 with (fail)
 go_loopg [5,16] n (fun k v s16 wr=>∃ i:Nat,i≤n∧k=n - i∧s16=.int .i64 (i:Int)∧Own wr w.heap.size v ([132,rule,(n:Int)]++flat (zs (ls.take i)))∧FrU w.heap.size w wr)
 case atStart=>exact ⟨0,by omega,by omega,rfl,by simpa [zs,flat] using OL.out,F0.out⟩
 case round =>
  obtain ⟨i,hi,hkk,rfl,hown,hf⟩:=hrel
  have HK:=zhz hkk
  have HOW:=zhz hown
  have HF:=zhz hf
  clear hkk hown
  by_cases hin:i<n
  ·have hil:i<ls.length:=by rw [HL.out];exact hin
   have HNX:=zhz (zmh hil)
   have HLE:=zhz (zib HOZ.out i)
   obtain ⟨a,haa⟩:=zeq (ls[i])
   have hal:a ∈ ls:=by rw [haa];exact List.getElem_mem hil
   have OKA:=zhz (HOK.out a hal)
   have hss:=HSZ.out a hal
   obtain ⟨g,off,rfl,hlt,hc⟩:=(HA.out.below (hf.below (Nat.le_refl _))).at_ (by omega)
   have c0:=hc i hil 0 (by omega)
   have c1:=hc i hil 1 (by omega)
   have c2:=hc i hil 2 (by omega)
   rw [← haa] at c0 c1 c2 HNX
   obtain ⟨s,cn,ce⟩:=a
   have HS64:=zhz (show s.size≤64 from hss)
   have HZZ:=zhz (show ∀ l:List Int,((l++((s.size % 256:Nat):Int) :: numsC s)++be8s [cn,ce])=l++(CV.z ⟨s,cn,ce⟩).z from fun l=>by
    unfold CV.z Cnt.z
    have:s.size≤64:=hss
    rw [Nat.mod_eq_of_lt (by omega)]
    simp [be8s,zaC])
   simp [CV.cells] at c0 c1 c2
   clear haa hc hf hal hss
   go_upto_region 5 with (fail)
   clear c0 c1 c2
   obtain ⟨w3,hw3,hbk,hbl,hsz3⟩:=zad wr (cvC s cn ce) 183
   change Code.wp _ _ _ _ (wr.alloc (.cells (cvC s cn ce) 183))
   rw [hw3]
   obtain ⟨b3,hb3⟩:=zeq (wr.heap.size)
   rw [← hb3] at hbk ⊢
   have SZR:=zhz (show w.heap.size≤wr.heap.size from HF.out.size)
   have F3:=zhz (show FrU w.heap.size w w3.drew from by rw [← hw3];exact (HF.out.trans (FrU.alloc SZR.out _)).trans (FrU.of_below (zaa (Below.refl _ _) 1)))
   have y1:∀ j,w3.drew.cell? ⟨b3,j,none⟩=(cvC s cn ce)[j]?:=(Blk.drew hbk).rd
   have BK:=zhz (show Blk w3.drew b3 183 (cvC s cn ce) from hbk.drew)
   have O3:=zhz (show Own w3.drew w.heap.size u5 ([132,rule,(n:Int)]++flat (zs (ls.take i))) from (HOW.out.below hbl).below (zaa (Below.refl _ _) 1))
   have SZ3:=zhz (show w.heap.size≤w3.drew.heap.size from F3.out.size)
   have CT:=zhz (zlb w.heap.size u5 _ s (by have:=HS64.out;omega) (by have:=HLE.out;have:=HL.out;simp;omega) w3.drew O3.out SZ3.out)
   clear hw3 hbk hbl hsz3 hb3
   have CNN:=zhz (fun (v4:Value) (wx:World) (gx:Nat) (ho:Own wx w.heap.size v4 (([132,rule,(n:Int)]++flat (zs (ls.take i)))++((s.size % 256:Nat):Int) :: numsC s)) (hs:w.heap.size≤wx.heap.size) (hg:Blk wx gx 2 #[.int .i64 cn,.int .i64 ce]) =>
    zcH w.heap.size v4 _ gx 2 [cn,ce] (zcG (P:=i64P) OKA.out.2.1 OKA.out.2.2) rfl (by have:=HLE.out;have:=HL.out;have:=HS64.out;simp [zaC];omega) wx ho hs hg)
   refine wp_region_held_drew (S:=fun w'=>∀ j,w'.cell? ⟨b3,j,none⟩=(cvC s cn ce)[j]?) (by kernel_rfl) y1 (fun hHeld=>?_)
   clear y1
   refine wR 0 ?_
   refine wR 1 ?_
   refine wR 2 ?_
   refine wR 4 ?_
   refine wR 5 ?_
   refine wR 6 ?_
   refine wR 7 ?_
   refine wpAnyH_ready (rs:=[3,8]) (by kernel_rfl) (by simp) ?_
   refine AllReadyH.cons (o:=?_) ?_ ?_ ?_
   rotate_left 1
   ·simp only [List.getElem?_toArray,List.getElem?_cons_succ,List.getElem?_cons_zero];rfl
   ·skip
    intro K hK
    go_simp
    ((with_reducible refine CT.out.mono ?_);rintro e w4 ⟨v4,rfl,o4,f4⟩;have O4:=zhz o4;have BK4:=zhz (f4.blk BK.out (.inr (by decide)));have F4:=zhz (F3.out.trans f4);have SZ4:=zhz (show w.heap.size≤w4.heap.size from F4.out.size);clear o4 f4)
    refine hK.out _ _ BK4.out.rd (fun hHeld=>?_)
    clear hK K
    try simp only [Act.put,zs1,zs2,zs3]
    have O5:=zhz (O4.out.below ((Below.refl _ _).alloc (Nat.le_refl _) (.cells #[.int .i64 cn,.int .i64 ce] 2)))
    have K5:=zhz (heap_alloc_new w4 (.cells #[.int .i64 cn,.int .i64 ce] 2))
    have BK5:=zhz (BK4.out.alloc (.cells #[.int .i64 cn,.int .i64 ce] 2))
    have F5:=zhz (F4.out.trans (FrU.alloc SZ4.out (.cells #[.int .i64 cn,.int .i64 ce] 2)))
    refine wC 8 fun K hK=>?_
    go_simp
    skip
    refine hK.out _ _ BK5.out.rd fun hHeld=>?_
    clear hK K
    try simp only [Act.put,zs1,zs2,zs3]
    refine wC 9 fun K hK=>?_
    go_simp
    ((with_reducible refine (CNN.out _ _ _ O5.out F5.out.size K5.out).mono ?_);rintro e w6 ⟨v6,rfl,o6,f6⟩;have O6:=zhz o6;have BK6:=zhz (f6.blk BK5.out (.inr (by decide)));have F6:=zhz (F5.out.trans f6);clear o6 f6)
    refine hK.out _ _ BK6.out.rd fun hHeld=>?_
    clear hK K
    try simp only [Act.put,zs1,zs2,zs3]
    refine wR 10 ?_
    refine wpAnyH_done (by kernel_rfl) ?_ _
    clear hHeld
    go_wp2
    go_roundg (n - (i+1))
    case measure=>have:=HK.out;omega
    case rel=>exact ⟨i+1,by omega,by omega,by go_num,by rw [HNX.out,← List.append_assoc,← HZZ.out];exact O6.out,F6.out⟩
   ·skip
    have OA:=zhz (show Own (w3.alloc (.cells #[.int .i64 cn,.int .i64 ce] 2)).drew w.heap.size u5 ([132,rule,(n:Int)]++flat (zs (ls.take i))) from O3.out.below ((Below.refl _ _).alloc (Nat.le_refl _) (.cells #[.int .i64 cn,.int .i64 ce] 2)))
    have KA:=zhz (show Blk (w3.alloc (.cells #[.int .i64 cn,.int .i64 ce] 2)).drew w3.heap.size 2 #[.int .i64 cn,.int .i64 ce] from heap_alloc_new w3.drew (.cells #[.int .i64 cn,.int .i64 ce] 2))
    have BKA:=zhz (show Blk (w3.alloc (.cells #[.int .i64 cn,.int .i64 ce] 2)).drew b3 183 (cvC s cn ce) from BK.out.alloc (.cells #[.int .i64 cn,.int .i64 ce] 2))
    have FA:=zhz (show FrU w.heap.size w (w3.alloc (.cells #[.int .i64 cn,.int .i64 ce] 2)).drew from F3.out.trans (FrU.alloc SZ3.out (.cells #[.int .i64 cn,.int .i64 ce] 2)))
    have CTA:=zhz (zlb w.heap.size u5 _ s (by have:=HS64.out;omega) (by have:=HLE.out;have:=HL.out;simp;omega) _ OA.out FA.out.size)
    refine AllReadyH.cons (o:=?_) ?_ ?_ ?_
    rotate_left 1
    ·simp only [List.getElem?_toArray,List.getElem?_cons_succ,List.getElem?_cons_zero];rfl
    rotate_left 1
    ·exact AllReadyH.nil
    intro K hK
    go_simp
    skip
    refine hK.out _ _ BKA.out.rd (fun hHeld=>?_)
    clear hK K
    try simp only [Act.put,zs1,zs2,zs3]
    refine wC 3 fun K hK=>?_
    go_simp
    ((with_reducible refine CTA.out.mono ?_);rintro e w4 ⟨v4,rfl,o4,f4⟩;have O4:=zhz o4;have BK4:=zhz (f4.blk BKA.out (.inr (by decide)));have K4:=zhz (f4.blk KA.out (.inr (by decide)));have F4:=zhz (FA.out.trans f4);clear o4 f4)
    refine hK.out _ _ BK4.out.rd fun hHeld=>?_
    clear hK K
    try simp only [Act.put,zs1,zs2,zs3]
    refine wC 9 fun K hK=>?_
    go_simp
    ((with_reducible refine (CNN.out _ _ _ O4.out F4.out.size K4.out).mono ?_);rintro e w6 ⟨v6,rfl,o6,f6⟩;have O6:=zhz o6;have BK6:=zhz (f6.blk BK4.out (.inr (by decide)));have F6:=zhz (F4.out.trans f6);clear o6 f6)
    refine hK.out _ _ BK6.out.rd fun hHeld=>?_
    clear hK K
    try simp only [Act.put,zs1,zs2,zs3]
    refine wR 10 ?_
    refine wpAnyH_done (by kernel_rfl) ?_ _
    clear hHeld
    go_wp2
    go_roundg (n - (i+1))
    case measure=>have:=HK.out;omega
    case rel=>exact ⟨i+1,by omega,by omega,by go_num,by rw [HNX.out,← List.append_assoc,← HZZ.out];exact O6.out,F6.out⟩
  ·have hie:i=n:=by omega
   subst hie
   have HTP:=zhz (show [132,rule,(i:Int)]++flat (zs (ls.take i))=topZ rule (zs ls) from by
    rw [List.take_of_length_le (by rw [HL.out];exact Nat.le_refl _)]
    unfold topZ
    rw [zaZ,HL.out]
    rfl)
   have HBL:=zhz (hf.below (Nat.le_refl _))
   have OZ:=HOW.out
   rw [HTP.out] at OZ
   obtain ⟨g5,c5,rfl,r5,_⟩:=zdR OZ (zfO HRL.out (by rw [zaZ,HL.out];omega) HOZ.out) (3+sumL (zs ls)) (zds _ _) (by omega)
   have R5:=zhz r5
   have HS:=zhz (show 3+sumL (zs ls)≤60000 from by
    have:=zcp HOZ.out
    rw [zdH,zaZ,HL.out] at this
    omega)
   clear hf OZ r5
   go_wp2_with (go_at_call 56;((with_reducible refine (zbs 168 (by omega) _ _ _ _ HS.out _ R5.out).mono ?_);rintro e w5 ⟨v5,rfl,o5,b5⟩;have O5:=zhz o5;have BL5:=zhz (HBL.out.trans (b5.mono HBL.out.size));clear o5 b5))
   go_ret
   refine ⟨v5,rfl,?_,BL5.out⟩
   have:=O5.out.more (base':=w.heap.size) HBL.out.size
   unfold frmZ
   rw [zds]
   exact this
end
section
open Go.ChangeShapes Go.WideShapes Go.ChangeAt Go.RowKit Go.Deep
end
section
open Go.ChangeShapes Go.WideShapes Go.ChangeAt Go.RowKit Go.Deep
end
section
open Go.ChangeShapes Go.WideShapes Go.ChangeAt Go.RowKit Go.Deep
end
section
open Go.ChangeShapes Go.WideShapes Go.ChangeAt Go.RowKit Go.Deep
end
end Go.Proofs.YtannniobeanhlaaGreat
