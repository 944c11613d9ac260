import Derived.Test.YtannniobeanhlaaGreatZDcB
import Derived.Stop.Asserts
set_option linter.unusedSimpArgs false
set_option linter.unusedVariables false
set_option maxRecDepth 100000
set_option maxHeartbeats 9000000
namespace Go.Proofs.YtannniobeanhlaaGreat
open Go.ChangeShapes Go.WideShapes Go.ChangeAt Go.RowKit
abbrev rqV (q:Req):Value:=reqV q.op q.rule q.cost (strOfNums q.key) q.k
abbrev rqA (q:Req):Array Value:=reqC q.op q.rule q.cost (strOfNums q.key) q.k
def okQ (rules:Int) (q:Req):Prop:=rightP q rules∧(0≤q.cost∧q.cost<4294967296)∧byt q.key
theorem zbT {z:List Int} {rules:Int} {q:Req} {n e:Int} (hz:byt z) (h:parseZ z rules=(q,n,e)) (hn:n≠0):e=0∧0<n∧okQ rules q:=by
 obtain ⟨h1,h2,h3,h4,h5,h6,h7⟩:=zh6 hz h hn
 refine ⟨h1,by omega,h4,⟨h6,h7⟩,?_⟩
 have he:byt (encZ q):=by rw [h5];exact zfY hz _
 rcases h4.2 with ⟨ho,_,_⟩ | ⟨_,_,hk,_⟩ | ⟨_,_,hk,_⟩
 ·intro x hx
  refine he x ?_
  unfold encZ
  rw [if_pos (by rcases ho with h | h <;> omega)]
  simp [hx]
 ·rw [hk];intro x hx;cases hx
 ·rw [hk];intro x hx;cases hx
structure HostC where
 S:Type
 L:Type
 T:TypeId
 pv:Value
 fM:FuncId
 fA:FuncId
 fS:FuncId
 wit:Bool
 rules:Int
 At:World→S→L→Prop
 F:L→Nat→Prop
 most:Req→Int
 ans:S→Req→List Int
 nx1:S→Req→S
 nxt:S→Req→S
 mM : ∀ f w, (method (f + 1) T pv "Most").run Tryz.prog w = .ok (fM, pv) w
 mA : ∀ f w, (method (f + 1) T pv "Answer").run Tryz.prog w = .ok (fA, pv) w
 mS : wit = true → ∀ f w, (method (f + 1) T pv "Seen").run Tryz.prog w = .ok (fS, pv) w
 eM:∀ args w,(callFunc fM args).run Tryz.prog w=.ok (Next.enter fM args) w
 eA:∀ args w,(callFunc fA args).run Tryz.prog w=.ok (Next.enter fA args) w
 eS:wit=true→∀ args w,(callFunc fS args).run Tryz.prog w=.ok (Next.enter fS args) w
 tA:∀ w,(Instr.typeAssert (.iface T pv) 202 242 true).run Tryz.prog w=.ok (.tuple #[if wit then .iface T pv else .nilIface,.bool wit]) w
 fr:∀ {w w' s l} {G:Nat→Prop},At w s l→Fr G w w'→(∀ k,F l k→¬ G k)→At w' s l
 lt:∀ {w s l k},At w s l→F l k→k<w.heap.size
 bud:S→Nat→Prop
 bud_le:∀ {s n},bud s (n+1)→bud s n
 bud_nxt:∀ {s n} q,bud s (n+1)→bud (nxt s q) n
 same:wit=false→∀ s q,nxt s q=nx1 s q
 cM:∀ w s l q,At w s l→okQ rules q→Calls Tryz.prog fM #[pv,rqV q] w fun e w'=>e=.returned (.int .i64 (most q))∧Below w.heap.size w w'
 cA:∀ w s l q,At w s l→bud s 1→okQ rules q→Calls Tryz.prog fA #[pv,rqV q] w fun e w'=>∃ A n c l',e=.returned (.slice A n c)∧RdI w' .u8 A n c (ans s q)∧(∀ b off,0<n→A=some ⟨b,off,none⟩→w.heap.size≤b)∧At w' (nx1 s q) l'∧Fr (F l) w w'∧(∀ k,F l' k→F l k∨w.heap.size≤k)
 cS:wit=true→∀ w s l q,At w (nx1 s q) l→bud s 1→okQ rules q→Calls Tryz.prog fS #[pv,rqV q] w fun e w'=>∃ l',e=.returned (.tuple #[])∧At w' (nxt s q) l'∧Fr (F l) w w'∧(∀ k,F l' k→F l k∨w.heap.size≤k)
 len:∀ s q,okQ rules q→((ans s q).length:Int)≤most q
abbrev HostC.hv (H:HostC):Value:=.iface H.T H.pv
def CnN.room (Kn:CnN) (σ:CnS):Int:=((Kn.size - σ.out.length:Nat):Int)
def fitsB (H:HostC) (Kn:CnN) (σ:CnS) (x:Int):Bool :=
 if σ.err≠0 then false
 else if (parseZ (σ.z++[x]) Kn.rules).2.2≠0 then decide (6≤Kn.room σ)
 else if 0<(parseZ (σ.z++[x]) Kn.rules).2.1 then decide (H.most (parseZ (σ.z++[x]) Kn.rules).1≤Kn.room σ)
 else true
theorem zd8 {e:Int} (h:0≤e∧e≤10):byt (frmZ (errZ e)):=by
 intro z hz
 have he:frmZ (errZ e)=[168,1,0,2,255,e]:=by
  show 168 :: 1 :: (be 2 2++[255,e])=_
  rfl
 rw [he] at hz
 simp only [List.mem_cons,List.not_mem_nil,or_false] at hz
 omega
section
variable {w w':World} {Kn:CnN} {σ:CnS} {H:HostC}
theorem CnAt.byt (h:CnAt w Kn σ):Go.Proofs.YtannniobeanhlaaGreat.byt σ.z:=by
 obtain ⟨bs,h1,_⟩:=h.d
 rw [← h1.take]
 exact zfY h1.byt _
theorem ziH {rules:Int} {q:Req} (h:okQ rules q):q.key.length≤64:=by
 rcases h.1.2 with ⟨_,hk,_⟩ | ⟨_,_,hk,_⟩ | ⟨_,_,hk,_⟩
 ·exact hk
 ·rw [hk];simp
 ·rw [hk];simp
theorem zhU (x:Int) (hx:0≤x∧x≤255) (w:World) (h:CnAt w Kn σ) (s:H.S) (l:H.L) (hH:H.At w s l) (hr:H.rules=Kn.rules) :
  Calls Tryz.prog 101 #[.pointer (some ⟨Kn.c,0,none⟩),.int .u8 x,H.hv] w fun e w'=>e=.returned (.bool (fitsB H Kn σ x))∧Below w.heap.size w w':=by
 have CE:=zhz (errx _ _ Kn.c σ.z Kn.rules σ.err w h.d)
 have HC:=zhz h
 have HH:=zhz hH
 by_cases he:σ.err≠0
 ·have g1:(σ.err != 0)=true:=by simpa using he
  have hf:fitsB H Kn σ x=false:=by unfold fitsB;rw [if_pos he]
  rw [hf]
  clear h hH he hf hx
  go_enter Tryz.func101,Tryz.ntmps101
  go_wp2_with (go_at_call 126;((with_reducible refine CE.out.mono ?_);rintro e w1 ⟨rfl,rfl⟩))
  go_ret
  exact ⟨rfl,Below.refl _ _⟩
 ·have he0:σ.err=0:=by simpa using he
  have g1:(σ.err != 0)=false:=by simp [he0]
  obtain ⟨q,m,e,hp⟩:∃ q m e,parseZ (σ.z++[x]) Kn.rules=(q,m,e):=⟨_,_,_,rfl⟩
  have hd:=h.d
  rw [he0] at hd
  have CT:=zhz (tryx 133 (cnT Kn σ.op) Kn.c σ.z Kn.rules x 0 w hd (.tuple #[rqV q,.bool (decide (0<m)),.int .i64 e]) (fun wx b' hx'=>(zly b' σ.z Kn.rules x wx hx' hx q m e hp).mono (fun e' w' ⟨h1,h2,h3⟩=>⟨h1,h3⟩)) _ _ _ _ _ _ _ rfl)
  have CR:=zhz (fun wx (hb:Below w.heap.size w wx)=>zh0 wx (h.keep hb))
  have hbyt:Go.Proofs.YtannniobeanhlaaGreat.byt (σ.z++[x]):=zaO h.byt (fun z hz=>by rw [List.mem_singleton.1 hz];exact hx)
  have HQ:=zhz (fun (hm:0<m)=>zbT hbyt hp (show m≠0 by omega))
  obtain ⟨R,hR⟩:∃ R:Nat,R=Kn.size - σ.out.length:=⟨_,rfl⟩
  have hf:fitsB H Kn σ x=if e≠0 then decide (6≤(R:Int)) else if 0<m then decide (H.most q≤(R:Int)) else true:=by
   unfold fitsB CnN.room
   rw [if_neg he,hp,hR]
  rw [← hR] at CR
  have HF:=zhz hf
  obtain ⟨B,hB⟩:=zeq (decide (0<m))
  rw [← hB] at CT
  have HB:=zhz hB
  clear h hH he hf hd hp hbyt hR hB
  obtain ⟨V,hV⟩:=zeq (fitsB H Kn σ x)
  rw [← hV]
  have HV:=zhz (hV.trans HF.out)
  clear hV
  go_enter Tryz.func101,Tryz.ntmps101
  go_upto_region 4 with (first
   | (go_at_call 126;((with_reducible refine CE.out.mono ?_);rintro e w1 ⟨rfl,rfl⟩))
   | (go_at_call 127;((with_reducible refine CT.out.mono ?_);rintro e w2 ⟨rfl,b2⟩;have B2:=zhz b2;clear b2)))
  obtain ⟨w3,hw3,hbk,hbl,hsz⟩:=zad w2 (rqA q) 76
  change Code.wp _ _ _ _ (w2.alloc (.cells (rqA q) 76))
  rw [hw3]
  obtain ⟨b7,hb7⟩:=zeq (w2.heap.size)
  rw [← hb7] at hbk ⊢
  have BK:=zhz hbk
  have B3:=zhz (G.below_on B2.out hbl)
  clear hw3 hbk hbl hsz hb7
  by_cases he:e=0
  ·have g2:(e != 0)=false:=by simp [he]
   have HE:=zhz he
   cases hbv:B with
   | false =>
    have hv:(if e≠0 then decide (6≤(R:Int)) else if 0<m then decide (H.most q≤(R:Int)) else true)=true:=by
     have h2:¬ 0<m:=by have:=HB.out;rw [hbv] at this;exact of_decide_eq_false this.symm
     rw [if_neg (by simp [he]),if_neg h2]
    have HV2:=zhz (HV.out.trans hv)
    have hund:undef=Value.tuple #[]:=rfl
    clear he hbv hv
    go_upto_region 6 with (fail)
    have k7:=BK.out.rd
    refine wp_region_held_drew (S:=fun wx=>∀ i,wx.cell? ⟨b7,i,none⟩=(rqA q)[i]?) (by kernel_rfl) k7 (fun hHeld=>?_)
    refine wR 0 ?_
    refine wR 1 ?_
    refine wR 2 ?_
    refine wO 3 ?_
    refine wO 4 ?_
    refine wO 5 ?_
    refine wO 6 ?_
    refine wO 7 ?_
    refine wO 8 ?_
    refine wO 9 ?_
    refine wO 10 ?_
    refine wO 11 ?_
    refine wO 12 ?_
    refine wR 13 ?_
    refine wR 14 ?_
    refine wpAnyH_done (by kernel_rfl) ?_ _
    clear hHeld k7
    go_wp2
    go_ret
    exact ⟨by rw [HV2.out];rfl,zaa B3.out 1⟩
   | true =>
    have hm:0<m:=by have:=HB.out;rw [hbv] at this;exact of_decide_eq_true this.symm
    have hv:(if e≠0 then decide (6≤(R:Int)) else if 0<m then decide (H.most q≤(R:Int)) else true)=decide (H.most q≤(R:Int)):=by
     rw [if_neg (by simp [he]),if_pos hm]
    have HV2:=zhz (HV.out.trans hv)
    have HOK:=zhz (HQ.out hm).2.2
    have CM:=zhz (fun wx (hb:Below w.heap.size w wx)=>H.cM wx s l q (H.fr (G:=fun _=>False) HH.out (Fr.of_below hb) (fun _ _=>id)) (by rw [hr];exact HOK.out))
    have hmm:=H.mM
    have hmn:=H.eM
    have D4:=zhz (show Below w.heap.size w w3.drew from zaa B3.out 1)
    have K4:=zhz (show Blk w3.drew b7 _ (rqA q) from BK.out)
    clear he hbv hv hm
    go_upto_region 6 with (fail)
    have k7:=K4.out.rd
    refine wp_region_held_drew (S:=fun wx=>∀ i,wx.cell? ⟨b7,i,none⟩=(rqA q)[i]?) (by kernel_rfl) k7 (fun hHeld=>?_)
    refine wR 0 ?_
    refine wR 1 ?_
    refine wR 2 ?_
    refine wR 3 ?_
    refine wR 4 ?_
    refine wR 5 ?_
    refine wR 6 ?_
    refine wR 8 ?_
    refine wR 9 ?_
    refine wC 7 fun K hK=>?_
    go_simp
    ((with_reducible refine (CR.out _ D4.out).mono ?_);rintro e5 w5 ⟨rfl,b5⟩;have D5:=zhz (G.below_on D4.out b5);have K5:=zhz (K4.out.keep b5);clear b5)
    refine hK.out _ _ (K5.out.rd) fun hHeld=>?_
    clear hK K
    try simp only [Act.put,zs1,zs2,zs3]
    refine wC 10 fun K hK=>?_
    go_simp
    ((with_reducible refine (CM.out _ D5.out).mono ?_);rintro e6 w6 ⟨rfl,b6⟩;have D6:=zhz (G.below_on D5.out b6);have K6:=zhz (K5.out.keep b6);clear b6)
    refine hK.out _ _ (K6.out.rd) fun hHeld=>?_
    clear hK K
    try simp only [Act.put,zs1,zs2,zs3]
    refine wR 11 ?_
    refine wR 12 ?_
    refine wR 13 ?_
    refine wR 14 ?_
    refine wpAnyH_done (by kernel_rfl) ?_ _
    clear hHeld k7
    go_wp2
    go_ret
    exact ⟨by rw [HV2.out];rfl,D6.out⟩
  ·have g2:(e != 0)=true:=by simpa using he
   have hv:(if e≠0 then decide (6≤(R:Int)) else if 0<m then decide (H.most q≤(R:Int)) else true)=decide (6≤(R:Int)):=if_pos he
   have HV2:=zhz (HV.out.trans hv)
   have D4:=zhz (show Below w.heap.size w w3 from B3.out)
   clear he hv
   go_wp2_with (go_at_call 128;((with_reducible refine (CR.out _ D4.out).mono ?_);rintro e5 w5 ⟨rfl,b5⟩;have D5:=zhz (G.below_on D4.out b5);clear b5))
   go_ret
   exact ⟨by rw [HV2.out];rfl,D5.out⟩
theorem ziP {z:List Int} {rules:Int} (hc:cleanZ z rules z.length) {c:Int} {q:Req} {m e:Int} (h:parseZ (z++[c]) rules=(q,m,e)):0≤e∧e≤10∧(e≠0→m=0):=by
 have h2:=zgo hc (rules:=rules) c
 rw [h] at h2
 have hb:0≤fltZ (z++[c]) rules z.length∧fltZ (z++[c]) rules z.length≤10:=by
  unfold fltZ
  simp only
  repeat' split
  all_goals omega
 by_cases h0:fltZ (z++[c]) rules z.length≠0
 ·rw [if_pos h0] at h2
  injection h2 with _ h2
  injection h2 with h3 h4
  omega
 ·rw [if_neg h0] at h2
  split at h2
  ·injection h2 with _ h2
   injection h2 with h3 h4
   exact ⟨by omega,by omega,fun h=>absurd h4 h⟩
  ·injection h2 with _ h2
   injection h2 with h3 h4
   exact ⟨by omega,by omega,fun h=>absurd h4 h⟩
theorem CnAt.clean (h:CnAt w Kn σ):cleanZ σ.z Kn.rules σ.z.length:=by
 obtain ⟨bs,h1,_⟩:=h.d
 exact h1.clean
def comeC (H:HostC) (Kn:CnN) (σ:CnS) (s:H.S) (x:Int):CnS × H.S × List Req :=
 if (parseZ (σ.z++[x]) Kn.rules).2.2≠0 then (⟨nextZ Kn.rules σ.z x,(parseZ (σ.z++[x]) Kn.rules).2.2,σ.out++frmZ (errZ (parseZ (σ.z++[x]) Kn.rules).2.2),σ.op⟩,s,[])
 else if 0<(parseZ (σ.z++[x]) Kn.rules).2.1 then (⟨nextZ Kn.rules σ.z x,0,σ.out++H.ans s (parseZ (σ.z++[x]) Kn.rules).1,σ.op⟩,H.nxt s (parseZ (σ.z++[x]) Kn.rules).1,[(parseZ (σ.z++[x]) Kn.rules).1])
 else (⟨nextZ Kn.rules σ.z x,0,σ.out,σ.op⟩,s,[])
structure CH (H:HostC) (w:World) (Kn:CnN) (σ:CnS) (s:H.S) (l:H.L):Prop where
 c:CnAt w Kn σ
 h:H.At w s l
 ap:∀ k,Kn.F k→¬ H.F l k
theorem CH.keep {s:H.S} {l:H.L} (h:CH H w Kn σ s l) (hb:Below w.heap.size w w'):CH H w' Kn σ s l:=⟨h.c.keep hb,H.fr (G:=fun _=>False) h.h (Fr.of_below hb) (fun _ _=>id),h.ap⟩
theorem zhS (x:Int) (hx:0≤x∧x≤255) (w:World) (s:H.S) (l:H.L) (h:CH H w Kn σ s l) (hr:H.rules=Kn.rules) (hbud:H.bud s 1) (hf:fitsB H Kn σ x=true) :
  Calls Tryz.prog 102 #[.pointer (some ⟨Kn.c,0,none⟩),.int .u8 x,H.hv] w fun e w'=>∃ l',e=.returned (.tuple #[])∧CH H w' Kn (comeC H Kn σ s x).1 (comeC H Kn σ s x).2.1 l'∧Fr (fun k=>Kn.F k∨H.F l k) w w'∧(∀ k,H.F l' k→H.F l k∨w.heap.size≤k):=by
 have he0:σ.err=0:=by
  by_cases h0:σ.err≠0
  ·unfold fitsB at hf;rw [if_pos h0] at hf;cases hf
  ·simpa using h0
 obtain ⟨q,m,e,hp⟩:∃ q m e,parseZ (σ.z++[x]) Kn.rules=(q,m,e):=⟨_,_,_,rfl⟩
 have hpe:=ziP h.c.clean hp
 have hd:=h.c.d
 rw [he0] at hd
 have CF:=zhz (zjN 133 (cnT Kn σ.op) Kn.c σ.z Kn.rules x w hd hx q m e hp)
 have hbyt:Go.Proofs.YtannniobeanhlaaGreat.byt (σ.z++[x]):=zaO h.c.byt (fun z hz=>by rw [List.mem_singleton.1 hz];exact hx)
 have HQ:=zhz (fun (hm:0<m)=>zbT hbyt hp (show m≠0 by omega))
 have hfb:(if e≠0 then decide (6≤Kn.room σ) else if 0<m then decide (H.most q≤Kn.room σ) else true)=true:=by
  unfold fitsB at hf
  rw [if_neg (by simp [he0]),hp] at hf
  exact hf
 have hcm:comeC H Kn σ s x=if e≠0 then (⟨nextZ Kn.rules σ.z x,e,σ.out++frmZ (errZ e),σ.op⟩,s,[]) else if 0<m then (⟨nextZ Kn.rules σ.z x,0,σ.out++H.ans s q,σ.op⟩,H.nxt s q,[q]) else (⟨nextZ Kn.rules σ.z x,0,σ.out,σ.op⟩,s,[]):=by
  unfold comeC
  rw [hp]
 obtain ⟨Z,hZ⟩:=zeq (nextZ Kn.rules σ.z x)
 rw [← hZ] at hcm CF
 obtain ⟨R,hR⟩:=zeq (comeC H Kn σ s x)
 rw [← hR] at hcm ⊢
 have HR:=zhz hcm
 have HC:=zhz h
 have HFB:=zhz hfb
 have hle:=h.c.b.le
 have hlt:=h.c.lt
 have HLT:=zhz hlt
 have HLE:=zhz hle
 obtain ⟨B,hB⟩:=zeq (decide (0<m))
 rw [← hB] at CF
 have HB:=zhz hB
 have HPE:=zhz hpe
 clear h hf he0 hp hd hbyt hfb hcm hZ hR hle hlt hB hpe hx
 go_enter Tryz.func102,Tryz.ntmps102
 go_upto_region 1 with (go_at_call 129;((with_reducible refine CF.out.mono ?_);rintro e' w2 ⟨rfl,d2,f2⟩;have D2:=zhz d2;have F2:=zhz f2;clear d2 f2))
 obtain ⟨w3,hw3,hbk,hbl,hsz⟩:=zad w2 (rqA q) 76
 change Code.wp _ _ _ _ (w2.alloc (.cells (rqA q) 76))
 rw [hw3]
 obtain ⟨b7,hb7⟩:=zeq (w2.heap.size)
 rw [← hb7] at hbk ⊢
 have BK:=zhz hbk
 have F3:=zhz (show Fr (fun k=>k=Kn.c) w w3 from F2.out.trans (Fr.of_below hbl))
 have D3:=zhz (D2.out.keep hbl)
 have NW:=zhz (show w.heap.size≤b7 from by have:=F2.out.size;omega)
 have C3:=zhz (show CnAt w3 Kn ⟨Z,e,σ.out,σ.op⟩ from ⟨D3.out,HC.out.c.b.fr F3.out (fun e=>HC.out.c.ne.1 e.symm) (fun e=>HC.out.c.ne.2 e.symm),HC.out.c.ne⟩)
 have H3:=zhz (show H.At w3 s l from H.fr HC.out.h F3.out (fun k hk hh=>HC.out.ap k (Or.inl hh) hk))
 clear hw3 hbk hbl hsz hb7
 by_cases he:e=0
 ·have g2:(e != 0)=false:=by simp [he]
  subst he
  cases hbv:B with
  | false =>
   as_aux_lemma =>
    have h2:¬ 0<m:=by have:=HB.out;rw [hbv] at this;exact of_decide_eq_false this.symm
    have HV:=zhz (show R=(⟨Z,0,σ.out,σ.op⟩,s,[]) from by rw [HR.out,if_neg (by simp),if_neg h2])
    clear hbv h2
    go_wp2
    (first | go_end0 | ((try simp only [Exit.inBlock,Exit.then]);refine bodyPost_ret (results_none rfl _ _ _) rfl ?_))
    rw [HV.out]
    first | exact ⟨l,rfl,⟨C3.out,H3.out,HC.out.ap⟩,F3.out.mono (fun k hk=>Or.inl (Or.inl hk)),fun k hk=>Or.inl hk⟩ | exact ⟨rfl,l,⟨C3.out,H3.out,HC.out.ap⟩,F3.out.mono (fun k hk=>Or.inl (Or.inl hk)),fun k hk=>Or.inl hk⟩
  | true =>
   have hm:0<m:=by have:=HB.out;rw [hbv] at this;exact of_decide_eq_true this.symm
   have HV:=zhz (show R=(⟨Z,0,σ.out++H.ans s q,σ.op⟩,H.nxt s q,[q]) from by rw [HR.out,if_neg (by simp),if_pos hm])
   have HOK:=zhz (show okQ H.rules q from by rw [hr];exact (HQ.out hm).2.2)
   have HMO:=zhz (show ((H.ans s q).length:Int)≤(Kn.size:Int) - (σ.out.length:Int) from by
    have h1:=HFB.out
    rw [if_neg (by simp),if_pos hm] at h1
    have h2:=of_decide_eq_true h1
    have h3:=H.len s q HOK.out
    have h4:=HLE.out
    unfold CnN.room at h2
    omega)
   have CA:=zhz (H.cA w3.drew s l q (H.fr (G:=fun _=>False) H3.out (Fr.drew (Fr.refl _ _)) (fun _ _=>id)) hbud HOK.out)
   have hmm:=H.mA
   have hmn:=H.eA
   have k3:=C3.out.cells.1
   have K3:=zhz (show Blk w3.drew b7 _ (rqA q) from BK.out)
   have C4:=zhz (show CnAt w3.drew Kn ⟨Z,0,σ.out,σ.op⟩ from C3.out.keep (zaa (Below.refl _ _) 1))
   have F4:=zhz (show Fr (fun k=>k=Kn.c) w w3.drew from F3.out.drew)
   clear hbv hm
   go_upto_region 4 with (fail)
   refine wp_region_held_drew (S:=fun wx=>wx.cell? ⟨Kn.c,78,none⟩=some (.pointer (some ⟨Kn.ob,0,none⟩))∧∀ i,wx.cell? ⟨b7,i,none⟩=(rqA q)[i]?) (by kernel_rfl) ⟨k3,BK.out.rd⟩ (fun hHeld=>?_)
   refine wR 0 ?_
   refine wR 1 ?_
   refine wR 2 ?_
   refine wR 3 ?_
   refine wR 4 ?_
   refine wR 5 ?_
   refine wC 6 fun K hK=>?_
   go_simp
   ((with_reducible refine CA.out.mono ?_);rintro e5 w5 ⟨A5,n5,c5,l5,rfl,rd5,fr5,at5,f5,gr5⟩;have GR5:=zhz gr5;have R5:=zhz rd5;have FR5:=zhz fr5;have AT5:=zhz at5;have F5:=zhz f5;have C5:=zhz (show CnAt w5 Kn ⟨Z,0,σ.out,σ.op⟩ from C4.out.fr F5.out (fun b hb hh=>HC.out.ap b hb hh));have K5:=zhz (K3.out.fr F5.out (fun hh=>by have h1:=H.lt HC.out.h hh;have h2:=NW.out;omega));have CP:=zhz (zeu Kn.ob Kn.og Kn.size σ.out A5 n5 c5 (H.ans s q) w5 C5.out.b R5.out (by have h1:=HMO.out;have h2:=R5.out.len;omega) (fun bs off hn hA=>by have h1:=FR5.out bs off hn hA;have h2:=F4.out.size;have h3:=HLT.out Kn.ob (Or.inr (Or.inl rfl));have h4:=HLT.out Kn.og (Or.inr (Or.inr rfl));omega));clear rd5 fr5 at5 f5 gr5)
   refine hK.out _ _ (⟨C5.out.cells.1,K5.out.rd⟩) fun hHeld=>?_
   clear hK K
   try simp only [Act.put,zs1,zs2,zs3]
   refine wC 7 fun K hK=>?_
   go_simp
   ((with_reducible refine CP.out.mono ?_);rintro e6 w6 ⟨rfl,b6,f6⟩;have F6:=zhz f6;have C6:=zhz (show CnAt w6 Kn ⟨Z,0,σ.out++H.ans s q,σ.op⟩ from ⟨C5.out.d.fr f6 (fun hh=>by have:=HC.out.c.ne;omega),b6,HC.out.c.ne⟩);have K6:=zhz (K5.out.fr f6 (fun hh=>by have h1:=HLT.out Kn.ob (Or.inr (Or.inl rfl));have h2:=HLT.out Kn.og (Or.inr (Or.inr rfl));have h3:=NW.out;omega));clear b6 f6)
   refine hK.out _ _ (⟨C6.out.cells.1,K6.out.rd⟩) fun hHeld=>?_
   clear hK K
   try simp only [Act.put,zs1,zs2,zs3]
   refine wpAnyH_done (by kernel_rfl) ?_ _
   clear hHeld k3 hmm hmn
   have AP:=zhz (show ∀ k,Kn.F k→¬ H.F l5 k from fun k hk hh=>by
    rcases GR5.out k hh with h1 | h1
    ·exact HC.out.ap k hk h1
    ·have h2:=HLT.out k hk
     have h3:=F4.out.size
     omega)
   have GR:=zhz (show ∀ k,H.F l5 k→H.F l k∨w.heap.size≤k from fun k hh=>by
    rcases GR5.out k hh with h1 | h1
    ·exact Or.inl h1
    ·exact Or.inr (Nat.le_trans F4.out.size h1))
   have AT6:=zhz (show H.At w6 (H.nx1 s q) l5 from H.fr AT5.out F6.out (fun k hk hh=>AP.out k (Or.inr hh) hk))
   have FF:=zhz (show Fr (fun k=>Kn.F k∨H.F l k) w w6 from ((F4.out.mono (fun k hk=>Or.inl (Or.inl hk))).trans (F5.out.mono (fun k hk=>Or.inr hk))).trans (F6.out.mono (fun k hk=>Or.inl (Or.inr hk))))
   cases hw:H.wit with
   | false =>
    as_aux_lemma =>
     have ta:=H.tA
     rw [hw] at ta
     have ta:∀ w,(Instr.typeAssert (.iface H.T H.pv) 202 242 true).run Tryz.prog w=.ok (.tuple #[.nilIface,.bool false]) w:=ta
     have HS:=zhz (H.same hw s q)
     clear hw
     go_wp2
     (first | go_end0 | ((try simp only [Exit.inBlock,Exit.then]);refine bodyPost_ret (results_none rfl _ _ _) rfl ?_))
     rw [HV.out]
     first | refine ⟨l5,rfl,⟨C6.out,?_,AP.out⟩,FF.out,GR.out⟩ | refine ⟨rfl,l5,⟨C6.out,?_,AP.out⟩,FF.out,GR.out⟩
     show H.At w6 (H.nxt s q) l5;rw [HS.out];exact AT6.out
   | true =>
    as_aux_lemma =>
     have ta:=H.tA
     rw [hw] at ta
     have ta:∀ w,(Instr.typeAssert (.iface H.T H.pv) 202 242 true).run Tryz.prog w=.ok (.tuple #[.iface H.T H.pv,.bool true]) w:=ta
     have hmm:=H.mS hw
     have hmn:=H.eS hw
     have CS:=zhz (H.cS hw w6 s l5 q AT6.out hbud HOK.out)
     have k6:=K6.out.rd
     clear hw
     go_wp2_with ((with_reducible refine CS.out.mono ?_);rintro e7 w7 ⟨l7,rfl,at7,f7,gr7⟩;have AT7:=zhz at7;have F7:=zhz f7;have GR7:=zhz gr7;clear at7 f7 gr7)
     (first | go_end0 | ((try simp only [Exit.inBlock,Exit.then]);refine bodyPost_ret (results_none rfl _ _ _) rfl ?_))
     rw [HV.out]
     first | refine ⟨l7,rfl,⟨C6.out.fr F7.out (fun b hb hh=>AP.out b hb hh),AT7.out,fun k hk hh=>?_⟩,?_,fun k hh=>?_⟩ | refine ⟨rfl,l7,⟨C6.out.fr F7.out (fun b hb hh=>AP.out b hb hh),AT7.out,fun k hk hh=>?_⟩,?_,fun k hh=>?_⟩
     ·rcases GR7.out k hh with h1 | h1
      ·exact AP.out k hk h1
      ·have h2:=HLT.out k hk
       have h3:=FF.out.size
       omega
     ·refine ⟨F7.out.os.trans FF.out.os,F7.out.tape.trans FF.out.tape,F7.out.output.trans FF.out.output,Nat.le_trans FF.out.size F7.out.size,fun k hk hF=>?_⟩
      have hk6:k<w6.heap.size:=Nat.lt_of_lt_of_le hk FF.out.size
      rw [F7.out.block k hk6 (fun hh=>?_)]
      ·exact FF.out.block k hk hF
      ·rcases GR.out k hh with h1 | h1
       ·exact hF (Or.inr h1)
       ·omega
     ·rcases GR7.out k hh with h1 | h1
      ·exact GR.out k h1
      ·exact Or.inr (Nat.le_trans FF.out.size h1)
 ·as_aux_lemma =>
   have g2:(e != 0)=true:=by simpa using he
   have hm0:=HPE.out.2.2 he
   have HV:=zhz (show R=(⟨Z,e,σ.out++frmZ (errZ e),σ.op⟩,s,[]) from by rw [HR.out,if_pos he])
   have hbf:B=false:=by rw [HB.out,hm0];rfl
   have HRM:=zhz (show (6:Int)≤(Kn.size:Int) - (σ.out.length:Int) from by
    have h1:=HFB.out
    rw [if_pos he] at h1
    have h2:=of_decide_eq_true h1
    have h4:=HLE.out
    unfold CnN.room at h2
    omega)
   have CFa:=zhz (ze5 e (by have:=HPE.out;omega) w3.drew)
   have k3:=C3.out.cells.1
   have C4:=zhz (show CnAt w3.drew Kn ⟨Z,e,σ.out,σ.op⟩ from C3.out.keep (zaa (Below.refl _ _) 1))
   have F4:=zhz (show Fr (fun k=>k=Kn.c) w w3.drew from F3.out.drew)
   have HEB:=zhz (show 0≤e∧e≤10 from ⟨HPE.out.1,HPE.out.2.1⟩)
   subst hbf
   clear he hm0
   go_upto_region 2 with (fail)
   refine wp_region_held_drew (S:=fun wx=>wx.cell? ⟨Kn.c,78,none⟩=some (.pointer (some ⟨Kn.ob,0,none⟩))) (by kernel_rfl) k3 (fun hHeld=>?_)
   refine wR 0 ?_
   refine wR 1 ?_
   refine wR 2 ?_
   refine wR 3 ?_
   refine wR 4 ?_
   refine wC 5 fun K hK=>?_
   go_simp
   ((with_reducible refine CFa.out.mono ?_);rintro e5 w5 ⟨v5,rfl,o5,b5⟩;obtain ⟨g5,c5,rfl,rd5,hg5,_⟩:=zdR o5 (zd8 HEB.out) 6 rfl (by omega);have R5:=zhz rd5;have C5:=zhz (C4.out.keep b5);have B5:=zhz b5;have CP:=zhz (zeu Kn.ob Kn.og Kn.size σ.out (some ⟨g5,0,none⟩) 6 c5 (frmZ (errZ e)) w5 C5.out.b R5.out (by have h1:=HRM.out;omega) (fun bs off hn hA=>by injection hA with hA;injection hA with hA;have h2:=F4.out.size;have h3:=HLT.out Kn.ob (Or.inr (Or.inl rfl));have h4:=HLT.out Kn.og (Or.inr (Or.inr rfl));omega));clear rd5 o5 b5)
   refine hK.out _ _ (C5.out.cells.1) fun hHeld=>?_
   clear hK K
   try simp only [Act.put,zs1,zs2,zs3]
   refine wC 6 fun K hK=>?_
   go_simp
   ((with_reducible refine CP.out.mono ?_);rintro e6 w6 ⟨rfl,b6,f6⟩;have F6:=zhz f6;have C6:=zhz (show CnAt w6 Kn ⟨Z,e,σ.out++frmZ (errZ e),σ.op⟩ from ⟨C5.out.d.fr f6 (fun hh=>by have:=HC.out.c.ne;omega),b6,HC.out.c.ne⟩);clear b6 f6)
   refine hK.out _ _ (C6.out.cells.1) fun hHeld=>?_
   clear hK K
   try simp only [Act.put,zs1,zs2,zs3]
   refine wpAnyH_done (by kernel_rfl) ?_ _
   clear hHeld k3
   go_wp2
   (first | go_end0 | ((try simp only [Exit.inBlock,Exit.then]);refine bodyPost_ret (results_none rfl _ _ _) rfl ?_))
   rw [HV.out]
   first | refine ⟨l,rfl,⟨C6.out,?_,HC.out.ap⟩,?_,fun k hk=>Or.inl hk⟩ | refine ⟨rfl,l,⟨C6.out,?_,HC.out.ap⟩,?_,fun k hk=>Or.inl hk⟩
   ·exact H.fr (H.fr (G:=fun _=>False) H3.out (Fr.trans (Fr.drew (Fr.refl _ _)) (Fr.of_below B5.out)) (fun _ _=>id)) F6.out (fun k hk hh=>HC.out.ap k (Or.inr hh) hk)
   ·exact ((F4.out.mono (fun k hk=>Or.inl (Or.inl hk))).trans (Fr.of_below B5.out)).trans (F6.out.mono (fun k hk=>Or.inl (Or.inr hk)))
def acceptC (H:HostC) (Kn:CnN):CnS→H.S→List Int→Nat × CnS × H.S × List Req
 | σ,s,[]=>(0,σ,s,[])
 | σ,s,x :: r=>if fitsB H Kn σ x=true then
   (acceptC H Kn (comeC H Kn σ s x).1 (comeC H Kn σ s x).2.1 r |>.1)+1 |> fun n=>(n,(acceptC H Kn (comeC H Kn σ s x).1 (comeC H Kn σ s x).2.1 r).2.1,(acceptC H Kn (comeC H Kn σ s x).1 (comeC H Kn σ s x).2.1 r).2.2.1,(comeC H Kn σ s x).2.2++(acceptC H Kn (comeC H Kn σ s x).1 (comeC H Kn σ s x).2.1 r).2.2.2)
  else (0,σ,s,[])
theorem zbA {s:H.S} {x:Int} {r:List Int} (h:fitsB H Kn σ x=false):acceptC H Kn σ s (x :: r)=(0,σ,s,[]):=by
 unfold acceptC;rw [if_neg (by simp [h])]
theorem zbz {s:H.S} {x:Int} {r:List Int} (h:fitsB H Kn σ x=true):acceptC H Kn σ s (x :: r)=((acceptC H Kn (comeC H Kn σ s x).1 (comeC H Kn σ s x).2.1 r).1+1,(acceptC H Kn (comeC H Kn σ s x).1 (comeC H Kn σ s x).2.1 r).2.1,(acceptC H Kn (comeC H Kn σ s x).1 (comeC H Kn σ s x).2.1 r).2.2.1,(comeC H Kn σ s x).2.2++(acceptC H Kn (comeC H Kn σ s x).1 (comeC H Kn σ s x).2.1 r).2.2.2):=by
 conv=>lhs;unfold acceptC
 rw [if_pos h]
theorem zlr (s:H.S) (x:Int):(comeC H Kn σ s x).1.op=σ.op:=by unfold comeC;split;rfl;split <;> rfl
theorem zjD {s:H.S} (x:Int) {n:Nat} (h:H.bud s (n+1)):H.bud (comeC H Kn σ s x).2.1 n:=by
 unfold comeC
 split
 ·exact H.bud_le h
 ·split
  ·exact H.bud_nxt _ h
  ·exact H.bud_le h
theorem zhR {s:H.S}:∀ {n:Nat},H.bud s n→1≤n→H.bud s 1
 | 0,_,h=>by omega
 | 1,h,_=>h
 | n+2,h,_=>zhR (H.bud_le h) (by omega)
theorem zlA {F G:Nat→Prop} {a b c:World} (h:Fr F a b) (g:Fr G b c) (hG:∀ k,k<a.heap.size→G k→F k):Fr F a c :=
 ⟨g.os.trans h.os,g.tape.trans h.tape,g.output.trans h.output,Nat.le_trans h.size g.size,fun k hk hF=>(g.block k (Nat.lt_of_lt_of_le hk h.size) (fun e=>hF (hG k hk e))).trans (h.block k hk hF)⟩
theorem ziZ {k:IntKind} {A:Option Addr} {n c:Nat} {zs:List Int} {F:Nat→Prop} (h:RdI w k A n c zs) (hf:Fr F w w') (hF:∀ b off,0<n→A=some ⟨b,off,none⟩→¬ F b):RdI w' k A n c zs :=
 ⟨h.len,h.cap,h.max,fun hn=>by
  obtain ⟨b,off,e,hlt,hc⟩:=h.at_ hn
  exact ⟨b,off,e,Nat.lt_of_lt_of_le hlt hf.size,fun i hi=>by rw [hf.cell hlt (hF b off hn e)];exact hc i hi⟩,h.wf⟩
theorem ze0 (A:Option Addr) (n c:Nat) (zs:List Int) (w:World) (s:H.S) (l:H.L) (h:CH H w Kn σ s l) (hr:H.rules=Kn.rules) (hbud:H.bud s n) (ho:σ.op=true) (hz:RdI w .u8 A n c zs) (hap:∀ b off,0<n→A=some ⟨b,off,none⟩→¬ Kn.F b∧¬ H.F l b) :
  Calls Tryz.prog 77 #[.pointer (some ⟨Kn.c,0,none⟩),.slice A n c,H.hv] w fun e w'=>∃ l',e=.returned (.int .i64 ((acceptC H Kn σ s zs).1:Int))∧CH H w' Kn (acceptC H Kn σ s zs).2.1 (acceptC H Kn σ s zs).2.2.1 l'∧Fr (fun k=>Kn.F k∨H.F l k) w w'∧(∀ k,H.F l' k→H.F l k∨w.heap.size≤k):=by
 have CI:=zhz (zaI w h.c)
 rw [ho] at CI
 obtain ⟨R,hR⟩:=zeq (acceptC H Kn σ s zs)
 rw [← hR]
 have HR:=zhz hR
 have HC:=zhz h
 have HZ:=zhz hz
 have HAP:=zhz hap
 have hmx:=hz.max
 have hcp:=hz.cap
 unfold maxLen at hmx
 have HLN:=zhz hz.len
 clear h hz hap hR ho
 go_enter Tryz.func77,Tryz.ntmps77
 go_upto_region 3 with (go_at_call 24;((with_reducible refine CI.out.mono ?_);rintro e w1 ⟨rfl,rfl⟩))
 go_wp2
 go_loopg [14] n (fun kk sj wr=>∃ (j:Nat) (σj:CnS) (s':H.S) (lj:H.L),j≤n∧Hid (kk=n - j)∧sj=.int .i64 (j:Int)∧Hid (CH H wr Kn σj s' lj)∧Hid (Fr (fun k=>Kn.F k∨H.F l k) w wr)∧Hid (∀ k,H.F lj k→H.F l k∨w.heap.size≤k)∧Hid (H.bud s' (n - j))∧Hid (R.1=j+(acceptC H Kn σj s' (zs.drop j)).1∧R.2.1=(acceptC H Kn σj s' (zs.drop j)).2.1∧R.2.2.1=(acceptC H Kn σj s' (zs.drop j)).2.2.1))
 case atStart=>exact ⟨0,σ,s,l,by omega,zhz rfl,rfl,HC,zhz (Fr.refl _ _),zhz (fun k hk=>Or.inl hk),zhz hbud,zhz (by rw [HR.out,List.drop_zero];exact ⟨by omega,rfl,rfl⟩)⟩
 case round =>
  obtain ⟨j,σj,s',lj,hj,HK,rfl,HCj,HF,HG,HBU,HE⟩:=hrel
  by_cases hjn:j<n
  ·have hjl:j<zs.length:=by rw [HLN.out];exact hjn
   have HZj:=zhz (ziZ HZ.out HF.out (fun b off hn hA hh=>by have:=HAP.out b off hn hA;rcases hh with h | h;exact this.1 h;exact this.2 h))
   obtain ⟨g,off,rfl,hlt,hc⟩:=HZj.out.at_ (by omega)
   have c0:=hc j hjn
   have cb:=zfR (HZj.out.wf_at hjn)
   obtain ⟨x,hx⟩:=zeq (zs.getD j 0)
   have HDR:=zhz (show zs.drop j=x :: zs.drop (j+1) from by rw [hx,List.drop_eq_getElem_cons hjl];simp [List.getD,hjl])
   rw [← hx] at c0 cb
   obtain ⟨B,hB⟩:=zeq (fitsB H Kn σj x)
   have CFi:=zhz (zhU x cb wr HCj.out.c s' lj HCj.out.h hr)
   rw [← hB] at CFi
   have HB:=zhz hB
   have HX:=zhz cb
   have HJ:=zhz hjn
   clear hc hx hjl hlt cb hB hjn
   cases hbv:B with
   | false =>
    rw [hbv] at CFi HB
    have HS:=zhz (zbA (r:=zs.drop (j+1)) (s:=s') HB.out.symm)
    clear hbv
    go_wp2_with (go_at_call 101;((with_reducible refine CFi.out.mono ?_);rintro e' w3 ⟨rfl,b3⟩;have B3:=zhz b3;clear b3))
    go_ret
    have he:=HE.out
    rw [HDR.out,HS.out] at he
    obtain ⟨e1,e2,e3⟩:=he
    first | refine ⟨lj,by rw [e1];rfl,?_,HF.out.trans (Fr.of_below B3.out),HG.out⟩ | refine ⟨by rw [e1];rfl,lj,?_,HF.out.trans (Fr.of_below B3.out),HG.out⟩
    rw [e2,e3];exact HCj.out.keep B3.out
   | true =>
    rw [hbv] at CFi HB
    have HS:=zhz (zbz (r:=zs.drop (j+1)) (s:=s') HB.out.symm)
    have CCo:=zhz (fun wx (hb:Below wr.heap.size wr wx)=>zhS x HX.out wx s' lj (HCj.out.keep hb) hr (zhR HBU.out (by have:=HJ.out;omega)) HB.out.symm)
    clear hbv
    go_wp2_with (first
     | (go_at_call 101;((with_reducible refine CFi.out.mono ?_);rintro e' w3 ⟨rfl,b3⟩;have B3:=zhz b3;clear b3))
     | (go_at_call 102;((with_reducible refine (CCo.out _ B3.out).mono ?_);rintro e' w4 ⟨l4,rfl,h4,f4,g4⟩;have H4:=zhz h4;have F4:=zhz f4;have G4:=zhz g4;clear h4 f4 g4)))
    go_roundg (n - (j+1))
    case measure=>have:=HK.out;have:=HJ.out;omega
    case rel =>
     refine ⟨j+1,_,_,l4,HJ.out,zhz rfl,by go_num,H4,zhz ?_,zhz (fun k hk=>?_),zhz (zjD x (by have h1:=HBU.out;have h2:=HJ.out;rw [show n - j=n - (j+1)+1 by omega] at h1;exact h1)),zhz ?_⟩
     ·refine zlA (HF.out.trans (Fr.of_below B3.out)) F4.out (fun k hk hh=>?_)
      rcases hh with h1 | h1
      ·exact Or.inl h1
      ·rcases HG.out k h1 with h2 | h2
       ·exact Or.inr h2
       ·omega
     ·rcases G4.out k hk with h1 | h1
      ·exact HG.out k h1
      ·have h2:=HF.out.size
       have h3:=B3.out.size
       exact Or.inr (by omega)
     ·have he:=HE.out
      rw [HDR.out,HS.out] at he
      obtain ⟨e1,e2,e3⟩:=he
      exact ⟨by rw [e1];omega,e2,e3⟩
  ·have hie:n=j:=by omega
   subst hie
   have he:=HE.out
   rw [List.drop_eq_nil_of_le (by rw [HLN.out];exact Nat.le_refl _)] at he
   obtain ⟨e1,e2,e3⟩:=he
   have HE1:=zhz e1
   have HE2:=zhz e2
   have HE3:=zhz e3
   clear e1 e2 e3
   go_wp2
   go_ret
   first | refine ⟨lj,by rw [HE1.out];rfl,?_,HF.out,HG.out⟩ | refine ⟨by rw [HE1.out];rfl,lj,?_,HF.out,HG.out⟩
   rw [HE2.out,HE3.out];exact HCj.out
end
end Go.Proofs.YtannniobeanhlaaGreat
