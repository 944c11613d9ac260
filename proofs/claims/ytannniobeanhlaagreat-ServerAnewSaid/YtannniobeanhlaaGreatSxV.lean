import Derived.Test.YtannniobeanhlaaGreatHz
import Derived.Test.YtannniobeanhlaaGreatZSvW
import Derived.Test.YtannniobeanhlaaGreatZHa
import Derived.Test.YtannniobeanhlaaGreatZLm
import Derived.Test.YtannniobeanhlaaGreatZCfH
namespace Go.Proofs.YtannniobeanhlaaGreat
set_option linter.unusedSimpArgs false
set_option linter.unusedVariables false
set_option maxRecDepth 100000
set_option maxHeartbeats 9000000
open Go.ChangeShapes Go.WideShapes Go.ChangeAt Go.RowKit
theorem zjU {w:World} {g:Nat} {t:TypeId} (h:Blk w g t #[.int .u64 8]):RdI w .u64 (some ⟨g,0,none⟩) 1 1 [8] :=
 ⟨rfl,Nat.le_refl _,by unfold maxLen;omega,fun _=>⟨g,0,rfl,lt_of_block h,fun i hi=>by
  have h0:i=0:=by omega
  subst h0
  rw [Nat.zero_add,h.rd 0];rfl⟩,fun z hz=>by rw [List.mem_singleton.1 hz];decide⟩
theorem zgJ {c:SvC} {ck win:Int} {Ns:List LmN} {Ks:List CnN} (h1:0≤ck∧ck≤1000000) (h2:0≤win∧win≤4611686018427387904):(c.fresh ck Ns Ks).held win=win:=by
 unfold SvC.held SvC.fresh SvC.end SvC.read SvC.anew clamp
 have hm:max 0 ck=ck:=by omega
 dsimp only
 rw [hm,if_pos rfl]
 try simp only [Bool.false_eq_true,if_false]
 rw [if_neg (show ¬ (ck+win < -9223372036854775808) by omega),if_neg (show ¬ (9223372036854775807<ck+win) by omega)]
 omega
structure AnS (w:World) (base s:Nat) (ps:List RuZ) (now:Int) (Ns:List LmN) (Ks:List CnN) (c:SvC):Prop where
 sv:SrB w base s (confR ps) 660 Ns Ks c (rsZ (confR ps)) (List.replicate 3 cZ) 0
 kl:Ks.length=3
 now:c.now=now
 held:∀ win:Int,0≤win∧win≤4611686018427387904→c.held win=win
 ln:∀ (k:Nat) r N,(confR ps)[k]?=some r→Ns[k]?=some N→N.Q.N.n=r.Ce.toNat
theorem AnS.keep {w w':World} {base s:Nat} {ps:List RuZ} {now:Int} {Ns:List LmN} {Ks:List CnN} {c:SvC} (h:AnS w base s ps now Ns Ks c) (hb:Below w.heap.size w w'):AnS w' base s ps now Ns Ks c:=⟨h.sv.keep hb,h.kl,h.now,h.held,h.ln⟩
theorem SrE.anew {w:World} {base s:Nat} {ps:List RuZ} {now m:Int} {D:Nat→Prop} (h:SrE w base s ps 660 now m D) {ck:Int} (hck:0≤ck∧ck≤1000000) {A:Option Addr} {nb cc:Nat} {sd:List Int} (hm:nb≤1000) (hr:RdI w .u64 A nb cc sd) (hs:∀ b off,0<nb→A=some ⟨b,off,none⟩→b≠s) :
  Calls Tryz.prog 20 #[.pointer (some ⟨s,0,none⟩),.agg #[.int .i64 4,.int .i64 ck,.int .i64 0,.slice none 0 0,.int .i64 0,.slice A nb cc]] w fun e w'=>e=.returned (.agg #[.int .i64 0,.int .i64 0,.slice none 0 0,.slice none 0 0])∧∃ Ns Ks c,AnS w' base s ps ck Ns Ks c∧Fr (fun b=>base≤b) w w':=by
 obtain ⟨Ns,Ks,c,Ss,σs,h,h3,e,_⟩:=h
 refine (h.restart ck 0 0 (by omega) (.slice none 0 0) hm hr hs).mono ?_
 rintro e w' ⟨rfl,Ns',Ks',h1,h2,hL,_,h5⟩
 rw [h3] at h1
 exact ⟨rfl,Ns',Ks',_,⟨h1,h2.trans h3,(show max 0 ck=ck by omega),fun win hw=>zgJ hck hw,fun k r N h1 h2=>(hL k r N h1 h2).pC⟩,h5.mono (fun b hb=>by rw [hb];exact h.at_.lo)⟩
section
variable {w:World} {base s:Nat} {ps:List RuZ} {now:Int} {Ns:List LmN} {Ks:List CnN} {c:SvC}
theorem AnS.k (h:AnS w base s ps now Ns Ks c) {i:Nat} (hi:i<3):∃ K,CnAt w K cZ∧Calls Tryz.prog 23 #[.pointer (some ⟨s,0,none⟩),.int .i64 (i:Int)] w fun e w'=>e=.returned (.pointer (some ⟨K.c,0,none⟩))∧w=w':=by
 obtain ⟨K,hK⟩:∃ K,Ks[i]?=some K:=⟨_,List.getElem?_eq_getElem (by rw [h.kl];exact hi)⟩
 refine ⟨K,h.sv.at_.K.at_ i K cZ hK ?_,zbQ h.sv.at_ (by omega) hK w c h.sv.at_.sv rfl⟩
 rw [List.getElem?_replicate,if_pos hi]
theorem AnS.n (h:AnS w base s ps now Ns Ks c) {i:Nat} {r:RuZ} (hi:(confR ps)[i]?=some r):∃ N,Ns[i]?=some N∧i<8:=by
 have hil:i<(confR ps).length:=(List.getElem?_eq_some_iff.1 hi).1
 have hl8:=h.sv.ok.l.2
 have hnl:=h.sv.hn.nl
 exact ⟨_,List.getElem?_eq_getElem (by rw [hnl];exact hil),by omega⟩
theorem AnS.r (h:AnS w base s ps now Ns Ks c) {i:Nat} {r:RuZ} {N:LmN} (hi:(confR ps)[i]?=some r) (hN:Ns[i]?=some N) (h8:i<8):Calls Tryz.prog 26 #[.pointer (some ⟨s,0,none⟩),.int .i64 (i:Int)] w fun e w'=>e=.returned (.pointer (some ⟨N.l,0,none⟩))∧w=w':=by
 have hil:i<Ns.length:=(List.getElem?_eq_some_iff.1 hN).1
 refine zeL (c:=c) (by omega) ?_ w h.sv.at_.sv
 rw [h.sv.at_.cJ,List.getElem?_append_left (by rw [List.length_map];exact hil),List.getElem?_map,hN]
 rfl
theorem AnS.l (h:AnS w base s ps now Ns Ks c) {i:Nat} {r:RuZ} {N:LmN} (hi:(confR ps)[i]?=some r) (hN:Ns[i]?=some N):LmAt w N (lmZ r.Ce.toNat) :=
 h.sv.at_.J.at_ i N _ hN (by unfold rsZ;rw [List.getElem?_map,hi];rfl)
theorem zla {N:LmN} {C:Nat} (h:N.Q.N.n=C):(lmZ C).len N=0:=by
 unfold LmS.len
 have e:(lmZ C).σ.fl.length=C:=by show (kNew C).fl.length=C;simp [kNew]
 rw [e,h,Nat.sub_self];rfl
theorem AnS.tot (h:AnS w base s ps now Ns Ks c) {i:Nat} {r:RuZ} {N:LmN} (hi:(confR ps)[i]?=some r) (hN:Ns[i]?=some N):Calls Tryz.prog 30 #[.pointer (some ⟨N.l,0,none⟩)] w fun e w'=>e=.returned (.agg #[.int .i64 0,.int .i64 0,.int .i64 0,.int .i64 0,.int .i64 0])∧Below w.heap.size w w':=by
 have h1:=zcc w (h.l hi hN)
 rw [zla (h.ln i r N hi hN)] at h1
 exact h1
theorem AnS.top (h:AnS w base s ps now Ns Ks c) {i:Nat} {r:RuZ} {N:LmN} (hi:(confR ps)[i]?=some r) (hN:Ns[i]?=some N):Calls Tryz.prog 32 #[.pointer (some ⟨N.l,0,none⟩),.int .i64 9] w fun e w'=>∃ A c,e=.returned (.slice A 0 c)∧Below w.heap.size w w':=by
 refine (zee 9 (by omega) w (h.l hi hN)).mono (fun e w' hh=>?_)
 obtain ⟨A,c,h1,_,h2⟩:=hh
 exact ⟨A,c,by rw [h1];show _=Ending.returned (Value.slice A 0 c);rw [show min (topN 9 N.S.N.n) (lmZ r.Ce.toNat).M.length=0 from Nat.min_zero _],h2⟩
theorem AnS.nowC (h:AnS w base s ps now Ns Ks c):Calls Tryz.prog 22 #[.pointer (some ⟨s,0,none⟩)] w fun e w'=>e=.returned (.int .i64 now)∧w=w':=by
 rw [← h.now]
 exact zbR w h.sv.at_.sv
theorem AnS.heldC (h:AnS w base s ps now Ns Ks c) {win:Int} (hw:0≤win∧win≤4611686018427387904):Calls Tryz.prog 33 #[.pointer (some ⟨s,0,none⟩),.int .i64 win] w fun e w'=>e=.returned (.int .i64 win)∧Below w.heap.size w w':=by
 have h1:=zdm win h.sv.now h.sv.first (by omega) w h.sv.at_.sv
 rw [h.held win hw] at h1
 exact h1
end
def dzE (i:Int):DeZ:=⟨0,i,0,0,0,0,0,⟨#[]⟩,0,none,0,0,[]⟩
theorem zlj {w:World} {g:Nat} (h:Blk w g 82 #[.int .i64 0,.int .i64 0,.int .i64 0,.int .i64 0,.int .i64 0,.int .i64 0,.int .u32 0,.string ⟨#[]⟩,.int .i64 0,.slice none 0 0,.int .i64 0,.int .i64 1,.int .i64 0,.int .i64 0,.int .i64 0,.int .i64 0,.int .u32 0,.string ⟨#[]⟩,.int .i64 0,.slice none 0 0]) :
  w.ownsRow g 82 10 (.slice (some ⟨g,0,none⟩) 2 2) [dzE 0,dzE 1].length (csD [dzE 0,dzE 1]) :=
 ⟨rfl,Or.inr ⟨g,2,_,rfl,Nat.le_refl _,h,by decide,by unfold maxLen;decide,rfl,rfl⟩⟩
theorem zmk (w:World):∀ d ∈ [dzE 0,dzE 1],DeOK w d:=by
 intro d hd
 have h:∃ i:Int,d=dzE i∧0≤i∧i≤1:=by
  rcases List.mem_cons.1 hd with rfl | hd
  ·exact ⟨0,rfl,by decide,by decide⟩
  ·exact ⟨1,List.mem_singleton.1 hd,by decide,by decide⟩
 obtain ⟨i,rfl,h0,h1⟩:=h
 exact ⟨by unfold i64D dzE;dsimp only;omega,by unfold i64D dzE;dsimp only;omega,by unfold i64D dzE;dsimp only;omega,by unfold i64D dzE;dsimp only;omega,by unfold i64D dzE;dsimp only;omega,by unfold i64D dzE;dsimp only;omega,by unfold dzE;dsimp only;omega,Nat.zero_le _,by unfold i64D dzE;dsimp only;omega,zbs _ _⟩
theorem zlw {w w':World} {A:Option Addr} {n c:Nat} {rs:List RuZ} {F:Nat→Prop} (h:RdRu w A n c rs) (hf:Fr F w w') (hF:∀ b off,0<n→A=some ⟨b,off,none⟩→¬ F b):RdRu w' A n c rs :=
 ⟨h.cap,h.max,h.len,fun hn=>by
  obtain ⟨b,off,e,hlt,hc⟩:=h.at_ hn
  exact ⟨b,off,e,Nat.lt_of_lt_of_le hlt hf.size,fun i hi j hj=>by rw [hf.cell hlt (hF b off hn e)];exact hc i hi j hj⟩,h.ok⟩
theorem RdDe.new_ne {w w6 wA:World} {A:Option Addr} {n c:Nat} {L:List DeZ} (_:RdDe wA A n c L) {v:Nat} (_:Below w6.heap.size w6 wA) (h:RdDe w A n c L) (hle:w.heap.size≤v) :
  ∀ d ∈ [dzE 0,dzE 1]++L,∀ b off,0<d.n→d.A=some ⟨b,off,none⟩→(Value.slice (some ⟨v,0,none⟩) 2 2).ownBlock≠some b:=by
 intro d hd b off h0 hA e
 rcases List.mem_append.1 hd with q | q
 ·rcases List.mem_cons.1 q with rfl | q
  ·exact absurd h0 (Nat.lt_irrefl 0)
  ·rw [List.mem_singleton.1 q] at h0;exact absurd h0 (Nat.lt_irrefl 0)
 ·obtain ⟨b',off',e',hlt,_⟩:=(h.ok d q).raw.at_ h0
  rw [hA] at e'
  injection e' with e'
  injection e' with e'
  have e:some v=some b:=e
  injection e with e
  omega
theorem serveranew_law (w:World) (A:Option Addr) (n c:Nat) (lps:List RuZ) (Ad:Option Addr) (nd cd:Nat) (L:List DeZ) (As:Option Addr) (ns cs:Nat) (zs:List Int) (hrp:RdRu w A n c lps) (hrd:RdDe w Ad nd cd L) (hrs:RdI w .u64 As ns cs zs) :
  Calls Tryz.prog 8 #[.slice A n c,.slice Ad nd cd,.slice As ns cs] w fun e w'=>e=.returned (.bool true)∧Below w.heap.size w w':=by
 have hmxd:=hrd.max
 unfold maxLen at hmxd
 have hcpd:=hrd.cap
 have HRP:=zhz hrp
 have HRD:=zhz hrd
 clear hrp hrd
 have HRS:=zhz hrs
 clear hrs
 go_enter Tryz.func8,Tryz.ntmps8
 go_upto_region 3 with (go_at_call 12;((refine (zi0 _).mono ?_);rintro e w1 ⟨rfl,b1⟩;have B1:=zhz b1;clear b1))
 have CL:=zhz (zfI Ad nd cd L w1 (HRD.out.below B1.out))
 cases hlb:lightD L with
 | false =>
  rw [hlb] at CL
  go_wp2_with (go_at_call 13;((with_reducible refine CL.out.mono ?_);rintro e w2 ⟨rfl,b2⟩;have B2:=zhz (B1.out.trans (b2.mono B1.out.size));clear b2))
  go_ret
  exact ⟨rfl,B2.out⟩
 | true =>
 rw [hlb] at CL
 have HLD:=zhz (zh9 hlb)
 clear hlb
 by_cases hn2:(20:Int)<(ns:Int)
 ·have t20:decide ((20:Int)<(ns:Int))=true:=decide_eq_true hn2
  go_wp2_with (go_at_call 13;((with_reducible refine CL.out.mono ?_);rintro e w2 ⟨rfl,b2⟩;have B2:=zhz (B1.out.trans (b2.mono B1.out.size));clear b2))
  go_ret
  exact ⟨rfl,B2.out⟩
 have t20:decide ((20:Int)<(ns:Int))=false:=decide_eq_false hn2
 have HN2:=zhz hn2
 clear hn2
 go_upto_region 5 with (go_at_call 13;((with_reducible refine CL.out.mono ?_);rintro e w2 ⟨rfl,b2⟩;have B2:=zhz (show Below w.heap.size w w2 from B1.out.trans (b2.mono B1.out.size));clear b2))
 clear CL
 have CF:=zhz (zgs lps 660 A n c 0 rfl w2 (HRP.out.below B2.out))
 go_upto_region 6 with (go_at_call 14;((with_reducible refine CF.out.mono ?_);rintro e w3 ⟨A',m',c',rfl,r3,z3,b3⟩;obtain ⟨x1,x2,ex1,kr,kw,ex2,b4,k4⟩:=box4K w3 (.int .i64 4294967296) (.int .i64 3) (.int .i64 660) (.slice A' m' c');have B4:=zhz (show Below w.heap.size w x2 from (B2.out.trans (b3.mono B2.out.size)).trans (b4.mono (Nat.le_trans B2.out.size b3.size)));have R4:=zhz (r3.below b4);have Z4:=zhz z3;have K4:=zhz k4;clear r3 z3 b3 b4 k4))
 try rw [ex2]
 clear ex1 kr kw ex2 CF
 obtain ⟨cb,hcb⟩:=zeq (w3.heap.size)
 rw [← hcb] at K4 ⊢
 clear hcb
 have kc4:=K4.out.rd
 obtain ⟨w5,hw5,k5,b5,s5⟩:=zad x2 #[.int .u64 8] 69
 obtain ⟨sdb,hsdb⟩:=zeq (x2.heap.size)
 rw [← hsdb] at k5
 have B5:=zhz (show Below w.heap.size w w5 from B4.out.trans (b5.mono B4.out.size))
 have R5:=zhz (R4.out.below b5)
 have K5:=zhz (K4.out.keep b5)
 have HSB:=zhz hsdb
 have HNW:=zhz (show Calls Tryz.prog 15 #[.agg #[.int .i64 4294967296,.int .i64 3,.int .i64 660,.slice A' m' c'],.slice (some ⟨sdb,0,none⟩) 1 1] w5 (fun e w'=>∃ s,e=.returned (.tuple #[.pointer (some ⟨s,0,none⟩),.int .i64 0])∧SrE w' w5.heap.size s lps 660 0 0 (fun _=>False)∧Below w5.heap.size w5 w') from svnewE lps 660 A' m' c' (some ⟨sdb,0,none⟩) 1 1 [8] w5 R5.out Z4.out (by omega) (by omega) (zjU k5))
 clear k5 b5 s5 hsdb
 go_upto_region 7 with (first
  | (rw [← HSB.out];go_at_call 15;((with_reducible refine HNW.out.mono ?_);rintro e w6 ⟨s,rfl,h6,b6⟩;have B6:=zhz (show Below w.heap.size w w6 from B5.out.trans (b6.mono B5.out.size));have B56:=zhz b6;have H6:=zhz h6;clear h6 b6)))
 clear HNW kc4 hw5
 obtain ⟨base,hbase⟩:=zeq (w5.heap.size)
 rw [← hbase] at H6
 have HBS:=zhz (show w.heap.size≤base from by rw [hbase];exact B5.out.size)
 have R6:=zhz (R5.out.below B56.out)
 have HRB:=zhz (show ∀ b off,0<m'→A'=some ⟨b,off,none⟩→¬ base≤b from fun b off h0 e=>by obtain ⟨b',off',e',hlt,_⟩:=R5.out.at_ h0;rw [e] at e';injection e' with e';injection e' with e';rw [hbase];omega)
 have K6:=zhz (K5.out.keep B56.out)
 have HCB:=zhz (show cb<base from by rw [hbase];exact lt_of_block K5.out)
 clear hbase R5 K5 R4 K4
 have N6:=zhz (show Below w6.heap.size w6 w6.drew from zaa (Below.refl _ _) 1)
 have K7:=zhz (K6.out.keep N6.out)
 obtain ⟨wA,hwA,kA,bA,sA⟩:=zad w6.drew #[.int .i64 0,.int .i64 0,.int .i64 0,.int .i64 0,.int .i64 0,.int .i64 0,.int .u32 0,.string ⟨#[]⟩,.int .i64 0,.slice none 0 0,.int .i64 0,.int .i64 1,.int .i64 0,.int .i64 0,.int .i64 0,.int .i64 0,.int .u32 0,.string ⟨#[]⟩,.int .i64 0,.slice none 0 0] 82
 have BA:=zhz (show Below w6.heap.size w6 wA from zae N6.out bA)
 have OA:=zhz (zlj kA)
 have KA:=zhz (K7.out.keep bA)
 have RDA:=zhz (HRD.out.below (show Below w.heap.size w wA from B6.out.trans (BA.out.mono B6.out.size)))
 have HLA:=zhz (show w6.drew.heap.size<wA.heap.size from by rw [sA];omega)
 have HDN:=zhz (RDA.out.new_ne BA.out HRD.out B6.out.size)
 have kc7:=K7.out.rd
 have st:∀ j,w6.drew.cell? ⟨cb,j,none⟩=(#[.int .i64 4294967296,.int .i64 3,.int .i64 660,.slice A' m' c']:Array Value)[j]?:=K7.out.rd
 have HM1:=zhz (show 1≤m'∧m'≤8 from by have h1:=R6.out.len;have h2:=Z4.out.2.1;omega)
 have CA:=zhz (fun (wx:World) (g8 c8:Nat) (r8:RdDe wx (some ⟨g8,0,none⟩) (2+nd) c8 ([dzE 0,dzE 1]++L))=>show Calls Tryz.prog 18 #[.slice (some ⟨g8,0,none⟩) (2+nd) c8,.int .i64 (m':Int)] wx (fun e w'=>∃ v ls,e=.returned v∧AcR wx w' v ls∧ls.length=2+nd∧Below wx.heap.size wx w') from zhh _ _ c8 _ m' HM1.out wx r8 (by rw [List.length_append];have:=HLD.out.1;show 2+L.length≤160;omega) (fun d hd=>by
  rcases List.mem_append.1 hd with q | q
  ·rcases List.mem_cons.1 q with rfl | q
   ·exact ⟨Nat.zero_le _,Nat.zero_le _⟩
   ·rw [List.mem_singleton.1 q];exact ⟨Nat.zero_le _,Nat.zero_le _⟩
  ·exact HLD.out.2 d q))
 clear kA bA sA
 go_upto_region 9 with (fail)
 refine wp_region_held_drew (S:=fun wx=>∀ j,wx.cell? ⟨cb,j,none⟩=(#[.int .i64 4294967296,.int .i64 3,.int .i64 660,.slice A' m' c']:Array Value)[j]?) (by kernel_rfl) st (fun hHeld=>?_)
 clear st
 refine wR 0 ?_
 refine wR 1 ?_
 refine wR 3 ?_
 refine wR 5 ?_
 refine wR 6 ?_
 refine wR 7 ?_
 refine wR 10 ?_
 refine wC 2 fun K hK=>?_
 go_simp
 skip
 refine hK.out _ _ KA.out.rd fun hHeld=>?_
 clear hK K
 try simp only [Act.put,List.setIfInBounds_toArray,List.set_cons_zero,List.set_cons_succ]
 refine wC 4 fun K hK=>?_
 refine zhg (by rfl) _ _ cd (by rfl) (by rfl) (by rfl) (M:=[dzE 0,dzE 1]) (L:=L) (base:=w6.drew.heap.size) (by decide) (by decide) OA.out (zmk _) RDA.out (by have h1:=HLD.out.1;have h2:=HRD.out.len;omega) (by have:=HLA.out;omega) HDN.out ?_;intro g8 c8 w8 r8 gr8;have G8:=zhz (fr_row gr8);have R8:=zhz (show RdDe w8 (some ⟨g8,0,none⟩) (2+nd) c8 ([dzE 0,dzE 1]++L) from r8);have B8:=zhz (show Below w6.heap.size w6 w8 from BA.out.trans (G8.out.below BA.out.size (fun k hk=>by have e:some w6.heap.size=some k:=hk;injection e with e;omega)));have KB:=zhz (K6.out.keep B8.out);clear r8 gr8
 refine hK.out _ _ KB.out.rd fun hHeld=>?_
 clear hK K
 try simp only [Act.put,List.setIfInBounds_toArray,List.set_cons_zero,List.set_cons_succ]
 refine wC 8 fun K hK=>?_
 go_simp
 ((with_reducible refine (CA.out w8 g8 c8 R8.out).mono ?_);rintro v w9 ⟨v9,ls,rfl,a9,l9,b9⟩;obtain ⟨A9,c9,hv9⟩:=a9.slice;have G9:=zhz (DoS.start (H6.out.keep B8.out) HBS.out (B6.out.trans (B8.out.mono B6.out.size)) a9 b9);have L9:=zhz (And.intro l9 HLD.out.1);have KC:=zhz (KB.out.keep b9);have F9:=zhz (show Below w6.heap.size w6 w9 from zae B8.out b9);subst hv9;clear a9 l9 b9)
 refine hK.out _ _ KC.out.rd fun hHeld=>?_
 clear hK K
 try simp only [Act.put,List.setIfInBounds_toArray,List.set_cons_zero,List.set_cons_succ]
 refine wR 9 ?_
 refine wpAnyH_done (by kernel_rfl) ?_ _
 clear hHeld CA hwA kc7
 go_wp2
 obtain ⟨hi,hhi⟩:=zeq (w9.heap.size)
 rw [← hhi] at G9
 clear hhi
 obtain ⟨nn,hnn⟩:=zeq (ls.length)
 have HNN:=zhz (show nn=ls.length∧nn≤152 from ⟨hnn,by have:=L9.out;have:=HRD.out.len;omega⟩)
 try rw [← hnn]
 rw [← hnn] at G9
 clear hnn
 go_loopg [47] nn (fun kk si wr=>∃ (i:Nat) (now:Int),i≤nn∧Hid (kk=nn - i)∧si=.int .i64 (i:Int)∧Hid (DoS w w8 wr base s lps 660 now (500*2097153*(i:Int)) hi (.slice A9 nn c9) ls (fun _=>False))∧Hid (0≤now∧now≤163680)∧Hid (Fr (fun b=>base≤b) w6 wr))
 case atStart=>exact ⟨0,0,by omega,zhz rfl,rfl,G9,zhz (by omega),zhz (Fr.of_below F9.out)⟩
 case round =>
  obtain ⟨i,now,hi',HKK,rfl,HG,HNW,HF⟩:=hrel
  by_cases hin:i<nn
  ·obtain ⟨g,cg,hvg,hg1,hg2,hcg⟩:=HG.out.ac.at_ (by have:=HNN.out;omega)
   injection hvg with hvA hvn hvc
   subst hvA
   clear hvn hvc
   obtain ⟨a,ha⟩:∃ a,ls[i]?=some a:=⟨_,List.getElem?_eq_getElem (by have:=HNN.out;omega)⟩
   have HAM:=zhz (List.mem_of_getElem? ha)
   have HAH:=zhz (HG.out.ac.hold a HAM.out)
   have hca:=hcg i a ha
   obtain ⟨kd,ck,k,dA,na,ca,dn,sB,nb,cb'⟩:=a
   have kr0:wr.cell? ⟨g,i*6,none⟩=some (.int .i64 kd):=hca 0 (by omega)
   have kr1:wr.cell? ⟨g,i*6+1,none⟩=some (.int .i64 ck):=hca 1 (by omega)
   have kr2:wr.cell? ⟨g,i*6+2,none⟩=some (.int .i64 (k:Int)):=hca 2 (by omega)
   have kr3:wr.cell? ⟨g,i*6+3,none⟩=some (.slice dA na ca):=hca 3 (by omega)
   have kr4:wr.cell? ⟨g,i*6+4,none⟩=some (.int .i64 dn):=hca 4 (by omega)
   have kr5:wr.cell? ⟨g,i*6+5,none⟩=some (.slice sB nb cb'):=hca 5 (by omega)
   obtain ⟨x1,x2,ex1,kr,kw,ex2,bl2,kc2⟩:=box6E wr (.int .i64 kd) (.int .i64 ck) (.int .i64 (k:Int)) (.slice dA na ca) (.int .i64 dn) (.slice sB nb cb')
   obtain ⟨bx,hbx⟩:=zeq (wr.heap.size)
   rw [← hbx] at kc2
   have G2:=zhz (HG.out.box bl2 (bx:=bx) ⟨by omega,lt_of_block kc2⟩)
   have HBX:=zhz hbx
   have KC:=zhz kc2
   have BL2:=zhz bl2
   have HCK:=zhz (show 0≤ck∧ck≤163680 from HAH.out.ck)
   have t2:(i:Int)<(nn:Int):=by omega
   have t3:(nn:Int)≤152:=by have:=HNN.out.2;omega
   have HIN:=zhz hin
   clear hcg hca ha bl2 kc2 hbx hg1 hg2 hin
   go_upto_region 12 with (fail)
   try rw [ex2]
   rw [← HBX.out]
   clear ex1 kr kw ex2 kr0 kr1 kr2 kr3 kr4 kr5
   have kx:=KC.out.rd
   have CD:=zhz (show Calls Tryz.prog 20 #[.pointer (some ⟨s,0,none⟩),.agg #[.int .i64 kd,.int .i64 ck,.int .i64 (k:Int),.slice dA na ca,.int .i64 dn,.slice sB nb cb']] x2 (fun e w'=>∃ r,e=.returned r∧DoS w w8 w' base s lps 660 (if kd=4 then max 0 ck else max now ck) (500*2097153*(i:Int)+500*2097153) hi (.slice (some ⟨g,0,none⟩) nn c9) ls (fun b=>False∨b=bx)∧Fr (fun b=>base≤b∧¬ (w8.heap.size≤b∧b<hi∨(False∨b=bx))) x2 w') from
    G2.out.act HAM.out (ck:=ck) (by have:=HCK.out;omega) (by have h1:=HNN.out.2;have h2:=HIN.out;omega))
   go_upto_region 13 with (go_at_call 20;((with_reducible refine CD.out.mono ?_);rintro e wd ⟨r6,rfl,g6,f6⟩;have G6:=zhz g6;have F6:=zhz (show Fr (fun b=>base≤b) w6 wd from (HF.out.trans (Fr.of_below BL2.out)).trans (f6.mono (fun b hb=>hb.1)));clear g6 f6))
   clear kx CD
   go_wp2
   go_roundg (nn - (i+1))
   case measure=>have:=HKK.out;have:=HIN.out;omega
   case rel=>exact ⟨i+1,_,HIN.out,zhz rfl,by go_num,zhz (by rw [show 500*2097153*((i+1:Nat):Int)=500*2097153*(i:Int)+500*2097153 by omega];exact G6.out.drop (fun _ h=>h.elim)),zhz (by have h1:=HNW.out;have h2:=HCK.out;split <;> omega),F6⟩
  ·have hie:i=nn:=by omega
   subst hie
   have CN:=zhz (zlF HG.out.sv)
   go_upto_region 15 with (go_at_call 22;((with_reducible refine CN.out.mono ?_);rintro e w10 ⟨rfl,rfl⟩))
   clear CN
   have n1:0≤now:=HNW.out.1
   have n2:now≤163680:=HNW.out.2
   have HRW:=zhz (HRS.out.below HG.out.bl)
   have CD:=zhz (HG.out.sv.anew (ck:=now+3) (by omega) (A:=As) (nb:=ns) (cc:=cs) (by have:=HN2.out;omega) HRW.out (fun b off h0 e1 e2=>by
    obtain ⟨b',off',e',hlt,_⟩:=HRS.out.at_ h0
    rw [e1] at e'
    injection e' with e'
    injection e' with e'
    have h1:=HG.out.sv.lo
    have h2:=HBS.out
    omega))
   go_upto_region 16 with (go_at_call 20;((with_reducible refine CD.out.mono ?_);rintro e w11 ⟨rfl,Ns,Ks,c,h11,f11⟩;obtain ⟨y1,y2,ey1,kr,kw,ey2,b12,k12⟩:=box4S w11 (.int .i64 0) (.int .i64 0) (.slice none 0 0) (.slice none 0 0);have H12:=zhz (h11.keep b12);have K12:=zhz k12;have F12:=zhz (show Fr (fun b=>base≤b) wr y2 from f11.trans (Fr.of_below b12));clear h11 f11 b12 k12))
   try rw [ey2]
   clear ey1 kr kw ey2 CD
   obtain ⟨sb,hsb⟩:=zeq (w11.heap.size)
   rw [← hsb] at K12 ⊢
   clear hsb
   have B12:=zhz (show Below w.heap.size w y2 from HG.out.bl.trans (F12.out.below HG.out.bl.size (fun b hb=>by have h2:=HBS.out;omega)))
   have R12:=zhz (zlw R6.out (show Fr (fun b=>base≤b) w6 y2 from HF.out.trans F12.out) HRB.out)
   have KC12:=zhz (K6.out.fr (show Fr (fun b=>base≤b) w6 y2 from HF.out.trans F12.out) (by have:=HCB.out;omega))
   clear n1 n2
   go_wp2
   go_loopg [65] 3 (fun kk si wr'=>∃ (j:Nat),j≤3∧Hid (kk=3 - j)∧si=.int .i64 (j:Int)∧wr'=y2)
   case atStart=>exact ⟨0,by omega,zhz rfl,rfl,rfl⟩
   case round =>
    obtain ⟨j,hj,HKJ,rfl,hw⟩:=hrel
    have hw:=hw.symm
    subst hw
    by_cases hj3:j<3
    ·obtain ⟨K,hK1,hK2⟩:=H12.out.k hj3
     have CO:=zhz (zaD _ hK1)
     have CW:=zhz (zgD _ hK1)
     have CC:=zhz hK2
     have t7:(j:Int)<3:=by omega
     have HJ:=zhz hj3
     clear hK1 hK2 hj3
     go_upto_region 21 with (first
      | (go_at_call 23;((with_reducible refine CC.out.mono ?_);rintro e wy ⟨rfl,rfl⟩))
      | (go_at_call 24;((with_reducible refine CO.out.mono ?_);rintro e wy ⟨rfl,rfl⟩))
      | (go_at_call 25;((with_reducible refine CW.out.mono ?_);rintro e wy ⟨rfl,rfl⟩)))
     clear CO CW CC
     go_wp2
     go_roundg (3 - (j+1))
     case measure=>have:=HKJ.out;have:=HJ.out;omega
     case rel=>exact ⟨j+1,HJ.out,zhz rfl,by go_num,rfl⟩
    ·have hje:j=3:=by omega
     subst hje
     have kc12:=KC12.out.rd
     go_upto_region 23 with (fail)
     clear kc12
     go_loopg [83] m' (fun kk si wz=>∃ (j2:Nat),j2≤m'∧Hid (kk=m' - j2)∧si=.int .i64 (j2:Int)∧Hid (Below y2.heap.size y2 wz))
     case atStart=>exact ⟨0,by omega,zhz rfl,rfl,zhz (Below.refl _ _)⟩
     case round =>
      obtain ⟨j2,hj2,HKL,rfl,HB⟩:=hrel
      by_cases hjm:j2<m'
      ·obtain ⟨rb,off,hA',hbl,hcl⟩:=(R12.out.below HB.out).at_ (by omega)
       obtain ⟨r,hr⟩:∃ r,(confR lps)[j2]?=some r:=⟨_,List.getElem?_eq_getElem (by rw [R12.out.len];exact hjm)⟩
       have hc0:=hcl j2 (by rw [R12.out.len];exact hjm)
       rw [(List.getElem?_eq_some_iff.1 hr).2] at hc0
       obtain ⟨N,hN,h8⟩:=H12.out.n hr
       have HRW:=zhz (show 1≤r.W∧r.W≤1099511627776 from (Z4.out.2.2.2.1 r (List.mem_of_getElem? hr)).2.1)
       have HRN:=zhz (And.intro hr (And.intro hN h8))
       have kr0:wr.cell? ⟨rb,off+j2*9,none⟩=some (.int .i64 r.L):=hc0 0 (by omega)
       have kr1:wr.cell? ⟨rb,off+j2*9+1,none⟩=some (.int .i64 r.W):=hc0 1 (by omega)
       have kr2:wr.cell? ⟨rb,off+j2*9+2,none⟩=some (.int .i64 r.B):=hc0 2 (by omega)
       have kr3:wr.cell? ⟨rb,off+j2*9+3,none⟩=some (.int .i64 r.Sl):=hc0 3 (by omega)
       have kr4:wr.cell? ⟨rb,off+j2*9+4,none⟩=some (.int .i64 r.Ce):=hc0 4 (by omega)
       have kr5:wr.cell? ⟨rb,off+j2*9+5,none⟩=some (.int .i64 r.Ro):=hc0 5 (by omega)
       have kr6:wr.cell? ⟨rb,off+j2*9+6,none⟩=some (.int .i64 r.Wi):=hc0 6 (by omega)
       have kr7:wr.cell? ⟨rb,off+j2*9+7,none⟩=some (.int .i64 r.Tr):=hc0 7 (by omega)
       have kr8:wr.cell? ⟨rb,off+j2*9+8,none⟩=some (.bool r.sm):=hc0 8 (by omega)
       obtain ⟨x3,x4,ex3,kr,kw,ex4,bl2,kc2⟩:=box9R wr (.int .i64 r.L) (.int .i64 r.W) (.int .i64 r.B) (.int .i64 r.Sl) (.int .i64 r.Ce) (.int .i64 r.Ro) (.int .i64 r.Wi) (.int .i64 r.Tr) (.bool r.sm)
       have eA:A'=some ⟨rb,off,none⟩:=hA'
       have t8:(j2:Int)<(m':Int):=by omega
       have t9:(m':Int)≤8:=by have:=HM1.out;omega
       have HJM:=zhz hjm
       have BL2:=zhz bl2
       have KR:=zhz kc2
       clear hcl hc0 hbl hr hN h8 hjm bl2 kc2 hA'
       subst eA
       go_upto_region 25 with (fail)
       try rw [ex4]
       clear ex3 kr kw ex4 kr0 kr1 kr2 kr3 kr4 kr5 kr6 kr7 kr8
       obtain ⟨qb,hqb⟩:=zeq (wr.heap.size)
       rw [← hqb] at KR ⊢
       clear hqb
       have N1:=zhz (show Below x4.heap.size x4 x4.drew from zaa (Below.refl _ _) 1)
       have B4:=zhz (show Below y2.heap.size y2 x4.drew from zae (zae HB.out BL2.out) N1.out)
       have H13:=zhz (H12.out.keep B4.out)
       have K13:=zhz (KR.out.keep N1.out)
       have HN:=zhz HRN.out.2.1
       have CRu:=zhz (fun wx (hb:Below x4.drew.heap.size x4.drew wx)=>(H13.out.keep hb).r HRN.out.1 HN.out HRN.out.2.2)
       have CT:=zhz (fun wx (hb:Below x4.drew.heap.size x4.drew wx)=>(H13.out.keep hb).tot HRN.out.1 HN.out)
       have CP:=zhz (fun wx (hb:Below x4.drew.heap.size x4.drew wx)=>(H13.out.keep hb).top HRN.out.1 HN.out)
       have CH:=zhz (fun wx (hb:Below x4.drew.heap.size x4.drew wx)=>(H13.out.keep hb).heldC (win:=r.W) (by have:=HRW.out;omega))
       have ST:=zhz (fun wx (hb:Below x4.drew.heap.size x4.drew wx)=>show (∀ q,wx.cell? ⟨qb,q,none⟩=(#[.int .i64 r.L,.int .i64 r.W,.int .i64 r.B,.int .i64 r.Sl,.int .i64 r.Ce,.int .i64 r.Ro,.int .i64 r.Wi,.int .i64 r.Tr,.bool r.sm]:Array Value)[q]?) from (K13.out.keep hb).rd)
       have heq:∀ w,(Op.equalIn 10000 84 (.agg #[.int .i64 0,.int .i64 0,.int .i64 0,.int .i64 0,.int .i64 0]) (.agg #[.int .i64 0,.int .i64 0,.int .i64 0,.int .i64 0,.int .i64 0])).run Tryz.prog w=.ok true w:=fun w=>by rw [zeP];simp
       have enn:(r.W != r.W)=false:=by simp
       have st:=ST.out _ (Below.refl _ _)
       refine wp_region_held_drew (S:=fun wx=>∀ q,wx.cell? ⟨qb,q,none⟩=(#[.int .i64 r.L,.int .i64 r.W,.int .i64 r.B,.int .i64 r.Sl,.int .i64 r.Ce,.int .i64 r.Ro,.int .i64 r.Wi,.int .i64 r.Tr,.bool r.sm]:Array Value)[q]?) (by kernel_rfl) st (fun hHeld=>?_)
       clear st
       refine wR 0 ?_
       refine wR 1 ?_
       refine wR 4 ?_
       refine wC 2 fun K hK=>?_
       go_simp
       ((with_reducible refine (CRu.out _ (Below.refl _ _)).mono ?_);rintro v w21 ⟨rfl,rfl⟩)
       refine hK.out _ _ (ST.out _ (Below.refl _ _)) fun hHeld=>?_
       clear hK K
       try simp only [Act.put,List.setIfInBounds_toArray,List.set_cons_zero,List.set_cons_succ]
       refine wC 3 fun K hK=>?_
       go_simp
       ((with_reducible refine (CT.out _ (Below.refl _ _)).mono ?_);rintro v w21 ⟨rfl,b21⟩;have B21:=zhz b21;clear b21)
       refine hK.out _ _ (ST.out _ B21.out) fun hHeld=>?_
       clear hK K
       try simp only [Act.put,List.setIfInBounds_toArray,List.set_cons_zero,List.set_cons_succ]
       refine wR 5 ?_
       refine wR 6 ?_
       refine wR 7 ?_
       refine wR 8 ?_
       refine wC 9 fun K hK=>?_
       go_simp
       ((with_reducible refine (CRu.out _ B21.out).mono ?_);rintro v w22 ⟨rfl,rfl⟩)
       refine hK.out _ _ (ST.out _ B21.out) fun hHeld=>?_
       clear hK K
       try simp only [Act.put,List.setIfInBounds_toArray,List.set_cons_zero,List.set_cons_succ]
       refine wC 10 fun K hK=>?_
       go_simp
       ((with_reducible refine (CP.out _ B21.out).mono ?_);rintro v w23 ⟨A23,c23,rfl,b23⟩;have B23:=zhz (G.below_on B21.out b23);clear b23)
       refine hK.out _ _ (ST.out _ B23.out) fun hHeld=>?_
       clear hK K
       try simp only [Act.put,List.setIfInBounds_toArray,List.set_cons_zero,List.set_cons_succ]
       refine wR 11 ?_
       refine wR 12 ?_
       refine wR 13 ?_
       refine wR 14 ?_
       refine wR 15 ?_
       refine wR 16 ?_
       refine wR 17 ?_
       refine wR 18 ?_
       refine wR 19 ?_
       refine wR 21 ?_
       refine wR 22 ?_
       refine wC 20 fun K hK=>?_
       go_simp
       ((with_reducible refine (CH.out _ B23.out).mono ?_);rintro v w24 ⟨rfl,b24⟩;have B24:=zhz (G.below_on B23.out b24);clear b24)
       refine hK.out _ _ (ST.out _ B24.out) fun hHeld=>?_
       clear hK K
       try simp only [Act.put,List.setIfInBounds_toArray,List.set_cons_zero,List.set_cons_succ]
       refine wR 23 ?_
       refine wR 24 ?_
       refine wpAnyH_done (by kernel_rfl) ?_ _
       clear hHeld CRu CT CP CH heq enn
       go_wp2
       go_roundg (m' - (j2+1))
       case measure=>have:=HKL.out;have:=HJM.out;omega
       case rel=>exact ⟨j2+1,HJM.out,zhz rfl,by go_num,zhz (zae B4.out B24.out)⟩
      ·have hje:j2=m':=by omega
       have H13:=zhz (H12.out.keep HB.out)
       have K13:=zhz (K12.out.keep HB.out)
       have B13:=zhz (zae B12.out HB.out)
       clear H12 K12 B12 R12 KC12 KC KB R6 K6 K7 KA
       subst hje
       have CS:=zhz (show Calls Tryz.prog 19 #[.agg #[.int .i64 0,.int .i64 0,.slice none 0 0,.slice none 0 0],.agg #[.int .i64 0,.int .i64 0,.slice none 0 0,.slice none 0 0]] wr (fun x w'=>x=.returned (.bool true)∧Below wr.heap.size wr w') from zj4 0 0 none none none none 0 0 0 0 0 0 [] [] wr (zbs _ _) (zbs _ _) (RdE.nil _) (RdE.nil _) (by decide))
       have CN:=zhz (fun wx (hb:Below wr.heap.size wr wx)=>(H13.out.keep hb).nowC)
       have kx:=K13.out.rd
       have n1:0≤now:=HNW.out.1
       have n2:now≤163680:=HNW.out.2
       go_wp2_with (first
        | (go_at_call 19;((with_reducible refine CS.out.mono ?_);rintro e w30 ⟨rfl,b30⟩;have B30:=zhz b30;clear b30))
        | (go_at_call 22;((with_reducible refine (CN.out _ B30.out).mono ?_);rintro e w31 ⟨rfl,rfl⟩)))
       go_ret
       exact ⟨rfl,zae B13.out B30.out⟩
end Go.Proofs.YtannniobeanhlaaGreat
