import Derived.Test.YtannniobeanhlaaGreatZCellB
import Derived.Test.YtannniobeanhlaaGreatZLiftS
import Derived.Test.YtannniobeanhlaaGreatZHa
set_option linter.unusedSimpArgs false
set_option linter.unusedVariables false
set_option maxRecDepth 100000
set_option maxHeartbeats 9000000
namespace Go.Proofs.YtannniobeanhlaaGreat
open Go.ChangeShapes Go.WideShapes Go.ChangeAt Go.RowKit
section
open Ar (inR)
structure RuZ where
 L:Int
 W:Int
 B:Int
 Sl:Int
 Ce:Int
 Ro:Int
 Wi:Int
 Tr:Int
 sm:Bool
def RuZ.c (r:RuZ):Array Value:=ruC r.L r.W r.B r.Sl r.Ce r.Ro r.Wi r.Tr r.sm
def RuZ.p (r:RuZ):Prop:=ruleP r.L r.W r.B r.Sl r.Ce r.Ro r.Wi r.Tr r.sm
def RuZ.ok (r:RuZ):Prop:=RuleOK r.L r.W r.B r.Sl r.Ce r.Ro r.Wi r.Tr
def RuZ.bytes (r:RuZ):Int:=bytesZ r.Sl r.Ce r.Ro r.Wi r.Tr
structure RdRu (w:World) (A:Option Addr) (n c:Nat) (rs:List RuZ):Prop where
 cap:n≤c
 max:c≤maxLen
 len:rs.length=n
 at_:0<n→∃ b off,A=some ⟨b,off,none⟩∧b<w.heap.size∧∀ i (h:i<rs.length) j,j<9→w.cell? ⟨b,off+i*9+j,none⟩=(rs[i]).c[j]?
 ok:∀ r ∈ rs,r.ok
theorem RdRu.below {w w':World} {A:Option Addr} {n c:Nat} {rs:List RuZ} (h:RdRu w A n c rs) (hb:Below w.heap.size w w'):RdRu w' A n c rs :=
 ⟨h.cap,h.max,h.len,fun hn=>by
  obtain ⟨b,off,e,hlt,hc⟩:=h.at_ hn
  exact ⟨b,off,e,Nat.lt_of_lt_of_le hlt hb.size,fun i hi j hj=>by rw [hb.cell (p:=⟨b,off+i*9+j,none⟩) hlt];exact hc i hi j hj⟩,h.ok⟩
def sumB:List RuZ→Int
 | []=>0
 | r :: l=>r.bytes+sumB l
theorem zeL:∀ (l:List RuZ) (r:RuZ),sumB (l++[r])=sumB l+r.bytes
 | [],r=>by simp [sumB]
 | a :: l,r=>by simp only [List.cons_append,sumB,zeL l r];omega
theorem zjo {l:List RuZ} {i:Nat} (h:i<l.length):sumB (l.take (i+1))=sumB (l.take i)+(l[i]).bytes:=by
 rw [List.take_succ_eq_append_getElem h,zeL]
theorem zdA {r:RuZ} (h:r.p):1≤r.bytes∧r.bytes≤18000000:=by
 obtain ⟨_,_,_,h4,_,h6,h7,h8,h9,_,_⟩:=h
 have p1:=zgi h7 h8
 have p2:=zgi (a:=r.Sl+1) (b:=16+8*(r.Ro*r.Wi)) (A:=65) (B:=262160) (by omega) (by omega)
 unfold RuZ.bytes bytesZ
 omega
theorem zjn:∀ (l:List RuZ),(∀ r ∈ l,r.p)→0≤sumB l∧sumB l≤18000000*(l.length:Int)
 | [],_=>by simp [sumB]
 | a :: l,h=>by
  have h1:=zdA (h a (by simp))
  have h2:=zjn l (fun r hr=>h r (by simp [hr]))
  simp only [sumB,List.length_cons]
  omega
theorem zjP (Bu Co Ou:Int) (A:Option Addr) (n c:Nat) (rs:List RuZ) (w:World) (hr:RdRu w A n c rs) (hn:n≤8) (hp:∀ r ∈ rs,r.p) (hC:1≤Co∧Co≤16) (hO:0≤Ou∧Ou≤65536) :
  Calls Tryz.prog 42 #[.agg #[.int .i64 Bu,.int .i64 Co,.int .i64 Ou,.slice A n c]] w fun e w'=>e=.returned (.int .i64 (Co*Ou+sumB rs))∧Below w.heap.size w w':=by
 obtain ⟨P,hP⟩:∃ P,Co*Ou=P:=⟨_,rfl⟩
 have hPb:0≤P∧P≤1048576:=by
  rw [← hP]
  exact ⟨Int.mul_nonneg (by omega) (by omega),by have:=Int.mul_le_mul hC.2 hO.2 (by omega) (by omega);omega⟩
 have hPw:IntKind.i64.wrap (Co*Ou)=P:=by rw [hP,IntKind.wrap_i64];omega
 have hcp:=hr.cap
 have hmx:=hr.max
 unfold maxLen at hmx
 have HR:=zhz hr
 have HP:=zhz hp
 have HPP:=zhz hP
 clear hr hp hP
 rw [show Co*Ou+sumB rs=P+sumB rs from by rw [HPP.out]]
 go_enter Tryz.func42,Tryz.ntmps42
 go_upto_region 1 with (fail)
 obtain ⟨w1,hw1,hbk,hbl,hsz1⟩:=zad w #[.int .i64 Bu,.int .i64 Co,.int .i64 Ou,.slice A n c] 29
 change Code.wp _ _ _ _ (w.alloc (.cells #[.int .i64 Bu,.int .i64 Co,.int .i64 Ou,.slice A n c] 29))
 rw [hw1]
 obtain ⟨b0,hb0⟩:=zeq (w.heap.size)
 rw [← hb0] at hbk ⊢
 have k0:=hbk.rd
 have BK:=zhz hbk
 have BL:=zhz hbl
 clear hbk hbl hsz1 hw1 hb0
 have CB:=zhz (fun (z:Int) (w:World)=>show Calls Tryz.prog 69 #[.int .i64 z] w (fun e w'=>e=.returned (.int .i64 z)∧w'=w) from by
  go_enter Tryz.func69,Tryz.ntmps69
  go_wp2
  go_ret
  exact ⟨rfl,rfl⟩)
 go_quiet ((go_at_call 69;(with_reducible exact Calls.quiet_of_same (CB.out _ _))))
 have BK1:=zhz (BK.out.keep (zaa (Below.refl _ _) nq))
 have BL1:=zhz (zaa BL.out nq)
 obtain ⟨w2,hw2⟩:=zeq (w1.drewN nq)
 rw [← hw2] at BK1 BL1 ⊢
 have HR2:=zhz (HR.out.below BL1.out)
 have k2:=BK1.out.rd
 clear hw2 k0 BK BL hPw CB
 go_upto_region 3 with (fail)
 clear k2 BK1
 go_loopg [3,15] n (fun k s3 s15 wr=>∃ i:Nat,i≤n∧k=n - i∧s3=.int .i64 (P+sumB (rs.take i))∧s15=.int .i64 (i:Int)∧Below w2.heap.size w2 wr)
 case atStart=>exact ⟨0,by omega,by omega,by simp [sumB],rfl,Below.refl _ _⟩
 case round =>
  obtain ⟨i,hi,hkk,rfl,rfl,hb⟩:=hrel
  have HK:=zhz hkk
  have HBR:=zhz hb
  have hlen:=HR.out.len
  obtain ⟨s,hs⟩:=zeq (sumB (rs.take i))
  rw [← hs]
  have hsb:0≤s∧s≤144000000:=by
   have:=zjn (rs.take i) (fun r hr=>HP.out r (List.mem_of_mem_take hr))
   rw [← hs,List.length_take] at this
   omega
  have HS:=zhz hs
  clear hkk hs
  by_cases hin:i<n
  ·have hir:i<rs.length:=by omega
   obtain ⟨gb,off,rfl,hlt,hc⟩:=(HR2.out.below hb).at_ (by omega)
   have hcc:=hc i hir
   have hrp:=HP.out _ (List.getElem_mem hir)
   have HNX:=zhz (zjo hir)
   obtain ⟨r,hrr⟩:=zeq (rs[i])
   rw [← hrr] at hcc hrp HNX
   have hbb:=zdA hrp
   have CL:=zhz (fun w=>zj0 r.L r.W r.B r.Sl r.Ce r.Ro r.Wi r.Tr r.sm hrp.2.2.2.1 hrp.2.2.2.2.2.2.1 hrp.2.2.2.2.2.2.2.1 hrp.2.2.2.2.2.1 hrp.2.2.2.2.2.2.2.2.1 w)
   obtain ⟨L,W,B,Sl,Ce,Ro,Wi,Tr,sm⟩:=r
   obtain ⟨y,hy⟩:=zeq (RuZ.bytes ⟨L,W,B,Sl,Ce,Ro,Wi,Tr,sm⟩)
   rw [← hy] at hbb HNX
   have CL2:=zhz (fun w=>show Calls Tryz.prog 70 #[ruV L W B Sl Ce Ro Wi Tr sm] w (fun e w'=>e=.returned (.int .i64 y)∧Below w.heap.size w w') from by rw [hy];exact CL.out w)
   have c0:=hcc 0 (by omega)
   have c1:=hcc 1 (by omega)
   have c2:=hcc 2 (by omega)
   have c3:=hcc 3 (by omega)
   have c4:=hcc 4 (by omega)
   have c5:=hcc 5 (by omega)
   have c6:=hcc 6 (by omega)
   have c7:=hcc 7 (by omega)
   have c8:=hcc 8 (by omega)
   simp [RuZ.c] at c0 c1 c2 c3 c4 c5 c6 c7 c8
   clear hrr hy hrp CL hc hcc hlen hb
   go_upto_region 5 with (fail)
   clear c0 c1 c2 c3 c4 c5 c6 c7 c8
   obtain ⟨w3,hw3,hbk,hbl,hsz⟩:=zad wr (ruC L W B Sl Ce Ro Wi Tr sm) 52
   change Code.wp _ _ _ _ (wr.alloc (.cells (ruC L W B Sl Ce Ro Wi Tr sm) 52))
   rw [hw3]
   obtain ⟨b3,hb3⟩:=zeq (wr.heap.size)
   rw [← hb3] at hbk ⊢
   have k3:=hbk.rd
   have B3:=zhz (HBR.out.trans (hbl.mono HBR.out.size))
   clear hbk hbl hsz hw3 hb3 hlt
   go_wp2_with (go_at_call 70;((with_reducible refine (CL2.out _).mono ?_);rintro e w4 ⟨rfl,b4⟩;have B4:=zhz (B3.out.trans (b4.mono B3.out.size));clear b4))
   go_roundg (n - (i+1))
   case measure=>have:=HK.out;omega
   case rel =>
    refine ⟨i+1,by omega,by omega,?_,by go_num,B4.out⟩
    rw [HNX.out,← HS.out]
    go_num
  ·have hie:i=n:=by omega
   subst hie
   have HEQ:=zhz (show s=sumB rs from by rw [HS.out,List.take_of_length_le (by omega)])
   have B5:=zhz (BL1.out.trans (HBR.out.mono BL1.out.size))
   clear hlen hb
   go_wp2
   go_ret
   exact ⟨by rw [← HEQ.out];rfl,B5.out⟩
end
theorem zhl (L W B Sl Ce Ro Wi Tr L' W' B' Sl' Ce' Ro' Wi' Tr':Int) (sm sm':Bool) (w:World) :
  (Op.equalIn 10000 52 (.agg #[.int .i64 L,.int .i64 W,.int .i64 B,.int .i64 Sl,.int .i64 Ce,.int .i64 Ro,.int .i64 Wi,.int .i64 Tr,.bool sm]) (.agg #[.int .i64 L',.int .i64 W',.int .i64 B',.int .i64 Sl',.int .i64 Ce',.int .i64 Ro',.int .i64 Wi',.int .i64 Tr',.bool sm'])).run Tryz.prog w=.ok (decide (L=L'∧W=W'∧B=B'∧Sl=Sl'∧Ce=Ce'∧Ro=Ro'∧Wi=Wi'∧Tr=Tr'∧sm=sm')) w:=by
 have hS:Tryz.prog.underlying 52=some (.struct (Tryz.prog.fieldsOf 52)):=by kernel_rfl
 have hp:Tryz.prog.stoodInHeld 52=false:=by kernel_rfl
 rw [show (10000:Nat)=9999+1 from rfl,run_equalIn_agg w 9999 52 _ _ hS hp]
 simp only [Program.fieldsOf,Tryz.underlying52]
 go_simp
 have hb:(sm==sm')=decide (sm=sm'):=by cases sm <;> cases sm' <;> rfl
 by_cases hL:L=L'
 case neg=>simp [hL]
 by_cases hW:W=W'
 case neg=>simp [hW]
 by_cases hB:B=B'
 case neg=>simp [hB]
 by_cases hSl:Sl=Sl'
 case neg=>simp [hSl]
 by_cases hCe:Ce=Ce'
 case neg=>simp [hCe]
 by_cases hRo:Ro=Ro'
 case neg=>simp [hRo]
 by_cases hWi:Wi=Wi'
 case neg=>simp [hWi]
 by_cases hTr:Tr=Tr'
 case neg=>simp [hTr]
 by_cases hs:sm=sm' <;> simp [hb,hs,hL,hW,hB,hSl,hCe,hRo,hWi,hTr]
theorem RdRu.take {w:World} {A:Option Addr} {n c:Nat} {rs:List RuZ} (h:RdRu w A n c rs) {i:Nat} (hi:i≤n):RdRu w A i c (rs.take i) :=
 ⟨by have:=h.cap;omega,h.max,by rw [List.length_take,h.len];omega,fun h0=>by
  obtain ⟨b,off,e,hlt,hc⟩:=h.at_ (by omega)
  refine ⟨b,off,e,hlt,fun k hk j hj=>?_⟩
  have hk':k<i:=by rw [List.length_take] at hk;omega
  rw [hc k (by rw [h.len];omega) j hj,List.getElem_take],fun r hr=>h.ok r (List.mem_of_mem_take hr)⟩
theorem RuZ.eq_iff (a b:RuZ):(a.L=b.L∧a.W=b.W∧a.B=b.B∧a.Sl=b.Sl∧a.Ce=b.Ce∧a.Ro=b.Ro∧a.Wi=b.Wi∧a.Tr=b.Tr∧a.sm=b.sm) ↔ a=b:=by
 cases a;cases b;simp
theorem zd2 (A:Option Addr) (n c:Nat) (rs:List RuZ) (r0:RuZ) (v:Bool) (hv:v=true ↔ r0 ∈ rs) (w:World) (hr:RdRu w A n c rs) :
  Calls Tryz.prog 39 #[.slice A n c,ruV r0.L r0.W r0.B r0.Sl r0.Ce r0.Ro r0.Wi r0.Tr r0.sm] w fun e w'=>e=.returned (.bool v)∧Below w.heap.size w w':=by
 have hcp:=hr.cap
 have hmx:=hr.max
 unfold maxLen at hmx
 have HR:=zhz hr
 clear hr
 obtain ⟨L0,W0,B0,S0,C0,R0,I0,T0,s0⟩:=r0
 have HV:=zhz hv
 clear hv
 simp only
 go_enter Tryz.func39,Tryz.ntmps39
 go_upto_region 1 with (fail)
 obtain ⟨w1,hw1,hbk,hbl,hsz1⟩:=zad w (ruC L0 W0 B0 S0 C0 R0 I0 T0 s0) 52
 change Code.wp _ _ _ _ (w.alloc (.cells (ruC L0 W0 B0 S0 C0 R0 I0 T0 s0) 52))
 rw [hw1]
 obtain ⟨b0,hb0⟩:=zeq (w.heap.size)
 rw [← hb0] at hbk ⊢
 have BK0:=zhz hbk
 have BL1:=zhz hbl
 have HR2:=zhz (HR.out.below hbl)
 clear hbk hbl hsz1 hw1 hb0
 go_upto_region 2 with (fail)
 go_loopg [9] n (fun k s9 wr=>∃ i:Nat,i≤n∧k=n - i∧s9=.int .i64 (i:Int)∧Hid (RuZ.mk L0 W0 B0 S0 C0 R0 I0 T0 s0 ∉ rs.take i)∧Below w1.heap.size w1 wr)
 case atStart=>exact ⟨0,by omega,by omega,rfl,zhz (by simp),Below.refl _ _⟩
 case round =>
  obtain ⟨i,hi,hkk,rfl,hno,hb⟩:=hrel
  have HK:=zhz hkk
  have HBR:=zhz hb
  have hlen:=HR.out.len
  clear hkk
  by_cases hin:i<n
  ·have hir:i<rs.length:=by omega
   obtain ⟨gb,off,rfl,hlt,hc⟩:=(HR2.out.below hb).at_ (by omega)
   have hcc:=hc i hir
   have HT:=zhz (List.take_succ_eq_append_getElem hir)
   have HM:=zhz (List.getElem_mem hir)
   obtain ⟨r,hrr⟩:=zeq (rs[i])
   rw [← hrr] at hcc HT HM
   obtain ⟨L,W,B,Sl,Ce,Ro,Wi,Tr,sm⟩:=r
   have c0:=hcc 0 (by omega)
   have c1:=hcc 1 (by omega)
   have c2:=hcc 2 (by omega)
   have c3:=hcc 3 (by omega)
   have c4:=hcc 4 (by omega)
   have c5:=hcc 5 (by omega)
   have c6:=hcc 6 (by omega)
   have c7:=hcc 7 (by omega)
   have c8:=hcc 8 (by omega)
   simp [RuZ.c] at c0 c1 c2 c3 c4 c5 c6 c7 c8
   clear hrr hc hcc hlen hb
   go_upto_region 4 with (fail)
   clear c0 c1 c2 c3 c4 c5 c6 c7 c8
   obtain ⟨w3,hw3,hbk,hbl,hsz⟩:=zad wr (ruC L W B Sl Ce Ro Wi Tr sm) 52
   change Code.wp _ _ _ _ (wr.alloc (.cells (ruC L W B Sl Ce Ro Wi Tr sm) 52))
   rw [hw3]
   obtain ⟨b3,hb3⟩:=zeq (wr.heap.size)
   rw [← hb3] at hbk ⊢
   have k3:=hbk.rd
   have B3:=zhz (HBR.out.trans (hbl.mono HBR.out.size))
   have k0:=(BK0.out.keep B3.out).rd
   clear hbk hbl hsz hw3 hb3 hlt
   have he:=zhl L W B Sl Ce Ro Wi Tr L0 W0 B0 S0 C0 R0 I0 T0 sm s0
   obtain ⟨q,hq⟩:=zeq (decide (L=L0∧W=W0∧B=B0∧Sl=S0∧Ce=C0∧Ro=R0∧Wi=I0∧Tr=T0∧sm=s0))
   simp only [← hq] at he
   have HQ:=zhz (show q=true ↔ RuZ.mk L W B Sl Ce Ro Wi Tr sm=RuZ.mk L0 W0 B0 S0 C0 R0 I0 T0 s0 from by rw [hq,decide_eq_true_iff];exact RuZ.eq_iff ⟨L,W,B,Sl,Ce,Ro,Wi,Tr,sm⟩ ⟨L0,W0,B0,S0,C0,R0,I0,T0,s0⟩)
   clear hq
   cases q
   ·go_wp2
    go_roundg (n - (i+1))
    case measure=>have:=HK.out;omega
    case rel =>
     refine ⟨i+1,by omega,by omega,by go_num,zhz ?_,B3.out⟩
     rw [HT.out,List.mem_append]
     rintro (h | h)
     ·exact hno.out h
     ·exact absurd (HQ.out.2 (List.mem_singleton.1 h).symm) (by simp)
   ·go_wp2
    go_ret
    exact ⟨congrArg (fun z=>Ending.returned (.bool z)) (HV.out.2 (by rw [← HQ.out.1 (by trivial)];exact HM.out)).symm,BL1.out.trans (B3.out.mono BL1.out.size)⟩
  ·have hie:i=n:=by omega
   subst hie
   have HN:=zhz (show RuZ.mk L0 W0 B0 S0 C0 R0 I0 T0 s0 ∉ rs from by have:=hno.out;rwa [List.take_of_length_le (by omega)] at this)
   have B5:=zhz (BL1.out.trans (HBR.out.mono BL1.out.size))
   clear hlen hb
   go_wp2
   go_ret
   exact ⟨congrArg (fun z=>Ending.returned (.bool z)) (Bool.eq_false_iff.2 (fun h=>HN.out (HV.out.1 h))).symm,B5.out⟩
section
open Ar (inR)
def mx (a b:Int):Int:=if a<b then b else a
def stepM (m t:Int):Nat→Int
 | 0=>m
 | 1=>mx m 22
 | 2=>mx (mx m 22) 46
 | _=>mx (mx (mx m 22) 46) (7+81*t)
def mostZ (rs:List RuZ):Int:=rs.foldl (fun m r=>stepM m r.Tr 3) 6
theorem zg9 {l:List RuZ} {i:Nat} (h:i<l.length):mostZ (l.take (i+1))=stepM (mostZ (l.take i)) (l[i]).Tr 3:=by
 unfold mostZ
 rw [List.take_succ_eq_append_getElem h,List.foldl_append]
 rfl
theorem zjm {m t:Int} (h:6≤m∧m≤5191) (ht:1≤t∧t≤64) (j:Nat):6≤stepM m t j∧stepM m t j≤5191:=by
 match j with
 | 0=>exact h
 | 1=>show 6≤mx m 22∧mx m 22≤5191;unfold mx;split <;> omega
 | 2=>show 6≤mx (mx m 22) 46∧mx (mx m 22) 46≤5191;unfold mx;repeat' split
      all_goals omega
 | j+3=>show 6≤mx (mx (mx m 22) 46) (7+81*t)∧mx (mx (mx m 22) 46) (7+81*t)≤5191;unfold mx;repeat' split
        all_goals omega
theorem zfk:∀ (l:List RuZ) (m:Int),6≤m∧m≤5191→(∀ r ∈ l,r.p)→6≤l.foldl (fun m r=>stepM m r.Tr 3) m∧l.foldl (fun m r=>stepM m r.Tr 3) m≤5191
 | [],_,h,_=>h
 | a :: l,m,h,hp=>by
  have h9:=(hp a (by simp)).2.2.2.2.2.2.2.2.1
  exact zfk l _ (zjm h h9 3) (fun r hr=>hp r (by simp [hr]))
abbrev reqs3 (t:Int):Array Value:=#[.int .i64 1,.int .i64 0,.int .u32 0,.string ⟨#[]⟩,.int .i64 0,.int .i64 3,.int .i64 0,.int .u32 0,.string ⟨#[]⟩,.int .i64 0,.int .i64 4,.int .i64 0,.int .u32 0,.string ⟨#[]⟩,.int .i64 t]
theorem zj6 (Bu Co Ou:Int) (A:Option Addr) (n c:Nat) (rs:List RuZ) (w:World) (hr:RdRu w A n c rs) (hp:∀ r ∈ rs,r.p) :
  Calls Tryz.prog 41 #[.agg #[.int .i64 Bu,.int .i64 Co,.int .i64 Ou,.slice A n c]] w fun e w'=>e=.returned (.int .i64 (mostZ rs))∧Below w.heap.size w w':=by
 have hcp:=hr.cap
 have hmx:=hr.max
 unfold maxLen at hmx
 have HR:=zhz hr
 have HP:=zhz hp
 clear hr hp
 go_enter Tryz.func41,Tryz.ntmps41
 go_upto_region 1 with (fail)
 obtain ⟨w1,hw1,hbk,hbl,hsz1⟩:=zad w #[.int .i64 Bu,.int .i64 Co,.int .i64 Ou,.slice A n c] 29
 change Code.wp _ _ _ _ (w.alloc (.cells #[.int .i64 Bu,.int .i64 Co,.int .i64 Ou,.slice A n c] 29))
 rw [hw1]
 obtain ⟨b0,hb0⟩:=zeq (w.heap.size)
 rw [← hb0] at hbk ⊢
 have k0:=hbk.rd
 have BL1:=zhz hbl
 have HR2:=zhz (HR.out.below hbl)
 clear hbk hbl hsz1 hw1 hb0
 go_upto_region 3 with (fail)
 clear k0
 go_loopg [3,11] n (fun k s3 s15 wr=>∃ i:Nat,i≤n∧k=n - i∧s3=.int .i64 (mostZ (rs.take i))∧s15=.int .i64 (i:Int)∧Below w1.heap.size w1 wr)
 case atStart=>exact ⟨0,by omega,by omega,by simp [mostZ],rfl,Below.refl _ _⟩
 case round =>
  obtain ⟨i,hi,hkk,rfl,rfl,hb⟩:=hrel
  have HK:=zhz hkk
  have HBR:=zhz hb
  have hlen:=HR.out.len
  obtain ⟨m,hm⟩:=zeq (mostZ (rs.take i))
  rw [← hm]
  have hmb:6≤m∧m≤5191:=by
   rw [hm]
   exact zfk (rs.take i) 6 (by omega) (fun r hr=>HP.out r (List.mem_of_mem_take hr))
  have HM:=zhz hm
  clear hkk hm
  by_cases hin:i<n
  ·have hir:i<rs.length:=by omega
   obtain ⟨gb,off,rfl,hlt,hc⟩:=(HR2.out.below hb).at_ (by omega)
   have hcc:=hc i hir
   have hrp:=HP.out _ (List.getElem_mem hir)
   have HNX:=zhz (zg9 hir)
   obtain ⟨r,hrr⟩:=zeq (rs[i])
   rw [← hrr] at hcc hrp HNX
   have ht:=hrp.2.2.2.2.2.2.2.2.1
   obtain ⟨L,W,B,Sl,Ce,Ro,Wi,Tr,sm⟩:=r
   have c0:=hcc 0 (by omega)
   have c1:=hcc 1 (by omega)
   have c2:=hcc 2 (by omega)
   have c3:=hcc 3 (by omega)
   have c4:=hcc 4 (by omega)
   have c5:=hcc 5 (by omega)
   have c6:=hcc 6 (by omega)
   have c7:=hcc 7 (by omega)
   have c8:=hcc 8 (by omega)
   simp [RuZ.c] at c0 c1 c2 c3 c4 c5 c6 c7 c8
   simp only at ht HNX
   clear hrr hrp hc hcc hlen hb
   go_upto_region 5 with (fail)
   clear c0 c1 c2 c3 c4 c5 c6 c7 c8
   obtain ⟨w3,hw3,hbk,hbl,hsz⟩:=zad wr (ruC L W B Sl Ce Ro Wi Tr sm) 52
   change Code.wp _ _ _ _ (wr.alloc (.cells (ruC L W B Sl Ce Ro Wi Tr sm) 52))
   rw [hw3]
   obtain ⟨b3,hb3⟩:=zeq (wr.heap.size)
   rw [← hb3] at hbk ⊢
   have k3:=hbk.rd
   have BK3:=zhz hbk
   have B3:=zhz (HBR.out.trans (hbl.mono HBR.out.size))
   clear hbk hbl hsz hw3 hb3 hlt
   go_upto_region 6 with (fail)
   obtain ⟨w4,hw4,hbk,hbl,hsz⟩:=zad w3 (reqs3 Tr) 76
   change Code.wp _ _ _ _ (w3.alloc (.cells (reqs3 Tr) 76))
   rw [hw4]
   obtain ⟨b4,hb4⟩:=zeq (w3.heap.size)
   rw [← hb4] at hbk ⊢
   have BK4:=zhz hbk
   have B4:=zhz hbl
   clear hbk hbl hsz hw4 hb4 k3
   go_loopg [3,22] 3 (fun k s3 s22 wq=>∃ j:Nat,j≤3∧k=3 - j∧s3=.int .i64 (stepM m Tr j)∧s22=.int .i64 (j:Int)∧Below w4.heap.size w4 wq)
   case atStart=>exact ⟨0,by omega,by omega,rfl,rfl,Below.refl _ _⟩
   case round =>
    obtain ⟨j,hj,hjk,rfl,rfl,hbq⟩:=hrel
    have HJK:=zhz hjk
    have HBQ:=zhz (B4.out.trans (hbq.mono B4.out.size))
    have HBQ4:=zhz hbq
    have k5:=(BK4.out.keep hbq).rd
    have hsm:=zjm hmb ht j
    clear hjk hbq
    obtain ⟨q,hq⟩:=zeq (stepM m Tr j)
    rw [← hq] at hsm ⊢
    have HQ:=zhz hq
    clear hq
    obtain hj0 | hj0 | hj0 | hj0:j=0∨j=1∨j=2∨j=3:=by omega
    ·subst hj0
     have HN:=zhz (show stepM m Tr 1=mx q 22 from by rw [HQ.out];rfl)
     go_upto_region 8 with (fail)
     obtain ⟨w6,hw6,hbk,hbl,hsz⟩:=zad wr (rqCK 1 0) 76
     change Code.wp _ _ _ _ (wr.alloc (.cells (rqCK 1 0) 76))
     rw [hw6]
     obtain ⟨b6,hb6⟩:=zeq (wr.heap.size)
     rw [← hb6] at hbk ⊢
     have k6:=hbk.rd
     have k7:=(BK3.out.keep (HBQ.out.trans (hbl.mono HBQ.out.size))).rd
     have B6:=zhz (HBQ4.out.trans (hbl.mono HBQ4.out.size))
     clear hbk hbl hsz hw6 hb6 k5
     go_wp2_with (go_at_call 68;((with_reducible refine (zfa Tr _).mono ?_);rintro e w7 ⟨rfl,b7⟩;have B7:=zhz (B6.out.trans (b7.mono B6.out.size));clear b7))
     all_goals
       go_roundg (3 - (0+1))
       case measure=>have:=HJK.out;omega
       case rel =>
        refine ⟨0+1,by omega,by omega,?_,by go_num,B7.out⟩
        rw [HN.out]
        unfold mx
        first | (rw [if_pos (by omega)];done) | (rw [if_neg (by omega)];done) | go_num
    ·subst hj0
     have HN:=zhz (show stepM m Tr 2=mx q 46 from by rw [HQ.out];rfl)
     go_upto_region 8 with (fail)
     obtain ⟨w6,hw6,hbk,hbl,hsz⟩:=zad wr (rqCK 3 0) 76
     change Code.wp _ _ _ _ (wr.alloc (.cells (rqCK 3 0) 76))
     rw [hw6]
     obtain ⟨b6,hb6⟩:=zeq (wr.heap.size)
     rw [← hb6] at hbk ⊢
     have k6:=hbk.rd
     have k7:=(BK3.out.keep (HBQ.out.trans (hbl.mono HBQ.out.size))).rd
     have B6:=zhz (HBQ4.out.trans (hbl.mono HBQ4.out.size))
     clear hbk hbl hsz hw6 hb6 k5
     go_wp2_with (go_at_call 68;((with_reducible refine (zfb Tr _).mono ?_);rintro e w7 ⟨rfl,b7⟩;have B7:=zhz (B6.out.trans (b7.mono B6.out.size));clear b7))
     all_goals
       go_roundg (3 - (1+1))
       case measure=>have:=HJK.out;omega
       case rel =>
        refine ⟨1+1,by omega,by omega,?_,by go_num,B7.out⟩
        rw [HN.out]
        unfold mx
        first | (rw [if_pos (by omega)];done) | (rw [if_neg (by omega)];done) | go_num
    ·subst hj0
     have HN:=zhz (show stepM m Tr 3=mx q (7+81*Tr) from by rw [HQ.out];rfl)
     go_upto_region 8 with (fail)
     obtain ⟨w6,hw6,hbk,hbl,hsz⟩:=zad wr (rqCK 4 Tr) 76
     change Code.wp _ _ _ _ (wr.alloc (.cells (rqCK 4 Tr) 76))
     rw [hw6]
     obtain ⟨b6,hb6⟩:=zeq (wr.heap.size)
     rw [← hb6] at hbk ⊢
     have k6:=hbk.rd
     have k7:=(BK3.out.keep (HBQ.out.trans (hbl.mono HBQ.out.size))).rd
     have B6:=zhz (HBQ4.out.trans (hbl.mono HBQ4.out.size))
     clear hbk hbl hsz hw6 hb6 k5
     go_wp2_with (go_at_call 68;((with_reducible refine (zit Tr ht _).mono ?_);rintro e w7 ⟨rfl,b7⟩;have B7:=zhz (B6.out.trans (b7.mono B6.out.size));clear b7))
     all_goals
       go_roundg (3 - (2+1))
       case measure=>have:=HJK.out;omega
       case rel =>
        refine ⟨2+1,by omega,by omega,?_,by go_num,B7.out⟩
        rw [HN.out]
        unfold mx
        first | (rw [if_pos (by omega)];done) | (rw [if_neg (by omega)];done) | go_num
    ·subst hj0
     have HN:=zhz (show mostZ (rs.take (i+1))=q from by rw [HNX.out,HQ.out,HM.out])
     have BQ:=zhz (B3.out.trans (HBQ.out.mono B3.out.size))
     clear k5
     go_wp2
     go_roundg (n - (i+1))
     case measure=>have:=HK.out;omega
     case rel =>
      exact ⟨i+1,by omega,by omega,by rw [HN.out],by go_num,BQ.out⟩
  ·have hie:i=n:=by omega
   subst hie
   have HEQ:=zhz (show m=mostZ rs from by rw [HM.out,List.take_of_length_le (by omega)])
   have B5:=zhz (BL1.out.trans (HBR.out.mono BL1.out.size))
   clear hlen hb
   go_wp2
   go_ret
   exact ⟨by rw [← HEQ.out];rfl,B5.out⟩
end
section
open Ar (inR)
def rightZ (Bu Co Ou:Int) (rs:List RuZ):Prop :=
 (1≤Co∧Co≤16)∧(1≤(rs.length:Int)∧(rs.length:Int)≤8)∧(1≤Bu∧Bu≤4294967296)∧(∀ r ∈ rs,r.p)∧mostZ rs≤Ou∧Ou≤65536∧Co*Ou+sumB rs≤Bu
end
section
open Ar (inR)
theorem zmK (L W B Sl Ce Ro Wi Tr:Int) (sm:Bool) (hp:ruleP L W B Sl Ce Ro Wi Tr sm) (w:World):Calls Tryz.prog 40 #[ruV L W B Sl Ce Ro Wi Tr sm] w fun e w'=>e=.returned (.bool true)∧Below w.heap.size w w':=by
 obtain ⟨q0,q1,q2,q3,q4,q5,q6,q7,q8,q9,p10⟩:=hp
 have C0:=zhz (fun w=>zaA L 2147483648 q0 w)
 have C1:=zhz (fun w=>zaA W 1099511627776 q1 w)
 have C2:=zhz (fun w=>zaA B L q2 w)
 have C3:=zhz (fun w=>zaA Sl 64 q3 w)
 have hsl0:¬ Sl=0:=by omega
 have em:W.tmod Sl=W % Sl:=Int.tmod_eq_emod_of_nonneg (by omega)
 have hsl1:1≤Sl:=q3.1
 have hw0:0≤W:=by omega
 have tm:(W % Sl==0)=true:=by simpa using q4
 have C5:=zhz (fun w=>zaA Ce 1024 q5 w)
 have C6:=zhz (fun w=>zaA Ro 8 q6 w)
 have C7:=zhz (fun w=>zaA Wi 4096 q7 w)
 have C8:=zhz (fun w=>zaA Tr 64 q8 w)
 have CP:=zhz (fun w=>ziN L W B Sl Ce Ro Wi Tr sm q0 q1 q2 w)
 rw [decide_eq_true p10] at CP
 have Q9:=zhz q9
 clear p10 q0 q1 q2 q3 q4 q5 q6 q7 q8 q9
 by_cases h2:2≤Sl
 have t2:decide (2≤Sl)=true:=by simpa using h2
 rotate_left 1
 have t2:decide (2≤Sl)=false:=by simpa using h2
 have hs:sm=false:=Q9.out.resolve_left h2
 subst hs
 all_goals
   clear h2
   go_enter Tryz.func40,Tryz.ntmps40
   go_upto_region 1 with (fail)
   obtain ⟨w1,hw1,hbk,hbl,hsz1⟩:=zad w (ruC L W B Sl Ce Ro Wi Tr _) 52
   change Code.wp _ _ _ _ (w.alloc (.cells (ruC L W B Sl Ce Ro Wi Tr _) 52))
   rw [hw1]
   obtain ⟨b0,hb0⟩:=zeq (w.heap.size)
   rw [← hb0] at hbk ⊢
   have k0:=hbk.rd
   have BK:=zhz hbk
   have BL:=zhz hbl
   clear hbk hbl hsz1 hw1 hb0
   go_wp2_with (first
    | (go_at_call 38;((with_reducible refine (C0.out _).mono ?_);rintro e w' ⟨rfl,rfl⟩))
    | (go_at_call 38;((with_reducible refine (C1.out _).mono ?_);rintro e w' ⟨rfl,rfl⟩))
    | (go_at_call 38;((with_reducible refine (C2.out _).mono ?_);rintro e w' ⟨rfl,rfl⟩))
    | (go_at_call 38;((with_reducible refine (C3.out _).mono ?_);rintro e w' ⟨rfl,rfl⟩))
    | (go_at_call 38;((with_reducible refine (C5.out _).mono ?_);rintro e w' ⟨rfl,rfl⟩))
    | (go_at_call 38;((with_reducible refine (C6.out _).mono ?_);rintro e w' ⟨rfl,rfl⟩))
    | (go_at_call 38;((with_reducible refine (C7.out _).mono ?_);rintro e w' ⟨rfl,rfl⟩))
    | (go_at_call 38;((with_reducible refine (C8.out _).mono ?_);rintro e w' ⟨rfl,rfl⟩))
    | (go_at_call 67;((with_reducible refine (CP.out _).mono ?_);rintro e w2 ⟨rfl,b2⟩;have B2:=zhz (BL.out.trans (b2.mono BL.out.size));clear b2)))
   go_ret
   exact ⟨rfl,B2.out⟩
theorem zi3 (Bu Co Ou:Int) (A:Option Addr) (n c:Nat) (rs:List RuZ) (hz:rightZ Bu Co Ou rs) (w:World) (hr:RdRu w A n c rs) :
  Calls Tryz.prog 16 #[.agg #[.int .i64 Bu,.int .i64 Co,.int .i64 Ou,.slice A n c]] w fun e w'=>e=.returned (.bool true)∧Below w.heap.size w w':=by
 have hcp:=hr.cap
 have hmx:=hr.max
 unfold maxLen at hmx
 have HR:=zhz hr
 have HZ:=zhz hz
 have HA0:=zhz (show ∀ r ∈ rs,r.p from hz.2.2.2.1)
 have hlen:=hr.len
 have C0:=zhz (fun w=>zaA Co 16 hz.1 w)
 have C1:=zhz (fun w=>zaA (n:Int) 8 (by have:=hz.2.1;omega) w)
 have C2:=zhz (fun w=>zaA Bu 4294967296 hz.2.2.1 w)
 clear hr hz
 go_enter Tryz.func16,Tryz.ntmps16
 go_upto_region 1 with (fail)
 obtain ⟨w1,hw1,hbk,hbl,hsz⟩:=zad w (#[.int .i64 Bu,.int .i64 Co,.int .i64 Ou,.slice A n c]) 29
 change Code.wp _ _ _ _ (w.alloc (.cells (#[.int .i64 Bu,.int .i64 Co,.int .i64 Ou,.slice A n c]) 29))
 rw [hw1]
 obtain ⟨b1,hb1⟩:=zeq (w.heap.size)
 rw [← hb1] at hbk ⊢
 have k0:=hbk.rd
 have BK1:=zhz hbk
 have BL1:=zhz hbl
 have HR1:=zhz (HR.out.below hbl)
 clear hbk hbl hsz hw1 hb1
 go_upto_region 4 with (first
  | (go_at_call 38;((with_reducible refine (C0.out _).mono ?_);rintro e w9 ⟨rfl,rfl⟩))
  | (go_at_call 38;((with_reducible refine (C1.out _).mono ?_);rintro e w9 ⟨rfl,rfl⟩))
  | (go_at_call 38;((with_reducible refine (C2.out _).mono ?_);rintro e w9 ⟨rfl,rfl⟩)))
 clear k0 C0 C1 C2
 go_loopg [25] n (fun k s25 wr=>∃ i:Nat,i≤n∧k=n - i∧s25=.int .i64 (i:Int)∧Hid (∀ r ∈ rs.take i,r.p)∧Below w1.heap.size w1 wr)
 case atStart=>exact ⟨0,by omega,by omega,rfl,zhz (by simp),Below.refl _ _⟩
 case round =>
  obtain ⟨i,hi,hkk,rfl,hall,hb⟩:=hrel
  have HK:=zhz hkk
  have HBR:=zhz hb
  have k1:=(BK1.out.keep hb).rd
  clear hkk
  by_cases hin:i<n
  ·have hir:i<rs.length:=by omega
   have HRR:=zhz (HR1.out.below hb)
   obtain ⟨gb,off,rfl,hlt,hc⟩:=(HR1.out.below hb).at_ (by omega)
   have hcc:=hc i hir
   have HT:=zhz (List.take_succ_eq_append_getElem hir)
   have HM:=zhz (List.getElem_mem hir)
   obtain ⟨r,hrr⟩:=zeq (rs[i])
   rw [← hrr] at hcc HT HM
   obtain ⟨L,W,B,Sl,Ce,Ro,Wi,Tr,sm⟩:=r
   have c0:=hcc 0 (by omega)
   have c1:=hcc 1 (by omega)
   have c2:=hcc 2 (by omega)
   have c3:=hcc 3 (by omega)
   have c4:=hcc 4 (by omega)
   have c5:=hcc 5 (by omega)
   have c6:=hcc 6 (by omega)
   have c7:=hcc 7 (by omega)
   have c8:=hcc 8 (by omega)
   simp [RuZ.c] at c0 c1 c2 c3 c4 c5 c6 c7 c8
   clear hrr hc hcc hb
   go_upto_region 6 with (fail)
   clear c0 c1 c2 c3 c4 c5 c6 c7 c8 k1
   obtain ⟨w3,hw3,hbk,hbl,hsz⟩:=zad wr (ruC L W B Sl Ce Ro Wi Tr sm) 52
   change Code.wp _ _ _ _ (wr.alloc (.cells (ruC L W B Sl Ce Ro Wi Tr sm) 52))
   rw [hw3]
   obtain ⟨b3,hb3⟩:=zeq (wr.heap.size)
   rw [← hb3] at hbk ⊢
   have k3:=hbk.rd
   have B3:=zhz (HBR.out.trans (hbl.mono HBR.out.size))
   have BK3:=zhz hbk
   have BK5:=zhz (BK1.out.keep B3.out)
   have HR3:=zhz (HRR.out.below hbl)
   have k1:=BK5.out.rd
   clear hbk hbl hsz hw3 hb3 hlt k3 k1
   have y1:∀ i,w3.drew.cell? ⟨b1,i,none⟩=(#[.int .i64 Bu,.int .i64 Co,.int .i64 Ou,.slice (some ⟨gb,off,none⟩) n c]:Array Value)[i]?:=(Blk.drew BK5.out).rd
   have y2:∀ i,w3.drew.cell? ⟨b3,i,none⟩=(ruC L W B Sl Ce Ro Wi Tr sm)[i]?:=(Blk.drew BK3.out).rd
   have y3:Below w3.heap.size w3 w3.drew:=zaa (Below.refl _ _) 1
   have sb1:(0:Int)≤(i:Int):=by omega
   have sb2:(i:Int)≤(c:Int):=by omega
   have sb3:(n:Int)≤(c:Int):=by omega
   by_cases hin2:RuZ.mk L W B Sl Ce Ro Wi Tr sm ∈ rs.take i
   ·have HIN:=zhz hin2
    have GA:=zhz (fun (wx:World) (hx:Below w3.heap.size w3 wx)=>show Calls Tryz.prog 39 #[.slice (some ⟨gb,off,none⟩) i c,ruV L W B Sl Ce Ro Wi Tr sm] wx (fun e w'=>e=.returned (.bool true)∧(∀ i,w'.cell? ⟨b1,i,none⟩=(#[.int .i64 Bu,.int .i64 Co,.int .i64 Ou,.slice (some ⟨gb,off,none⟩) n c]:Array Value)[i]?)∧(∀ i,w'.cell? ⟨b3,i,none⟩=(ruC L W B Sl Ce Ro Wi Tr sm)[i]?)∧Below w3.heap.size w3 w') from (zd2 (some ⟨gb,off,none⟩) i c (rs.take i) ⟨L,W,B,Sl,Ce,Ro,Wi,Tr,sm⟩ true ⟨fun _=>hin2,fun _=>rfl⟩ wx ((HR3.out.below hx).take hi)).mono (fun e w' hh=>⟨hh.1,(BK5.out.keep (hx.trans (hh.2.mono hx.size))).rd,(BK3.out.keep (hx.trans (hh.2.mono hx.size))).rd,hx.trans (hh.2.mono hx.size)⟩))
    clear hin2
    have y0:=And.intro y1 (And.intro y2 y3)
    refine wp_region_held_drew (S:=(fun w'=>(∀ i,w'.cell? ⟨b1,i,none⟩=(#[.int .i64 Bu,.int .i64 Co,.int .i64 Ou,.slice (some ⟨gb,off,none⟩) n c]:Array Value)[i]?)∧(∀ i,w'.cell? ⟨b3,i,none⟩=(ruC L W B Sl Ce Ro Wi Tr sm)[i]?)∧Below w3.heap.size w3 w')) (by kernel_rfl) y0 (fun hHeld=>?_)
    clear y0 y1 y2 y3
    refine wR 0 ?_
    refine wR 1 ?_
    refine wR 2 ?_
    refine wR 3 ?_
    refine wR 4 ?_
    refine wC 5 fun K hK=>?_
    go_simp
    go_at_call 39;((with_reducible refine (GA.out _ hHeld.2.2).mono ?_);rintro e w4 ⟨rfl,z1,z2,z3⟩)
    refine hK.out _ _ ⟨z1,z2,z3⟩ fun hHeld=>?_
    clear hK K
    try simp only [Act.put,zs1,zs2,zs3]
    refine wR 6 ?_
    refine wR 7 ?_
    refine wO 8 ?_
    refine wO 9 ?_
    refine wO 10 ?_
    refine wR 11 ?_
    refine wpAnyH_done (by kernel_rfl) ?_ _
    go_wp2
    go_roundg (n - (i+1))
    case measure=>have:=HK.out;omega
    case rel =>
     refine ⟨i+1,by omega,by omega,by go_num,zhz ?_,B3.out.trans (z3.mono B3.out.size)⟩
     intro r hr
     rw [HT.out,List.mem_append] at hr
     rcases hr with h | h
     ·exact hall.out r h
     ·rw [List.mem_singleton] at h
      subst h
      exact hall.out _ HIN.out
   ·have GA:=zhz (fun (wx:World) (hx:Below w3.heap.size w3 wx)=>show Calls Tryz.prog 39 #[.slice (some ⟨gb,off,none⟩) i c,ruV L W B Sl Ce Ro Wi Tr sm] wx (fun e w'=>e=.returned (.bool false)∧(∀ i,w'.cell? ⟨b1,i,none⟩=(#[.int .i64 Bu,.int .i64 Co,.int .i64 Ou,.slice (some ⟨gb,off,none⟩) n c]:Array Value)[i]?)∧(∀ i,w'.cell? ⟨b3,i,none⟩=(ruC L W B Sl Ce Ro Wi Tr sm)[i]?)∧Below w3.heap.size w3 w') from (zd2 (some ⟨gb,off,none⟩) i c (rs.take i) ⟨L,W,B,Sl,Ce,Ro,Wi,Tr,sm⟩ false ⟨fun h=>absurd h (by simp),fun h=>absurd h hin2⟩ wx ((HR3.out.below hx).take hi)).mono (fun e w' hh=>⟨hh.1,(BK5.out.keep (hx.trans (hh.2.mono hx.size))).rd,(BK3.out.keep (hx.trans (hh.2.mono hx.size))).rd,hx.trans (hh.2.mono hx.size)⟩))
    clear hin2
    have HPR:=zhz (HA0.out _ HM.out)
    have GR:=zhz (fun (wx:World) (hx:Below w3.heap.size w3 wx)=>show Calls Tryz.prog 40 #[ruV L W B Sl Ce Ro Wi Tr sm] wx (fun e w'=>e=.returned (.bool true)∧(∀ i,w'.cell? ⟨b1,i,none⟩=(#[.int .i64 Bu,.int .i64 Co,.int .i64 Ou,.slice (some ⟨gb,off,none⟩) n c]:Array Value)[i]?)∧(∀ i,w'.cell? ⟨b3,i,none⟩=(ruC L W B Sl Ce Ro Wi Tr sm)[i]?)∧Below w3.heap.size w3 w') from (zmK L W B Sl Ce Ro Wi Tr sm HPR.out wx).mono (fun e w' hh=>⟨hh.1,(BK5.out.keep (hx.trans (hh.2.mono hx.size))).rd,(BK3.out.keep (hx.trans (hh.2.mono hx.size))).rd,hx.trans (hh.2.mono hx.size)⟩))
    go_region_held3 (fun w'=>(∀ i,w'.cell? ⟨b1,i,none⟩=(#[.int .i64 Bu,.int .i64 Co,.int .i64 Ou,.slice (some ⟨gb,off,none⟩) n c]:Array Value)[i]?)∧(∀ i,w'.cell? ⟨b3,i,none⟩=(ruC L W B Sl Ce Ro Wi Tr sm)[i]?)∧Below w3.heap.size w3 w') (first | (refine ⟨?_,?_,?_⟩ <;> assumption) | go_keep)
      (first
       | (go_at_call 39;((with_reducible refine (GA.out _ (by assumption)).mono ?_);rintro e w4 ⟨rfl,z1,z2,z3⟩))
       | (go_at_call 40;((with_reducible refine (GR.out _ (by assumption)).mono ?_);rintro e w4 ⟨rfl,z1,z2,z3⟩)))
    go_wp2
    go_roundg (n - (i+1))
    case measure=>have:=HK.out;omega
    case rel =>
     refine ⟨i+1,by omega,by omega,by go_num,zhz ?_,B3.out.trans (z3.mono B3.out.size)⟩
     intro r hr
     rw [HT.out,List.mem_append] at hr
     rcases hr with h | h
     ·exact hall.out r h
     ·rw [List.mem_singleton] at h
      subst h
      exact HPR.out
  ·have hie:i=n:=by omega
   subst hie
   have HALL:=zhz (show ∀ r ∈ rs,r.p from fun r hr=>hall.out r (by rw [List.take_of_length_le (by omega)];exact hr))
   go_upto_region 9 with (fail)
   have BKR:=zhz (BK1.out.keep HBR.out)
   have HRW:=zhz (HR1.out.below HBR.out)
   have y1:∀ k,wr.drew.cell? ⟨b1,k,none⟩=(#[.int .i64 Bu,.int .i64 Co,.int .i64 Ou,.slice A i c]:Array Value)[k]?:=(Blk.drew BKR.out).rd
   have y3:Below wr.heap.size wr wr.drew:=zaa (Below.refl _ _) 1
   obtain ⟨M,hM⟩:∃ M,mostZ rs=M:=⟨_,rfl⟩
   have hMb:6≤M∧M≤5191:=by rw [← hM];exact zfk rs 6 (by omega) HALL.out
   have hm0:=zhz (fun (wx:World) (hx:Below wr.heap.size wr wx)=>zj6 Bu Co Ou A i c rs wx (HRW.out.below hx) HALL.out)
   rw [hM] at hm0
   have GM:=zhz (fun (wx:World) (hx:Below wr.heap.size wr wx)=>show Calls Tryz.prog 41 #[.agg #[.int .i64 Bu,.int .i64 Co,.int .i64 Ou,.slice A i c]] wx (fun e w'=>e=.returned (.int .i64 M)∧(∀ k,w'.cell? ⟨b1,k,none⟩=(#[.int .i64 Bu,.int .i64 Co,.int .i64 Ou,.slice A i c]:Array Value)[k]?)∧Below wr.heap.size wr w') from (hm0.out wx hx).mono (fun e w' hh=>⟨hh.1,(BKR.out.keep (hx.trans (hh.2.mono hx.size))).rd,hx.trans (hh.2.mono hx.size)⟩))
   have hA2:M≤Ou:=by rw [← hM];exact HZ.out.2.2.2.2.1
   have hO2:Ou≤65536:=HZ.out.2.2.2.2.2.1
   obtain ⟨F,hF⟩:∃ F,Co*Ou+sumB rs=F:=⟨_,rfl⟩
   have hdv:F≤Bu:=by rw [← hF];exact HZ.out.2.2.2.2.2.2
   have hf0:=zhz (fun (wx:World) (hx:Below wr.heap.size wr wx)=>zjP Bu Co Ou A i c rs wx (HRW.out.below hx) (by have:=HZ.out.2.1;omega) HALL.out HZ.out.1 (by omega))
   rw [hF] at hf0
   have GF:=zhz (fun (wx:World) (hx:Below wr.heap.size wr wx)=>show Calls Tryz.prog 42 #[.agg #[.int .i64 Bu,.int .i64 Co,.int .i64 Ou,.slice A i c]] wx (fun e w'=>e=.returned (.int .i64 F)∧(∀ k,w'.cell? ⟨b1,k,none⟩=(#[.int .i64 Bu,.int .i64 Co,.int .i64 Ou,.slice A i c]:Array Value)[k]?)∧Below wr.heap.size wr w') from (hf0.out wx hx).mono (fun e w' hh=>⟨hh.1,(BKR.out.keep (hx.trans (hh.2.mono hx.size))).rd,hx.trans (hh.2.mono hx.size)⟩))
   clear hM hF
   go_region_held3 (fun w'=>(∀ k,w'.cell? ⟨b1,k,none⟩=(#[.int .i64 Bu,.int .i64 Co,.int .i64 Ou,.slice A i c]:Array Value)[k]?)∧Below wr.heap.size wr w') (first | (refine ⟨?_,?_⟩ <;> assumption) | go_keep)
     (first
      | (go_at_call 41;((with_reducible refine (GM.out _ (by assumption)).mono ?_);rintro e w4 ⟨rfl,z1,z3⟩))
      | (go_at_call 42;((with_reducible refine (GF.out _ (by assumption)).mono ?_);rintro e w4 ⟨rfl,z1,z3⟩)))
   go_wp2
   go_ret
   exact ⟨rfl,BL1.out.trans ((HBR.out.trans (z3.mono HBR.out.size)).mono BL1.out.size)⟩
end
section
open Go.Deep Go.Joins
section
variable {H:Type} {enc:TypeId × Value→H} {P:Program}
theorem ziJ {W:World} {base fuel:Nat} {t e:TypeId} {fs:Array Field} {u:Value} {x:DataW H × List MemPlace} (ht:P.underlying t=some (.slice e)) (he:P.underlying e=some (.struct fs))
  (hone:oneCellFields P fs=true) (hC:P.cellsOf e=fs.size) (hpos:0<fs.size)
  (hf:DataW.trod enc P W base (fun _=>true) true fuel t [u]=some x) :
  ∃ A n c V,u=.slice A n c∧RdF W A n c fs.size V∧∀ i,i<n→∀ (j:Nat) (f:Field),fs[j]?=some f→∃ N y,DataW.trod enc P W base (fun _=>true) true N f.type [V i j]=some y:=by
 rcases open_slice ht hf with ⟨hcs,_⟩ | ⟨a,len',cap',m,N,D,Pl,hcs,_,hl,hm,hmm,_,hi⟩
 ·simp only [List.cons.injEq,and_true] at hcs
  exact ⟨none,0,0,fun _ _=>(.bool false),hcs,⟨Nat.le_refl _,Nat.zero_le _,fun h=>absurd h (by omega)⟩,fun i hi=>absurd hi (by omega)⟩
 ·simp only [List.cons.injEq,and_true] at hcs
  subst hcs
  simp only [if_true] at hmm
  subst hmm
  rw [hC] at hi
  have each:∀ i,∃ cs':List Value,i<len'→(∀ j,j<fs.size→W.cell? ((a.add (i*fs.size)).add j)=some (cs'.getD j (.bool false)))∧∀ (j:Nat) (f:Field),fs[j]?=some f→∃ N y,DataW.trod enc P W base (fun _=>true) true N f.type [cs'.getD j (.bool false)]=some y:=by
   intro i
   by_cases hil:i<len'
   ·obtain ⟨cs',hc,ht'⟩:=hi i (by omega)
    obtain ⟨_,hcl,hat⟩:=World.cells?_some hc
    obtain ⟨ys,n',hn',hy,hlen,hyl,hf'⟩:=DataW.trod_struct he ht'
    refine ⟨cs',fun _=>⟨fun j hj=>?_,fun j f hj=>?_⟩⟩
    ·rw [hat j hj,zge (by omega)]
     simp [List.getD,zge (show j<cs'.length by omega)]
    ·obtain ⟨ho,hk⟩:=hone_of hone j f hj
     have hjl:j<fs.size:=(Array.getElem?_eq_some_iff.1 hj).1
     have h1:=hf' j f hj
     rw [ho,hk] at h1
     have hone':(cs'.drop j).take 1=[cs'.getD j (.bool false)]:=by
      rw [List.drop_eq_getElem_cons (by omega),List.take_succ_cons,List.take_zero]
      simp [List.getD,zge (show j<cs'.length by omega)]
     rw [hone'] at h1
     exact ⟨n',_,h1.trans (zge (by omega))⟩
   ·exact ⟨[],fun h=>absurd h hil⟩
  obtain ⟨G,hch⟩:=Classical.axiomOfChoice each
  clear each
  refine ⟨_,_,_,fun i j=>(G i).getD j (.bool false),rfl,⟨hl,hm,fun hn=>?_⟩,fun i hil j f hj=>(hch i hil).2 j f hj⟩
  obtain ⟨b,off,s⟩:=a
  have h0:=(hch 0 hn).1 0 hpos
  have hs:=zba h0
  have hlt:=zaL h0
  rw [block_add,block_add] at hlt
  have:s=none:=by
   unfold Addr.add at hs
   simpa using hs
  subst this
  refine ⟨b,off,rfl,hlt,fun i j hi hj=>?_⟩
  have:=(hch i hi).1 j hj
  rw [add_plain,add_plain] at this
  exact this
theorem zku {W:World} {base:Nat} {A:Option Addr} {n c:Nat} {V:Nat→Nat→Value} {g0 g1 g2 g3 g4 g5 g6 g7 g8:Field} (R:RdF W A n c 9 V)
  (hV:∀ i,i<n→∀ (j:Nat) (f:Field),#[g0,g1,g2,g3,g4,g5,g6,g7,g8][j]?=some f→∃ N y,DataW.trod enc P W base (fun _=>true) true N f.type [V i j]=some y)
  (k0:P.underlying g0.type=some (.int .i64)) (k1:P.underlying g1.type=some (.int .i64)) (k2:P.underlying g2.type=some (.int .i64)) (k3:P.underlying g3.type=some (.int .i64)) (k4:P.underlying g4.type=some (.int .i64)) (k5:P.underlying g5.type=some (.int .i64)) (k6:P.underlying g6.type=some (.int .i64)) (k7:P.underlying g7.type=some (.int .i64)) (k8:P.underlying g8.type=some .bool):∃ rs,RdRu W A n c rs:=by
 have each:∀ i,∃ r:RuZ,i<n→(∀ j,j<9→some (V i j)=r.c[j]?)∧r.ok:=by
  intro i
  by_cases hi:i<n
  ·obtain ⟨a0,e0,f0⟩:=zbm k0 (hV i hi 0 g0 rfl)
   obtain ⟨a1,e1,f1⟩:=zbm k1 (hV i hi 1 g1 rfl)
   obtain ⟨a2,e2,f2⟩:=zbm k2 (hV i hi 2 g2 rfl)
   obtain ⟨a3,e3,f3⟩:=zbm k3 (hV i hi 3 g3 rfl)
   obtain ⟨a4,e4,f4⟩:=zbm k4 (hV i hi 4 g4 rfl)
   obtain ⟨a5,e5,f5⟩:=zbm k5 (hV i hi 5 g5 rfl)
   obtain ⟨a6,e6,f6⟩:=zbm k6 (hV i hi 6 g6 rfl)
   obtain ⟨a7,e7,f7⟩:=zbm k7 (hV i hi 7 g7 rfl)
   obtain ⟨sm,e8⟩:=zgz k8 (hV i hi 8 g8 rfl)
   refine ⟨⟨a0,a1,a2,a3,a4,a5,a6,a7,sm⟩,fun _=>⟨fun j hj=>?_,f0,f1,f2,f3,f4,f5,f6,f7⟩⟩
   match j,hj with
   | 0,_=>rw [e0];rfl
   | 1,_=>rw [e1];rfl
   | 2,_=>rw [e2];rfl
   | 3,_=>rw [e3];rfl
   | 4,_=>rw [e4];rfl
   | 5,_=>rw [e5];rfl
   | 6,_=>rw [e6];rfl
   | 7,_=>rw [e7];rfl
   | 8,_=>rw [e8];rfl
   | j+9,h=>omega
  ·exact ⟨⟨0,0,0,0,0,0,0,0,false⟩,fun h=>absurd h hi⟩
 obtain ⟨G,hG⟩:=Classical.axiomOfChoice each
 refine ⟨(List.range n).map G,R.cap,R.max,by simp,fun hn=>?_,fun r hr=>?_⟩
 ·obtain ⟨b,off,e,hlt,hc⟩:=R.at_ hn
  refine ⟨b,off,e,hlt,fun i hi j hj=>?_⟩
  have hin:i<n:=by simpa using hi
  rw [hc i j hin hj,(hG i hin).1 j hj]
  simp
 ·obtain ⟨i,hi,rfl⟩:=List.mem_map.1 hr
  exact (hG i (List.mem_range.1 hi)).2
end
end
section
open Go.Deep Go.Joins
section
variable {H:Type} {enc:TypeId × Value→H} {P:Program}
theorem open_plns {W:World} {base:Nat} {r:Reach} {b0:Nat} {t e:TypeId} {g0 g1 g2 g3 g4 g5 g6 g7 g8:Field} {v:Value} {d:DataW H} {p:List MemPlace} (ht:P.underlying t=some (.slice e))
  (he:P.underlying e=some (.struct #[g0,g1,g2,g3,g4,g5,g6,g7,g8])) (honeE:oneCellFields P #[g0,g1,g2,g3,g4,g5,g6,g7,g8]=true) (hCE:P.cellsOf e=9)
  (k0:P.underlying g0.type=some (.int .i64)) (k1:P.underlying g1.type=some (.int .i64)) (k2:P.underlying g2.type=some (.int .i64)) (k3:P.underlying g3.type=some (.int .i64)) (k4:P.underlying g4.type=some (.int .i64)) (k5:P.underlying g5.type=some (.int .i64)) (k6:P.underlying g6.type=some (.int .i64)) (k7:P.underlying g7.type=some (.int .i64)) (k8:P.underlying g8.type=some .bool)
  (hv:Value.okWide P W r b0 t v) (h:DataW.Trod enc P W base (fun _=>true) true t v d p):∃ A n c rs,v=.slice A n c∧RdRu W A n c rs:=by
 obtain ⟨a0,len,cap,rfl⟩:=okWide_slice ht hv
 obtain ⟨fuel,hf⟩:=h
 obtain ⟨A,n,c,V,e1,R,hV⟩:=ziJ ht he honeE hCE (by simp) hf
 obtain ⟨rs,hr⟩:=zku R hV k0 k1 k2 k3 k4 k5 k6 k7 k8
 exact ⟨A,n,c,rs,e1,hr⟩
end
end
end Go.Proofs.YtannniobeanhlaaGreat
