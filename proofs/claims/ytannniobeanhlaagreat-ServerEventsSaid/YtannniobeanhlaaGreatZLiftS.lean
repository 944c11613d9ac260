import Derived.Lib.SmallJoins
import Derived.Test.YtannniobeanhlaaGreatZRowF
import Derived.Test.YtannniobeanhlaaGreatZObj
set_option linter.unusedSimpArgs false
set_option linter.unusedVariables false
set_option maxRecDepth 100000
set_option maxHeartbeats 9000000
namespace Go.Proofs.YtannniobeanhlaaGreat
open Go.ChangeShapes Go.WideShapes Go.ChangeAt Go.RowKit
section
open Go.Deep Go.Joins
section
variable {H:Type} {enc:TypeId × Value→H} {P:Program} {w:World} {base:Nat} {sp:Nat→Bool} {held:Bool}
end
end
section
open Go.Deep Go.Joins
section
variable {H:Type} {enc:TypeId × Value→H} {P:Program}
theorem zgz {W:World} {base:Nat} {t:TypeId} {v:Value} (ht:P.underlying t=some .bool) (h:∃ N y,DataW.trod enc P W base (fun _=>true) true N t [v]=some y):∃ b:Bool,v=.bool b:=by
 obtain ⟨N,y,h⟩:=h
 obtain ⟨s,h1,_⟩:=DataW.trod_bool ht h
 simp only [List.cons.injEq,and_true] at h1
 exact ⟨s,h1⟩
/-! #### a whole number and a string -/
/-! #### a string and a whole number -/
/-! #### a whole number,a string and a whole number;two whole numbers and a string -/
/-! #### strings -/
/-! #### arrays of three,and two of them -/
end
end
section
open Go.Deep Go.Joins
section
variable {H:Type} {enc:TypeId × Value→H} {P:Program} {w:World} {base:Nat} {sp:Nat→Bool} {held:Bool}
theorem zf0 {k:IntKind} {t:TypeId} {n:Nat} {v:Value} {y:DataW H × List MemPlace} (ht:P.underlying t=some (.int k)) (h:DataW.trod enc P w base sp held n t [v]=some y):∃ a:Int,v=.int k a∧(Lit.int k a).wf=true:=by
 obtain ⟨a,h1,_,h3⟩:=DataW.trod_int ht h
 simp only [List.cons.injEq,and_true] at h1
 exact ⟨a,h1,h3⟩
end
end
section
open Go.Deep Go.Joins
section
variable {H:Type} {enc:TypeId × Value→H} {P:Program} {w:World} {base:Nat} {sp:Nat→Bool} {held:Bool}
def i64In (x:Int):Prop := -9223372036854775808≤x∧x≤9223372036854775807
def RuleOK (L W B Sl Ce Ro Wi Tr:Int):Prop:=i64In L∧i64In W∧i64In B∧i64In Sl∧i64In Ce∧i64In Ro∧i64In Wi∧i64In Tr
end
end
section
open Go.Deep Go.Joins
structure DeZ where
 kind:Int
 conn:Int
 cut:Int
 gap:Int
 op:Int
 ru:Int
 co:Int
 key:ByteArray
 k:Int
 A:Option Addr
 n:Nat
 c:Nat
 raw:List Int
def DeZ.cs (d:DeZ):List Value:=[.int .i64 d.kind,.int .i64 d.conn,.int .i64 d.cut,.int .i64 d.gap,.int .i64 d.op,.int .i64 d.ru,.int .u32 d.co,.string d.key,.int .i64 d.k,.slice d.A d.n d.c]
def i64D (x:Int):Prop := -9223372036854775808≤x∧x≤9223372036854775807
structure DeOK (w:World) (d:DeZ):Prop where
 kind:i64D d.kind
 conn:i64D d.conn
 cut:i64D d.cut
 gap:i64D d.gap
 op:i64D d.op
 ru:i64D d.ru
 co:0≤d.co∧d.co<4294967296
 key:d.key.size≤maxLen
 k:i64D d.k
 raw:RdI w .u8 d.A d.n d.c d.raw
theorem DeOK.below {w w':World} {d:DeZ} (h:DeOK w d) (hb:Below w.heap.size w w'):DeOK w' d:=⟨h.kind,h.conn,h.cut,h.gap,h.op,h.ru,h.co,h.key,h.k,h.raw.below hb⟩
structure RdDe (w:World) (A:Option Addr) (n c:Nat) (L:List DeZ):Prop where
 len:L.length=n
 cap:n≤c
 max:c≤maxLen
 at_:0<n→∃ b off,A=some ⟨b,off,none⟩∧b<w.heap.size∧∀ (j:Nat) (h:j<L.length) (i:Nat),i<10→w.cell? ⟨b,off+j*10+i,none⟩=(L[j]).cs[i]?
 ok:∀ d ∈ L,DeOK w d
theorem RdDe.below {w w':World} {A:Option Addr} {n c:Nat} {L:List DeZ} (h:RdDe w A n c L) (hb:Below w.heap.size w w'):RdDe w' A n c L :=
 ⟨h.len,h.cap,h.max,fun hn=>by
  obtain ⟨b,off,e,hlt,hc⟩:=h.at_ hn
  exact ⟨b,off,e,Nat.lt_of_lt_of_le hlt hb.size,fun j hj i hi=>by rw [hb.cell (p:=⟨b,off+j*10+i,none⟩) hlt];exact hc j hj i hi⟩,fun d hd=>(h.ok d hd).below hb⟩
section
variable {H:Type} {enc:TypeId × Value→H} {P:Program} {W:World} {base:Nat}
theorem zaV {t:TypeId} {n:Nat} {v:Value} {y:DataW H × List MemPlace} (ht:P.underlying t=some (.int .i64)) (h:DataW.trod enc P W base (fun _=>true) true n t [v]=some y):∃ a:Int,v=.int .i64 a∧i64D a:=by
 obtain ⟨a,h1,h2⟩:=zf0 ht h
 exact ⟨a,h1,bounds_i64 h2⟩
theorem open_deed {te tq tb eb:TypeId} {f0 f1 f2 f3 f4 f5 g0 g1 g2 g3 g4:Field} {fuel:Nat} {cs:List Value} {x:DataW H × List MemPlace}
  (he:P.underlying te=some (.struct #[f0,f1,f2,f3,f4,f5])) (hC:P.cellsOf te=10) (hq:P.underlying tq=some (.struct #[g0,g1,g2,g3,g4])) (hone:oneCellFields P #[g0,g1,g2,g3,g4]=true) (hCq:P.cellsOf tq=5)
  (o:(f0.offset=0∧f1.offset=1∧f2.offset=2∧f3.offset=3∧f4.offset=4∧f5.offset=9)∧P.cellsOf f0.type=1∧P.cellsOf f1.type=1∧P.cellsOf f2.type=1∧P.cellsOf f3.type=1∧f4.type=tq∧f5.type=tb∧P.cellsOf tb=1)
  (k0:P.underlying f0.type=some (.int .i64)) (k1:P.underlying f1.type=some (.int .i64)) (k2:P.underlying f2.type=some (.int .i64)) (k3:P.underlying f3.type=some (.int .i64))
  (q0:P.underlying g0.type=some (.int .i64)) (q1:P.underlying g1.type=some (.int .i64)) (q2:P.underlying g2.type=some (.int .u32)) (q3:P.underlying g3.type=some .string) (q4:P.underlying g4.type=some (.int .i64))
  (k5:P.underlying tb=some (.slice eb)) (k5b:P.underlying eb=some (.int .u8)) (k5c:P.cellsOf eb=1)
  (h:DataW.trod enc P W base (fun _=>true) true fuel te cs=some x):∃ d:DeZ,cs=d.cs∧DeOK W d:=by
 obtain ⟨xs,n,_,_,hl,hxl,hf⟩:=DataW.trod_struct he h
 rw [hC] at hl
 match cs,hl with
 | [v0,v1,v2,v3,v4,v5,v6,v7,v8,v9],_ =>
 obtain ⟨⟨o0,o1,o2,o3,o4,o5⟩,c0,c1,c2,c3,c4,c5,c6⟩:=o
 have t0:=hf 0 f0 rfl
 have t1:=hf 1 f1 rfl
 have t2:=hf 2 f2 rfl
 have t3:=hf 3 f3 rfl
 have t4:=hf 4 f4 rfl
 have t5:=hf 5 f5 rfl
 rw [o0,c0] at t0
 rw [o1,c1] at t1
 rw [o2,c2] at t2
 rw [o3,c3] at t3
 rw [o4,c4,hCq] at t4
 rw [o5,c5,c6] at t5
 have hs:xs.length=6:=hxl
 match xs,hs with
 | [y0,y1,y2,y3,y4,y5],_ =>
 simp only [List.drop_zero,List.drop_succ_cons,List.take_succ_cons,List.take_zero,List.getElem?_cons_zero,List.getElem?_cons_succ] at t0 t1 t2 t3 t4 t5
 obtain ⟨a0,rfl,b0⟩:=zaV k0 t0
 obtain ⟨a1,rfl,b1⟩:=zaV k1 t1
 obtain ⟨a2,rfl,b2⟩:=zaV k2 t2
 obtain ⟨a3,rfl,b3⟩:=zaV k3 t3
 obtain ⟨zs,m,_,_,_,hzl,hg⟩:=DataW.trod_struct hq t4
 have hz:zs.length=5:=hzl
 match zs,hz with
 | [z0,z1,z2,z3,z4],_ =>
 have s0:=hg 0 g0 rfl
 have s1:=hg 1 g1 rfl
 have s2:=hg 2 g2 rfl
 have s3:=hg 3 g3 rfl
 have s4:=hg 4 g4 rfl
 obtain ⟨p0,r0⟩:=hone_of hone 0 g0 rfl
 obtain ⟨p1,r1⟩:=hone_of hone 1 g1 rfl
 obtain ⟨p2,r2⟩:=hone_of hone 2 g2 rfl
 obtain ⟨p3,r3⟩:=hone_of hone 3 g3 rfl
 obtain ⟨p4,r4⟩:=hone_of hone 4 g4 rfl
 rw [p0,r0] at s0
 rw [p1,r1] at s1
 rw [p2,r2] at s2
 rw [p3,r3] at s3
 rw [p4,r4] at s4
 simp only [List.drop_zero,List.drop_succ_cons,List.take_succ_cons,List.take_zero,List.getElem?_cons_zero,List.getElem?_cons_succ] at s0 s1 s2 s3 s4
 obtain ⟨a4,rfl,b4⟩:=zaV q0 s0
 obtain ⟨a5,rfl,b5⟩:=zaV q1 s1
 obtain ⟨a6,rfl,b6⟩:=zf0 q2 s2
 obtain ⟨ky,e7,_,b7⟩:=DataW.trod_string q3 s3
 simp only [List.cons.injEq,and_true] at e7
 subst e7
 obtain ⟨a8,rfl,b8⟩:=zaV q4 s4
 obtain ⟨A,len,cap,rw_,rfl,hr⟩:=zl7 k5 k5b k5c ⟨_,_,t5⟩
 have b6':=bounds_u32 b6
 exact ⟨⟨a0,a1,a2,a3,a4,a5,a6,ky,a8,A,len,cap,rw_⟩,rfl,⟨b0,b1,b2,b3,b4,b5,(show 0≤a6∧a6<4294967296 by omega),b7,b8,hr⟩⟩
theorem ziI {t e:TypeId} {fuel:Nat} {u:Value} {x:DataW H × List MemPlace} (ht:P.underlying t=some (.slice e)) (hC:P.cellsOf e=10)
  (hE:∀ (N:Nat) (cs:List Value) (y:DataW H × List MemPlace),DataW.trod enc P W base (fun _=>true) true N e cs=some y→∃ d:DeZ,cs=d.cs∧DeOK W d)
  (hf:DataW.trod enc P W base (fun _=>true) true fuel t [u]=some x):∃ A n c L,u=.slice A n c∧RdDe W A n c L:=by
 rcases open_slice ht hf with ⟨hcs,_⟩ | ⟨a,len',cap',m,N,D,Pl,hcs,_,hl,hm,hmm,_,hi⟩
 ·simp only [List.cons.injEq,and_true] at hcs
  exact ⟨none,0,0,[],hcs,⟨rfl,Nat.le_refl _,Nat.zero_le _,fun h=>absurd h (by omega),fun d hd=>by cases hd⟩⟩
 ·simp only [List.cons.injEq,and_true] at hcs
  subst hcs
  simp only [if_true] at hmm
  subst hmm
  rw [hC] at hi
  have each:∀ i,∃ d:DeZ,i<len'→(∀ j,j<10→W.cell? ((a.add (i*10)).add j)=d.cs[j]?)∧DeOK W d:=by
   intro i
   by_cases hil:i<len'
   ·obtain ⟨cs',hc,ht'⟩:=hi i (by omega)
    obtain ⟨_,hcl,hat⟩:=World.cells?_some hc
    obtain ⟨d,rfl,hd⟩:=hE _ _ _ ht'
    exact ⟨d,fun _=>⟨fun j hj=>hat j hj,hd⟩⟩
   ·exact ⟨⟨0,0,0,0,0,0,0,⟨#[]⟩,0,none,0,0,[]⟩,fun h=>absurd h hil⟩
  obtain ⟨G,hG⟩:=Classical.axiomOfChoice each
  refine ⟨_,_,_,(List.range len').map G,rfl,⟨by simp,hl,hm,fun hn=>?_,fun d hd=>?_⟩⟩
  ·obtain ⟨b,off,s⟩:=a
   have h0:=(hG 0 hn).1 0 (by omega)
   have h0':W.cell? ((Addr.add ⟨b,off,s⟩ (0*10)).add 0)=some (.int .i64 (G 0).kind):=h0
   have hs:=zba h0'
   have hlt:=zaL h0'
   rw [block_add,block_add] at hlt
   have:s=none:=by
    unfold Addr.add at hs
    simpa using hs
   subst this
   refine ⟨b,off,rfl,hlt,fun j hj i hi=>?_⟩
   have hin:j<len':=by simpa using hj
   have:=(hG j hin).1 i hi
   rw [add_plain,add_plain] at this
   rw [this]
   simp
  ·obtain ⟨i,hi,rfl⟩:=List.mem_map.1 hd
   exact (hG i (List.mem_range.1 hi)).2
theorem open_rdDv {r:Reach} {b0:Nat} {t e:TypeId} {v:Value} {d:DataW H} {p:List MemPlace} (ht:P.underlying t=some (.slice e)) (hC:P.cellsOf e=10)
  (hE:∀ (N:Nat) (cs:List Value) (y:DataW H × List MemPlace),DataW.trod enc P W base (fun _=>true) true N e cs=some y→∃ d:DeZ,cs=d.cs∧DeOK W d)
  (hv:Value.okWide P W r b0 t v) (h:DataW.Trod enc P W base (fun _=>true) true t v d p):∃ A n c L,v=.slice A n c∧RdDe W A n c L:=by
 obtain ⟨a0,len,cap,rfl⟩:=okWide_slice ht hv
 obtain ⟨fuel,hf⟩:=h
 exact ziI ht hC hE hf
end
end
end Go.Proofs.YtannniobeanhlaaGreat
