import Derived.Test.YtannniobeanhlaaGreatZSlN
import Derived.Test.YtannniobeanhlaaGreatZLiftS
import Derived.Test.YtannniobeanhlaaGreatBits
set_option linter.unusedSimpArgs false
set_option linter.unusedVariables false
set_option maxRecDepth 100000
set_option maxHeartbeats 9000000
namespace Go.Proofs.YtannniobeanhlaaGreat
open Go.ChangeShapes Go.WideShapes Go.ChangeAt Go.RowKit
section
open Ar (inR)
theorem zmE (zs:List Int) (i:Nat):rB zs i<2305843009213693951:=by unfold rB;exact Nat.mod_lt _ (by omega)
theorem zl9 (zs:List Int) (k:Nat):∀ j,j<k→rX zs j<2305843009213693951∧rA zs j<2305843009213693951∧rB zs j<2305843009213693951:=fun j _=>⟨zm5 zs j,zm4 zs j,zmE zs j⟩
theorem zbq {z:Int} (h:0≤z∧z≤9223372036854775807):clamp z=z:=by
 unfold clamp
 split
 ·omega
 ·split <;> omega
theorem box2 (X:World) (t:TypeId) (z0 z1 a b:Value):∃ w1 w2,X.alloc (.cells #[z0,z1] t)=w1 ∧
  (∀ j,w1.cell? ⟨X.heap.size,j,none⟩=(#[z0,z1]:Array Value)[j]?)∧(∀ j,w1.frozen? ⟨X.heap.size,j,none⟩=false) ∧
  (w1.setCell ⟨X.heap.size,0,none⟩ a).setCell ⟨X.heap.size,1,none⟩ b=w2 ∧
  Below X.heap.size X w2∧Blk w2 X.heap.size t #[a,b]:=by
 obtain ⟨w1,hw1,kc1,l1,s1⟩:=zad X #[z0,z1] t
 have hl:=lt_of_block kc1
 have hset:(w1.setCell ⟨X.heap.size,0,none⟩ a).setCell ⟨X.heap.size,1,none⟩ b=setObj w1 X.heap.size (.cells #[a,b] t (0,0)):=by
  rw [zac kc1]
  simp only [zai hl,zs1,zs2,zs3]
 exact ⟨w1,_,hw1,kc1.rd,kc1.wr,hset,l1.trans ((Fr.setObj (F:=fun k=>k=X.heap.size) (Fr.refl _ _) rfl _).below l1.size (fun k hk=>by omega)),zab hl _⟩
end
section
open Ar (inR)
structure RgN where
 x:Nat
 pb:Nat
 n:Nat
 s:Nat
 L:Int
 sm:Bool
 k:Nat
 W:Nat
 X:Nat→Nat
 A:Nat→Nat
 B:Nat→Nat
 bs:Nat→Nat
 gs:Nat→Nat
def RgN.SN (R:RgN) (i:Nat):SlN:=⟨R.bs i,R.gs i,R.k,R.W,R.X,R.A,R.B⟩
def RgN.P (R:RgN) (j:Nat) (s:ByteArray):Nat:=plc (Ha.hof (R.X j) (R.A j) (R.B j) s.data.toList) (R.W:Int)
structure RgS where
 t:Int
 num:Nat→Int
 F:Nat→Nat→Nat→Int
def encPt (a:Int × Nat):List Value:=[.int .i64 a.1,.pointer (some ⟨a.2,0,none⟩)]
theorem zcw (a:Int × Nat):(encPt a).length=2:=rfl
def ptL (R:RgN) (num:Nat→Int):List (Int × Nat):=(List.range R.n).map fun i=>(num i,R.bs i)
theorem zfq (R:RgN) (num:Nat→Int):(ptL R num).length=R.n:=by simp [ptL]
theorem zb7 (R:RgN) (num:Nat→Int) {i:Nat} (h:i<R.n):(ptL R num)[i]?=some (num i,R.bs i):=by
 unfold ptL
 rw [List.getElem?_map,List.getElem?_range h];rfl
abbrev ringC (R:RgN) (t:Int):Array Value:=#[.slice (some ⟨R.pb,0,none⟩) R.n R.n,.int .i64 (R.s:Int),.int .i64 R.L,.int .i64 t,.bool R.sm]
structure RgAt (w:World) (R:RgN) (σ:RgS):Prop where
 hx:Blk w R.x 230 (ringC R σ.t)
 hp:Blk w R.pb 234 (rws encPt (ptL R σ.num)).toArray
 hs:∀ i,i<R.n→SlAt w (R.SN i) (σ.F i)
 nx:R.x≠R.pb
 ns:∀ i,i<R.n→(R.bs i≠R.x∧R.bs i≠R.pb)∧R.gs i≠R.x∧R.gs i≠R.pb
 ng:∀ i j,i<R.n→j<R.n→R.gs i≠R.bs j∧(i≠j→R.gs i≠R.gs j)
 bd:(2≤R.n∧R.n≤65)∧(1≤R.s∧R.s≤9223372036854775807)∧inR R.L
 ht:0≤σ.t∧σ.t≤9223372036854775807
 hn:∀ i,0≤σ.num i∧σ.num i≤9223372036854775807
def RgN.F (R:RgN) (b:Nat):Prop:=b=R.x∨b=R.pb∨∃ i,i<R.n∧b=R.gs i
def RgN.all (R:RgN) (b:Nat):Prop:=R.F b∨∃ i,i<R.n∧b=R.bs i
section
variable {w w':World} {R:RgN} {σ:RgS}
theorem RgAt.fr {W:World} {F:Nat→Prop} (h:RgAt W R σ) (hf:Fr F W w) (hF:∀ b,R.all b→¬ F b):RgAt w R σ :=
 ⟨h.hx.fr hf (hF _ (Or.inl (Or.inl rfl))),h.hp.fr hf (hF _ (Or.inl (Or.inr (Or.inl rfl)))),fun i hi=>(h.hs i hi).fr hf (hF _ (Or.inr ⟨i,hi,rfl⟩)) (hF _ (Or.inl (Or.inr (Or.inr ⟨i,hi,rfl⟩)))),h.nx,h.ns,h.ng,h.bd,h.ht,h.hn⟩
theorem RgAt.keep {W:World} (h:RgAt W R σ) (hb:Below W.heap.size W w):RgAt w R σ:=h.fr (F:=fun _=>False) (Fr.of_below hb) (fun _ _=>id)
theorem RgAt.lt (h:RgAt w R σ):∀ b,R.all b→b<w.heap.size:=by
 rintro b ((rfl | rfl | ⟨i,hi,rfl⟩) | ⟨i,hi,rfl⟩)
 ·exact lt_of_block h.hx
 ·exact lt_of_block h.hp
 ·exact lt_of_block (h.hs i hi).hg
 ·obtain ⟨C,c1,_⟩:=(h.hs i hi).hb;exact lt_of_block c1
theorem RgAt.part (h:RgAt w R σ) {i:Nat} (hi:i<R.n):w.cell? ⟨R.pb,i*2,none⟩=some (.int .i64 (σ.num i))∧w.cell? ⟨R.pb,i*2+1,none⟩=some (.pointer (some ⟨R.bs i,0,none⟩)) :=
 ⟨zas zcw h.hp (zb7 R σ.num hi) (j:=0) (by omega),zas zcw h.hp (zb7 R σ.num hi) (j:=1) (by omega)⟩
def lsum (R:RgN) (σ:RgS) (s:ByteArray) (a b:Int):Nat→Int
 | 0=>0
 | j+1=>if a≤σ.num j∧σ.num j≤b then clamp (lsum R σ s a b j+Sk.leastR (σ.F j) R.P s (R.k - 1)) else lsum R σ s a b j
theorem zd5 {a b:Int} (ha:0≤a∧a≤9223372036854775807) (hb:0≤b∧b≤9223372036854775807):0≤clamp (a+b)∧clamp (a+b)≤9223372036854775807:=by
 unfold clamp
 split
 ·omega
 ·split <;> omega
theorem zb4 {j:Nat} (h:∀ i,i<j→Sk.okC (σ.F i)) (s:ByteArray) (a b:Int):0≤lsum R σ s a b j∧lsum R σ s a b j≤9223372036854775807:=by
 induction j with
 | zero=>exact ⟨Int.le_refl _,by show (0:Int)≤_;omega⟩
 | succ j ih =>
  have ih:=ih (fun i hi=>h i (by omega))
  unfold lsum
  split
  ·exact zd5 ih ((h j (by omega)).least R.P s (R.k - 1))
  ·exact ih
theorem zi9 (t:Int) (ht : -9223372036854775808≤t∧t≤9223372036854775807) (w:World) (h:RgAt w R σ) :
  Calls Tryz.prog 217 #[.pointer (some ⟨R.x,0,none⟩),.int .i64 t] w fun e w'=>e=.returned (.tuple #[])∧RgAt w' R ⟨max σ.t t,σ.num,σ.F⟩∧Fr (fun b=>b=R.x) w w':=by
 have k:=h.hx.rd
 have kw:=h.hx.wr
 have HH:=zhz h
 obtain ⟨m,hm⟩:=zeq (max σ.t t)
 have em:max σ.t t=m:=hm.symm
 have hmb:0≤m∧m≤9223372036854775807:=by have:=h.ht;omega
 have HM:=zhz (And.intro hm hmb)
 clear h hm hmb
 go_enter Tryz.func217,Tryz.ntmps217
 go_wp2
 go_end0
 have hh:=HH.out
 have e5:(ringC R σ.t).setIfInBounds 3 (.int .i64 m)=ringC R m:=rfl
 rw [zac hh.hx,e5]
 have hf:Fr (fun b=>b=R.x) w (setObj w R.x (.cells (ringC R m) 230 (0,0))):=Fr.setObj (F:=fun b=>b=R.x) (Fr.refl _ _) rfl _
 rw [← HM.out.1]
 exact ⟨rfl,⟨zab (lt_of_block hh.hx) _,hh.hp.fr hf (fun e=>hh.nx e.symm),fun i hi=>(hh.hs i hi).fr hf (hh.ns i hi).1.1 (hh.ns i hi).2.1,hh.nx,hh.ns,hh.ng,hh.bd,HM.out.2,hh.hn⟩,hf⟩
theorem zbc (t:Int) (ht:0≤t∧t≤9223372036854775807) (w:World) (h:RgAt w R σ) :
  Calls Tryz.prog 244 #[.pointer (some ⟨R.x,0,none⟩),.int .i64 t] w fun e w'=>e=.returned (.int .i64 (t / (R.s:Int)))∧w=w':=by
 have k:=h.hx.rd
 have hs:=h.bd.2.1
 obtain ⟨q,hq⟩:∃ q,q=t / (R.s:Int):=⟨_,rfl⟩
 have hq2:t.tdiv (R.s:Int)=q:=by rw [hq];exact Int.tdiv_eq_ediv_of_nonneg ht.1
 have hqb:0≤q∧q≤t:=by
  rw [hq]
  exact ⟨Int.ediv_nonneg ht.1 (by omega),Int.ediv_le_self _ ht.1⟩
 have hw:wrap64 q=q:=by unfold wrap64;omega
 have hs0:¬ (R.s:Int)=0:=by omega
 rw [← hq]
 clear h hs hq
 go_enter Tryz.func244,Tryz.ntmps244
 go_wp2
 go_ret
 exact ⟨rfl,rfl⟩
end
end
section
open Ar (inR)
section
variable {w w':World} {R:RgN} {σ:RgS}
def RgS.now (σ:RgS) (R:RgN):Int:=σ.t / (R.s:Int)
theorem RgAt.now_in (h:RgAt w R σ):0≤σ.now R∧σ.now R≤9223372036854775807:=by
 have h1:=h.ht
 have h2:=h.bd.2.1
 have h3:=Int.ediv_le_self (R.s:Int) h1.1
 unfold RgS.now
 exact ⟨Int.ediv_nonneg h1.1 (by omega),by omega⟩
theorem zft (w:World) (h:RgAt w R σ) :
  Calls Tryz.prog 253 #[.pointer (some ⟨R.x,0,none⟩)] w fun e w'=>e=.returned (.int .i64 (σ.now R - ((R.n:Int) - 1)))∧Below w.heap.size w w':=by
 have CN:=zhz (fun wx (hb:Below w.heap.size w wx)=>(zbc σ.t h.ht wx (h.keep hb)).mono (fun e w' hh=>show e=.returned (.int .i64 (σ.now R))∧(∀ i,w'.cell? ⟨R.x,i,none⟩=(ringC R σ.t)[i]?)∧Below w.heap.size w w' from ⟨hh.1,by rw [← hh.2];exact (h.keep hb).hx.rd,by rw [← hh.2];exact hb⟩))
 have hb:=h.bd.1
 have hnow:=h.now_in
 obtain ⟨q,hq⟩:=zeq (σ.now R)
 rw [← hq] at CN hnow ⊢
 have k:∀ i,w.drew.cell? ⟨R.x,i,none⟩=(ringC R σ.t)[i]?:=h.hx.rd
 have y2:Below w.heap.size w w.drew:=zaa (Below.refl _ _) 1
 have e1:IntKind.i64.wrap ((R.n:Int) - 1)=(R.n:Int) - 1:=by rw [IntKind.wrap_i64];omega
 have e2:IntKind.i64.wrap (q - ((R.n:Int) - 1))=q - ((R.n:Int) - 1):=by rw [IntKind.wrap_i64];omega
 clear h hb hnow hq
 go_enter Tryz.func253,Tryz.ntmps253
 go_upto_region 1 with (fail)
 go_region_held3 (fun w'=>∀ i,w'.cell? ⟨R.x,i,none⟩=(ringC R σ.t)[i]?) (assumption)
   (first
    | (go_at_call 244;((with_reducible refine (CN.out _ y2).mono ?_);rintro e wa ⟨rfl,z1,b1⟩)))
 go_wp2
 go_ret
 exact ⟨rfl,b1⟩
theorem zb9 (s:ByteArray) (hs:s.size≤maxLen) (a b:Int) (w:World) (h:RgAt w R σ) :
  Calls Tryz.prog 245 #[.pointer (some ⟨R.x,0,none⟩),.string s,.int .i64 a,.int .i64 b] w fun e w'=>e=.returned (.int .i64 (lsum R σ s a b R.n))∧Below w.heap.size w w':=by
 have HH:=zhz h
 have HS:=zhz hs
 have k:=h.hx.rd
 have hn:=h.bd.1
 have t0:(R.n:Int)≤65:=by omega
 clear h hs hn
 go_enter Tryz.func245,Tryz.ntmps245
 go_wp2
 go_loopg [17,9] R.n (fun kk si ss wr=>∃ j:Nat,j≤R.n∧Hid (kk=R.n - j)∧si=.int .i64 (j:Int)∧ss=.int .i64 (lsum R σ s a b j)∧Hid (Below w.heap.size w wr))
 case atStart=>exact ⟨0,by omega,zhz rfl,rfl,rfl,zhz (Below.refl _ _)⟩
 case round =>
  obtain ⟨j,hj,HKK,rfl,rfl,HB⟩:=hrel
  by_cases hjn:j<R.n
  ·have HR:=zhz (HH.out.keep HB.out)
   obtain ⟨kr0,kr1⟩:=HR.out.part hjn
   obtain ⟨x1,x2,ex1,kr,kw,ex2,bl2,kc2⟩:=box2 wr 234 (.int .i64 0) (.pointer none) (.int .i64 (σ.num j)) (.pointer (some ⟨R.bs j,0,none⟩))
   have BX:=zhz (HB.out.trans (bl2.mono HB.out.size))
   have HX:=zhz (HR.out.keep bl2)
   have kc3:=kc2.rd
   have t2:(j:Int)<(R.n:Int):=by omega
   have HJN:=zhz hjn
   have hsum:lsum R σ s a b (j+1)=if a≤σ.num j∧σ.num j≤b then clamp (lsum R σ s a b j+Sk.leastR (σ.F j) R.P s (R.k - 1)) else lsum R σ s a b j:=rfl
   have hin:=zb4 (R:=R) (σ:=σ) (j:=j) (fun i hi=>(HR.out.hs i (by omega)).ok) s a b
   have hli:=(HR.out.hs j hjn).ok.least R.P s (R.k - 1)
   obtain ⟨lv,hlv⟩:=zeq (lsum R σ s a b j)
   obtain ⟨cv,hcv⟩:=zeq (Sk.leastR (σ.F j) R.P s (R.k - 1))
   have CL:=zhz (fun wx (hb:Below x2.heap.size x2 wx)=>show Calls Tryz.prog 259 #[.pointer (some ⟨R.bs j,0,none⟩),.string s] wx (fun e w'=>e=.returned (.int .i64 cv)∧Below wx.heap.size wx w') from by
    rw [hcv];exact zdo s HS.out wx ((HX.out.keep hb).hs j HJN.out))
   rw [← hlv,← hcv] at hsum
   rw [← hlv] at hin ⊢
   rw [← hcv] at hli
   have CS:=zhz (fun w=>zaS lv cv (by unfold inR;omega) (by unfold inR;omega) w)
   have HSU:=zhz hsum
   clear bl2 kc2 hjn hin hli hlv hcv hsum
   go_upto_region 5 with (fail)
   clear kr kw ex1 kr0 kr1 ex2
   by_cases ha:a≤σ.num j
   ·by_cases hb:σ.num j≤b
    ·have HAB:=zhz (And.intro ha hb)
     go_wp2_with (first
      | (go_at_call 259;((with_reducible refine (CL.out _ (Below.refl _ _)).mono ?_);rintro e w3 ⟨rfl,b3⟩;have B3:=zhz (BX.out.trans (b3.mono BX.out.size));clear b3))
      | (go_at_call 61;((with_reducible refine (CS.out _).mono ?_);rintro e w4 ⟨rfl,rfl⟩)))
     go_roundg (R.n - (j+1))
     case measure=>have:=HKK.out;have:=HJN.out;omega
     case rel=>exact ⟨j+1,HJN.out,zhz rfl,by go_num,by rw [HSU.out,if_pos HAB.out],B3⟩
    ·have hb':¬ σ.num j≤b:=hb
     have HAB:=zhz (show ¬ (a≤σ.num j∧σ.num j≤b) by omega)
     go_wp2
     go_roundg (R.n - (j+1))
     case measure=>have:=HKK.out;have:=HJN.out;omega
     case rel=>exact ⟨j+1,HJN.out,zhz rfl,by go_num,by rw [HSU.out,if_neg HAB.out],BX⟩
   ·have HAB:=zhz (show ¬ (a≤σ.num j∧σ.num j≤b) by omega)
    have hund:undef=Value.tuple #[]:=rfl
    go_wp2
    go_roundg (R.n - (j+1))
    case measure=>have:=HKK.out;have:=HJN.out;omega
    case rel=>exact ⟨j+1,HJN.out,zhz rfl,by go_num,by rw [HSU.out,if_neg HAB.out],BX⟩
  ·have hje:j=R.n:=by omega
   have t2:¬ ((j:Int)<(R.n:Int)):=by omega
   have HJ:=zhz hje
   clear hjn hje
   go_wp2
   go_ret
   exact ⟨by rw [← HJ.out];rfl,HB.out⟩
end
end
section
open Ar (inR)
def leftZ (s:Nat) (t v:Int):Int:=(v*((s:Int) - t % (s:Int))+(s:Int) - 1) / (s:Int)
theorem zgH (N s:Nat) (hs:1≤s):upQ (N / s) (N % s)=(N+s - 1) / s:=by
 have h1:=Nat.div_add_mod N s
 have h2:=Nat.mod_lt N (show 0<s by omega)
 obtain ⟨q,hq⟩:=zeq (N / s)
 obtain ⟨r,hr⟩:=zeq (N % s)
 rw [← hq,← hr] at h1 ⊢
 rw [← hr] at h2
 unfold upQ
 symm
 by_cases h0:r=0
 ·rw [if_pos h0,show N+s - 1=s*q+(s - 1) by omega,Nat.mul_add_div (by omega),Nat.div_eq_of_lt (by omega)];rfl
 ·rw [if_neg h0,show N+s - 1=s*(q+1)+(r - 1) by rw [Nat.mul_succ];omega,Nat.mul_add_div (by omega),Nat.div_eq_of_lt (by omega)]
theorem zej (s tm vn rn:Nat) (t:Int) (hs:1≤s) (ht:t % (s:Int)=(tm:Int)) (hr:rn+tm=s):leftZ s t (vn:Int)=((upQ (vn*rn / s) (vn*rn % s):Nat):Int):=by
 unfold leftZ
 rw [ht,show (s:Int) - (tm:Int)=(rn:Int) by omega,zgH _ _ hs,Int.natCast_ediv]
 congr 1
 have:((vn*rn:Nat):Int)=(vn:Int)*(rn:Int):=Int.natCast_mul _ _
 omega
theorem zdM {s:Nat} (hs:1≤s) {t v:Int} (hv:0≤v):0≤leftZ s t v∧leftZ s t v≤v:=by
 obtain ⟨vn,rfl⟩:=Int.eq_ofNat_of_zero_le hv
 have hm:=Int.emod_nonneg t (show (s:Int)≠0 by omega)
 have hm2:=Int.emod_lt_of_pos t (show (0:Int)<(s:Int) by omega)
 obtain ⟨tm,htm⟩:=Int.eq_ofNat_of_zero_le hm
 obtain ⟨rn,hrn⟩:∃ rn,rn+tm=s:=⟨s - tm,by omega⟩
 rw [zej s tm vn rn t hs htm hrn,zgH _ _ hs]
 refine ⟨Int.natCast_nonneg _,Int.ofNat_le.2 ?_⟩
 have h1:vn*rn≤vn*s:=Nat.mul_le_mul_left _ (by omega)
 have h2:(vn*rn+s - 1) / s≤(vn*s+(s - 1)) / s:=Nat.div_le_div_right (by omega)
 rw [Nat.mul_comm vn s,Nat.mul_add_div (by omega),Nat.div_eq_of_lt (by omega:s - 1<s)] at h2
 omega
theorem zg4 {s:Nat} (hs:1≤s∧s≤9223372036854775807) {t:Int} (ht:0≤t∧t≤9223372036854775807) {vn:Nat} (hv:vn≤9223372036854775807) :
  ∃ tm rn u:Nat,leftZ s t (vn:Int)=(u:Int)∧(∀ w,Calls Tryz.prog 262 #[.int .u64 vn,.int .u64 rn,.int .u64 s] w fun e w'=>e=.returned (.tuple #[.int .u64 (u:Nat),.bool true])∧∃ n,w'=w.drewN n)∧t.tmod (s:Int)=(tm:Int)∧rn+tm=s∧u≤vn:=by
 have hm:=Int.emod_nonneg t (show (s:Int)≠0 by omega)
 obtain ⟨tm,htm⟩:=Int.eq_ofNat_of_zero_le hm
 have hm2:=Int.emod_lt_of_pos t (show (0:Int)<(s:Int) by omega)
 have htm2:tm<s:=by rw [htm] at hm2;omega
 clear hm hm2
 obtain ⟨rn,hrn⟩:∃ rn,rn+tm=s:=⟨s - tm,by omega⟩
 have hz:=zej s tm vn rn t hs.1 htm hrn
 have hl:=zdM (s:=s) hs.1 (t:=t) (v:=(vn:Int)) (Int.natCast_nonneg _)
 rw [hz] at hl
 have hq1:vn*rn / s≤vn:=by
  have h1:vn*rn≤s*vn:=by rw [Nat.mul_comm];exact Nat.mul_le_mul_right _ (by omega)
  exact Nat.div_le_of_le_mul h1
 have hb:vn*rn / 18446744073709551616<s:=by
  rw [Nat.div_lt_iff_lt_mul (by decide)]
  have h1:vn*rn≤vn*s:=Nat.mul_le_mul_left _ (by omega)
  have h2:vn*s<18446744073709551616*s:=Nat.mul_lt_mul_of_pos_right (by omega) (by omega)
  rw [Nat.mul_comm s]
  exact Nat.lt_of_le_of_lt h1 h2
 exact ⟨tm,rn,_,hz,fun w=>zmP vn rn s _ _ (by omega) (by omega) (by omega) (Quo.of hb) (by omega) w,by rw [Int.tmod_eq_emod_of_nonneg ht.1];exact htm,hrn,Int.ofNat_le.1 hl.2⟩
section
variable {w w':World} {R:RgN} {σ:RgS}
theorem zi6 (v:Int) (hv:0≤v∧v≤9223372036854775807) (w:World) (h:RgAt w R σ) :
  Calls Tryz.prog 254 #[.pointer (some ⟨R.x,0,none⟩),.int .i64 v] w fun e w'=>e=.returned (.int .i64 (leftZ R.s σ.t v))∧Below w.heap.size w w':=by
 obtain ⟨vn,rfl⟩:=Int.eq_ofNat_of_zero_le hv.1
 obtain ⟨tm,rn,u,hz,cu,et,hrn,huv⟩:=zg4 h.bd.2.1 h.ht (vn:=vn) (by omega)
 rw [hz]
 have CU:=zhz cu
 have hs:=h.bd.2.1
 have k:∀ i,w.drew.cell? ⟨R.x,i,none⟩=(ringC R σ.t)[i]?:=h.hx.rd
 obtain ⟨s,hse⟩:=zeq (R.s)
 unfold ringC at k
 rw [← hse] at CU et hrn hs k
 have er:IntKind.i64.wrap ((s:Int) - (tm:Int))=(rn:Int):=by rw [IntKind.wrap_i64];omega
 have hs0:¬ (s:Int)=0:=by omega
 have hs1:¬ s=0:=by omega
 have w1:IntKind.u64.wrap (vn:Int)=(vn:Int):=by rw [IntKind.wrap_u64];omega
 have w2:IntKind.u64.wrap (rn:Int)=(rn:Int):=by rw [IntKind.wrap_u64];omega
 have w3:IntKind.u64.wrap (s:Int)=(s:Int):=by rw [IntKind.wrap_u64];omega
 have w4:IntKind.i64.wrap (u:Int)=(u:Int):=by rw [IntKind.wrap_i64];omega
 clear h hs hz hrn huv hv hse cu
 go_enter Tryz.func254,Tryz.ntmps254
 go_upto_region 1 with (fail)
 refine wp_region_held_drew (S:=fun w'=>∀ i,w'.cell? ⟨R.x,i,none⟩=(#[.slice (some ⟨R.pb,0,none⟩) R.n R.n,.int .i64 (s:Int),.int .i64 R.L,.int .i64 σ.t,.bool R.sm]:Array Value)[i]?) (by kernel_rfl) k (fun hHeld=>?_)
 refine wR 0 ?_
 refine wR 1 ?_
 refine wR 2 ?_
 refine wR 3 ?_
 refine wR 4 ?_
 refine wR 5 ?_
 refine wR 6 ?_
 refine wR 7 ?_
 refine wR 8 ?_
 refine wR 9 ?_
 refine wR 10 ?_
 refine wR 11 ?_
 refine wR 12 ?_
 refine wR 13 ?_
 refine wR 14 ?_
 refine wR 15 ?_
 refine wR 16 ?_
 refine wR 17 ?_
 refine wR 18 ?_
 refine wR 19 ?_
 refine wR 20 ?_
 refine wR 21 ?_
 refine wC 22 fun K hK=>?_
 go_simp
 ((with_reducible refine (CU.out _).mono ?_);rintro e wa ⟨rfl,d,rfl⟩)
 refine hK.out _ _ (show ∀ i,(w.drew.drewN d).cell? ⟨R.x,i,none⟩=_ from k) fun hHeld=>?_
 clear hK K
 try simp only [Act.put,zs1,zs2,zs3]
 refine wR 23 ?_
 refine wR 24 ?_
 refine wR 25 ?_
 refine wR 26 ?_
 refine wR 27 ?_
 refine wpAnyH_done (by kernel_rfl) ?_ _
 clear hHeld k
 go_wp2
 go_ret
 exact ⟨rfl,zaa (Below.refl _ _) (1+d)⟩
def eldZ (R:RgN) (σ:RgS) (s:ByteArray):Int :=
 let v:=lsum R σ s (σ.now R - ((R.n:Int) - 1)) (σ.now R - ((R.n:Int) - 1)) R.n
 if R.sm then leftZ R.s σ.t v else v
def estZ (R:RgN) (σ:RgS) (s:ByteArray):Int:=clamp (eldZ R σ s+lsum R σ s (σ.now R - ((R.n:Int) - 1)+1) (σ.now R) R.n)
theorem RgAt.ok (h:RgAt w R σ):∀ i,i<R.n→Sk.okC (σ.F i):=fun i hi=>(h.hs i hi).ok
theorem zh5 (h:RgAt w R σ) (s:ByteArray):0≤eldZ R σ s∧eldZ R σ s≤9223372036854775807:=by
 have h1:=zb4 (R:=R) (σ:=σ) h.ok s (σ.now R - ((R.n:Int) - 1)) (σ.now R - ((R.n:Int) - 1))
 have h2:=zdM (s:=R.s) h.bd.2.1.1 (t:=σ.t) h1.1
 unfold eldZ
 simp only
 split <;> omega
theorem ze4 (h:RgAt w R σ) (s:ByteArray):0≤estZ R σ s∧estZ R σ s≤9223372036854775807 :=
 zd5 (zh5 h s) (zb4 h.ok s _ _)
theorem zaG (s:ByteArray) (hs:s.size≤maxLen) (w:World) (h:RgAt w R σ) :
  Calls Tryz.prog 236 #[.pointer (some ⟨R.x,0,none⟩),.string s] w fun e w'=>e=.returned (.int .i64 (estZ R σ s))∧Below w.heap.size w w':=by
 have hn:=h.bd.1
 have hnow:=h.now_in
 have hl:=zb4 (R:=R) (σ:=σ) h.ok s (σ.now R - ((R.n:Int) - 1)) (σ.now R - ((R.n:Int) - 1))
 have hl2:=zb4 (R:=R) (σ:=σ) h.ok s (σ.now R - ((R.n:Int) - 1)+1) (σ.now R)
 have he:=zh5 h s
 have CE:=zhz (fun wx (hb:Below w.heap.size w wx)=>zft wx (h.keep hb))
 have CN:=zhz (fun wx (hb:Below w.heap.size w wx)=>zbc σ.t h.ht wx (h.keep hb))
 have CL1:=zhz (fun wx (hb:Below w.heap.size w wx)=>zb9 s hs (σ.now R - ((R.n:Int) - 1)) (σ.now R - ((R.n:Int) - 1)) wx (h.keep hb))
 have CL2:=zhz (fun wx (hb:Below w.heap.size w wx)=>zb9 s hs (σ.now R - ((R.n:Int) - 1)+1) (σ.now R) wx (h.keep hb))
 have CF:=zhz (fun wx (hb:Below w.heap.size w wx)=>zi6 _ hl wx (h.keep hb))
 have CS:=zhz (fun wx=>zaS (eldZ R σ s) (lsum R σ s (σ.now R - ((R.n:Int) - 1)+1) (σ.now R) R.n) (by unfold inR;omega) (by unfold inR;omega) wx)
 have HE:=zhz (show estZ R σ s=clamp (eldZ R σ s+lsum R σ s (σ.now R - ((R.n:Int) - 1)+1) (σ.now R) R.n) from rfl)
 have HD:=zhz (show eldZ R σ s=if R.sm then leftZ R.s σ.t (lsum R σ s (σ.now R - ((R.n:Int) - 1)) (σ.now R - ((R.n:Int) - 1)) R.n) else lsum R σ s (σ.now R - ((R.n:Int) - 1)) (σ.now R - ((R.n:Int) - 1)) R.n from rfl)
 have HH:=zhz h
 change Hid (∀ wx,Below w.heap.size w wx→Calls Tryz.prog 244 #[.pointer (some ⟨R.x,0,none⟩),.int .i64 σ.t] wx fun e w'=>e=.returned (.int .i64 (σ.now R))∧wx=w') at CN
 obtain ⟨nw,hnw⟩:=zeq (σ.now R)
 rw [← hnw] at CE CN CL1 CL2 CF CS HE HD hnow
 obtain ⟨el,hel⟩:∃ el,el=nw - ((R.n:Int) - 1):=⟨_,rfl⟩
 rw [← hel] at CE CL1 CL2 CF CS HE HD
 obtain ⟨v1,hv1⟩:=zeq (lsum R σ s el el R.n)
 obtain ⟨v2,hv2⟩:=zeq (lsum R σ s (el+1) nw R.n)
 rw [← hv1] at CL1 CF HD
 rw [← hv2] at CL2 CS HE
 have e1:IntKind.i64.wrap (el+1)=el+1:=by rw [IntKind.wrap_i64];omega
 rw [HE.out]
 clear h hs hn hnow hl hl2 he hnw hel hv1 hv2
 go_enter Tryz.func236,Tryz.ntmps236
 go_upto_region 5 with (first
  | (go_at_call 253;((with_reducible refine (CE.out _ (Below.refl _ _)).mono ?_);rintro e w1 ⟨rfl,b1⟩;have B1:=zhz b1;clear b1))
  | (go_at_call 245;((with_reducible refine (CL1.out _ B1.out).mono ?_);rintro e w2 ⟨rfl,b2⟩;have B2:=zhz (B1.out.trans (b2.mono B1.out.size));clear b2)))
 have k:=(HH.out.keep B2.out).hx.rd
 unfold ringC at k
 cases hsm:R.sm with
 | false =>
  rw [hsm] at HD k
  simp only [Bool.false_eq_true,if_false] at HD
  rw [HD.out] at CS
  clear hsm
  go_upto_region 7 with (fail)
  have k:=(HH.out.keep B2.out).hx.rd
  go_wp2_with (first
   | (go_at_call 244;((with_reducible refine (CN.out _ B2.out).mono ?_);rintro e w3 ⟨rfl,rfl⟩))
   | (go_at_call 245;((with_reducible refine (CL2.out _ B2.out).mono ?_);rintro e w4 ⟨rfl,b4⟩;have B4:=zhz (B2.out.trans (b4.mono B2.out.size));clear b4))
   | (go_at_call 61;((with_reducible refine (CS.out _).mono ?_);rintro e w5 ⟨rfl,rfl⟩)))
  go_ret
  exact ⟨by rw [HD.out];rfl,B4.out⟩
 | true =>
  rw [hsm] at HD k
  simp only [if_true] at HD
  rw [HD.out] at CS
  clear hsm
  go_upto_region 7 with (go_at_call 254;((with_reducible refine (CF.out _ B2.out).mono ?_);rintro e w3 ⟨rfl,b3⟩;have B3:=zhz (B2.out.trans (b3.mono B2.out.size));clear b3))
  clear k
  have k:=(HH.out.keep B3.out).hx.rd
  go_wp2_with (first
   | (go_at_call 244;((with_reducible refine (CN.out _ B3.out).mono ?_);rintro e w3 ⟨rfl,rfl⟩))
   | (go_at_call 245;((with_reducible refine (CL2.out _ B3.out).mono ?_);rintro e w4 ⟨rfl,b4⟩;have B4:=zhz (B3.out.trans (b4.mono B3.out.size));clear b4))
   | (go_at_call 61;((with_reducible refine (CS.out _).mono ?_);rintro e w5 ⟨rfl,rfl⟩)))
  go_ret
  exact ⟨by rw [HD.out];rfl,B4.out⟩
end
end
section
open Ar (inR)
section
variable {w w':World} {R:RgN} {σ:RgS}
/-! #### Add -/
def updN {α:Type} (f:Nat→α) (i:Nat) (v:α):Nat→α:=fun j=>if j=i then v else f j
theorem zan {α:Type} (f:Nat→α) (i:Nat) (v:α):updN f i v i=v:=if_pos rfl
theorem zaz {α:Type} (f:Nat→α) {i j:Nat} (v:α) (h:j≠i):updN f i v j=f j:=if_neg h
theorem zlX (R:RgN) (num:Nat→Int) {i:Nat} (_hi:i<R.n) (v:Int):(ptL R num).set i (v,R.bs i)=ptL R (updN num i v):=by
 apply List.ext_getElem?
 intro j
 by_cases hj:j<R.n
 ·rw [List.getElem?_set]
  by_cases e:i=j
  ·subst e;rw [if_pos rfl,if_pos (by rw [zfq];exact hj),zb7 R _ hj,zan]
  ·rw [if_neg e,zb7 R _ hj,zb7 R _ hj,zaz _ _ (Ne.symm e)]
 ·rw [List.getElem?_eq_none (by rw [List.length_set,zfq];omega),List.getElem?_eq_none (by rw [zfq];omega)]
theorem RgAt.putF {i:Nat} {f:Nat→Nat→Int} (h:RgAt w R σ) (hi:i<R.n) (h1:SlAt w' (R.SN i) f) (hf:Fr (fun b=>b=R.gs i) w w'):RgAt w' R ⟨σ.t,σ.num,updN σ.F i f⟩:=by
 refine ⟨h.hx.fr hf (fun e=>(h.ns i hi).2.1 e.symm),h.hp.fr hf (fun e=>(h.ns i hi).2.2 e.symm),fun j hj=>?_,h.nx,h.ns,h.ng,h.bd,h.ht,h.hn⟩
 by_cases e:j=i
 ·subst e;show SlAt w' (R.SN j) (updN σ.F j f j);rw [zan];exact h1
 ·show SlAt w' (R.SN j) (updN σ.F i f j)
  rw [zaz _ _ e]
  exact (h.hs j hj).fr hf (fun e2=>(h.ng i j hi hj).1 e2.symm) (fun e2=>(h.ng i j hi hj).2 (Ne.symm e) e2.symm)
theorem RgAt.putN {i:Nat} {v:Int} (h:RgAt w R σ) (_hi:i<R.n) (hv:0≤v∧v≤9223372036854775807):RgAt (setObj w R.pb (.cells (rws encPt (ptL R (updN σ.num i v))).toArray 234 (0,0))) R ⟨σ.t,updN σ.num i v,σ.F⟩:=by
 have hf:Fr (fun b=>b=R.pb) w (setObj w R.pb (.cells (rws encPt (ptL R (updN σ.num i v))).toArray 234 (0,0))):=Fr.setObj (F:=fun b=>b=R.pb) (Fr.refl _ _) rfl _
 exact ⟨h.hx.fr hf h.nx,zab (lt_of_block h.hp) _,fun j hj=>(h.hs j hj).fr hf (h.ns j hj).1.2 (h.ns j hj).2.2,h.nx,h.ns,h.ng,h.bd,h.ht,fun j=>by
  show 0≤updN σ.num i v j∧updN σ.num i v j≤_
  by_cases e:j=i
  ·rw [e,zan];exact hv
  ·rw [zaz _ _ e];exact h.hn j⟩
def RgS.pl (σ:RgS) (R:RgN):Nat:=(σ.now R % (R.n:Int)).toNat
def RgS.add (σ:RgS) (R:RgN) (s:ByteArray) (c:Int):RgS :=
 ⟨σ.t,updN σ.num (σ.pl R) (σ.now R),updN σ.F (σ.pl R) (Sk.add (if σ.num (σ.pl R)=σ.now R then σ.F (σ.pl R) else fun _ _=>0) R.P R.k s c)⟩
theorem RgAt.pl_lt (h:RgAt w R σ):σ.pl R<R.n∧σ.now R % (R.n:Int)=(σ.pl R:Int):=by
 have hn:=h.bd.1
 have h1:=Int.emod_nonneg (σ.now R) (show (R.n:Int)≠0 by omega)
 have h2:=Int.emod_lt_of_pos (σ.now R) (show (0:Int)<(R.n:Int) by omega)
 unfold RgS.pl
 omega
theorem zgr (s:ByteArray) (hs:s.size≤maxLen) (c:Int) (hc : -9223372036854775808≤c∧c≤9223372036854775807) (w:World) (h:RgAt w R σ) :
  Calls Tryz.prog 238 #[.pointer (some ⟨R.x,0,none⟩),.string s,.int .i64 c] w fun e w'=>e=.returned (.tuple #[])∧RgAt w' R (σ.add R s c)∧Fr R.F w w':=by
 have HH:=zhz h
 have HS:=zhz (And.intro hs hc)
 have hn:=h.bd.1
 have hnow:=h.now_in
 have hpl:=h.pl_lt
 have k:=h.hx.rd
 have kp:=h.part hpl.1
 have CN:=zhz (show Calls Tryz.prog 244 #[.pointer (some ⟨R.x,0,none⟩),.int .i64 σ.t] w (fun e w'=>e=.returned (.int .i64 (σ.now R))∧w=w') from zbc σ.t h.ht w h)
 have HA:=zhz (show σ.add R s c=⟨σ.t,updN σ.num (σ.pl R) (σ.now R),updN σ.F (σ.pl R) (Sk.add (if σ.num (σ.pl R)=σ.now R then σ.F (σ.pl R) else fun _ _=>0) R.P R.k s c)⟩ from rfl)
 obtain ⟨nw,hnw⟩:=zeq (σ.now R)
 obtain ⟨i,hi⟩:=zeq (σ.pl R)
 rw [← hnw,← hi] at hpl HA
 rw [← hi] at kp
 rw [← hnw] at hnow CN
 have em:nw.tmod (R.n:Int)=(i:Int):=by rw [Int.tmod_eq_emod_of_nonneg hnow.1];exact hpl.2
 have hn0:¬ (R.n:Int)=0:=by omega
 have hn1:¬ R.n=0:=by omega
 have t1:(i:Int)<(R.n:Int):=by omega
 have t2:(R.n:Int)≤65:=by omega
 have HI:=zhz (And.intro hpl.1 hnow)
 have FR:=zhz (show Fr R.F w w from Fr.refl _ _)
 clear h hs hc hn hnow hpl hnw hi
 go_enter Tryz.func238,Tryz.ntmps238
 go_upto_region 2 with (go_at_call 244;((with_reducible refine CN.out.mono ?_);rintro e w1 ⟨rfl,rfl⟩))
 go_quiet (fail)
 have BD:=zhz (show Below w.heap.size w (w.drewN nq) from zaa (Below.refl _ _) nq)
 generalize w.drewN nq=w2 at BD ⊢
 have H2:=zhz (HH.out.keep BD.out)
 clear k kp em hn0 hn1
 obtain ⟨kp0,kp1⟩:=H2.out.part HI.out.1
 by_cases hnum:σ.num i=nw
 ·have HE:=zhz hnum
  have CA:=zhz (fun wx (hx:SlAt wx (R.SN i) (σ.F i))=>show Calls Tryz.prog 256 #[.pointer (some ⟨R.bs i,0,none⟩),.string s,.int .i64 c] wx (fun e w'=>e=.returned (.tuple #[])∧SlAt w' (R.SN i) (Sk.add (σ.F i) R.P R.k s c)∧Fr (fun b=>b=R.gs i) wx w') from zgC s HS.out.1 c HS.out.2 wx hx)
  have t3:(σ.num i != nw)=false:=by simpa using hnum
  clear hnum
  go_wp2_with (go_at_call 256;((with_reducible refine (CA.out _ (H2.out.hs i HI.out.1)).mono ?_);rintro e w4 ⟨rfl,s4,f4⟩;have S4:=zhz s4;have F4:=zhz f4;clear s4 f4))
  go_end0
  rw [HA.out,if_pos HE.out]
  have h4:=H2.out.putF HI.out.1 S4.out F4.out
  have e:updN σ.num i nw=σ.num:=by funext j;unfold updN;split;(rename_i hj;rw [hj,HE.out]);rfl
  rw [e]
  exact ⟨rfl,h4,(Fr.of_below BD.out).trans (F4.out.mono (fun b hb=>Or.inr (Or.inr ⟨i,HI.out.1,hb⟩)))⟩
 ·have HE:=zhz hnum
  have CC:=zhz (fun wx (hx:SlAt wx (R.SN i) (σ.F i))=>show Calls Tryz.prog 255 #[.pointer (some ⟨R.bs i,0,none⟩)] wx (fun e w'=>e=.returned (.tuple #[])∧SlAt w' (R.SN i) (fun _ _=>0)∧Fr (fun b=>b=R.gs i) wx w') from zhn wx hx)
  have CA:=zhz (fun wx (hx:SlAt wx (R.SN i) (fun _ _=>0))=>show Calls Tryz.prog 256 #[.pointer (some ⟨R.bs i,0,none⟩),.string s,.int .i64 c] wx (fun e w'=>e=.returned (.tuple #[])∧SlAt w' (R.SN i) (Sk.add (fun _ _=>0) R.P R.k s c)∧Fr (fun b=>b=R.gs i) wx w') from zgC s HS.out.1 c HS.out.2 wx hx)
  have t3:(σ.num i != nw)=true:=by simpa using hnum
  clear hnum
  go_upto_region 5 with (go_at_call 255;((with_reducible refine (CC.out _ (H2.out.hs i HI.out.1)).mono ?_);rintro e w3 ⟨rfl,s3,f3⟩;have H3:=zhz (H2.out.putF HI.out.1 s3 f3);have F3:=zhz f3;clear s3 f3))
  clear kp0 kp1
  obtain ⟨kp0,kp1⟩:=H3.out.part HI.out.1
  have kw:=H3.out.hp.wr
  go_upto_region 6 with (fail)
  rw [show w3.setCell ⟨R.pb,i*2,none⟩ (.int .i64 nw)=setObj w3 R.pb (.cells (rws encPt (ptL R (updN σ.num i nw))).toArray 234 (0,0)) from by
   have:=zbf (v:=.int .i64 nw) zcw H3.out.hp (zb7 R σ.num HI.out.1) (j:=0) (a':=(nw,R.bs i)) rfl (by omega)
   rw [zlX R σ.num HI.out.1] at this
   exact this]
  have H4:=zhz (H3.out.putN HI.out.1 HI.out.2)
  have F4:=zhz (F3.out.mono (fun b hb=>(Or.inr (Or.inr ⟨i,HI.out.1,hb⟩):R.F b)) |>.trans (Fr.setObj (F:=R.F) (Fr.refl _ w3) (Or.inr (Or.inl rfl)) (.cells (rws encPt (ptL R (updN σ.num i nw))).toArray 234 (0,0))))
  clear kp0 kp1 kw
  generalize setObj w3 R.pb (.cells (rws encPt (ptL R (updN σ.num i nw))).toArray 234 (0,0))=w5 at H4 F4 ⊢
  obtain ⟨kp0,kp1⟩:=H4.out.part HI.out.1
  have hs5:=H4.out.hs i HI.out.1
  have e0:updN σ.F i (fun _ _=>0) i=fun _ _=>0:=zan _ _ _
  have HS5:=zhz (show SlAt w5 (R.SN i) (fun _ _=>0) from by have:=hs5;simp only [e0] at this;exact this)
  clear hs5 e0
  go_wp2_with (go_at_call 256;((with_reducible refine (CA.out _ HS5.out).mono ?_);rintro e w6 ⟨rfl,s6,f6⟩;have S6:=zhz s6;have F6:=zhz f6;clear s6 f6))
  go_end0
  rw [HA.out,if_neg HE.out]
  have h6:=H4.out.putF HI.out.1 S6.out F6.out
  have e:updN (updN σ.F i fun _ _=>0) i (Sk.add (fun _ _=>0) R.P R.k s c)=updN σ.F i (Sk.add (fun _ _=>0) R.P R.k s c):=by funext j;unfold updN;split <;> rfl
  refine ⟨rfl,?_,((Fr.of_below BD.out).trans F4.out).trans (F6.out.mono (fun b hb=>Or.inr (Or.inr ⟨i,HI.out.1,hb⟩)))⟩
  have h7:=h6
  simp only at h7
  rw [← e]
  exact h7
end
end
section
open Ar (inR)
def roomAt (R:RgN) (σ:RgS) (s:ByteArray) (c x:Int):Prop:=clamp (lsum R σ s (x - ((R.n:Int) - 1)) (σ.now R) R.n+c)≤R.L
instance (R:RgN) (σ:RgS) (s:ByteArray) (c x:Int):Decidable (roomAt R σ s c x):=by unfold roomAt;infer_instance
def nextR (R:RgN) (σ:RgS) (s:ByteArray) (c:Int):Nat→Int→Int
 | 0,x=>x
 | j+1,x=>if roomAt R σ s c x then x else nextR R σ s c j (x+1)
def waitR (R:RgN) (σ:RgS) (s:ByteArray) (c:Int):Int :=
 if clamp (estZ R σ s+c)≤R.L then 0 else clamp (nextR R σ s c (R.n - 1) (σ.now R+1)*(R.s:Int)) - σ.t
theorem zgk (R:RgN) (σ:RgS) (s:ByteArray) (c:Int):∀ (j:Nat) (x:Int),x≤nextR R σ s c j x∧nextR R σ s c j x≤x+j
 | 0,x=>⟨Int.le_refl _,by show x≤x+0;omega⟩
 | j+1,x=>by
  have ih:=zgk R σ s c j (x+1)
  unfold nextR
  split
  ·omega
  ·omega
section
variable {w w':World} {R:RgN} {σ:RgS}
theorem zeF (s:ByteArray) (hs:s.size≤maxLen) (c:Int) (hc : -9223372036854775808≤c∧c≤9223372036854775807) (w:World) (h:RgAt w R σ) (hbig:σ.now R≤9223372036854775000) :
  Calls Tryz.prog 226 #[.pointer (some ⟨R.x,0,none⟩),.string s,.int .i64 c] w fun e w'=>e=.returned (.int .i64 (waitR R σ s c))∧Below w.heap.size w w':=by
 have hn:=h.bd.1
 have hL:=h.bd.2.2
 have hss:=h.bd.2.1
 have ht:=h.ht
 have hnow:=h.now_in
 have he:=ze4 h s
 have hk:∀ wx,Below w.heap.size w wx→∀ i,wx.cell? ⟨R.x,i,none⟩=(ringC R σ.t)[i]?:=fun wx hb=>(h.keep hb).hx.rd
 have CE:=zhz (fun wx (hb:Below w.heap.size w wx)=>zaG s hs wx (h.keep hb))
 have CN:=zhz (fun wx (hb:Below w.heap.size w wx)=>show Calls Tryz.prog 244 #[.pointer (some ⟨R.x,0,none⟩),.int .i64 σ.t] wx (fun e w'=>e=.returned (.int .i64 (σ.now R))∧wx=w') from zbc σ.t h.ht wx (h.keep hb))
 have CL:=zhz (fun (a b:Int) wx (hb:Below w.heap.size w wx)=>zb9 s hs a b wx (h.keep hb))
 have CS:=zhz (fun (a:Int) (ha:0≤a∧a≤9223372036854775807) wx=>zaS a c (by unfold inR;omega) hc wx)
 have HL:=zhz (fun (a b:Int)=>zb4 (R:=R) (σ:=σ) h.ok s a b)
 have HW:=zhz (show waitR R σ s c=if clamp (estZ R σ s+c)≤R.L then 0 else clamp (nextR R σ s c (R.n - 1) (σ.now R+1)*(R.s:Int)) - σ.t from rfl)
 have HRA:=zhz (fun x=>show roomAt R σ s c x ↔ clamp (lsum R σ s (x - ((R.n:Int) - 1)) (σ.now R) R.n+c)≤R.L from Iff.rfl)
 have SB:=zhz hk
 obtain ⟨nw,hnw⟩:=zeq (σ.now R)
 rw [← hnw] at CN HW HRA hnow hbig
 obtain ⟨ev,hev⟩:=zeq (estZ R σ s)
 rw [← hev] at CE HW he
 have C1:=zhz (CS.out ev he)
 have HB:=zhz (And.intro hn (And.intro hss (And.intro ht (And.intro hnow hbig))))
 obtain ⟨m,hm⟩:=zeq (R.n - 1)
 have em:(R.n:Int) - 1=(m:Int):=by omega
 have emw:IntKind.i64.wrap ((R.n:Int) - 1)=(m:Int):=by rw [IntKind.wrap_i64];omega
 have HMm:=zhz (show R.n=m+1∧1≤m∧m≤64 by omega)
 rw [← hm] at HW
 simp only [em] at HRA
 have tm:(m:Int)≤64:=by omega
 have ew:IntKind.i64.wrap (nw+1)=nw+1:=by rw [IntKind.wrap_i64];omega
 have y0:Below w.heap.size w w.drew:=zaa (Below.refl _ _) 1
 have k0:=SB.out _ y0
 clear h hs hc hn hL hss ht hnow he hk hnw hev hm em hbig
 go_enter Tryz.func226,Tryz.ntmps226
 go_upto_region 1 with (fail)
 go_region_held3 (fun w'=>∀ i,w'.cell? ⟨R.x,i,none⟩=(ringC R σ.t)[i]?) (first | assumption | exact SB.out _ y1)
   (first
    | (go_at_call 236;((with_reducible refine (CE.out _ y0).mono ?_);rintro e w1 ⟨rfl,b1⟩;have y1:=y0.trans (b1.mono y0.size)))
    | (go_at_call 61;((with_reducible refine (C1.out _).mono ?_);rintro e w2 ⟨rfl,rfl⟩)))
 have Y1:=zhz y1
 clear k0 y0 y1 b1
 by_cases hroom:clamp (ev+c)≤R.L
 ·have HR:=zhz hroom
  go_wp2
  go_ret
  exact ⟨by rw [HW.out,if_pos HR.out];rfl,Y1.out⟩
 ·have HR:=zhz hroom
  have y2:Below w.heap.size w w1.drew:=zaa Y1.out 1
  have k2:=SB.out _ y2
  go_upto_region 3 with (fail)
  clear hroom
  go_region_held3 (fun w'=>∀ i,w'.cell? ⟨R.x,i,none⟩=(ringC R σ.t)[i]?) (first | assumption)
    (first
     | (go_at_call 244;((with_reducible refine (CN.out _ y2).mono ?_);rintro e w2 ⟨rfl,rfl⟩)))
  have Y2:=zhz y2
  clear k2 y2 emw
  go_wp2
  have FIN:=zhz (fun (x:Int) (hx:0≤x∧x≤9223372036854775807) (wx:World) (hb:Below w.heap.size w wx)=>show (∀ w9,Calls Tryz.prog 120 #[.int .i64 x,.int .i64 (R.s:Int)] w9 fun e w'=>e=.returned (.int .i64 (clamp (x*(R.s:Int))))∧w9=w')∧(0≤clamp (x*(R.s:Int))∧clamp (x*(R.s:Int))≤9223372036854775807) from
   ⟨fun w9=>zaK x (R.s:Int) (by unfold inR;omega) (by unfold inR;have:=HB.out.2.1;omega) w9,by
    have h0:0≤x*(R.s:Int):=Int.mul_nonneg hx.1 (by omega)
    unfold clamp
    split
    ·omega
    ·split <;> omega⟩)
  go_loopg [39,9] m (fun kk si sx wr=>∃ (j:Nat) (x:Int),j≤m∧Hid (kk=m - j)∧si=.int .i64 (j:Int)∧sx=.int .i64 x∧Hid (x=nw+1+(j:Int))∧Hid (nextR R σ s c m (nw+1)=nextR R σ s c (m - j) x)∧Hid (Below w.heap.size w wr))
  case atStart=>exact ⟨0,nw+1,by omega,zhz rfl,rfl,rfl,zhz (by omega),zhz rfl,Y2⟩
  case round =>
   obtain ⟨j,x,hj,HKK,rfl,rfl,HX,HN,HBW⟩:=hrel
   have hx:=HX.out
   have hb4:=HB.out.2.2.2
   have fin:=FIN.out x (by have:=HMm.out;omega) wr HBW.out
   have y0:Below w.heap.size w wr.drew:=zaa HBW.out 1
   have k0:=SB.out _ y0
   by_cases hjm:j<m
   ·have CL1:=zhz (CL.out (x - (m:Int)) nw)
    have hl:=HL.out (x - (m:Int)) nw
    have hra:=HRA.out x
    obtain ⟨lv,hlv⟩:∃ lv,lv=lsum R σ s (x - (m:Int)) nw R.n:=⟨_,rfl⟩
    rw [← hlv] at CL1 hl hra
    have C2:=zhz (CS.out lv hl)
    have ex:IntKind.i64.wrap (x - (m:Int))=x - (m:Int):=by rw [IntKind.wrap_i64];omega
    have ex1:IntKind.i64.wrap (x+1)=x+1:=by rw [IntKind.wrap_i64];have:=HMm.out;omega
    have ej:(j:Int)<(m:Int):=by omega
    have HJ:=zhz (And.intro hjm hra)
    have FN:=zhz fin
    clear hx hb4 hl hlv hjm hra fin
    go_upto_region 7 with (fail)
    go_region_held3 (fun w'=>∀ i,w'.cell? ⟨R.x,i,none⟩=(ringC R σ.t)[i]?) (first | assumption | exact SB.out _ y1)
      (first
       | (go_at_call 245;((with_reducible refine (CL1.out _ y0).mono ?_);rintro e w3 ⟨rfl,b1⟩;have y1:=y0.trans (b1.mono y0.size)))
       | (go_at_call 61;((with_reducible refine (C2.out _).mono ?_);rintro e w4 ⟨rfl,rfl⟩)))
    have Y5:=zhz y1
    clear k0 y0 y1 b1
    by_cases hok:clamp (lv+c)≤R.L
    ·have HOK:=zhz hok
     have y6:Below w.heap.size w w3.drew:=zaa Y5.out 1
     have k6:=SB.out _ y6
     obtain ⟨pv,hpv⟩:∃ pv,pv=clamp (x*(R.s:Int)):=⟨_,rfl⟩
     have hfp:=FN.out
     rw [← hpv] at hfp
     have CP:=zhz hfp.1
     have epv:IntKind.i64.wrap (pv - σ.t)=pv - σ.t:=by rw [IntKind.wrap_i64];have:=HB.out.2.2.1;omega
     have HPV:=zhz hpv
     clear hfp hpv
     go_upto_region 10 with (fail)
     clear hok
     go_region_held3 (fun w'=>∀ i,w'.cell? ⟨R.x,i,none⟩=(ringC R σ.t)[i]?) (first | assumption)
       (first
        | (go_at_call 120;((with_reducible refine (CP.out _).mono ?_);rintro e w7 ⟨rfl,rfl⟩)))
     go_wp2
     go_ret
     refine ⟨?_,y6⟩
     rw [HW.out,if_neg (Int.not_le.2 HR.out),HN.out]
     have:nextR R σ s c (m - j) x=x:=by
      obtain ⟨q,hq⟩:∃ q,m - j=q+1:=⟨m - j - 1,by have:=HJ.out.1;omega⟩
      rw [hq];unfold nextR;rw [if_pos (HJ.out.2.2 HOK.out)]
     rw [this,← HPV.out];rfl
    ·have HOK:=zhz hok
     go_wp2
     go_roundg (m - (j+1))
     case measure=>have:=HKK.out;have:=HJ.out.1;omega
     case rel=>exact ⟨j+1,x+1,HJ.out.1,zhz rfl,by go_num,rfl,zhz (by have:=HX.out;omega),zhz (by
      rw [HN.out]
      obtain ⟨q,hq⟩:∃ q,m - j=q+1:=⟨m - j - 1,by have:=HJ.out.1;omega⟩
      rw [hq,show m - (j+1)=q by omega]
      show nextR R σ s c (q+1) x=_
      unfold nextR
      rw [if_neg (fun hh=>absurd (HJ.out.2.1 hh) (by have:=HOK.out;omega))]
      cases q <;> rfl),Y5⟩
   ·have hjm2:j=m:=by omega
    have ej:¬ ((j:Int)<(m:Int)):=by omega
    obtain ⟨pv,hpv⟩:∃ pv,pv=clamp (x*(R.s:Int)):=⟨_,rfl⟩
    rw [← hpv] at fin
    have CP:=zhz fin.1
    have epv:IntKind.i64.wrap (pv - σ.t)=pv - σ.t:=by rw [IntKind.wrap_i64];have:=HB.out.2.2.1;omega
    have HPV:=zhz (And.intro hpv hjm2)
    clear hx hb4 hjm hjm2 fin hpv
    go_upto_region 10 with (fail)
    go_region_held3 (fun w'=>∀ i,w'.cell? ⟨R.x,i,none⟩=(ringC R σ.t)[i]?) (first | assumption)
      (first
       | (go_at_call 120;((with_reducible refine (CP.out _).mono ?_);rintro e w7 ⟨rfl,rfl⟩)))
    go_wp2
    go_ret
    refine ⟨?_,y0⟩
    rw [HW.out,if_neg (Int.not_le.2 HR.out),HN.out,HPV.out.2,Nat.sub_self]
    show _=Ending.returned (.int .i64 (clamp (x*(R.s:Int)) - σ.t))
    rw [← HPV.out.1];rfl
end
end
section
open Ar (inR)
abbrev rlV (L Wd B Sl Ce Ro Wi Tr:Int) (sm:Bool):Value:=.agg #[.int .i64 L,.int .i64 Wd,.int .i64 B,.int .i64 Sl,.int .i64 Ce,.int .i64 Ro,.int .i64 Wi,.int .i64 Tr,.bool sm]
abbrev rlC (L Wd B Sl Ce Ro Wi Tr:Int) (sm:Bool):Array Value:=#[.int .i64 L,.int .i64 Wd,.int .i64 B,.int .i64 Sl,.int .i64 Ce,.int .i64 Ro,.int .i64 Wi,.int .i64 Tr,.bool sm]
def encPv (a:Int × Value):List Value:=[.int .i64 a.1,a.2]
theorem zcx (a:Int × Value):(encPv a).length=2:=rfl
theorem zl8 {w w':World} {b k:Nat} {X A B:Nat→Nat} {F:Nat→Prop} (h:RowsAt w b k X A B) (hf:Fr F w w') (hF:¬ F b):RowsAt w' b k X A B:=by
 obtain ⟨C,h1,h2,h3⟩:=h.blk
 exact ⟨C,(hf.block b (lt_of_block h1) hF).trans h1,h2,h3⟩
theorem zeD {w w':World} {b k:Nat} {X A B:Nat→Nat} (h:RowsAt w b k X A B) (hb:Below w.heap.size w w'):RowsAt w' b k X A B:=zl8 (F:=fun _=>False) h (Fr.of_below hb) id
def ptV (n j:Nat) (bs:Nat→Nat):List (Int × Value):=(List.range n).map fun i=>(0,if i<j then .pointer (some ⟨bs i,0,none⟩) else .pointer none)
theorem zfr (n j:Nat) (bs:Nat→Nat):(ptV n j bs).length=n:=by simp [ptV]
theorem zkl (n:Nat) (bs:Nat→Nat):ptV n 0 bs=List.replicate n (0,.pointer none):=by
 unfold ptV
 apply List.ext_getElem
 ·simp
 ·intro i h1 h2;simp
theorem zcM {n j:Nat} (bs:Nat→Nat) {i:Nat} (h:i<n):(ptV n j bs)[i]?=some (0,if i<j then .pointer (some ⟨bs i,0,none⟩) else .pointer none):=by
 unfold ptV
 rw [List.getElem?_map,List.getElem?_range h];rfl
theorem zlY {n j:Nat} (bs:Nat→Nat) (hj:j<n) (b:Nat):(ptV n j bs).set j (0,.pointer (some ⟨b,0,none⟩))=ptV n (j+1) (updN bs j b):=by
 apply List.ext_getElem?
 intro i
 by_cases hi:i<n
 ·rw [List.getElem?_set]
  by_cases e:j=i
  ·subst e;rw [if_pos rfl,if_pos (by rw [zfr];exact hi),zcM _ hi,if_pos (by omega),zan]
  ·rw [if_neg e,zcM _ hi,zcM _ hi]
   by_cases hij:i<j
   ·rw [if_pos hij,if_pos (by omega),zaz _ _ (Ne.symm e)]
   ·rw [if_neg hij,if_neg (by omega)]
 ·rw [List.getElem?_eq_none (by rw [List.length_set,zfr];omega),List.getElem?_eq_none (by rw [zfr];omega)]
theorem zkk {R:RgN} {n:Nat} {bs:Nat→Nat} (hn:R.n=n) (hb:R.bs=bs):(rws encPv (ptV n n bs))=rws encPt (ptL R fun _=>0):=by
 have:ptV n n bs=(ptL R fun _=>0).map fun a=>(a.1,Value.pointer (some ⟨a.2,0,none⟩)):=by
  unfold ptV ptL
  rw [hn,List.map_map]
  apply List.map_congr_left
  intro i hi
  rw [if_pos (List.mem_range.1 hi),hb];rfl
 rw [this]
 unfold rws
 rw [List.flatMap_map]
 rfl
structure MadeP (w:World) (B0 j k W:Nat) (X A B:Nat→Nat) (bs gs:Nat→Nat):Prop where
 at_:∀ i,i<j→SlAt w ⟨bs i,gs i,k,W,X,A,B⟩ (fun _ _=>0)
 lo:∀ i,i<j→B0≤bs i∧B0≤gs i
 hi:∀ i,i<j→bs i<w.heap.size∧gs i<w.heap.size
 ap:∀ i i',i<j→i'<j→gs i≠bs i'∧(i≠i'→gs i≠gs i')
theorem MadeP.fr {w w':World} {B0 j k W:Nat} {X A B:Nat→Nat} {bs gs:Nat→Nat} {F:Nat→Prop} (h:MadeP w B0 j k W X A B bs gs) (hf:Fr F w w') (hF:∀ b,F b→b<B0):MadeP w' B0 j k W X A B bs gs :=
 ⟨fun i hi=>(h.at_ i hi).fr hf (fun e=>by have h1:=hF _ e;have h2:=h.lo i hi;have:bs i<B0:=h1;omega) (fun e=>by have h1:=hF _ e;have h2:=h.lo i hi;have:gs i<B0:=h1;omega),h.lo,fun i hi=>by have:=h.hi i hi;have:=hf.size;omega,h.ap⟩
theorem MadeP.keep {w w':World} {B0 j k W:Nat} {X A B:Nat→Nat} {bs gs:Nat→Nat} (h:MadeP w B0 j k W X A B bs gs) (hb:Below w.heap.size w w'):MadeP w' B0 j k W X A B bs gs:=h.fr (F:=fun _=>False) (Fr.of_below hb) (fun _=>False.elim)
theorem MadeP.step {w w':World} {B0 j k W:Nat} {X A B:Nat→Nat} {bs gs:Nat→Nat} (h:MadeP w B0 j k W X A B bs gs) (hb:Below w.heap.size w w') (hB:B0≤w.heap.size) {N:SlN} (hN:SlAt w' N (fun _ _=>0)) (h1:N.k=k∧N.W=W∧N.X=X∧N.A=A∧N.B=B) (h2:w.heap.size≤N.b∧w.heap.size≤N.g) :
  MadeP w' B0 (j+1) k W X A B (updN bs j N.b) (updN gs j N.g):=by
 have hk:=h.keep hb
 have hlt:N.b<w'.heap.size∧N.g<w'.heap.size:=by obtain ⟨C,c1,_⟩:=hN.hb;exact ⟨lt_of_block c1,lt_of_block hN.hg⟩
 have hne:=hN.ne
 refine ⟨fun i hi=>?_,fun i hi=>?_,fun i hi=>?_,fun i i' hi hi'=>?_⟩
 ·by_cases e:i=j
  ·subst e
   rw [zan,zan]
   obtain ⟨r1,r2,r3,r4,r5⟩:=h1
   rw [← r1,← r2,← r3,← r4,← r5];exact hN
  ·rw [zaz _ _ e,zaz _ _ e];exact hk.at_ i (by omega)
 ·by_cases e:i=j
  ·subst e;rw [zan,zan];omega
  ·rw [zaz _ _ e,zaz _ _ e];exact hk.lo i (by omega)
 ·by_cases e:i=j
  ·subst e;rw [zan,zan];exact hlt
  ·rw [zaz _ _ e,zaz _ _ e];exact hk.hi i (by omega)
 ·by_cases e:i=j
  ·by_cases e':i'=j
   ·subst e;subst e';rw [zan,zan];exact ⟨fun q=>hne q.symm,fun q=>absurd rfl q⟩
   ·subst e
    rw [zan,zaz _ _ e',zaz _ _ e']
    have:=h.hi i' (by omega)
    exact ⟨by omega,fun _=>by omega⟩
  ·by_cases e':i'=j
   ·subst e'
    rw [zan,zaz _ _ e,zan]
    have:=h.hi i (by omega)
    exact ⟨by omega,fun _=>by omega⟩
   ·rw [zaz _ _ e,zaz _ _ e',zaz _ _ e'];exact h.ap i i' (by omega) (by omega)
theorem zig:(Tryz.prog.info? 234).map (fun i=>(i.zero,i.size,i.bytes))=some (some (.agg #[.int .i64 0,.pointer none]),2,16):=by kernel_rfl
theorem zj7 {Sl k W:Nat} (hSl:Sl≤64) (hk:1≤k) (hW:(Sl+1)*(8*(k*W))≤2147483647):∃ m q:Nat,m=k*W∧q≤2147483647∧8*m≤2147483647∧W≤m∧((Sl+1:Nat):Int)*(8*(m:Int))=(q:Int):=by
 have hbb:8*(k*W)≤(Sl+1)*(8*(k*W)):=Nat.le_mul_of_pos_left _ (Nat.succ_pos _)
 have hWk:W≤k*W:=Nat.le_mul_of_pos_left _ hk
 refine ⟨k*W,(Sl+1)*(8*(k*W)),rfl,hW,Nat.le_trans hbb hW,hWk,?_⟩
 simp only [Int.natCast_mul];rfl
end
section
open Ar (inR)
section
variable {R:RgN} {σ:RgS}
end
theorem zc6 (P:Nat→ByteArray→Nat) (s:ByteArray) (r:Nat):Sk.leastR (fun _ _=>0) P s r=0:=by obtain ⟨_,_,he⟩:=Sk.leastR_is (fun _ _=>(0:Int)) P s r;exact he
end
section
open Ar (inR)
theorem zbj {w:World} {b:Nat} {t:TypeId} {a0 a1 a2 a3 a4 a5 a6 a7 a8:Value} (hb:Blk w b t #[a0,a1,a2,a3,a4,a5,a6,a7,a8]) (c0 c1 c2 c3 c4 c5 c6 c7 c8:Value) :
  ((((((((w.setCell ⟨b,0,none⟩ c0).setCell ⟨b,1,none⟩ c1).setCell ⟨b,2,none⟩ c2).setCell ⟨b,3,none⟩ c3).setCell ⟨b,4,none⟩ c4).setCell ⟨b,5,none⟩ c5).setCell ⟨b,6,none⟩ c6).setCell ⟨b,7,none⟩ c7).setCell ⟨b,8,none⟩ c8=setObj w b (.cells #[c0,c1,c2,c3,c4,c5,c6,c7,c8] t (0,0)):=by
 have hl:=lt_of_block hb
 rw [zac hb]
 simp only [zai hl,zs1,zs2,zs3]
theorem box9R (X:World) (c0 c1 c2 c3 c4 c5 c6 c7 c8:Value):∃ w1 w2,X.alloc (.cells #[.int .i64 0,.int .i64 0,.int .i64 0,.int .i64 0,.int .i64 0,.int .i64 0,.int .i64 0,.int .i64 0,.bool false] 52)=w1 ∧
  (∀ j,w1.cell? ⟨X.heap.size,j,none⟩=(#[.int .i64 0,.int .i64 0,.int .i64 0,.int .i64 0,.int .i64 0,.int .i64 0,.int .i64 0,.int .i64 0,.bool false]:Array Value)[j]?)∧(∀ j,w1.frozen? ⟨X.heap.size,j,none⟩=false) ∧
  ((((((((w1.setCell ⟨X.heap.size,0,none⟩ c0).setCell ⟨X.heap.size,1,none⟩ c1).setCell ⟨X.heap.size,2,none⟩ c2).setCell ⟨X.heap.size,3,none⟩ c3).setCell ⟨X.heap.size,4,none⟩ c4).setCell ⟨X.heap.size,5,none⟩ c5).setCell ⟨X.heap.size,6,none⟩ c6).setCell ⟨X.heap.size,7,none⟩ c7).setCell ⟨X.heap.size,8,none⟩ c8=w2 ∧
  Below X.heap.size X w2∧Blk w2 X.heap.size 52 #[c0,c1,c2,c3,c4,c5,c6,c7,c8]:=by
 obtain ⟨w1,hw1,kc1,l1,s1⟩:=zad X #[.int .i64 0,.int .i64 0,.int .i64 0,.int .i64 0,.int .i64 0,.int .i64 0,.int .i64 0,.int .i64 0,.bool false] 52
 exact ⟨w1,_,hw1,kc1.rd,kc1.wr,zbj kc1 c0 c1 c2 c3 c4 c5 c6 c7 c8,l1.trans ((Fr.setObj (F:=fun k=>k=X.heap.size) (Fr.refl _ _) rfl _).below l1.size (fun k hk=>by omega)),zab (lt_of_block kc1) _⟩
theorem box3R (X:World) (t:TypeId) (z0 z1 z2 a b c:Value):∃ w1 w2,X.alloc (.cells #[z0,z1,z2] t)=w1 ∧
  (∀ j,w1.cell? ⟨X.heap.size,j,none⟩=(#[z0,z1,z2]:Array Value)[j]?)∧(∀ j,w1.frozen? ⟨X.heap.size,j,none⟩=false) ∧
  ((w1.setCell ⟨X.heap.size,0,none⟩ a).setCell ⟨X.heap.size,1,none⟩ b).setCell ⟨X.heap.size,2,none⟩ c=w2 ∧
  Below X.heap.size X w2∧Blk w2 X.heap.size t #[a,b,c]:=by
 obtain ⟨w1,hw1,kc1,l1,s1⟩:=zad X #[z0,z1,z2] t
 exact ⟨w1,_,hw1,kc1.rd,kc1.wr,zeV kc1 a b c,l1.trans ((Fr.setObj (F:=fun k=>k=X.heap.size) (Fr.refl _ _) rfl _).below l1.size (fun k hk=>by omega)),zab (lt_of_block kc1) _⟩
end
section
open Ar (inR)
structure GA (W w:World) (R:RgN) (σ:RgS):Prop where
 at_:RgAt w R σ
 lo:∀ b,R.all b→W.heap.size≤b
 bl:Below W.heap.size W w
end
section
open Ar (inR)
def rsum (R:RgN) (σ:RgS) (s:ByteArray) (a b:Int):Nat→Int
 | 0=>0
 | j+1=>rsum R σ s a b j+(if a≤σ.num j∧σ.num j≤b then Sk.leastR (σ.F j) R.P s (R.k - 1) else 0)
def rall (R:RgN) (F:Nat→Nat→Nat→Int) (s:ByteArray):Nat→Int
 | 0=>0
 | j+1=>rall R F s j+Sk.leastR (F j) R.P s (R.k - 1)
section
variable {R:RgN} {σ:RgS} {s:ByteArray}
theorem zbd {j:Nat} (h:∀ i,i<j→Sk.okC (σ.F i)) (a b:Int):0≤rsum R σ s a b j∧rsum R σ s a b j≤rall R σ.F s j:=by
 induction j with
 | zero=>exact ⟨Int.le_refl _,Int.le_refl _⟩
 | succ j ih =>
  have ih:=ih (fun i hi=>h i (by omega))
  have hv:=(h j (by omega)).least R.P s (R.k - 1)
  unfold rsum rall
  split <;> omega
theorem zfi {j:Nat} (h:∀ i,i<j→Sk.okC (σ.F i)) (ht:rall R σ.F s j≤9223372036854775807) (a b:Int):lsum R σ s a b j=rsum R σ s a b j:=by
 induction j with
 | zero=>rfl
 | succ j ih =>
  have hv:=(h j (by omega)).least R.P s (R.k - 1)
  have hall:rall R σ.F s (j+1)=rall R σ.F s j+Sk.leastR (σ.F j) R.P s (R.k - 1):=rfl
  have ih:=ih (fun i hi=>h i (by omega)) (by omega)
  have hr:=zbd (R:=R) (s:=s) (fun i hi=>h i (by omega):∀ i,i<j→Sk.okC (σ.F i)) a b
  unfold lsum rsum
  rw [ih]
  by_cases hc:a≤σ.num j∧σ.num j≤b
  ·rw [if_pos hc,if_pos hc,zbq (by omega)]
  ·rw [if_neg hc,if_neg hc,Int.add_zero]
theorem zca {a b c:Int} (h1:a≤c+1) (h2:c≤b) (j:Nat):rsum R σ s a b j=rsum R σ s a c j+rsum R σ s (c+1) b j:=by
 induction j with
 | zero=>rfl
 | succ j ih =>
  unfold rsum
  rw [ih]
  by_cases ha:a≤σ.num j∧σ.num j≤b
  ·rw [if_pos ha]
   by_cases hc:σ.num j≤c
   ·rw [if_pos ⟨ha.1,hc⟩,if_neg (fun hh=>by omega)];omega
   ·rw [if_neg (fun hh=>hc hh.2),if_pos ⟨by omega,ha.2⟩];omega
  ·rw [if_neg ha,if_neg (fun hh=>ha ⟨hh.1,by omega⟩),if_neg (fun hh=>ha ⟨by omega,hh.2⟩)];omega
theorem zkt {a b:Int} {j:Nat} (h:∀ i,i<j→¬ (a≤σ.num i∧σ.num i≤b)):rsum R σ s a b j=0:=by
 induction j with
 | zero=>rfl
 | succ j ih=>unfold rsum;rw [if_neg (h j (by omega)),ih (fun i hi=>h i (by omega))];rfl
theorem zei {f:Nat→Nat→Int} (hf:Sk.okC f) (P:Nat→ByteArray→Nat) (k:Nat) (ky s:ByteArray) {c:Int} (hc:0≤c∧c≤9223372036854775807) (r:Nat):Sk.leastR (Sk.add f P k ky c) P s r≤Sk.leastR f P s r+c:=by
 obtain ⟨j,hj,he⟩:=Sk.leastR_is f P s r
 rw [he]
 exact Int.le_trans (Sk.leastR_le _ _ _ _ j hj) (Sk.add_le hf P ky hc j (P j s))
theorem zgt {F:Nat→Nat→Nat→Int} {i:Nat} {g:Nat→Nat→Int} {c:Int} (hc:0≤c) (hg:Sk.leastR g R.P s (R.k - 1)≤Sk.leastR (F i) R.P s (R.k - 1)+c):∀ j,rall R (updN F i g) s j≤rall R F s j+c
 | 0=>by show (0:Int)≤0+c;omega
 | j+1=>by
  show rall R (updN F i g) s j+Sk.leastR (updN F i g j) R.P s (R.k - 1)≤rall R F s j+Sk.leastR (F j) R.P s (R.k - 1)+c
  by_cases e:j=i
  ·subst e
   rw [zan]
   have:rall R (updN F j g) s j=rall R F s j:=by
    have key:∀ m,m≤j→rall R (updN F j g) s m=rall R F s m:=by
     intro m
     induction m with
     | zero=>intro _;rfl
     | succ m ih =>
      intro hm
      show rall R (updN F j g) s m+Sk.leastR (updN F j g m) R.P s (R.k - 1)=rall R F s m+Sk.leastR (F m) R.P s (R.k - 1)
      rw [ih (by omega),zaz _ _ (by omega)]
    exact key j (Nat.le_refl _)
   omega
  ·rw [zaz _ _ e]
   have:=zgt (F:=F) (i:=i) (g:=g) hc hg j
   omega
structure FewR (R:RgN) (σ:RgS) (T:Int):Prop where
 all:∀ s,rall R σ.F s R.n≤T
 now:∀ i,i<R.n→σ.num i≤σ.now R
theorem FewR.new (R:RgN):FewR R ⟨0,fun _=>0,fun _ _ _=>0⟩ 0:=by
 refine ⟨fun s=>?_,fun i _=>?_⟩
 ·have key:∀ j,rall R (fun _ _ _=>0) s j=0:=by
   intro j
   induction j with
   | zero=>rfl
   | succ j ih =>
    show rall R (fun _ _ _=>0) s j+Sk.leastR (fun _ _=>0) R.P s (R.k - 1)=0
    rw [ih,zc6];rfl
  exact Int.le_of_eq (key R.n)
 ·show (0:Int)≤0 / (R.s:Int)
  rw [Int.zero_ediv];exact Int.le_refl _
theorem FewR.to {T t:Int} (h:FewR R σ T) (hs:1≤R.s) (ht:σ.t≤t):FewR R ⟨t,σ.num,σ.F⟩ T :=
 ⟨h.all,fun i hi=>Int.le_trans (h.now i hi) (Int.ediv_le_ediv (by omega) ht)⟩
theorem FewR.add {T c:Int} {w:World} (h:FewR R σ T) (hg:RgAt w R σ) (ky:ByteArray) (hc:0≤c∧c≤9223372036854775807):FewR R (σ.add R ky c) (T+c):=by
 have hpl:=hg.pl_lt.1
 have hok:=hg.ok (σ.pl R) hpl
 refine ⟨fun s=>?_,fun i hi=>?_⟩
 ·have hbase:Sk.leastR (if σ.num (σ.pl R)=σ.now R then σ.F (σ.pl R) else fun _ _=>0) R.P s (R.k - 1)≤Sk.leastR (σ.F (σ.pl R)) R.P s (R.k - 1):=by
   split
   ·exact Int.le_refl _
   ·rw [zc6];exact (hok.least R.P s (R.k - 1)).1
  have hok2:Sk.okC (if σ.num (σ.pl R)=σ.now R then σ.F (σ.pl R) else fun _ _=>0):=by
   split
   ·exact hok
   ·intro _ _;show (0:Int)≤0∧(0:Int)≤9223372036854775807;omega
  have h1:=zei hok2 R.P R.k ky s hc (R.k - 1)
  have h2:=zgt (R:=R) (s:=s) (F:=σ.F) (i:=σ.pl R) hc.1 (Int.le_trans h1 (Int.add_le_add_right hbase c)) R.n
  have h3:=h.all s
  show rall R (updN σ.F (σ.pl R) _) s R.n≤T+c
  omega
 ·show updN σ.num (σ.pl R) (σ.now R) i≤σ.now R
  by_cases e:i=σ.pl R
  ·rw [e,zan];exact Int.le_refl _
  ·rw [zaz _ _ e];exact h.now i hi
end
end
section
open Ar (inR)
section
variable {R:RgN} {σ:RgS} {s:ByteArray} {w:World} {T:Int}
theorem zd7 (h:RgAt w R σ) (hf:FewR R σ T) (hT:T≤9223372036854775807) :
  estZ R σ s=eldZ R σ s+rsum R σ s (σ.now R - ((R.n:Int) - 1)+1) (σ.now R) R.n ∧
  eldZ R σ s=(if R.sm then leftZ R.s σ.t (rsum R σ s (σ.now R - ((R.n:Int) - 1)) (σ.now R - ((R.n:Int) - 1)) R.n) else rsum R σ s (σ.now R - ((R.n:Int) - 1)) (σ.now R - ((R.n:Int) - 1)) R.n) ∧
  0≤eldZ R σ s∧eldZ R σ s≤rsum R σ s (σ.now R - ((R.n:Int) - 1)) (σ.now R - ((R.n:Int) - 1)) R.n:=by
 have hn:=h.bd.1
 have ha:=hf.all s
 have hle:rall R σ.F s R.n≤9223372036854775807:=by omega
 have e1:=zfi (R:=R) (s:=s) h.ok hle (σ.now R - ((R.n:Int) - 1)) (σ.now R - ((R.n:Int) - 1))
 have e2:=zfi (R:=R) (s:=s) h.ok hle (σ.now R - ((R.n:Int) - 1)+1) (σ.now R)
 have r1:=zbd (R:=R) (σ:=σ) (s:=s) h.ok (σ.now R - ((R.n:Int) - 1)) (σ.now R - ((R.n:Int) - 1))
 have r2:=zbd (R:=R) (σ:=σ) (s:=s) h.ok (σ.now R - ((R.n:Int) - 1)+1) (σ.now R)
 have r3:=zbd (R:=R) (σ:=σ) (s:=s) h.ok (σ.now R - ((R.n:Int) - 1)) (σ.now R)
 have sp:=zca (R:=R) (σ:=σ) (s:=s) (a:=σ.now R - ((R.n:Int) - 1)) (b:=σ.now R) (c:=σ.now R - ((R.n:Int) - 1)) (by omega) (by omega) R.n
 have hd:eldZ R σ s=(if R.sm then leftZ R.s σ.t (rsum R σ s (σ.now R - ((R.n:Int) - 1)) (σ.now R - ((R.n:Int) - 1)) R.n) else rsum R σ s (σ.now R - ((R.n:Int) - 1)) (σ.now R - ((R.n:Int) - 1)) R.n):=by
  unfold eldZ;simp only [e1]
 have hl:=zdM (s:=R.s) h.bd.2.1.1 (t:=σ.t) r1.1
 have hb:0≤eldZ R σ s∧eldZ R σ s≤rsum R σ s (σ.now R - ((R.n:Int) - 1)) (σ.now R - ((R.n:Int) - 1)) R.n:=by
  rw [hd]
  split
  ·exact hl
  ·exact ⟨r1.1,Int.le_refl _⟩
 refine ⟨?_,hd,hb⟩
 unfold estZ
 rw [e2,zbq (by omega)]
end
end
section
open Ar (inR)
section
variable {R:RgN} {σ:RgS} {s:ByteArray} {w:World} {T:Int}
theorem zgy (h:RgAt w R σ) (hf:FewR R σ T) {c x:Int} (hc:0≤c) (hTc:T+c≤9223372036854775807):roomAt R σ s c x ↔ rsum R σ s (x - ((R.n:Int) - 1)) (σ.now R) R.n+c≤R.L:=by
 have ha:=hf.all s
 have e:=zfi (R:=R) (s:=s) h.ok (by omega:rall R σ.F s R.n≤9223372036854775807) (x - ((R.n:Int) - 1)) (σ.now R)
 have r:=zbd (R:=R) (σ:=σ) (s:=s) h.ok (x - ((R.n:Int) - 1)) (σ.now R)
 unfold roomAt
 rw [e,zbq (by omega)]
theorem zda (R:RgN) (σ:RgS) (s:ByteArray) (c:Int):∀ (j:Nat) (x:Int),(∀ y,x≤y→y<nextR R σ s c j x→¬ roomAt R σ s c y)∧(roomAt R σ s c (nextR R σ s c j x)∨nextR R σ s c j x=x+j)
 | 0,x=>⟨fun y h1 h2=>by have h2':y<x:=h2;omega,Or.inr (by show x=x+0;omega)⟩
 | j+1,x=>by
  obtain ⟨i1,i2⟩:=zda R σ s c j (x+1)
  by_cases hr:roomAt R σ s c x
  ·have e:nextR R σ s c (j+1) x=x:=by unfold nextR;rw [if_pos hr]
   rw [e]
   exact ⟨fun y h1 h2=>by omega,Or.inl hr⟩
  ·have e:nextR R σ s c (j+1) x=nextR R σ s c j (x+1):=by
    show (if roomAt R σ s c x then x else nextR R σ s c j (x+1))=_
    rw [if_neg hr]
   rw [e]
   refine ⟨fun y h1 h2=>?_,?_⟩
   ·by_cases hy:y=x
    ·rw [hy];exact hr
    ·exact i1 y (by omega) h2
   ·rcases i2 with i2 | i2
    ·exact Or.inl i2
    ·exact Or.inr (by omega)
theorem zdt (h:RgAt w R σ) (hf:FewR R σ T) {c:Int} (hc:1≤c∧c≤R.L) (hTc:T+c≤9223372036854775807) (hbig:σ.t+(R.n:Int)*(R.s:Int)≤9223372036854775807) :
  (estZ R σ s+c≤R.L∧waitR R σ s c=0) ∨
  (R.L<estZ R σ s+c∧∃ nx:Int,σ.now R+1≤nx∧nx≤σ.now R+(R.n:Int)∧σ.t+waitR R σ s c=nx*(R.s:Int)∧1≤waitR R σ s c∧waitR R σ s c≤(R.n:Int)*(R.s:Int) ∧
   (∀ y,σ.now R+1≤y→y<nx→R.L<rsum R σ s (y - ((R.n:Int) - 1)) (σ.now R) R.n+c) ∧
   rsum R σ s (nx - ((R.n:Int) - 1)) (σ.now R) R.n+c≤R.L):=by
 have hs:=h.bd.2.1.1
 have hn:=h.bd.1
 have ht:=h.ht
 have ha:=hf.all s
 obtain ⟨p1,p2,p3,p4⟩:=zd7 (s:=s) h hf (by omega)
 have sp:=zca (R:=R) (σ:=σ) (s:=s) (a:=σ.now R - ((R.n:Int) - 1)) (b:=σ.now R) (c:=σ.now R - ((R.n:Int) - 1)) (by omega) (by omega) R.n
 have r3:=zbd (R:=R) (σ:=σ) (s:=s) h.ok (σ.now R - ((R.n:Int) - 1)) (σ.now R)
 have r4:=zbd (R:=R) (σ:=σ) (s:=s) h.ok (σ.now R - ((R.n:Int) - 1)+1) (σ.now R)
 have ec:clamp (estZ R σ s+c)=estZ R σ s+c:=zbq (by omega)
 by_cases hr:estZ R σ s+c≤R.L
 ·left
  refine ⟨hr,?_⟩
  unfold waitR
  rw [ec,if_pos hr]
 ·right
  obtain ⟨nx,hnx⟩:=zeq (nextR R σ s c (R.n - 1) (σ.now R+1))
  have b:=zgk R σ s c (R.n - 1) (σ.now R+1)
  obtain ⟨q1,q2⟩:=zda R σ s c (R.n - 1) (σ.now R+1)
  rw [← hnx] at b q1 q2
  have hb2:nx≤σ.now R+(R.n:Int):=by omega
  have hlo:σ.now R*(R.s:Int)≤σ.t:=Int.ediv_mul_le _ (by omega)
  have hhi:σ.t<(σ.now R+1)*(R.s:Int):=Int.lt_ediv_add_one_mul_self _ (by omega)
  have m1:(σ.now R+1)*(R.s:Int)≤nx*(R.s:Int):=Int.mul_le_mul_of_nonneg_right b.1 (by omega)
  have m2:nx*(R.s:Int)≤(σ.now R+(R.n:Int))*(R.s:Int):=Int.mul_le_mul_of_nonneg_right hb2 (by omega)
  rw [Int.add_mul] at m2
  have ew:waitR R σ s c=nx*(R.s:Int) - σ.t:=by
   unfold waitR
   rw [ec,if_neg hr,← hnx,zbq (by omega)]
  refine ⟨by omega,nx,b.1,hb2,by omega,by omega,by omega,fun y h1 h2=>?_,?_⟩
  ·have:=q1 y h1 h2
   rw [zgy h hf (by omega) hTc] at this
   omega
  ·rcases q2 with q2 | q2
   ·exact (zgy h hf (by omega) hTc).1 q2
   ·have z:=zkt (R:=R) (σ:=σ) (s:=s) (a:=nx - ((R.n:Int) - 1)) (b:=σ.now R) (j:=R.n) (fun i hi=>by have:=hf.now i hi;omega)
    rw [z]
    omega
end
end
section
open Ar (inR)
theorem zkr (L Wd Bu Ce Ro Tr:Int) (Sl s k W:Nat) (sm:Bool) (hL:inR L) (hWd:0≤Wd∧Wd≤9223372036854775807) (hSl:1≤Sl∧Sl≤64) (hs:Wd / (Sl:Int)=(s:Int)∧1≤s) (hk:1≤k∧k≤8) (hW:1≤W∧(Sl+1)*(8*(k*W))≤2147483647)
  (b0:Nat) (X A B:Nat→Nat) (w:World) (hr:RowsGe w b0 k X A B) (hl:∀ j,j<k→X j<2305843009213693951∧A j<2305843009213693951∧B j<2305843009213693951) :
  Calls Tryz.prog 93 #[rlV L Wd Bu Sl Ce Ro W Tr sm,.slice (some ⟨b0,0,none⟩) k (k+1)] w fun e w'=>∃ R:RgN,e=.returned (.pointer (some ⟨R.x,0,none⟩))∧RgAt w' R ⟨0,fun _=>0,fun _ _ _=>0⟩∧(R.n=Sl+1∧R.s=s∧R.L=L∧R.sm=sm∧R.k=k∧R.W=W∧R.X=X∧R.A=A∧R.B=B)∧(∀ b,R.all b→w.heap.size≤b)∧Below w.heap.size w w':=by
 have et:Wd.tdiv (Sl:Int)=(s:Int):=by rw [Int.tdiv_eq_ediv_of_nonneg hWd.1];exact hs.1
 have hsle:(s:Int)≤9223372036854775807:=by rw [← hs.1];exact Int.le_trans (Int.ediv_le_self (Sl:Int) hWd.1) hWd.2
 have hs1:=hs.2
 have HSS:=zhz hs
 clear hs
 have HET:=zhz et
 clear et
 obtain ⟨w1,hw1,k1,l1,s1⟩:=zad w (rlC L Wd Bu Sl Ce Ro W Tr sm) 52
 obtain ⟨rb,hrb⟩:=zeq (w.heap.size)
 rw [← hrb] at k1
 have kr:=k1.rd
 have K1:=zhz (And.intro k1 l1)
 have HRB:=zhz hrb
 have HR:=zhz hr
 have HL:=zhz hl
 obtain ⟨m,q,hm,hq,h8,hWm,hq2⟩:=zj7 hSl.2 hk.1 hW.2
 have HW:=zhz (show 1≤W∧8*(k*W)≤2147483647 from ⟨hW.1,by rw [← hm];exact h8⟩)
 have hW1:=hW.1
 clear hW
 obtain ⟨n,hn⟩:=zeq (Sl+1)
 rw [← hn] at hq2
 have CB:=zhz (fun wx=>zdj k W HW.out.2 (Nat.le_trans hk.2 (by decide)) (by omega) wx)
 rw [← hm] at CB
 have HM:=zhz hm
 clear hm
 have CP:=zhz (fun wx=>show Calls Tryz.prog 120 #[.int .i64 (n:Int),.int .i64 (8*(m:Int))] wx (fun e w'=>e=.returned (.int .i64 (q:Int))∧wx=w') from by
  have:=zaK (n:Int) (8*(m:Int)) (by unfold inR;omega) (by unfold inR;omega) wx
  rw [hq2,zbq (by omega)] at this
  exact this)
 clear hq2
 have HN:=zhz (And.intro hn (And.intro hSl (And.intro hk (And.intro HW.out (And.intro HSS.out (And.intro hL hWd))))))
 have HSL:=zhz hsle
 have ew:IntKind.i64.wrap (s:Int)=(s:Int):=by rw [IntKind.wrap_i64];omega
 have en:IntKind.i64.wrap ((Sl:Int)+1)=(n:Int):=by rw [IntKind.wrap_i64];omega
 have t1:decide ((Sl:Int)<1)=false:=by rw [zdn];omega
 have t2:decide ((64:Int)<(Sl:Int))=false:=by rw [zdn];omega
 have t3:decide ((s:Int)<1)=false:=decide_eq_false (Int.not_lt.2 (Int.ofNat_le.2 hs1))
 have t4:((k:Int)==0)=false:=by simp;omega
 have t5:decide ((W:Int)<1)=false:=by rw [zdn];omega
 have t6:decide ((2147483647:Int)<(q:Int))=false:=by rw [zdn];omega
 have t7:¬ (Sl:Int)=0:=by omega
 have t8:¬ Sl=0:=by omega
 have t9:(k:Int)≤8:=by omega
 have tn:(n:Int)≤65:=by omega
 obtain ⟨i0,hi,hz0,hz1,hz2⟩:=info_parts zig
 have hmk:=zgh zcx (by omega) ((0,.pointer none):Int × Value) (P:=Tryz.prog) (t:=228) (e:=234) rfl Tryz.underlying228 hi hz0 hz1 hz2 n (by omega) (by omega)
 have CN:=zhz (fun wx (hb:RowsGe wx b0 k X A B)=>zkA k W hk HW.out b0 X A B wx hb HL.out)
 clear k1 l1 s1 hr hl hrb hn hq h8 hWm hSl hs1 hk hW1 hWd hL hi hz0 hz1 hz2 hsle
 have et:=HET.out
 go_enter Tryz.func93,Tryz.ntmps93
 go_upto_region 1 with (fail)
 rw [← HRB.out]
 clear hw1
 go_upto_region 6 with (first
  | (go_at_call 121;((with_reducible refine (CB.out _).mono ?_);rintro e w2 ⟨rfl,b2⟩;have B2:=zhz b2;clear b2))
  | (go_at_call 120;((with_reducible refine (CP.out _).mono ?_);rintro e w3 ⟨rfl,rfl⟩)))
 clear kr CB CP t1 t2 t3 t5 t6 en
 have KB:=zhz (K1.out.1.keep B2.out)
 have SBx:=zhz (fun wx (hb:Below w2.heap.size w2 wx)=>show ∀ i,wx.cell? ⟨rb,i,none⟩=(rlC L Wd Bu Sl Ce Ro W Tr sm)[i]? from (KB.out.keep hb).rd)
 have k2:∀ i,w2.drew.cell? ⟨rb,i,none⟩=(rlC L Wd Bu Sl Ce Ro W Tr sm)[i]?:=SBx.out _ (zaa (Below.refl _ _) 1)
 obtain ⟨w3,hw3,k3,l3,s3⟩:=zad w2 (rws encPv (List.replicate n ((0,.pointer none):Int × Value))).toArray 234
 obtain ⟨w4,hw4,k4,l4,s4⟩:=zad w3 #[.slice (some ⟨w2.heap.size,0,none⟩) n n,.int .i64 (s:Int),.int .i64 L,.int .i64 0,.bool sm] 230
 have D3:=zhz (show Below w2.heap.size w2 w3.drew from zaa l3 1)
 have l24:Below w2.heap.size w2 w4:=l3.trans (l4.mono l3.size)
 have D4:=zhz (show Below w2.heap.size w2 w4.drew from zaa l24 1)
 go_upto_region 6 with (fail)
 refine wp_region_held_drew (S:=fun wx=>∀ i,wx.cell? ⟨rb,i,none⟩=(rlC L Wd Bu Sl Ce Ro W Tr sm)[i]?) (by kernel_rfl) k2 (fun hHeld=>?_)
 refine wR 0 ?_
 refine wR 2 ?_
 refine wR 3 ?_
 refine wR 4 ?_
 refine wR 5 ?_
 refine wR 6 ?_
 refine wR 7 ?_
 refine wR 8 ?_
 refine wR 9 ?_
 refine wR 10 ?_
 refine wC 1 fun K hK=>?_
 go_simp
 skip
 refine hK.out _ _ (SBx.out _ D3.out) fun hHeld=>?_
 clear hK K
 try simp only [Act.put,zs1,zs2,zs3]
 refine wR 11 ?_
 refine wC 12 fun K hK=>?_
 go_simp
 skip
 refine hK.out _ _ (SBx.out _ D4.out) fun hHeld=>?_
 clear hK K
 try simp only [Act.put,zs1,zs2,zs3]
 refine wR 13 ?_
 refine wpAnyH_done (by kernel_rfl) ?_ _
 clear hHeld k2 hmk et ew
 obtain ⟨pb,hpb⟩:=zeq (w2.heap.size)
 obtain ⟨xb,hxb⟩:=zeq (w3.heap.size)
 have e34:w3.heap.size=w2.heap.size+1:=s3
 have K4:=zhz (show Blk w4.drew pb 234 (rws encPv (ptV n 0 fun _=>0)).toArray∧Blk w4.drew xb 230 #[.slice (some ⟨pb,0,none⟩) n n,.int .i64 (s:Int),.int .i64 L,.int .i64 0,.bool sm] from ⟨by rw [zkl,hpb];exact (k3.keep l4).drew,by rw [hxb,hpb];exact k4.drew⟩)
 have HPX:=zhz (show w.heap.size≤rb∧rb<pb∧pb<xb∧xb<w4.drew.heap.size∧w4.drew.heap.size=xb+1 from by
  have h1:=HRB.out
  have h2:=lt_of_block KB.out
  have h3:w4.drew.heap.size=w4.heap.size:=rfl
  omega)
 have D0:=zhz (show Below w.heap.size w w4.drew from (K1.out.2.trans (B2.out.mono K1.out.2.size)).trans (D4.out.mono (Nat.le_trans K1.out.2.size B2.out.size)))
 have KR4:=zhz (KB.out.keep D4.out)
 rw [← hpb]
 generalize w4.drew=w5 at K4 HPX D0 KR4 ⊢
 have hxb':pb+1=xb:=by omega
 simp only [hxb']
 have kx:=K4.out.2.rd
 have RW0:=zhz (HR.out.keep D0.out)
 have BLr:=zhz (HR.out.bl)
 clear hw3 hw4 k3 k4 l3 l4 s3 s4 l24 hpb hxb e34 hxb'
 go_wp2
 clear kx
 go_loopg [63] n (fun kk si wr=>∃ (j:Nat) (bs gs:Nat→Nat),j≤n∧Hid (kk=n - j)∧si=.int .i64 (j:Int)∧Hid (MadeP wr (xb+1) j k W X A B bs gs)∧Hid (Blk wr pb 234 (rws encPv (ptV n j bs)).toArray)∧Hid (Blk wr xb 230 #[.slice (some ⟨pb,0,none⟩) n n,.int .i64 (s:Int),.int .i64 L,.int .i64 0,.bool sm])∧Hid (Blk wr rb 52 (rlC L Wd Bu Sl Ce Ro W Tr sm))∧Hid (RowsGe wr b0 k X A B)∧Hid (Below w.heap.size w wr)∧Hid (xb+1≤wr.heap.size))
 case atStart=>exact ⟨0,fun _=>0,fun _=>0,by omega,zhz rfl,rfl,zhz ⟨(fun i h=>absurd h (by omega)),(fun i h=>absurd h (by omega)),(fun i h=>absurd h (by omega)),(fun i i' h=>absurd h (by omega))⟩,zhz K4.out.1,zhz K4.out.2,KR4,RW0,D0,zhz (by have:=HPX.out;omega)⟩
 case round =>
  obtain ⟨j,bs,gs,hj,HKK,rfl,HM,HPB,HXB,HRL,HRW,HBL,HSZ⟩:=hrel
  have kx:=HXB.out.rd
  by_cases hjn:j<n
  ·have SB:=zhz (fun wx (hb:Below wr.heap.size wr wx)=>show (∀ i,wx.cell? ⟨xb,i,none⟩=(#[.slice (some ⟨pb,0,none⟩) n n,.int .i64 (s:Int),.int .i64 L,.int .i64 0,.bool sm]:Array Value)[i]?)∧(∀ i,wx.cell? ⟨rb,i,none⟩=(rlC L Wd Bu Sl Ce Ro W Tr sm)[i]?) from ⟨(HXB.out.keep hb).rd,(HRL.out.keep hb).rd⟩)
   have D1:=zhz (show Below wr.heap.size wr wr.drew from zaa (Below.refl _ _) 1)
   have CN2:=zhz (CN.out wr.drew (HRW.out.keep D1.out))
   have tj:(j:Int)<(n:Int):=by omega
   have HJ:=zhz hjn
   clear hjn kx
   go_upto_region 10 with (fail)
   refine wp_region_held_drew (S:=fun wx=>(∀ i,wx.cell? ⟨xb,i,none⟩=(#[.slice (some ⟨pb,0,none⟩) n n,.int .i64 (s:Int),.int .i64 L,.int .i64 0,.bool sm]:Array Value)[i]?)∧(∀ i,wx.cell? ⟨rb,i,none⟩=(rlC L Wd Bu Sl Ce Ro W Tr sm)[i]?)) (by kernel_rfl) (SB.out _ D1.out) (fun hHeld=>?_)
   refine wR 0 ?_
   refine wR 1 ?_
   refine wR 2 ?_
   refine wR 3 ?_
   refine wR 4 ?_
   refine wR 5 ?_
   refine wR 6 ?_
   refine wR 7 ?_
   refine wC 8 fun K hK=>?_
   go_simp
   ((with_reducible refine CN2.out.mono ?_);rintro e wn ⟨N,rfl,sn,n1,n2,n3,n4,n5,o1,o2,bn⟩;have D2:=zhz (D1.out.trans (bn.mono D1.out.size));have NN:=zhz (And.intro sn (And.intro (And.intro n1 (And.intro n2 (And.intro n3 (And.intro n4 n5)))) (And.intro (show wr.heap.size≤N.b from o1) (show wr.heap.size≤N.g from o2))));have HP2:=zhz (HPB.out.keep D2.out);have kp1:wn.cell? ⟨pb,j*2+1,none⟩=some (.pointer none):=(zas zcx HP2.out (zcM bs HJ.out) (j:=1) (by omega)).trans (by show some (if j<j then _ else _)=_;rw [if_neg (Nat.lt_irrefl j)]);have kpw:=HP2.out.wr;clear sn n1 n2 n3 n4 n5 o1 o2 bn)
   refine hK.out _ _ (SB.out _ D2.out) fun hHeld=>?_
   clear hK K
   try simp only [Act.put,zs1,zs2,zs3]
   refine wR 9 ?_
   refine wR 10 ?_
   refine wC 11 fun K hK=>?_
   go_simp
   (rw [show wn.setCell ⟨pb,j*2+1,none⟩ (.pointer (some ⟨N.b,0,none⟩))=setObj wn pb (.cells (rws encPv (ptV n (j+1) (updN bs j N.b))).toArray 234 (0,0)) from by (have:=zbf (v:=.pointer (some ⟨N.b,0,none⟩)) zcx HP2.out (zcM bs HJ.out) (j:=1) (a':=(0,.pointer (some ⟨N.b,0,none⟩))) rfl (by omega);rw [zlY bs HJ.out] at this;exact this)];have F5:=zhz (Fr.setObj (F:=fun b=>b=pb) (Fr.refl _ wn) rfl (.cells (rws encPv (ptV n (j+1) (updN bs j N.b))).toArray 234 (0,0)));have K5:=zhz (show Blk (setObj wn pb (.cells (rws encPv (ptV n (j+1) (updN bs j N.b))).toArray 234 (0,0))) pb 234 (rws encPv (ptV n (j+1) (updN bs j N.b))).toArray from zab (lt_of_block HP2.out) _);have HX5:=zhz ((HXB.out.keep D2.out).fr F5.out (fun e=>by have:=HPX.out;omega));have HR5:=zhz ((HRL.out.keep D2.out).fr F5.out (fun e=>by have:=HPX.out;omega));have HW5:=zhz (RowsGe.fr (HRW.out.keep D2.out) F5.out (fun e=>by have:=HPX.out;have:=BLr.out;omega));have HM5:=zhz ((HM.out.step D2.out HSZ.out NN.out.1 NN.out.2.1 NN.out.2.2).fr F5.out (fun b hb=>by have:=HPX.out;omega));have HB5:=zhz ((HBL.out.trans (D2.out.mono HBL.out.size)).trans (F5.out.below (Nat.le_trans HBL.out.size D2.out.size) (fun b hb=>by have:=HPX.out;omega)));have HS5:=zhz (Nat.le_trans HSZ.out (Nat.le_trans D2.out.size F5.out.size));clear kp1 kpw F5;generalize (setObj wn pb (.cells (rws encPv (ptV n (j+1) (updN bs j N.b))).toArray 234 (0,0)))=w9 at K5 HX5 HR5 HW5 HM5 HB5 HS5 ⊢;skip)
   refine hK.out _ _ ⟨HX5.out.rd,HR5.out.rd⟩ fun hHeld=>?_
   clear hK K
   try simp only [Act.put,zs1,zs2,zs3]
   refine wpAnyH_done (by kernel_rfl) ?_ _
   clear hHeld
   go_wp2
   go_roundg (n - (j+1))
   case measure=>have:=HKK.out;have:=HJ.out;omega
   case rel=>exact ⟨j+1,_,_,HJ.out,zhz rfl,by go_num,HM5,K5,HX5,HR5,HW5,HB5,HS5⟩
  ·have hje:j=n:=by omega
   have tj:¬ ((j:Int)<(n:Int)):=by omega
   have HJ:=zhz hje
   clear hjn hje
   go_wp2
   go_ret
   have hpx:=HPX.out
   obtain ⟨hn,hSl,hk,hW,hs,hL,hWd⟩:=HN.out
   have hj:=HJ.out
   have hm:=HM.out
   rw [hj] at hm
   have hpb:=HPB.out
   rw [hj] at hpb
   have e1:rws encPv (ptV n n bs)=rws encPt (ptL ⟨xb,pb,n,s,L,sm,k,W,X,A,B,bs,gs⟩ fun _=>0):=zkk (R:=⟨xb,pb,n,s,L,sm,k,W,X,A,B,bs,gs⟩) rfl rfl
   rw [e1] at hpb
   refine ⟨⟨xb,pb,n,s,L,sm,k,W,X,A,B,bs,gs⟩,rfl,⟨HXB.out,hpb,fun i hi=>hm.at_ i hi,Nat.ne_of_gt hpx.2.2.1,fun i hi=>?_,fun i i' hi hi'=>hm.ap i i' hi hi',⟨⟨?_,?_⟩,⟨hs.2,Int.ofNat_le.1 HSL.out⟩,hL⟩,?_,fun i=>?_⟩,⟨hn,rfl,rfl,rfl,rfl,rfl,rfl,rfl,rfl⟩,?_,HBL.out⟩
   ·have h1:=hm.lo i hi
    show (bs i≠xb∧bs i≠pb)∧gs i≠xb∧gs i≠pb
    clear hs
    omega
   ·show 2≤n
    clear hs
    omega
   ·show n≤65
    clear hs
    omega
   ·show (0:Int)≤0∧(0:Int)≤9223372036854775807
    clear hs
    omega
   ·show (0:Int)≤0∧(0:Int)≤9223372036854775807
    clear hs
    omega
   ·rintro b ((hb | hb | ⟨i,hi,hb⟩) | ⟨i,hi,hb⟩)
    ·have hb:b=xb:=hb
     clear hs
     omega
    ·have hb:b=pb:=hb
     clear hs
     omega
    ·have h1:=hm.lo i hi
     have hb:b=gs i:=hb
     clear hs
     omega
    ·have h1:=hm.lo i hi
     have hb:b=bs i:=hb
     clear hs
     omega
end
end Go.Proofs.YtannniobeanhlaaGreat
