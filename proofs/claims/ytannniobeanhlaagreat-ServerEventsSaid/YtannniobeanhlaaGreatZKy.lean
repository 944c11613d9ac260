import Derived.Test.YtannniobeanhlaaGreatByt
import Derived.Test.YtannniobeanhlaaGreatZKyMath
import Derived.Deep.RegionHeld3
import Derived.StillTailTactics
import Derived.BigQuiet
import Derived.Deep.Cut
import Derived.Lib.LazyBuf
import Derived.WalkSpells
set_option linter.unusedSimpArgs false
set_option linter.unusedVariables false
set_option maxRecDepth 100000
set_option maxHeartbeats 9000000
namespace Go.Proofs.YtannniobeanhlaaGreat
open Go.ChangeShapes Go.WideShapes Go.ChangeAt Go.RowKit
abbrev numC (k:IntKind) (l:List Int):Array Value:=(l.map (Value.int k)).toArray
theorem zaU (k:IntKind) (arr:List Int) (i:Nat) (h:i<arr.length):(numC k arr)[i]?=some (.int k (arr.getD i 0)):=by
 unfold numC
 rw [List.getElem?_toArray,List.getElem?_map,zge h]
 simp [List.getD,h]
theorem zbu (k:IntKind) (l:List Int) (i:Nat) (v:Int):(numC k l).setIfInBounds i (.int k v)=numC k (l.set i v):=by
 unfold numC;simp only [List.map_set,zs1]
theorem zci {w:World} {b:Nat} {t:TypeId} (k:IntKind):∀ (vs l:List Int) (o:Nat),w.heap[b]?=some (.cells (numC k l) t (0,0))→w.setCells b o (vs.map (Value.int k))=setObj w b (.cells (numC k (splice l o vs)) t (0,0)):=by
 intro vs
 induction vs generalizing w with
 | nil=>intro l o h;exact (zcP h).symm
 | cons v r ih =>
  intro l o h
  have hlt:=lt_of_block h
  rw [List.map_cons,World.setCells,zac h,zbu]
  rw [ih (l.set o v) (o+1) (zab hlt _),zbg]
  rfl
abbrev storeC (gb gs gf n m:Nat):Array Value:=#[.slice (some ⟨gb,0,none⟩) (64*n) (64*n),.slice (some ⟨gs,0,none⟩) n n,.slice (some ⟨gf,0,none⟩) m n]
def sizeZ (k:Option ByteArray):Int:=match k with | none=>0 | some s=>(s.size:Int)+1
structure KeysAt (w:World) (b gb gs gf n:Nat) (fl:List Nat) (K:Nat→Option ByteArray) (bs ss fs:List Int):Prop where
 hb:Blk w b 213 (storeC gb gs gf n fl.length)
 hgb:Blk w gb 5 (numC .u8 bs)
 hgs:Blk w gs 5 (numC .u8 ss)
 hgf:Blk w gf 74 (numC .u32 fs)
 lb:bs.length=64*n
 ls:ss.length=n
 lf:fs.length=n
 vs:∀ i,i<n→ss.getD i 0=sizeZ (K i)
 vf:∀ j,j<fl.length→fs.getD j 0=((fl.getD j 0:Nat):Int)
 vb:∀ i s,K i=some s→s.size≤64∧∀ j,j<s.size→bs.getD (64*i+j) 0=(nums s).getD j 0
 pl:Places n fl K
 n1:n≤65536
 ne:b≠gb∧b≠gs∧b≠gf∧gb≠gs∧gb≠gf∧gs≠gf
def KeysIn (w:World) (b gb gs gf n:Nat) (fl:List Nat) (K:Nat→Option ByteArray):Prop:=∃ bs ss fs,KeysAt w b gb gs gf n fl K bs ss fs
theorem KeysIn.keep {W w:World} {b gb gs gf n:Nat} {fl:List Nat} {K:Nat→Option ByteArray} (h:KeysIn W b gb gs gf n fl K) (hb:Below W.heap.size W w):KeysIn w b gb gs gf n fl K:=by
 obtain ⟨bs,ss,fs,h⟩:=h
 exact ⟨bs,ss,fs,h.hb.keep hb,h.hgb.keep hb,h.hgs.keep hb,h.hgf.keep hb,h.lb,h.ls,h.lf,h.vs,h.vf,h.vb,h.pl,h.n1,h.ne⟩
theorem KeysIn.lt {w:World} {b gb gs gf n:Nat} {fl:List Nat} {K:Nat→Option ByteArray} (h:KeysIn w b gb gs gf n fl K):b<w.heap.size∧gb<w.heap.size∧gs<w.heap.size∧gf<w.heap.size:=by
 obtain ⟨bs,ss,fs,h⟩:=h
 exact ⟨lt_of_block h.hb,lt_of_block h.hgb,lt_of_block h.hgs,lt_of_block h.hgf⟩
theorem KeysIn.pl {w:World} {b gb gs gf n:Nat} {fl:List Nat} {K:Nat→Option ByteArray} (h:KeysIn w b gb gs gf n fl K):Places n fl K∧n≤65536∧∀ i s,K i=some s→s.size≤64:=by
 obtain ⟨bs,ss,fs,h⟩:=h
 exact ⟨h.pl,h.n1,fun i s hs=>(h.vb i s hs).1⟩
abbrev kyF (b gb gs gf:Nat):Nat→Prop:=fun k=>k=b∨k=gb∨k=gs∨k=gf
/-! #### none -/
section
variable {b gb gs gf n:Nat} {fl:List Nat} {K:Nat→Option ByteArray}
theorem zb3 (w:World) (h:KeysIn w b gb gs gf n fl K):Calls Tryz.prog 85 #[.pointer (some ⟨b,0,none⟩)] w fun e w'=>e=.returned (.int .i64 (n:Int))∧w=w':=by
 obtain ⟨bs,ss,fs,h⟩:=h
 have k:=h.hb.rd
 clear h
 go_enter Tryz.func85,Tryz.ntmps85
 go_wp2
 go_ret
 exact ⟨rfl,rfl⟩
theorem zgI (w:World) (h:KeysIn w b gb gs gf n fl K):Calls Tryz.prog 82 #[.pointer (some ⟨b,0,none⟩)] w fun e w'=>e=.returned (.int .i64 ((n - fl.length:Nat):Int))∧Below w.heap.size w w':=by
 obtain ⟨bs,ss,fs,h⟩:=h
 have k:=h.hb.rd
 have hl:=h.pl.le
 have hn:=h.n1
 have e0:(n:Int) - (fl.length:Int)=((n - fl.length:Nat):Int):=by omega
 have t1:(n:Int)≤65536:=by omega
 clear h
 go_enter Tryz.func82,Tryz.ntmps82
 go_wp2
 go_quiet (fail)
 go_wp2
 go_ret
 exact ⟨rfl,zaa (Below.refl _ _) _⟩
def hasB (K:Nat→Option ByteArray) (n:Nat) (i:Int):Bool:=decide (0≤i) && (decide (i<(n:Int)) && (K i.toNat).isSome)
theorem zdJ (i:Int) (w:World) (h:KeysIn w b gb gs gf n fl K):Calls Tryz.prog 145 #[.pointer (some ⟨b,0,none⟩),.int .i64 i] w fun e w'=>e=.returned (.bool (hasB K n i))∧w=w':=by
 obtain ⟨bs,ss,fs,h⟩:=h
 have k:=h.hb.rd
 have hn:=h.n1
 by_cases h0:0≤i
 ·by_cases h1:i<(n:Int)
  ·obtain ⟨j,rfl⟩:∃ j:Nat,i=(j:Int):=⟨i.toNat,by omega⟩
   have hjn:j<n:=by omega
   have k2:w.cell? ⟨gs,j,none⟩=some (.int .u8 (sizeZ (K j))):=by rw [zag h.hgs,← h.vs j hjn];exact zaU _ _ _ (by rw [h.ls];exact hjn)
   have e:hasB K n (j:Int)=(K j).isSome:=by unfold hasB;simp [hjn]
   rw [e]
   have t1:decide ((j:Int)<(n:Int))=true:=by simpa using h1
   have t2:decide (j<n)=true:=by simpa using hjn
   have t3:(j:Int)<(n:Int):=h1
   have t4:(0:Int)≤(j:Int):=h0
   cases hk:K j with
   | none =>
    rw [hk] at k2
    have k3:w.cell? ⟨gs,j,none⟩=some (.int .u8 0):=k2
    clear h hk k2 h0 h1 e
    go_enter Tryz.func145,Tryz.ntmps145
    go_wp2
    go_ret
    exact ⟨rfl,rfl⟩
   | some s =>
    rw [hk] at k2
    have k3:w.cell? ⟨gs,j,none⟩=some (.int .u8 ((s.size:Int)+1)):=k2
    have t5:decide (0<(s.size:Int)+1)=true:=by rw [decide_eq_true_eq];omega
    clear h hk k2 h0 h1 e
    go_enter Tryz.func145,Tryz.ntmps145
    go_wp2
    go_ret
    exact ⟨rfl,rfl⟩
  ·have e:hasB K n i=false:=by unfold hasB;simp [h1]
   rw [e]
   have t1:decide (i<(n:Int))=false:=by simpa using h1
   have t2:decide (0≤i)=true:=by simpa using h0
   clear h e h1
   go_enter Tryz.func145,Tryz.ntmps145
   go_wp2
   go_ret
   exact ⟨rfl,rfl⟩
 ·have e:hasB K n i=false:=by unfold hasB;simp [h0]
  rw [e]
  have t2:decide (0≤i)=false:=by simpa using h0
  clear h e h0
  go_enter Tryz.func145,Tryz.ntmps145
  go_wp2
  go_ret
  exact ⟨rfl,rfl⟩
end
theorem zke (s:ByteArray):strOfNums (nums s)=s:=by
 apply ByteArray.ext
 apply Array.ext'
 show (strOfNums (nums s)).data.toList=_
 rw [strOfNums_data]
 unfold nums
 rw [List.map_map]
 conv=>rhs;rw [← List.map_id s.data.toList]
 exact List.map_congr_left (fun c _=>by simp)
section
variable {b gb gs gf n:Nat} {fl:List Nat} {K:Nat→Option ByteArray}
theorem zkO (i:Nat) (s:ByteArray) (w:World) (h:KeysIn w b gb gs gf n fl K) (hi:i<n) (hk:K i=some s) :
  Calls Tryz.prog 146 #[.pointer (some ⟨b,0,none⟩),.int .i64 (i:Int)] w fun e w'=>e=.returned (.slice (some ⟨gb,64*i,none⟩) s.size (64*n - 64*i))∧Below w.heap.size w w':=by
 obtain ⟨bs,ss,fs,h⟩:=h
 have k:=h.hb.rd
 have hn:=h.n1
 have hs:=(h.vb i s hk).1
 obtain ⟨q,hq⟩:=zeq (s.size+1)
 have k2:w.cell? ⟨gs,i,none⟩=some (.int .u8 (q:Int)):=by
  have e:sizeZ (K i)=(q:Int):=by rw [hk,hq];rfl
  rw [zag h.hgs,← e,← h.vs i hi];exact zaU _ _ _ (by rw [h.ls];exact hi)
 obtain ⟨bg,hbg⟩:=zeq (64*i)
 obtain ⟨ex,hex⟩:=zeq (bg+q)
 obtain ⟨en,hen⟩:=zeq (bg+s.size)
 obtain ⟨cn,hcn⟩:=zeq (64*n)
 unfold storeC at k
 rw [← hcn] at k ⊢
 have e0:(i:Int)*64=(bg:Int):=by omega
 have e1:IntKind.i64.wrap (q:Int)=(q:Int):=by rw [IntKind.wrap_i64];omega
 have e2:IntKind.i64.wrap ((bg:Int)+(q:Int))=(ex:Int):=by rw [IntKind.wrap_i64];omega
 have e3:IntKind.i64.wrap ((ex:Int) - 1)=(en:Int):=by rw [IntKind.wrap_i64];omega
 have e4:en - bg=s.size:=by omega
 have t1:(0:Int)≤(i:Int):=by omega
 have t2:(i:Int)<(n:Int):=by omega
 have t3:(0:Int)≤(bg:Int):=by omega
 have t4:(bg:Int)≤(en:Int):=by omega
 have t5:(en:Int)≤(cn:Int):=by omega
 have t6:¬ cn=bg:=by omega
 have t7:(cn:Int)≤4194304:=by omega
 have t8:bg≤en:=by omega
 have t9:en≤cn:=by omega
 rw [← hbg]
 clear h hk hq hex hen hcn hbg hs
 go_enter Tryz.func146,Tryz.ntmps146
 go_wp2
 go_quiet (fail)
 go_wp2
 go_ret
 exact ⟨rfl,zaa (Below.refl _ _) _⟩
theorem zmU {i:Nat} {s:ByteArray} {w:World} (h:KeysIn w b gb gs gf n fl K) (hi:i<n) (hk:K i=some s):RdI w .u8 (some ⟨gb,64*i,none⟩) s.size (64*n - 64*i) (nums s):=by
 obtain ⟨bs,ss,fs,h⟩:=h
 have hv:=h.vb i s hk
 have hn:=h.n1
 have hl:=h.lb
 refine ⟨zcI s,by omega,by unfold maxLen;omega,fun h0=>⟨gb,64*i,rfl,lt_of_block h.hgb,fun j hj=>?_⟩,fun z hz=>zbK (zlM s z hz)⟩
 rw [zag h.hgb,← hv.2 j hj]
 exact zaU _ _ _ (by omega)
theorem zkP {i:Nat} {s:ByteArray} {w:World} (h:KeysIn w b gb gs gf n fl K) (hi:i<n) (hk:K i=some s):(convert 40 9 (.slice (some ⟨gb,64*i,none⟩) s.size (64*n - 64*i))).run Tryz.prog w=.ok (.string s) w:=by
 have:=zdC (P:=Tryz.prog) (dst:=9) Tryz.underlying40 Tryz.underlying5 Tryz.underlying9 (zmU h hi hk)
 rw [zke] at this
 exact this
theorem zdK (i:Nat) (s:ByteArray) (w:World) (h:KeysIn w b gb gs gf n fl K) (hi:i<n) (hk:K i=some s) :
  Calls Tryz.prog 112 #[.pointer (some ⟨b,0,none⟩),.int .i64 (i:Int)] w fun e w'=>e=.returned (.tuple #[.string s,.bool true])∧Below w.heap.size w w':=by
 have c1:=zdJ (i:Int) w h
 have e:hasB K n (i:Int)=true:=by unfold hasB;simp [hk,hi]
 rw [e] at c1
 have c2:=zkO i s w h hi hk
 have cs:=fun W (hb:Below w.heap.size w W)=>zkP (h.keep hb) hi hk
 have C1:=zhz c1
 have C2:=zhz c2
 have CS:=zhz cs
 clear c1 c2 cs h hi hk e
 go_enter Tryz.func112,Tryz.ntmps112
 go_wp2_with (first
  | (go_at_call 145;((with_reducible refine C1.out.mono ?_);rintro e w' ⟨rfl,rfl⟩))
  | (go_at_call 146;((with_reducible refine C2.out.mono ?_);rintro e w2 ⟨rfl,b2⟩;have cs:=CS.out _ b2;have B2:=zhz b2;clear b2)))
 go_ret2
 exact ⟨rfl,B2.out⟩
theorem zmu (i:Int) (w:World) (h:KeysIn w b gb gs gf n fl K) (hk:hasB K n i=false) :
  Calls Tryz.prog 112 #[.pointer (some ⟨b,0,none⟩),.int .i64 i] w fun e w'=>e=.returned (.tuple #[.string ⟨#[]⟩,.bool false])∧w=w':=by
 have c1:=zdJ i w h
 rw [hk] at c1
 have C1:=zhz c1
 clear c1 h hk
 go_enter Tryz.func112,Tryz.ntmps112
 go_wp2_with (go_at_call 145;((with_reducible refine C1.out.mono ?_);rintro e w' ⟨rfl,rfl⟩))
 go_ret2
 exact ⟨rfl,rfl⟩
def isB (K:Nat→Option ByteArray) (n:Nat) (i:Int) (s:ByteArray):Bool:=decide (0≤i) && (decide (i<(n:Int)) && (match K i.toNat with | none=>false | some t=>t.toList==s.toList))
theorem zk1 (i:Int) (s:ByteArray) (w:World) (h:KeysIn w b gb gs gf n fl K) :
  Calls Tryz.prog 148 #[.pointer (some ⟨b,0,none⟩),.int .i64 i,.string s] w fun e w'=>e=.returned (.bool (isB K n i s))∧Below w.heap.size w w':=by
 have c1:=zdJ i w h
 cases hh:hasB K n i with
 | false =>
  rw [hh] at c1
  have e:isB K n i s=false:=by
   unfold hasB at hh;unfold isB
   cases h1:decide (0≤i) <;> cases h2:decide (i<(n:Int)) <;> simp_all
  rw [e]
  have C1:=zhz c1
  clear c1 h hh e
  go_enter Tryz.func148,Tryz.ntmps148
  go_wp2_with (go_at_call 145;((with_reducible refine C1.out.mono ?_);rintro e w' ⟨rfl,rfl⟩))
  go_ret
  exact ⟨rfl,Below.refl _ _⟩
 | true =>
  rw [hh] at c1
  have h3:0≤i∧i<(n:Int)∧(K i.toNat).isSome=true:=by
   unfold hasB at hh;simpa using hh
  obtain ⟨h4,h5,h6⟩:=h3
  obtain ⟨j,rfl⟩:∃ j:Nat,i=(j:Int):=⟨i.toNat,by omega⟩
  rw [Int.toNat_natCast] at h6
  obtain ⟨t,ht⟩:=Option.isSome_iff_exists.1 h6
  have hj:j<n:=by omega
  have c2:=zkO j t w h hj ht
  have cs:=fun W (hb:Below w.heap.size w W)=>zkP (h.keep hb) hj ht
  have e:isB K n (j:Int) s=(t.toList==s.toList):=by unfold isB;simp [ht,hj]
  rw [e]
  have C1:=zhz c1
  have C2:=zhz c2
  have CS:=zhz cs
  clear c1 c2 cs h hh h4 h5 h6 ht e
  go_enter Tryz.func148,Tryz.ntmps148
  go_wp2_with (first
   | (go_at_call 145;((with_reducible refine C1.out.mono ?_);rintro e w' ⟨rfl,rfl⟩))
   | (go_at_call 146;((with_reducible refine C2.out.mono ?_);rintro e w2 ⟨rfl,b2⟩;have cs:=CS.out _ b2;have B2:=zhz b2;clear b2)))
  go_ret
  exact ⟨rfl,B2.out⟩
end
section
variable {b gb gs gf n:Nat} {fl:List Nat} {K:Nat→Option ByteArray}
theorem zmD (s:ByteArray) (w:World) (h:KeysIn w b gb gs gf n fl K) (hs:64<s.size∨fl=[]):Calls Tryz.prog 261 #[.pointer (some ⟨b,0,none⟩),.string s] w fun e w'=>e=.returned (.int .i64 (-1))∧w=w':=by
 obtain ⟨bs,ss,fs,h⟩:=h
 have k:=h.hb.rd
 by_cases h1:64<s.size
 ·have t1:(64:Int)<(s.size:Int):=by omega
  clear h hs h1
  go_enter Tryz.func261,Tryz.ntmps261
  go_wp2
  go_ret
  exact ⟨rfl,rfl⟩
 ·have hf:fl=[]:=by rcases hs with h2 | h2;exact absurd h2 h1;exact h2
  subst hf
  have t1:¬ (64:Int)<(s.size:Int):=by omega
  have t2:decide ((64:Int)<(s.size:Int))=false:=by simpa using t1
  clear h hs h1
  go_enter Tryz.func261,Tryz.ntmps261
  go_wp2
  go_ret
  exact ⟨rfl,rfl⟩
theorem zjg:∀ w,(Go.sizeOf 5).run Tryz.prog w=.ok 1 w:=by
 intro w
 have h:(Tryz.prog.info? 5).map (fun i=>i.size)=some 1:=by kernel_rfl
 cases hi:Tryz.prog.info? 5 with
 | none=>rw [hi] at h;cases h
 | some i =>
  rw [hi] at h
  have:i.size=1:=by simpa using h
  simp [Go.sizeOf,typeInfo,hi,this]
theorem zl0 (i:Nat) (s:ByteArray) (w:World) (h:KeysIn w b gb gs gf n (fl++[i]) K) (hs:s.size≤64) :
  Calls Tryz.prog 261 #[.pointer (some ⟨b,0,none⟩),.string s] w fun e w'=>e=.returned (.int .i64 (i:Int))∧KeysIn w' b gb gs gf n fl (fun j=>if j=i then some s else K j)∧Fr (kyF b gb gs gf) w w':=by
 obtain ⟨bs,ss,fs,h⟩:=h
 have hn:=h.n1
 obtain ⟨hin,hki⟩:=h.pl.free (i:=i) (by simp)
 have hle:=h.pl.le
 rw [List.length_append,List.length_cons,List.length_nil] at hle
 obtain ⟨m,hm⟩:=zeq (fl.length)
 have hl1:(fl++[i]).length=m+1:=by simp [hm]
 have hb:=h.hb
 rw [hl1] at hb
 have k:=hb.rd
 have k0:=hb.wr
 have kf:w.cell? ⟨gf,m,none⟩=some (.int .u32 (i:Int)):=by
  have e:fs.getD m 0=(i:Int):=by rw [h.vf m (by rw [hl1];omega),hm];simp [List.getD]
  rw [zag h.hgf,← e];exact zaU _ _ _ (by rw [h.lf];omega)
 obtain ⟨bg,hbg⟩:=zeq (64*i)
 obtain ⟨cn,hcn⟩:=zeq (64*n)
 unfold storeC at k
 rw [← hcn] at k
 have e1:((m+1:Nat):Int) - 1=(m:Int):=by omega
 have e2:(i:Int)*64=(bg:Int):=by omega
 have t1:¬ (64:Int)<(s.size:Int):=by omega
 have t2:decide ((64:Int)<(s.size:Int))=false:=by simpa using t1
 have t3:(i:Int)<(n:Int):=by omega
 have t4:(m:Int)<(n:Int):=by omega
 have t5:(n:Int)≤65536:=by omega
 have t6:(bg:Int)≤(cn:Int):=by omega
 have t7:(cn:Int)≤4194304:=by omega
 have t8:¬ cn=bg:=by omega
 have t9:(s.size:Int)≤64:=by omega
 have t10:(m:Int)<((m+1:Nat):Int):=by omega
 have HH:=zhz h
 have HM:=zhz hm
 have HX:=zhz (And.intro hin (And.intro hki (And.intro hbg hcn)))
 have HB:=zhz hb
 clear h hn hin hki hle hm hl1 hb hbg hcn hs
 go_enter Tryz.func261,Tryz.ntmps261
 go_upto_region 6 with (fail)
 rw [zac HB.out]
 have hltb:=lt_of_block HB.out
 have ne:=HH.out.ne
 have x1:Blk (setObj w b (.cells ((storeC gb gs gf n (m+1)).setIfInBounds 2 (.slice (some ⟨gf,0,none⟩) m n)) 213 (0,0))) b 213 (storeC gb gs gf n m):=zab hltb _
 have x2:Blk (setObj w b (.cells ((storeC gb gs gf n (m+1)).setIfInBounds 2 (.slice (some ⟨gf,0,none⟩) m n)) 213 (0,0))) gb _ _:=(zah w (Ne.symm ne.1) _).trans HH.out.hgb
 have x3:Blk (setObj w b (.cells ((storeC gb gs gf n (m+1)).setIfInBounds 2 (.slice (some ⟨gf,0,none⟩) m n)) 213 (0,0))) gs _ _:=(zah w (Ne.symm ne.2.1) _).trans HH.out.hgs
 have x4:Blk (setObj w b (.cells ((storeC gb gs gf n (m+1)).setIfInBounds 2 (.slice (some ⟨gf,0,none⟩) m n)) 213 (0,0))) gf _ _:=(zah w (Ne.symm ne.2.2.1) _).trans HH.out.hgf
 have x5:Fr (kyF b gb gs gf) w (setObj w b (.cells ((storeC gb gs gf n (m+1)).setIfInBounds 2 (.slice (some ⟨gf,0,none⟩) m n)) 213 (0,0))):=Fr.setObj (Fr.refl _ _) (Or.inl rfl) _
 clear k k0 kf
 generalize (setObj w b (.cells ((storeC gb gs gf n (m+1)).setIfInBounds 2 (.slice (some ⟨gf,0,none⟩) m n)) 213 (0,0)))=wx at x1 x2 x3 x4 x5 ⊢
 have hx:=HX.out
 have k:=x1.rd
 unfold storeC at k
 rw [← hx.2.2.2] at k
 have hlb:bs.length=cn:=by rw [hx.2.2.2];exact HH.out.lb
 have hcs:∀ j,j<s.size→(wx.cell? ⟨gb,bg+j,none⟩).isSome=true:=by
  intro j hj
  rw [zag x2,zaU _ _ _ (by omega)];rfl
 have hcp:(Builtin.copy_ #[40,9] 3 #[.slice (some ⟨gb,bg,none⟩) (cn - bg) (cn - bg),.string s]).run Tryz.prog wx=.ok (.int .i64 (s.size:Int)) (setObj wx gb (.cells (numC .u8 (splice bs bg (nums s))) 5 (0,0))):=by
  have:=run_copy_string (P:=Tryz.prog) wx 40 9 3 5 gb bg (cn - bg) (cn - bg) s Tryz.underlying40 zjg (by omega) hcs (fun j _=>zcm x2)
  have e:(s.data.toList.map fun x=>Value.int .u8 (x.toNat:Int))=(nums s).map (Value.int .u8):=by unfold nums;rw [List.map_map];rfl
  rw [e,zci .u8 (nums s) bs bg x2] at this
  exact this
 have X1:=zhz x1
 have X2:=zhz x2
 have X3:=zhz x3
 have X4:=zhz x4
 have X5:=zhz x5
 have NE:=zhz ne
 have HLB:=zhz hlb
 clear hcs x1 x2 x3 x4 x5 ne hlb hx
 go_upto_region 7 with (fail)
 have hltg:=lt_of_block X2.out
 have y1:Blk (setObj wx gb (.cells (numC .u8 (splice bs bg (nums s))) 5 (0,0))) b _ _:=(zah wx NE.out.1 _).trans X1.out
 have y2:Blk (setObj wx gb (.cells (numC .u8 (splice bs bg (nums s))) 5 (0,0))) gb _ _:=zab hltg _
 have y3:Blk (setObj wx gb (.cells (numC .u8 (splice bs bg (nums s))) 5 (0,0))) gs _ _:=(zah wx (Ne.symm NE.out.2.2.2.1) _).trans X3.out
 have y4:Blk (setObj wx gb (.cells (numC .u8 (splice bs bg (nums s))) 5 (0,0))) gf _ _:=(zah wx (Ne.symm NE.out.2.2.2.2.1) _).trans X4.out
 have y5:Fr (kyF b gb gs gf) w (setObj wx gb (.cells (numC .u8 (splice bs bg (nums s))) 5 (0,0))):=Fr.setObj X5.out (Or.inr (Or.inl rfl)) _
 clear k hcp
 generalize (setObj wx gb (.cells (numC .u8 (splice bs bg (nums s))) 5 (0,0)))=wz at y1 y2 y3 y4 y5 ⊢
 have k:=y1.rd
 have ks:wz.cell? ⟨gs,i,none⟩=some (.int .u8 (ss.getD i 0)):=by rw [zag y3];exact zaU _ _ _ (by rw [HH.out.ls];exact HX.out.1)
 have k0:=y3.wr
 have Y1:=zhz y1
 have Y2:=zhz y2
 have Y3:=zhz y3
 have Y4:=zhz y4
 have Y5:=zhz y5
 have eu:IntKind.u8.wrap ((s.size:Int)+1)=(s.size:Int)+1:=by rw [IntKind.wrap_u8];omega
 clear y1 y2 y3 y4 y5
 go_wp2
 go_ret
 refine ⟨rfl,⟨splice bs bg (nums s),ss.set i ((s.size:Int)+1),fs,?_⟩,?_⟩
 ·rw [zac Y3.out,zbu]
  have hltz:=lt_of_block Y3.out
  have hh:=HH.out
  have hx:=HX.out
  have hm:=HM.out
  have hnn:=zcI s
  refine ⟨?_,(zah wz NE.out.2.2.2.1 _).trans Y2.out,zab hltz _,(zah wz (Ne.symm NE.out.2.2.2.2.2) _).trans Y4.out,by rw [zbV];exact hh.lb,by rw [List.length_set];exact hh.ls,hh.lf,?_,?_,?_,hh.pl.put s,hh.n1,hh.ne⟩
  ·rw [← hm];exact (zah wz NE.out.2.1 _).trans Y1.out
  ·intro j hj
   rw [zbP _ _ _ _ (by rw [hh.ls];exact hx.1)]
   by_cases hji:j=i
   ·subst hji;rw [if_pos rfl];show _=sizeZ (if j=j then some s else K j);rw [if_pos rfl];rfl
   ·rw [if_neg hji,hh.vs j hj];show _=sizeZ (if j=i then some s else K j);rw [if_neg hji]
  ·intro j hj
   have:=hh.vf j (by rw [List.length_append];omega)
   rw [this]
   simp [List.getD,List.getElem?_append_left hj]
  ·intro j t ht
   have hjt:(if j=i then some s else K j)=some t:=ht
   have hlb:=HLB.out
   by_cases hji:j=i
   ·subst hji
    rw [if_pos rfl] at hjt
    injection hjt with hjt
    subst hjt
    refine ⟨by omega,fun q hq=>?_⟩
    rw [zbJ _ _ _ _ (by omega),if_pos (by omega)]
    congr 1;omega
   ·rw [if_neg hji] at hjt
    have hv:=hh.vb j t hjt
    have hjn:=(hh.pl.lt (i:=j) (by rw [hjt];rfl)).1
    refine ⟨hv.1,fun q hq=>?_⟩
    rw [zbJ _ _ _ _ (by omega),if_neg (by omega)]
    exact hv.2 q hq
 ·rw [zac Y3.out]
  exact Fr.setObj Y5.out (Or.inr (Or.inr (Or.inl rfl))) _
theorem zjQ (i:Nat) (w:World) (h:KeysIn w b gb gs gf n fl K) (hk:(K i).isSome=true) :
  Calls Tryz.prog 266 #[.pointer (some ⟨b,0,none⟩),.int .i64 (i:Int)] w fun e w'=>e=.returned (.tuple #[])∧KeysIn w' b gb gs gf n (fl++[i]) (fun j=>if j=i then none else K j)∧Fr (kyF b gb gs gf) w w':=by
 have c1:=zdJ (i:Int) w h
 have hlt0:=h.lt
 obtain ⟨bs,ss,fs,h⟩:=h
 obtain ⟨hin,hfn⟩:=h.pl.lt hk
 have e:hasB K n (i:Int)=true:=by unfold hasB;simp [hk,hin]
 rw [e] at c1
 obtain ⟨m,hm⟩:=zeq (fl.length)
 have hb:=h.hb
 rw [← hm] at hb hfn
 have k:=hb.rd
 have k0:=hb.wr
 have ks:w.cell? ⟨gs,i,none⟩=some (.int .u8 (ss.getD i 0)):=by rw [zag h.hgs];exact zaU _ _ _ (by rw [h.ls];exact hin)
 have ks0:=h.hgs.wr
 have hn:=h.n1
 have t1:(i:Int)<(n:Int):=by omega
 have t2:(n:Int)≤65536:=by omega
 have eu:IntKind.u32.wrap (i:Int)=(i:Int):=by rw [IntKind.wrap_u32];omega
 have C1:=zhz c1
 have HH:=zhz h
 have HM:=zhz hm
 have HB:=zhz hb
 have HX:=zhz (And.intro hin (And.intro hfn hk))
 have NE:=zhz h.ne
 clear c1 h hm hin hfn hk hb e hn
 go_enter Tryz.func266,Tryz.ntmps266
 go_upto_region 2 with (go_at_call 145;((with_reducible refine C1.out.mono ?_);rintro e w' ⟨rfl,rfl⟩))
 rw [zac HH.out.hgs,zbu]
 have x1:Blk (setObj w gs (.cells (numC .u8 (ss.set i 0)) 5 (0,0))) b _ _:=(zah w NE.out.2.1 _).trans HB.out
 have x2:Blk (setObj w gs (.cells (numC .u8 (ss.set i 0)) 5 (0,0))) gb _ _:=(zah w NE.out.2.2.2.1 _).trans HH.out.hgb
 have x3:Blk (setObj w gs (.cells (numC .u8 (ss.set i 0)) 5 (0,0))) gs _ _:=zab hlt0.2.2.1 _
 have x4:Blk (setObj w gs (.cells (numC .u8 (ss.set i 0)) 5 (0,0))) gf _ _:=(zah w (Ne.symm NE.out.2.2.2.2.2) _).trans HH.out.hgf
 have x5:Fr (kyF b gb gs gf) w (setObj w gs (.cells (numC .u8 (ss.set i 0)) 5 (0,0))):=Fr.setObj (Fr.refl _ _) (Or.inr (Or.inr (Or.inl rfl))) _
 have hsz:(setObj w gs (.cells (numC .u8 (ss.set i 0)) 5 (0,0))).heap.size=w.heap.size:=zaX _ _ _
 clear k k0 ks ks0
 generalize (setObj w gs (.cells (numC .u8 (ss.set i 0)) 5 (0,0)))=wx at x1 x2 x3 x4 x5 hsz ⊢
 have k:=x1.rd
 have k0:=x1.wr
 have hlx:=lt_of_block x1
 have hlf:=lt_of_block x4
 have kf:wx.cell? ⟨gf,m,none⟩=some (.int .u32 (fs.getD m 0)):=by rw [zag x4];exact zaU _ _ _ (by rw [HH.out.lf];exact HX.out.2.1)
 have kf0:=x4.wr
 have t3:m+1≤n:=HX.out.2.1
 have nb1:b≠gf:=NE.out.2.2.1
 have nb2:gf≠b:=Ne.symm nb1
 have HSZ:=zhz hsz
 clear hsz
 have X1:=zhz x1
 have X2:=zhz x2
 have X3:=zhz x3
 have X4:=zhz x4
 have X5:=zhz x5
 clear x1 x2 x3 x4 x5
 go_wp2
 go_end0
 have l4:=lt_of_block X4.out
 have l1:=lt_of_block X1.out
 have c1:Blk (setObj wx gf (.cells (numC .u32 (fs.set m (i:Int))) 74 (0,0))) b _ _:=(zah wx nb1 _).trans X1.out
 have l2:b<(setObj wx gf (.cells (numC .u32 (fs.set m (i:Int))) 74 (0,0))).heap.size:=by rw [zaX];exact l1
 rw [zac X4.out,zbu,zac c1]
 have hh:=HH.out
 have hx:=HX.out
 have hm:=HM.out
 refine ⟨rfl,⟨bs,ss.set i 0,fs.set m (i:Int),?_⟩,Fr.alloc (Fr.setObj (Fr.setObj X5.out (Or.inr (Or.inr (Or.inr rfl))) _) (Or.inl rfl) _) _⟩
 have hl:(fl++[i]).length=m+1:=by rw [List.length_append,hm];rfl
 refine ⟨?_,Blk.alloc ((zah _ (Ne.symm NE.out.1) _).trans ((zah wx NE.out.2.2.2.2.1 _).trans X2.out)) _,Blk.alloc ((zah _ (Ne.symm NE.out.2.1) _).trans ((zah wx NE.out.2.2.2.2.2 _).trans X3.out)) _,Blk.alloc ((zah _ (Ne.symm NE.out.2.2.1) _).trans (zab l4 _)) _,hh.lb,by rw [List.length_set];exact hh.ls,by rw [List.length_set];exact hh.lf,?_,?_,?_,hh.pl.drop hx.2.2,hh.n1,hh.ne⟩
 ·rw [hl];exact Blk.alloc (zab l2 _) _
 ·intro j hj
  rw [zbP _ _ _ _ (by rw [hh.ls];exact hx.1)]
  by_cases hji:j=i
  ·subst hji;rw [if_pos rfl];show _=sizeZ (if j=j then none else K j);rw [if_pos rfl];rfl
  ·rw [if_neg hji,hh.vs j hj];show _=sizeZ (if j=i then none else K j);rw [if_neg hji]
 ·intro j hj
  rw [hl] at hj
  rw [zbP _ _ _ _ (by rw [hh.lf];exact hx.2.1)]
  by_cases hjm:j=m
  ·rw [if_pos hjm,hjm,hm];simp [List.getD]
  ·rw [if_neg hjm,hh.vf j (by omega)];simp [List.getD,List.getElem?_append_left (show j<fl.length by omega)]
 ·intro j t ht
  have hjt:(if j=i then none else K j)=some t:=ht
  by_cases hji:j=i
  ·rw [if_pos hji] at hjt;cases hjt
  ·rw [if_neg hji] at hjt;exact hh.vb j t hjt
end
theorem zcq {P:Program} {t e:TypeId} {i:TypeInfo} {k:IntKind} {B:Nat} (ht:P.underlying t=some (.slice e)) (hi:P.info? e=some i) (hz:i.zero=some (.int k 0)) (hs:i.size=1) (hb:i.bytes=B) (n:Nat) (hn:B*n≤281474976710656) (hn2:n≤281474976710656) (w:World) :
  (Instr.makeSlice t (.int .i64 (n:Int)) (.int .i64 (n:Int))).run P w=.ok (.slice (some ⟨w.heap.size,0,none⟩) n n) (w.alloc (.cells (numC k (List.replicate n 0)) e)):=by
 have:=run_makeSlice w t e i (.int k 0) ht hi hz .i64 .i64 (n:Int) (n:Int) (by omega) (by omega)
 have h2:=run_make w t e i (.int k 0) ht hi hz .i64 .i64 (n:Int) (n:Int) (by omega) (by omega) (by rw [hb];omega) (by omega)
 rw [h2,hs]
 simp only [Int.toNat_natCast,Nat.mul_one]
 have e1:madeCells (Value.int k 0).cells n=numC k (List.replicate n 0):=by
  have:=toList_madeCells_one (.int k 0) n
  show madeCells #[Value.int k 0] n=_
  apply Array.ext'
  rw [this];simp
 rw [e1]
theorem zaE (w:World) (A B C D:Array Value) (tA tB tC tD:TypeId):∃ w4,(((w.alloc (.cells A tA)).alloc (.cells B tB)).alloc (.cells C tC)).alloc (.cells D tD)=w4∧Blk w4 w.heap.size tA A∧Blk w4 (w.heap.size+1) tB B∧Blk w4 (w.heap.size+1+1) tC C∧Blk w4 (w.heap.size+1+1+1) tD D∧Below w.heap.size w w4:=by
 obtain ⟨w1,e1,n1,b1,s1⟩:=zad w A tA
 obtain ⟨w2,e2,n2,b2,s2⟩:=zad w1 B tB
 obtain ⟨w3,e3,n3,b3,s3⟩:=zad w2 C tC
 obtain ⟨w4,e4,n4,b4,s4⟩:=zad w3 D tD
 have h12:=b2.mono (Nat.le_refl _)
 refine ⟨w4,by rw [e1,e2,e3,e4],((n1.keep b2).keep b3).keep b4,?_,?_,?_,?_⟩
 ·rw [s1] at n2;exact (n2.keep b3).keep b4
 ·rw [s2,s1] at n3;exact n3.keep b4
 ·rw [s3,s2,s1] at n4;exact n4
 ·exact ((b1.trans (b2.mono (by omega))).trans (b3.mono (by omega))).trans (b4.mono (by omega))
theorem info5:(Tryz.prog.info? 5).map (fun i=>(i.zero,i.size,i.bytes))=some (some (.int .u8 0),1,1):=by kernel_rfl
theorem info45z:(Tryz.prog.info? 74).map (fun i=>(i.zero,i.size,i.bytes))=some (some (.int .u32 0),1,4):=by kernel_rfl
def fillF (n i:Nat):List Int:=(List.range n).map fun j=>if j<i then (n:Int) - 1 - j else 0
theorem zcd (n i:Nat):(fillF n i).length=n:=by simp [fillF]
theorem zgV (n i j:Nat) (h:j<n):(fillF n i).getD j 0=if j<i then (n:Int) - 1 - j else 0:=by
 simp [fillF,List.getD,h]
theorem zgW (n:Nat):fillF n 0=List.replicate n 0:=by
 apply List.ext_getElem (by simp [fillF])
 intro j h1 h2
 simp [fillF]
theorem zh8 (n i:Nat) (h:i<n):(fillF n i).set i ((n:Int) - 1 - i)=fillF n (i+1):=by
 apply List.ext_getElem (by simp [fillF])
 intro j h1 h2
 rw [List.getElem_set]
 simp only [fillF,List.getElem_map,List.getElem_range]
 by_cases hj:i=j
 ·subst hj;rw [if_pos rfl,if_pos (by omega)]
 ·rw [if_neg hj]
  by_cases h3:j<i
  ·rw [if_pos h3,if_pos (by omega)]
  ·rw [if_neg h3,if_neg (by omega)]
theorem ziD (n:Nat) (hn:n≤65536) (w:World):Calls Tryz.prog 118 #[.int .i64 (n:Int)] w fun e w' =>
  ∃ b gb gs gf,e=.returned (.pointer (some ⟨b,0,none⟩))∧KeysIn w' b gb gs gf n (List.range n).reverse (fun _=>none)∧Below w.heap.size w w'∧(w.heap.size≤b∧w.heap.size≤gb∧w.heap.size≤gs∧w.heap.size≤gf):=by
 have t1:decide ((n:Int)<0)=false:=by rw [zdn];omega
 have t2:decide ((65536:Int)<(n:Int))=false:=by rw [zdn];omega
 have t3:(n:Int)≤65536:=by omega
 obtain ⟨cn,hcn⟩:=zeq (64*n)
 have e1:IntKind.i64.wrap (64*(n:Int))=(cn:Int):=by rw [IntKind.wrap_i64];omega
 have e2:(64:Int)*(n:Int)=(cn:Int):=by omega
 have e3:IntKind.i64.wrap (cn:Int)=(cn:Int):=by rw [IntKind.wrap_i64];omega
 obtain ⟨i0,hi,hz0,hz1,hz2⟩:=info_parts info5
 have hmk:=zcq (P:=Tryz.prog) (t:=40) (e:=5) Tryz.underlying40 hi hz0 hz1 hz2 n (by omega) (by omega)
 have hmk2:=zcq (P:=Tryz.prog) (t:=40) (e:=5) Tryz.underlying40 hi hz0 hz1 hz2 cn (by omega) (by omega)
 clear hi hz0 hz1 hz2
 obtain ⟨i1,hi,hz0,hz1,hz2⟩:=info_parts info45z
 have hmk3:=zcq (P:=Tryz.prog) (t:=211) (e:=74) Tryz.underlying211 hi hz0 hz1 hz2 n (by omega) (by omega)
 clear hi hz0 hz1 hz2
 have HX:=zhz (And.intro hcn hn)
 clear hcn hn
 go_enter Tryz.func118,Tryz.ntmps118
 go_upto_region 3 with (fail)
 go_region_held3 (fun _=>True) (trivial) (fail)
 all_goals
   (first
    | (obtain ⟨wy,e4,m1,m2,m3,m4,bw⟩:=zaE w (numC .u8 (List.replicate cn 0)) (numC .u8 (List.replicate n 0)) (numC .u32 (List.replicate n 0)) #[.slice (some ⟨w.heap.size,0,none⟩) cn cn,.slice (some ⟨w.heap.size+1,0,none⟩) n n,.slice (some ⟨w.heap.size+1+1,0,none⟩) n n] 5 5 74 213;rw [e4];have BW:=zhz bw;clear e4 bw;obtain ⟨b,hb⟩:=zeq (w.heap.size+1+1+1);obtain ⟨gf,h2⟩:=zeq (w.heap.size+1+1);obtain ⟨gs,h1⟩:=zeq (w.heap.size+1);obtain ⟨gb,h0⟩:=zeq (w.heap.size);have HN:=zhz (show (b≠gb∧b≠gs∧b≠gf∧gb≠gs∧gb≠gf∧gs≠gf)∧(w.heap.size≤b∧w.heap.size≤gb∧w.heap.size≤gs∧w.heap.size≤gf) by omega);rw [← hb] at m4 ⊢;rw [← h2] at m3 m4 ⊢;rw [← h1] at m2 m4 ⊢;rw [← h0] at m1 m4 ⊢;have HZ:=zhz h0;have Q:=zhz (And.intro m1 (And.intro m2 (And.intro m3 m4)));clear m1 m2 m3 m4 hb h2 h1 h0)
    | (obtain ⟨wy,e4,m1,m2,m3,m4,bw⟩:=zaE w (numC .u8 (List.replicate cn 0)) (numC .u32 (List.replicate n 0)) (numC .u8 (List.replicate n 0)) #[.slice (some ⟨w.heap.size,0,none⟩) cn cn,.slice (some ⟨w.heap.size+1+1,0,none⟩) n n,.slice (some ⟨w.heap.size+1,0,none⟩) n n] 5 74 5 213;rw [e4];have BW:=zhz bw;clear e4 bw;obtain ⟨b,hb⟩:=zeq (w.heap.size+1+1+1);obtain ⟨gs,h2⟩:=zeq (w.heap.size+1+1);obtain ⟨gf,h1⟩:=zeq (w.heap.size+1);obtain ⟨gb,h0⟩:=zeq (w.heap.size);have HN:=zhz (show (b≠gb∧b≠gs∧b≠gf∧gb≠gs∧gb≠gf∧gs≠gf)∧(w.heap.size≤b∧w.heap.size≤gb∧w.heap.size≤gs∧w.heap.size≤gf) by omega);rw [← hb] at m4 ⊢;rw [← h2] at m3 m4 ⊢;rw [← h1] at m2 m4 ⊢;rw [← h0] at m1 m4 ⊢;have HZ:=zhz h0;have Q:=zhz (And.intro m1 (And.intro m3 (And.intro m2 m4)));clear m1 m2 m3 m4 hb h2 h1 h0)
    | (obtain ⟨wy,e4,m1,m2,m3,m4,bw⟩:=zaE w (numC .u8 (List.replicate n 0)) (numC .u8 (List.replicate cn 0)) (numC .u32 (List.replicate n 0)) #[.slice (some ⟨w.heap.size+1,0,none⟩) cn cn,.slice (some ⟨w.heap.size,0,none⟩) n n,.slice (some ⟨w.heap.size+1+1,0,none⟩) n n] 5 5 74 213;rw [e4];have BW:=zhz bw;clear e4 bw;obtain ⟨b,hb⟩:=zeq (w.heap.size+1+1+1);obtain ⟨gf,h2⟩:=zeq (w.heap.size+1+1);obtain ⟨gb,h1⟩:=zeq (w.heap.size+1);obtain ⟨gs,h0⟩:=zeq (w.heap.size);have HN:=zhz (show (b≠gb∧b≠gs∧b≠gf∧gb≠gs∧gb≠gf∧gs≠gf)∧(w.heap.size≤b∧w.heap.size≤gb∧w.heap.size≤gs∧w.heap.size≤gf) by omega);rw [← hb] at m4 ⊢;rw [← h2] at m3 m4 ⊢;rw [← h1] at m2 m4 ⊢;rw [← h0] at m1 m4 ⊢;have HZ:=zhz h0;have Q:=zhz (And.intro m2 (And.intro m1 (And.intro m3 m4)));clear m1 m2 m3 m4 hb h2 h1 h0)
    | (obtain ⟨wy,e4,m1,m2,m3,m4,bw⟩:=zaE w (numC .u8 (List.replicate n 0)) (numC .u32 (List.replicate n 0)) (numC .u8 (List.replicate cn 0)) #[.slice (some ⟨w.heap.size+1+1,0,none⟩) cn cn,.slice (some ⟨w.heap.size,0,none⟩) n n,.slice (some ⟨w.heap.size+1,0,none⟩) n n] 5 74 5 213;rw [e4];have BW:=zhz bw;clear e4 bw;obtain ⟨b,hb⟩:=zeq (w.heap.size+1+1+1);obtain ⟨gb,h2⟩:=zeq (w.heap.size+1+1);obtain ⟨gf,h1⟩:=zeq (w.heap.size+1);obtain ⟨gs,h0⟩:=zeq (w.heap.size);have HN:=zhz (show (b≠gb∧b≠gs∧b≠gf∧gb≠gs∧gb≠gf∧gs≠gf)∧(w.heap.size≤b∧w.heap.size≤gb∧w.heap.size≤gs∧w.heap.size≤gf) by omega);rw [← hb] at m4 ⊢;rw [← h2] at m3 m4 ⊢;rw [← h1] at m2 m4 ⊢;rw [← h0] at m1 m4 ⊢;have HZ:=zhz h0;have Q:=zhz (And.intro m3 (And.intro m1 (And.intro m2 m4)));clear m1 m2 m3 m4 hb h2 h1 h0)
    | (obtain ⟨wy,e4,m1,m2,m3,m4,bw⟩:=zaE w (numC .u32 (List.replicate n 0)) (numC .u8 (List.replicate cn 0)) (numC .u8 (List.replicate n 0)) #[.slice (some ⟨w.heap.size+1,0,none⟩) cn cn,.slice (some ⟨w.heap.size+1+1,0,none⟩) n n,.slice (some ⟨w.heap.size,0,none⟩) n n] 74 5 5 213;rw [e4];have BW:=zhz bw;clear e4 bw;obtain ⟨b,hb⟩:=zeq (w.heap.size+1+1+1);obtain ⟨gs,h2⟩:=zeq (w.heap.size+1+1);obtain ⟨gb,h1⟩:=zeq (w.heap.size+1);obtain ⟨gf,h0⟩:=zeq (w.heap.size);have HN:=zhz (show (b≠gb∧b≠gs∧b≠gf∧gb≠gs∧gb≠gf∧gs≠gf)∧(w.heap.size≤b∧w.heap.size≤gb∧w.heap.size≤gs∧w.heap.size≤gf) by omega);rw [← hb] at m4 ⊢;rw [← h2] at m3 m4 ⊢;rw [← h1] at m2 m4 ⊢;rw [← h0] at m1 m4 ⊢;have HZ:=zhz h0;have Q:=zhz (And.intro m2 (And.intro m3 (And.intro m1 m4)));clear m1 m2 m3 m4 hb h2 h1 h0)
    | (obtain ⟨wy,e4,m1,m2,m3,m4,bw⟩:=zaE w (numC .u32 (List.replicate n 0)) (numC .u8 (List.replicate n 0)) (numC .u8 (List.replicate cn 0)) #[.slice (some ⟨w.heap.size+1+1,0,none⟩) cn cn,.slice (some ⟨w.heap.size+1,0,none⟩) n n,.slice (some ⟨w.heap.size,0,none⟩) n n] 74 5 5 213;rw [e4];have BW:=zhz bw;clear e4 bw;obtain ⟨b,hb⟩:=zeq (w.heap.size+1+1+1);obtain ⟨gb,h2⟩:=zeq (w.heap.size+1+1);obtain ⟨gs,h1⟩:=zeq (w.heap.size+1);obtain ⟨gf,h0⟩:=zeq (w.heap.size);have HN:=zhz (show (b≠gb∧b≠gs∧b≠gf∧gb≠gs∧gb≠gf∧gs≠gf)∧(w.heap.size≤b∧w.heap.size≤gb∧w.heap.size≤gs∧w.heap.size≤gf) by omega);rw [← hb] at m4 ⊢;rw [← h2] at m3 m4 ⊢;rw [← h1] at m2 m4 ⊢;rw [← h0] at m1 m4 ⊢;have HZ:=zhz h0;have Q:=zhz (And.intro m3 (And.intro m2 (And.intro m1 m4)));clear m1 m2 m3 m4 hb h2 h1 h0))
   have qd:Blk wy.drew b 213 _:=Q.out.2.2.2
   have qf:Blk wy.drew gf 74 _:=Q.out.2.2.1
   generalize hwd:wy.drew=wd at qd qf ⊢
   have HWD:=zhz hwd
   have QD:=zhz (And.intro qd qf)
   clear hwd qd qf
   go_wp2
   go_loopg [21] n (fun k si wr=>∃ i:Nat,i≤n∧k=n - i∧si=.int .i64 (i:Int)∧Blk wr gf 74 (numC .u32 (fillF n i))∧Fr (fun k=>k=gf) wd wr)
   case atStart=>exact ⟨0,by omega,by omega,rfl,by rw [zgW];exact QD.out.2,Fr.refl _ _⟩
   case round =>
    obtain ⟨i,hi,hkk,rfl,hbl,hfr⟩:=hrel
    have HK:=zhz hkk
    have HF:=zhz hfr
    have HBL:=zhz hbl
    have qb:=QD.out.1.fr hfr HN.out.1.2.2.1
    have QB:=zhz qb
    clear hkk hfr
    by_cases hin:i<n
    ·have k:=qb.rd
     have kc:wr.cell? ⟨gf,i,none⟩=some (.int .u32 ((fillF n i).getD i 0)):=by rw [zag hbl];exact zaU _ _ _ (by rw [zcd];exact hin)
     have k0:=hbl.wr
     obtain ⟨v,hv⟩:∃ v:Int,v=(n:Int) - 1 - i:=⟨_,rfl⟩
     have ev:(n:Int) - 1 - (i:Int)=v:=hv.symm
     have ew:IntKind.u32.wrap v=v:=by rw [IntKind.wrap_u32];omega
     have t4:(i:Int)<(n:Int):=by omega
     have HV:=zhz hv
     clear qb hbl hv
     go_wp2
     go_roundg (n - (i+1))
     case measure=>have:=HK.out;omega
     case rel =>
      have hl:=lt_of_block HBL.out
      rw [zac HBL.out,zbu,HV.out,zh8 _ _ hin]
      exact ⟨i+1,by omega,by omega,by go_num,zab hl _,HF.out.trans (Fr.setObj (F:=fun k=>k=gf) (Fr.refl _ _) rfl _)⟩
    ·have hie:i=n:=by omega
     clear qb
     go_wp2
     go_ret
     have hn:=HN.out
     have hx:=HX.out
     have hq:=Q.out
     have hz:=HZ.out
     have qb0:Blk wd gb 5 (numC .u8 (List.replicate cn 0)):=by rw [← HWD.out];exact hq.1
     have qs0:Blk wd gs 5 (numC .u8 (List.replicate n 0)):=by rw [← HWD.out];exact hq.2.1
     have hbw:Below w.heap.size w wr:=by
      have h1:Below w.heap.size w wd:=by rw [← HWD.out];exact zaa BW.out 1
      exact h1.trans (HF.out.below h1.size (fun k hk=>by omega))
     rw [hie] at hbl
     rw [hx.1] at hq
     refine ⟨b,gb,gs,gf,rfl,⟨List.replicate cn 0,List.replicate n 0,fillF n n,?_⟩,by first | exact hbw | (rw [hz];exact hbw),by omega⟩
     refine ⟨?_,qb0.fr HF.out hn.1.2.2.2.2.1,qs0.fr HF.out hn.1.2.2.2.2.2,hbl,by rw [List.length_replicate];exact hx.1,List.length_replicate,zcd _ _,?_,?_,(fun j t ht=>by cases ht),zhf n,hx.2,hn.1⟩
     ·have:=QB.out
      rw [hx.1] at this
      rw [List.length_reverse,List.length_range]
      exact this
     ·intro j hj
      show _=sizeZ none
      simp [List.getD,hj,sizeZ]
     ·intro j hj
      rw [List.length_reverse,List.length_range] at hj
      rw [zgV _ _ _ hj,if_pos hj]
      simp only [List.getD]
      rw [List.getElem?_reverse (by simpa using hj)]
      simp
      rw [List.getElem?_range (by omega)]
      simp;omega
end Go.Proofs.YtannniobeanhlaaGreat
