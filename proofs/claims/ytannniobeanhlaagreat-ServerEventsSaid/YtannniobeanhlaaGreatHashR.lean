import Derived.Test.YtannniobeanhlaaGreatHash
import Derived.Test.YtannniobeanhlaaGreatLift
set_option linter.unusedSimpArgs false
set_option linter.unusedVariables false
set_option maxRecDepth 100000
set_option maxHeartbeats 9000000
namespace Go.Proofs.YtannniobeanhlaaGreat
open Go.ChangeShapes Go.WideShapes Go.ChangeAt Go.RowKit
def drw (zs:List Int) (i:Nat):Nat:=(zs.getD i 0).toNat
def rX (zs:List Int) (i:Nat):Nat:=drw zs (3*i) % 2305843009213693950+1
def rA (zs:List Int) (i:Nat):Nat:=drw zs (3*i+1) % 2305843009213693950+1
def rB (zs:List Int) (i:Nat):Nat:=drw zs (3*i+2) % 2305843009213693951
theorem zcz (x:Nat) (hx:x<18446744073709551616) (w:World) :
  Calls Tryz.prog 114 #[.int .u64 x] w fun e w'=>e=.returned (.int .u64 (x % 2305843009213693950+1:Nat))∧w=w':=by
 obtain ⟨r,hr⟩:=zeq (x % 2305843009213693950)
 have e1:(x:Int) % 2305843009213693950=(r:Int):=by omega
 rw [← hr]
 have hb:r<2305843009213693950:=by omega
 clear hr
 go_enter Tryz.func114,Tryz.ntmps114
 go_wp2
 go_ret
 exact ⟨zau (by simp [e1]),rfl⟩
theorem zdG (W w:World) (A:Option Addr) (n c:Nat) (zs:List Int) (hr:RdI W .u64 A n c zs) (hb:Below W.heap.size W w) (i:Nat) (hi:i<1000) :
  Calls Tryz.prog 115 #[.slice A n c,.int .i64 i] w fun e w'=>e=.returned (.int .u64 (drw zs i:Nat))∧w=w':=by
 have hcap:=hr.cap
 have hmax:=hr.max
 have hlen:=hr.len
 unfold maxLen at hmax
 by_cases h:i<n
 ·obtain ⟨b0,off,hA,hlt,hcell⟩:=hr.at_ (by omega)
  subst hA
  obtain ⟨z,hz⟩:=zeq (zs.getD i 0)
  have hzw:=bounds_u64 (hr.wf_at h)
  have hc:=hcell i h
  rw [← hz] at hzw hc
  have hcr:w.cell? ⟨b0,off+i,none⟩=some (.int .u64 z):=by rw [hb.cell (p:=⟨b0,off+i,none⟩) hlt];exact hc
  have hd:((drw zs i:Nat):Int)=z:=by unfold drw;rw [← hz];omega
  rw [hd]
  clear hz hc hcell hd hr hlen
  go_enter Tryz.func115,Tryz.ntmps115
  go_wp2
  go_ret
  exact ⟨rfl,rfl⟩
 ·have hd:drw zs i=0:=by unfold drw;rw [show zs.getD i 0=0 by simp [List.getD,List.getElem?_eq_none (show zs.length≤i by omega)]];rfl
  rw [hd]
  clear hd hr hlen
  go_enter Tryz.func115,Tryz.ntmps115
  go_wp2
  go_ret
  exact ⟨rfl,rfl⟩
structure RowsAt (w:World) (b:Nat) (k:Nat) (X A B:Nat→Nat):Prop where
 blk:∃ C:Array Value,w.heap[b]?=some (.cells C 192 (0,0))∧C.size=3*k∧∀ j,j<k→C[3*j]?=some (.int .u64 (X j))∧C[3*j+1]?=some (.int .u64 (A j))∧C[3*j+2]?=some (.int .u64 (B j))
theorem Tryz.infoRow:(Tryz.prog.info? 192).map (fun i=>(i.zero,i.size,i.bytes))=some (some (.agg #[.int .u64 0,.int .u64 0,.int .u64 0]),3,24):=by kernel_rfl
theorem zks (w:World) (A:Option Addr) (n c:Nat) (zs:List Int) (hr:RdI w .u64 A n c zs) (k:Nat) (hk:k≤9) :
  Calls Tryz.prog 90 #[.slice A n c,.int .i64 k] w fun e w'=>e=.returned (.slice (some ⟨w.heap.size,0,none⟩) k k)∧RowsAt w' w.heap.size k (rX zs) (rA zs) (rB zs)∧Below w.heap.size w w':=by
 obtain ⟨i0,q1,q2,q3,q4⟩:=info_parts Tryz.infoRow
 have hmk:∀ w':World,(Instr.makeSlice 139 (.int .i64 (k:Int)) (.int .i64 (k:Int))).run Tryz.prog w'=.ok (.slice (some ⟨w'.heap.size,0,none⟩) k k) (w'.alloc (.cells (madeCells #[.int .u64 0,.int .u64 0,.int .u64 0] (k*3)) 192)):=by
  intro w'
  have:=run_makeSlice (P:=Tryz.prog) w' 139 192 i0 _ (by kernel_rfl) q1 q2 .i64 .i64 (k:Int) (k:Int) (by omega) (by omega) (by rw [q3];omega) (by rw [q4];omega) (by omega)
  rw [Int.toNat_natCast,q3] at this
  exact this
 have hm1:min (k:Int) 9=(k:Int):=by omega
 have hm2:max 0 (k:Int)=(k:Int):=by omega
 have HR:=zhz hr
 clear hr q1 q2 q3 q4
 go_enter Tryz.func90,Tryz.ntmps90
 go_wp2
 clear hmk hm1 hm2
 go_loopg [13] k (fun kk si wr=>∃ (i:Nat) (C:Array Value),i≤k∧kk=k - i∧si=.int .i64 (i:Int)∧Hid (wr.heap[w.heap.size]?=some (.cells C 192 (0,0)))∧C.size=3*k∧Hid (∀ j,j<i→C[3*j]?=some (.int .u64 (rX zs j))∧C[3*j+1]?=some (.int .u64 (rA zs j))∧C[3*j+2]?=some (.int .u64 (rB zs j)))∧Below w.heap.size w wr)
 case atStart =>
  exact ⟨0,_,by omega,by omega,rfl,zhz (heap_alloc_new w _),by rw [size_madeCells];omega,zhz (fun j hj=>absurd hj (by omega)),(Below.refl _ _).alloc (Nat.le_refl _) _⟩
 case round =>
  obtain ⟨i,C,hi,hkk,rfl,HH,hC,HJ,hb⟩:=hrel
  have HK:=zhz hkk
  have HB:=zhz hb
  clear hkk hb
  by_cases hin:i<k
  ·have hlt:=lt_of_block HH.out
   have k0:∃ v,wr.cell? ⟨w.heap.size,i*3,none⟩=some v:=⟨_,by rw [zap HH.out];exact Array.getElem?_eq_getElem (by omega)⟩
   have k1:∃ v,wr.cell? ⟨w.heap.size,i*3+1,none⟩=some v:=⟨_,by rw [zap HH.out];exact Array.getElem?_eq_getElem (by omega)⟩
   have k2:∃ v,wr.cell? ⟨w.heap.size,i*3+2,none⟩=some v:=⟨_,by rw [zap HH.out];exact Array.getElem?_eq_getElem (by omega)⟩
   obtain ⟨v0,k0⟩:=k0
   obtain ⟨v1,k1⟩:=k1
   obtain ⟨v2,k2⟩:=k2
   have f0:wr.frozen? ⟨w.heap.size,i*3,none⟩=false:=ze6 HH.out
   have f1:wr.frozen? ⟨w.heap.size,i*3+1,none⟩=false:=ze6 HH.out
   have f2:wr.frozen? ⟨w.heap.size,i*3+2,none⟩=false:=ze6 HH.out
   obtain ⟨i0,hi0⟩:=zeq (3*i)
   obtain ⟨i1,hi1⟩:=zeq (3*i+1)
   obtain ⟨i2,hi2⟩:=zeq (3*i+2)
   have e0:3*(i:Int)=(i0:Int):=by omega
   have e1:(i0:Int)+1=(i1:Int):=by omega
   have e2:(i0:Int)+2=(i2:Int):=by omega
   have d0:=zdG w wr A n c zs HR.out HB.out i0 (by omega)
   have d1:=zdG w wr A n c zs HR.out HB.out i1 (by omega)
   have d2:=zdG w wr A n c zs HR.out HB.out i2 (by omega)
   have u:∀ j,drw zs j<18446744073709551616:=by
    intro j
    unfold drw
    by_cases g:j<zs.length
    ·have hl:=HR.out.len
     have:=bounds_u64 (HR.out.wf_at (i:=j) (by omega))
     omega
    ·rw [show zs.getD j 0=0 by simp [List.getD,List.getElem?_eq_none (show zs.length≤j by omega)]];decide
   have x0:=fun w'=>zcz (drw zs i0) (u _) w'
   have x1:=fun w'=>zcz (drw zs i1) (u _) w'
   have x2:=fun w'=>zdI (drw zs i2) (u _) w'
   have r0:drw zs i0 % 2305843009213693950+1=rX zs i:=by rw [hi0];rfl
   have r1:drw zs i1 % 2305843009213693950+1=rA zs i:=by rw [hi1];rfl
   have r2:drw zs i2 % 2305843009213693951=rB zs i:=by rw [hi2];rfl
   rw [r0] at x0
   rw [r1] at x1
   rw [r2] at x2
   have D0:=zhz d0
   have D1:=zhz d1
   have D2:=zhz d2
   have X0:=zhz x0
   have X1:=zhz x1
   have X2:=zhz x2
   clear d0 d1 d2 x0 x1 x2 r0 r1 r2 u hi0 hi1 hi2
   go_wp2_with (first
    | (go_at_call 115;first | ((with_reducible refine D0.out.mono ?_);rintro e w' ⟨rfl,rfl⟩) | ((with_reducible refine D1.out.mono ?_);rintro e w' ⟨rfl,rfl⟩) | ((with_reducible refine D2.out.mono ?_);rintro e w' ⟨rfl,rfl⟩))
    | (go_at_call 114;first | ((with_reducible refine (X0.out _).mono ?_);rintro e w' ⟨rfl,rfl⟩) | ((with_reducible refine (X1.out _).mono ?_);rintro e w' ⟨rfl,rfl⟩))
    | (go_at_call 116;((with_reducible refine (X2.out _).mono ?_);rintro e w' ⟨rfl,rfl⟩)))
   go_roundg (k - (i+1))
   case measure=>have:=HK.out;omega
   case rel =>
    have hb1:w.heap.size<(setObj wr w.heap.size (.cells (C.setIfInBounds (i*3) (.int .u64 (rX zs i))) 192 (0,0))).heap.size:=by rw [zaX];exact hlt
    refine ⟨i+1,((C.setIfInBounds (i*3) (.int .u64 (rX zs i))).setIfInBounds (i*3+1) (.int .u64 (rA zs i))).setIfInBounds (i*3+2) (.int .u64 (rB zs i)),by omega,by omega,by go_num,?_,by simp [hC],?_,?_⟩
    ·rw [zac HH.out,zai hlt,zai hlt]
     exact zhz (zab hlt _)
    ·refine zhz fun j hj=>?_
     simp only [Array.getElem?_setIfInBounds,Array.size_setIfInBounds,hC]
     rcases Nat.lt_or_ge j i with g | g
     ·obtain ⟨a1,a2,a3⟩:=HJ.out j g
      refine ⟨?_,?_,?_⟩
      ·rw [if_neg (by omega),if_neg (by omega),if_neg (by omega)];exact a1
      ·rw [if_neg (by omega),if_neg (by omega),if_neg (by omega)];exact a2
      ·rw [if_neg (by omega),if_neg (by omega),if_neg (by omega)];exact a3
     ·obtain rfl:j=i:=by omega
      refine ⟨?_,?_,?_⟩
      ·rw [if_neg (by omega),if_neg (by omega),if_pos (by omega),if_pos (by omega)]
      ·rw [if_neg (by omega),if_pos (by omega),if_pos (by omega)]
      ·rw [if_pos (by omega),if_pos (by omega)]
    ·exact ((HB.out.setCell (Nat.le_refl _) _).setCell (Nat.le_refl _) _).setCell (Nat.le_refl _) _
  ·go_wp2
   go_ret
   have:i=k:=by omega
   subst this
   exact ⟨rfl,⟨C,HH.out,hC,HJ.out⟩,HB.out⟩
theorem zm5 (zs:List Int) (i:Nat):rX zs i<2305843009213693951:=by
 unfold rX;have:=Nat.mod_lt (drw zs (3*i)) (show 0<2305843009213693950 by omega);omega
theorem zm4 (zs:List Int) (i:Nat):rA zs i<2305843009213693951:=by
 unfold rA;have:=Nat.mod_lt (drw zs (3*i+1)) (show 0<2305843009213693950 by omega);omega
def plc (h:Nat) (n:Int):Nat:=if n<1 then 0 else h % 2305843009213693951*n.toNat / 2305843009213693951
theorem ziT (h:Nat) (n:Int) (hh:h<18446744073709551616) (hn : -9223372036854775808≤n∧n≤9223372036854775807) (w:World) :
  Calls Tryz.prog 165 #[.int .u64 h,.int .i64 n] w fun e w'=>e=.returned (.int .i64 (plc h n:Nat))∧∃ d,w'=w.drewN d:=by
 by_cases hn1:n<1
 ·have e:plc h n=0:=by unfold plc;rw [if_pos hn1]
  rw [e]
  clear e
  go_enter Tryz.func165,Tryz.ntmps165
  go_wp2
  go_ret
  exact ⟨rfl,0,rfl⟩
 ·obtain ⟨m,rfl⟩:=Int.eq_ofNat_of_zero_le (by omega:0≤n)
  obtain ⟨h1,hh1⟩:=zeq (h % 2305843009213693951)
  have h1l:h1<2305843009213693951:=by rw [hh1];exact Nat.mod_lt _ (by omega)
  have c1:=fun w=>zdI h hh w
  rw [← hh1] at c1
  have hlt:h1*m<2305843009213693951*9223372036854775808:=by
   have:h1*m≤h1*9223372036854775807:=Nat.mul_le_mul_left _ (by omega)
   omega
  have hq:h1*m / 2305843009213693951<m:=by
   rw [Nat.div_lt_iff_lt_mul (by omega),Nat.mul_comm]
   exact Nat.mul_lt_mul_of_pos_left h1l (by omega)
  have Q:=Quo.of (a:=h1) (b:=m) (c:=2305843009213693951) (by omega)
  obtain ⟨q,hqe⟩:=zeq (h1*m / 2305843009213693951)
  obtain ⟨r,hre⟩:=zeq (h1*m % 2305843009213693951)
  rw [← hqe,← hre] at Q
  have c2:∀ w,Calls Tryz.prog 175 #[.int .u64 h1,.int .u64 m,.int .u64 2305843009213693951] w fun e w'=>e=.returned (.tuple #[.int .u64 q,.bool true])∧∃ n,w'=w.drewN n :=
   fun w=>zjL h1 m 2305843009213693951 q r (by omega) (by omega) (by omega) Q w
  have e:plc h (m:Int)=q:=by unfold plc;rw [if_neg hn1,Int.toNat_natCast,hqe,hh1]
  rw [e]
  rw [← hqe] at hq
  have C1:=zhz c1
  have C2:=zhz c2
  have hm1:1≤m:=by omega
  have hq9:q<9223372036854775808:=by omega
  clear c1 c2 hqe hre Q e hlt hh1 hn1
  go_enter Tryz.func165,Tryz.ntmps165
  go_wp2_with (first
   | (go_at_call 116;((with_reducible refine (C1.out _).mono ?_);rintro e w' ⟨rfl,rfl⟩))
   | (go_at_call 175;((with_reducible refine (C2.out _).mono ?_);rintro e w' ⟨rfl,d,rfl⟩)))
  go_ret
  exact ⟨rfl,d,rfl⟩
theorem zk7 (h:Nat) {n:Int} (hn:1≤n):plc h n<n.toNat:=by
 unfold plc
 rw [if_neg (by omega),Nat.div_lt_iff_lt_mul (by omega),Nat.mul_comm]
 exact Nat.mul_lt_mul_of_pos_left (Nat.mod_lt _ (by omega)) (by omega)
theorem zcY (X A B:Nat) (hX:X<2305843009213693951) (hA:A<2305843009213693951) (hB:B<2305843009213693951) (s:ByteArray) (hs:s.size≤maxLen) (n:Int) (hn : -9223372036854775808≤n∧n≤9223372036854775807) (w:World) :
  Calls Tryz.prog 147 #[.agg #[.int .u64 X,.int .u64 A,.int .u64 B],.string s,.int .i64 n] w fun e w'=>e=.returned (.int .i64 (plc (Ha.hof X A B s.data.toList) n:Nat))∧Below w.heap.size w w':=by
 have hl:=Ha.hof_lt X A B s.data.toList
 have c1:=fun w=>zi7 X A B hX hA hB s hs w
 obtain ⟨h,hh⟩:=zeq (Ha.hof X A B s.data.toList)
 rw [← hh] at c1 hl ⊢
 have c2:=fun w=>ziT h n (by omega) hn w
 have C1:=zhz c1
 have C2:=zhz c2
 clear c1 c2 hh
 go_enter Tryz.func147,Tryz.ntmps147
 go_wp2_with (first
  | (go_at_call 166;((with_reducible refine (C1.out _).mono ?_);rintro e w1 ⟨rfl,b1⟩;have B1:=zhz b1;clear b1))
  | (go_at_call 165;((with_reducible refine (C2.out _).mono ?_);rintro e w' ⟨rfl,d,rfl⟩)))
 go_ret
 exact ⟨rfl,zaa (((Below.refl _ _).alloc (Nat.le_refl _) _).trans (B1.out.mono (by simp))) d⟩
end Go.Proofs.YtannniobeanhlaaGreat
