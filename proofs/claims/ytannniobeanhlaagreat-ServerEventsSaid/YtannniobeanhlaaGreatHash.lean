import Derived.Test.YtannniobeanhlaaGreatZDiv
import Derived.Test.YtannniobeanhlaaGreatZObj
import Derived.BigQuiet
import Derived.Lib.IndexBytes
set_option linter.unusedSimpArgs false
set_option linter.unusedVariables false
set_option maxRecDepth 100000
set_option maxHeartbeats 9000000
namespace Go.Proofs.YtannniobeanhlaaGreat
open Go.ChangeShapes Go.WideShapes Go.ChangeAt Go.RowKit
theorem zlP (n:Nat) (c:UInt8) (h:n<72057594037927936):bits .or .u64 ((n:Int)*256) (c.toNat:Int)=((n*256+c.toNat:Nat):Int):=by
 have hc:=UInt8.toNat_lt c
 have e:(n:Int)*256=((n*256:Nat):Int):=by omega
 rw [e,bits_or_u64_nat _ _ (by omega) (by omega)]
 have:=Nat.two_pow_add_eq_or_of_lt (i:=8) (b:=c.toNat) hc n
 rw [show (2:Nat) ^ 8=256 from rfl,Nat.mul_comm 256 n] at this
 rw [this]
theorem zhb (s:ByteArray) (hs:s.size≤7) (w:World) :
  Calls Tryz.prog 178 #[.string s] w fun e w'=>e=.returned (.int .u64 (Ha.num s.data.toList:Nat))∧w=w':=by
 go_enter Tryz.func178,Tryz.ntmps178
 go_wp2
 go_loopg [3,7] s.size (fun k sn si wr=>∃ (i n:Nat),i≤s.size∧k=s.size - i∧si=.int .i64 (i:Int)∧sn=.int .u64 (n:Int)∧Hid (n=Ha.num (s.data.toList.take i))∧wr=w)
 case atStart=>exact ⟨0,0,by omega,by omega,rfl,rfl,zhz rfl,rfl⟩
 case round =>
  obtain ⟨i,n,hi,hk,rfl,rfl,HN,rfl⟩:=hrel
  have HK:=zhz hk
  clear hk
  by_cases hin:i<s.size
  ·have hts:s.data.toList.take (i+1)=s.data.toList.take i++[s[i]]:=by
    rw [List.take_succ_eq_append_getElem (by simpa using hin)];rfl
   have hlt:n<281474976710656:=by
    rw [HN.out]
    have:=Ha.num_lt (s.data.toList.take i).length (s.data.toList.take i) rfl
    have h2:256 ^ (s.data.toList.take i).length≤256 ^ 6:=Nat.pow_le_pow_right (by decide) (by rw [List.length_take];omega)
    exact Nat.lt_of_lt_of_le this h2
   obtain ⟨m,hm⟩:=zeq (n*256+(s[i]).toNat)
   have e1:=zlP n s[i] (by omega)
   rw [← hm,← Kn.wrapN _ (Nat.lt_trans (UInt8.toNat_lt s[i]) (by omega))] at e1
   have HM:Hid (m=Ha.num (s.data.toList.take (i+1))):=zhz (by rw [hts,Ha.num_snoc,← HN.out,hm])
   clear hts hm
   go_wp2
   go_roundg (s.size - (i+1))
   case measure=>have:=HK.out;omega
   case rel=>exact ⟨i+1,m,by omega,by omega,by go_num,by first | rfl | exact congrArg _ e1,HM,rfl⟩
  ·go_wp2
   go_ret
   have h:=HN.out
   rw [List.take_of_length_le (by have:s.size=s.data.toList.length:=by simp
                                  omega)] at h
   exact ⟨zau (by rw [h]),rfl⟩
theorem zaa {B:Nat} {a w:World} (h:Below B a w) (n:Nat):Below B a (w.drewN n):=h.trans ⟨rfl,rfl,rfl,Nat.le_refl _,fun _ _=>rfl⟩
theorem zi7 (X A B:Nat) (hX:X<2305843009213693951) (hA:A<2305843009213693951) (hB:B<2305843009213693951) (s:ByteArray) (hs:s.size≤maxLen) (w:World) :
  Calls Tryz.prog 166 #[.agg #[.int .u64 X,.int .u64 A,.int .u64 B],.string s] w fun e w'=>e=.returned (.int .u64 (Ha.hof X A B s.data.toList:Nat))∧Below w.heap.size w w':=by
 unfold maxLen at hs
 obtain ⟨r,hr⟩:=zeq (Ha.hof X A B s.data.toList)
 rw [← hr]
 have HR:=zhz hr
 clear hr
 obtain ⟨h0,hh0⟩:=zeq ((s.size+1) % 2305843009213693951)
 have hh0l:h0<2305843009213693951:=by rw [hh0];exact Nat.mod_lt _ (by omega)
 obtain ⟨s1,hs1⟩:=zeq (s.size+1)
 have c0:=fun w=>zdI s1 (by omega) w
 have es1:(s.size:Int)+1=(s1:Int):=by omega
 rw [show s1 % 2305843009213693951=h0 by rw [hh0,hs1]] at c0
 have C0:=zhz c0
 have HH0:=zhz hh0
 clear c0 hh0 hs1
 go_enter Tryz.func166,Tryz.ntmps166
 go_wp2_with (first
  | (go_at_call 116;(with_reducible refine (C0.out _).mono ?_);rintro e w' ⟨rfl,rfl⟩))
 go_loopg [1,5] s.size (fun k ss sh wr=>∃ (t:ByteArray) (h:Nat),ss=.string t∧k=t.size∧t.size≤s.size∧sh=.int .u64 (h:Int)∧h<2305843009213693951∧Hid (Ha.poly X h t.data.toList=Ha.poly X h0 s.data.toList)∧wr.cell? ⟨w.heap.size,0,none⟩=some (.int .u64 X)∧wr.cell? ⟨w.heap.size,1,none⟩=some (.int .u64 A)∧wr.cell? ⟨w.heap.size,2,none⟩=some (.int .u64 B)∧Below w.heap.size w wr)
 case atStart =>
  refine ⟨s,h0,rfl,rfl,by omega,rfl,hh0l,zhz rfl,?_,?_,?_,(Below.refl _ _).alloc (Nat.le_refl _) _⟩ <;> simp [World.cell?_alloc_new]
 case round =>
  obtain ⟨t,h,rfl,hk,ht,rfl,hh,HJ,k0,k1,k2,hb⟩:=hrel
  have HB:=zhz hb
  have HK:=zhz hk
  clear hb hk
  by_cases h0:0<t.size
  ·obtain ⟨n,hn⟩:=zeq (min 7 t.size)
   have hn1:0<n:=by omega
   have hn2:n≤7:=by omega
   have hn3:n≤t.size:=by omega
   have en:min 7 (t.size:Int)=(n:Int):=by omega
   obtain ⟨p,hp⟩:=zeq (h*X % 2305843009213693951)
   obtain ⟨d,hd⟩:=zeq (Ha.num (t.extract 0 n).data.toList)
   obtain ⟨q,hq⟩:=zeq ((p+d) % 2305843009213693951)
   have hpl:p<2305843009213693951:=by rw [hp];exact Nat.mod_lt _ (by omega)
   have hql:q<2305843009213693951:=by rw [hq];exact Nat.mod_lt _ (by omega)
   have hes:(t.extract 0 n).size=n:=by simp;omega
   have hdl:d<72057594037927936:=by
    rw [hd];exact Ha.num_lt7 _ (by rw [← Lib.size_eq,hes];exact hn2)
   have c1:=fun w=>zga h X (by omega) (by omega) w
   have c2:=fun w=>zhb (t.extract 0 n) (by omega) w
   have c3:=fun w=>zf7 p d (by omega) w
   rw [← hp] at c1
   rw [← hd] at c2
   rw [← hq] at c3
   have hj:Ha.poly X q (t.extract n t.size).data.toList=Ha.poly X h t.data.toList:=by
    have hne:t.data.toList≠[]:=by
     intro e
     have hz:t.size=0:=by rw [Lib.size_eq,e];rfl
     omega
    rw [Ha.poly_cons (h:=h) hne,hq,hp,hd,Lib.extract_to_end,Lib.extract_data]
    have e7:t.data.toList.take 7=(t.data.toList.drop 0).take (n - 0):=by
     rw [List.drop_zero,Nat.sub_zero]
     by_cases g:t.size≤7
     ·have a1:t.data.toList.take 7=t.data.toList:=List.take_of_length_le (by rw [← Lib.size_eq];exact g)
      have a2:t.data.toList.take n=t.data.toList:=List.take_of_length_le (by rw [← Lib.size_eq];omega)
      rw [a1,a2]
     ·have a3:n=7:=by omega
      rw [a3]
    have e8:t.data.toList.drop n=t.data.toList.drop 7:=by
     by_cases g:t.size≤7
     ·have a1:t.data.toList.drop 7=[]:=List.drop_of_length_le (by rw [← Lib.size_eq];exact g)
      have a2:t.data.toList.drop n=[]:=List.drop_of_length_le (by rw [← Lib.size_eq];omega)
      rw [a1,a2]
     ·have a3:n=7:=by omega
      rw [a3]
    rw [e7,e8]
   rw [HJ.out] at hj
   have HJ2:=zhz hj
   have C1:=zhz c1
   have C2:=zhz c2
   have C3:=zhz c3
   have hsz:(t.extract n t.size).size=t.size - n:=by simp
   have HSZ:=zhz hsz
   clear c1 c2 c3 hj hp hd hq hn hes hsz
   go_wp2
   go_quiet ((first
    | (go_at_call 177;exact Calls.quiet_of (C1.out _))
    | (go_at_call 178;exact Calls.quiet_of_same ((C2.out _).mono fun _ _ h=>⟨h.1,h.2.symm⟩))
    | (go_at_call 176;exact Calls.quiet_of_same ((C3.out _).mono fun _ _ h=>⟨h.1,h.2.symm⟩))))
   go_wp2
   go_roundg (t.size - n)
   case measure=>have:=HK.out;omega
   case rel=>exact ⟨t.extract n t.size,q,rfl,HSZ.out.symm,by rw [HSZ.out];omega,rfl,hql,HJ2,k0,k1,k2,zaa HB.out _⟩
  ·have htn:t.data.toList=[]:=List.eq_nil_of_length_eq_zero (by rw [← Lib.size_eq];omega)
   have hj:=HJ.out
   rw [htn,Ha.poly_nil,HH0.out] at hj
   obtain ⟨p,hp⟩:=zeq (h*A % 2305843009213693951)
   have hpl:p<2305843009213693951:=by rw [hp];exact Nat.mod_lt _ (by omega)
   have hrr:(p+B) % 2305843009213693951=r:=by
    rw [HR.out,hp,hj,Lib.size_eq];rfl
   have c1:=fun w=>zga h A (by omega) (by omega) w
   have c2:=fun w=>zf7 p B (by omega) w
   rw [← hp] at c1
   rw [hrr] at c2
   have C1:=zhz c1
   have C2:=zhz c2
   clear c1 c2 hp hrr hj htn
   go_wp2
   go_quiet ((first
    | (go_at_call 177;exact Calls.quiet_of (C1.out _))
    | (go_at_call 176;exact Calls.quiet_of_same ((C2.out _).mono fun _ _ h=>⟨h.1,h.2.symm⟩))))
   go_wp2
   go_ret
   exact ⟨rfl,zaa HB.out _⟩
end Go.Proofs.YtannniobeanhlaaGreat
