import Derived.Test.YtannniobeanhlaaGreatHz
import Derived.Test.YtannniobeanhlaaGreatZSvW
namespace Go.Proofs.YtannniobeanhlaaGreat
set_option linter.unusedSimpArgs false
set_option linter.unusedVariables false
set_option maxRecDepth 100000
set_option maxHeartbeats 9000000
open Go.ChangeShapes Go.WideShapes Go.ChangeAt Go.RowKit
theorem zln {w:World} {base s On:Nat} {ps:List RuZ} {now m:Int} {D:Nat→Prop} (h:SrE w base s ps On now m D):Calls Tryz.prog 22 #[.pointer (some ⟨s,0,none⟩)] w fun e w'=>e=.returned (.int .i64 now)∧w=w':=by
 obtain ⟨Ns,Ks,c,Ss,σs,h,_,e,_⟩:=h
 rw [← e]
 exact zcK w h.at_.sv
theorem DoS.start {W0 W w:World} {base s On:Nat} {ps:List RuZ} {v:Value} {ls:List DoV} (h:SrE W base s ps On 0 0 (fun _=>False)) (hl:W0.heap.size≤base) (hb0:Below W0.heap.size W0 W) (ha:AcR W w v ls) (hb:Below W.heap.size W w):DoS W0 W w base s ps On 0 0 w.heap.size v ls (fun _=>False) :=
 ⟨h.more hb (fun b hb'=>by rcases hb' with q | q;exact Or.inr q;exact q.elim),ha,⟨hl,by have:=h.lo;omega,Nat.le_refl _⟩,hb0.trans (hb.mono hb0.size),fun b hb'=>by
  rcases hb' with q | q
  ·obtain ⟨a,ha',hq⟩:=q
   exact ⟨(ha.db b ⟨a,ha',hq⟩).1,(ha.hold a ha').lt b ⟨a,List.mem_singleton.2 rfl,hq⟩⟩
  ·exact ⟨ha.out.base_le b q,ha.out.lt b q⟩,fun _ hx=>hx.elim,hb.size⟩
theorem servertime_law (w:World) (A:Option Addr) (n c0:Nat) (L:List DeZ) (A2:Option Addr) (n2 c2:Nat) (zs:List Int) (hr:RdDe w A n c0 L) (hr2:RdI w .i64 A2 n2 c2 zs) :
  Calls Tryz.prog 7 #[.slice A n c0,.slice A2 n2 c2] w fun e w'=>e=.returned (.bool true)∧Below w.heap.size w w':=by
 have hmx2:=hr2.max
 unfold maxLen at hmx2
 have hcp2:=hr2.cap
 have HR:=zhz hr
 have HR2:=zhz hr2
 clear hr hr2
 go_enter Tryz.func7,Tryz.ntmps7
 go_upto_region 3 with (go_at_call 12;((refine (ziN _).mono ?_);rintro e w1 ⟨rfl,b1⟩;have B1:=zhz b1;clear b1))
 have CL:=zhz (zfz A n c0 L w1 (HR.out.below B1.out))
 cases hlb:lightD L with
 | false =>
  rw [hlb] at CL
  go_wp2_with (go_at_call 13;((with_reducible refine CL.out.mono ?_);rintro e w2 ⟨rfl,b2⟩;have B2:=zhz (B1.out.trans (b2.mono B1.out.size));clear b2))
  go_ret
  exact ⟨rfl,B2.out⟩
 | true =>
 rw [hlb] at CL
 have HLD:=zhz (zhX hlb)
 clear hlb
 by_cases hn2:(200:Int)<(n2:Int)
 ·have t200:decide ((200:Int)<(n2:Int))=true:=decide_eq_true hn2
  have HN2:=zhz hn2
  go_wp2_with (go_at_call 13;((with_reducible refine CL.out.mono ?_);rintro e w2 ⟨rfl,b2⟩;have B2:=zhz (B1.out.trans (b2.mono B1.out.size));clear b2))
  go_ret
  exact ⟨rfl,B2.out⟩
 have t200:decide ((200:Int)<(n2:Int))=false:=decide_eq_false hn2
 have HN2:=zhz hn2
 go_upto_region 5 with (go_at_call 13;((with_reducible refine CL.out.mono ?_);rintro e w2 ⟨rfl,b2⟩;have B2:=zhz (show Below w.heap.size w w2 from B1.out.trans (b2.mono B1.out.size));clear b2))
 clear CL hn2 t200
 have CF:=zhz (zgi [] 660 none 0 0 0 rfl w2 (zle w2))
 have HNW:=zhz (fun wx (A':Option Addr) (m' c':Nat) (h1:RdRu wx A' m' c' (confR [])) (h2:rightZ 4294967296 3 660 (confR []))=>show Calls Tryz.prog 15 #[.agg #[.int .i64 4294967296,.int .i64 3,.int .i64 660,.slice A' m' c'],.slice none 0 0] wx (fun e w'=>∃ s,e=.returned (.tuple #[.pointer (some ⟨s,0,none⟩),.int .i64 0])∧SrE w' wx.heap.size s [] 660 0 0 (fun _=>False)∧Below wx.heap.size wx w') from svnewE [] 660 A' m' c' none 0 0 [] wx h1 h2 (by omega) (by omega) (zck _ _))
 go_upto_region 6 with (first
  | (go_at_call 14;((with_reducible refine CF.out.mono ?_);rintro e w3 ⟨A',m,c',rfl,r3,z3,b3⟩;have B3:=zhz (show Below w.heap.size w w3 from B2.out.trans (b3.mono B2.out.size));have CN:=zhz (HNW.out w3 A' m c' r3 z3);clear r3 z3 b3))
  | (go_at_call 15;((with_reducible refine CN.out.mono ?_);rintro e w4 ⟨s,rfl,h4,b4⟩;have B4:=zhz (show Below w.heap.size w w4 from B3.out.trans (b4.mono B3.out.size));have H4:=zhz h4;clear h4 b4)))
 clear CF HNW CN
 obtain ⟨base,hbase⟩:=zeq (w3.heap.size)
 rw [← hbase] at H4
 have HBS:=zhz (show w.heap.size≤base from by rw [hbase];exact B3.out.size)
 clear hbase
 have CA:=zhz (show Calls Tryz.prog 18 #[.slice A n c0,.int .i64 1] w4 (fun e w'=>∃ v ls,e=.returned v∧AcR w4 w' v ls∧ls.length=n∧Below w4.heap.size w4 w') from zg4 A n c0 L 1 (by omega) w4 (HR.out.below B4.out) (by have:=HLD.out.1;omega) HLD.out.2)
 go_upto_region 10 with (go_at_call 18;((with_reducible refine CA.out.mono ?_);rintro e w5 ⟨v5,ls,rfl,a5,l5,b5⟩;obtain ⟨A5,c5,hv5⟩:=a5.slice;have G5:=zhz (DoS.start H4.out HBS.out B4.out a5 b5);have L5:=zhz (And.intro l5 HLD.out.1);subst hv5;clear a5 l5 b5))
 clear CA
 obtain ⟨hi,hhi⟩:=zeq (w5.heap.size)
 rw [← hhi] at G5
 clear hhi
 obtain ⟨nn,hnn⟩:=zeq (ls.length)
 have HNN:=zhz (show nn=ls.length∧nn≤150 from ⟨hnn,by have:=L5.out;have:=HR.out.len;omega⟩)
 try rw [← hnn]
 rw [← hnn] at G5
 clear hnn
 go_loopg [7,30] nn (fun kk sn si wr=>∃ (i:Nat) (now:Int),i≤nn∧Hid (kk=nn - i)∧si=.int .i64 (i:Int)∧sn=.int .i64 now∧Hid (DoS w w4 wr base s [] 660 now (500*2097153*(i:Int)) hi (.slice A5 nn c5) ls (fun _=>False)))
 case atStart=>exact ⟨0,0,by omega,zhz rfl,rfl,rfl,G5⟩
 case round =>
  obtain ⟨i,now,hi',HKK,rfl,rfl,HG⟩:=hrel
  by_cases hin:i<nn
  ·obtain ⟨g,cg,hvg,hg1,hg2,hcg⟩:=HG.out.ac.at_ (by have:=HNN.out;omega)
   injection hvg with hvA hvn hvc
   subst hvA
   clear hvn hvc
   obtain ⟨a,ha⟩:∃ a,ls[i]?=some a:=⟨_,List.getElem?_eq_getElem (by have:=HNN.out;omega)⟩
   have HAM:=zhz (List.mem_of_getElem? ha)
   have HAH:=zhz (HG.out.ac.hold a HAM.out)
   have hca:=hcg i a ha
   have hnb:=HG.out.sv.now_bd
   obtain ⟨kd,ck,k,dA,na,ca,dn,sB,nb,cb⟩:=a
   have kr0:wr.cell? ⟨g,i*6,none⟩=some (.int .i64 kd):=hca 0 (by omega)
   have kr1:wr.cell? ⟨g,i*6+1,none⟩=some (.int .i64 ck):=hca 1 (by omega)
   have kr2:wr.cell? ⟨g,i*6+2,none⟩=some (.int .i64 (k:Int)):=hca 2 (by omega)
   have kr3:wr.cell? ⟨g,i*6+3,none⟩=some (.slice dA na ca):=hca 3 (by omega)
   have kr4:wr.cell? ⟨g,i*6+4,none⟩=some (.int .i64 dn):=hca 4 (by omega)
   have kr5:wr.cell? ⟨g,i*6+5,none⟩=some (.slice sB nb cb):=hca 5 (by omega)
   obtain ⟨x1,x2,ex1,kr,kw,ex2,bl2,kc2⟩:=box6E wr (.int .i64 kd) (.int .i64 ck) (.int .i64 (k:Int)) (.slice dA na ca) (.int .i64 dn) (.slice sB nb cb)
   obtain ⟨bx,hbx⟩:=zeq (wr.heap.size)
   rw [← hbx] at kc2
   have G2:=zhz (HG.out.box bl2 (bx:=bx) ⟨by omega,lt_of_block kc2⟩)
   have HBX:=zhz (show bx=wr.heap.size∧hi≤bx from ⟨hbx,by rw [hbx];exact HG.out.lo.2.2⟩)
   have KC:=zhz kc2
   have BL2:=zhz bl2
   have HCK:=zhz (show 0≤ck∧ck≤163680 from HAH.out.ck)
   have HNB:=zhz hnb
   have t2:(i:Int)<(nn:Int):=by omega
   have t3:(nn:Int)≤150:=by have:=HNN.out.2;omega
   have HIN:=zhz hin
   clear hcg hca ha bl2 kc2 hbx hg1 hg2 hnb hin
   go_upto_region 12 with (fail)
   try rw [ex2]
   rw [← HBX.out.1]
   clear ex1 kr kw ex2 kr0 kr1 kr2 kr3 kr4 kr5
   have kx:=KC.out.rd
   have kxw:=KC.out.wr
   by_cases hk4:kd=4
   ·subst hk4
    go_wp2
    go_roundg (nn - (i+1))
    case measure=>have:=HKK.out;have:=HIN.out;omega
    case rel=>exact ⟨i+1,now,HIN.out,zhz rfl,by go_num,rfl,zhz ((G2.out.mono (by have h1:=HNN.out.2;have h2:=HIN.out;omega)).drop (fun _ h=>h.elim))⟩
   ·have e4:(kd==4)=false:=by simpa using hk4
    have HK4:=zhz hk4
    clear hk4
    go_upto_if 41 with (fail)
    clear e4
    go_cut [] from 31 to 60 (fun wx=>∃ ck':Int,Hid (ck'≤9223372036854775807 ∧ -9223372036854775808≤ck')∧Hid (Blk wx bx 42 #[.int .i64 kd,.int .i64 ck',.int .i64 (k:Int),.slice dA na ca,.int .i64 dn,.slice sB nb cb])∧Hid (DoS w w4 wx base s [] 660 now (500*2097153*(i:Int)) hi (.slice (some ⟨g,0,none⟩) nn c5) ls (fun b=>False∨b=bx)))
    case first =>
     by_cases hi2:(i:Int)<(n2:Int)
     ·obtain ⟨b',off,rfl,hbl,hcl⟩:=(HR2.out.below G2.out.bl).at_ (by omega)
      obtain ⟨z,hz⟩:=zeq (zs.getD i 0)
      have hc:=hcl i (by omega)
      rw [← hz] at hc
      have HZ:=zhz (show z≤9223372036854775807 ∧ -9223372036854775808≤z from by
       have h1:=bounds_i64 (HR2.out.wf_at (i:=i) (by omega))
       rw [← hz] at h1
       omega)
      obtain ⟨y3,e3,k3,f3⟩:=zaS KC.out 1 (.int .i64 z)
      have K3:=zhz (show Blk y3 bx 42 #[.int .i64 kd,.int .i64 z,.int .i64 (k:Int),.slice dA na ca,.int .i64 dn,.slice sB nb cb] from k3)
      have G3:=zhz (G2.out.set (Or.inr rfl) f3)
      clear hbl hcl hz k3 f3
      go_wp2
      go_meet
      case rel=>(try rw [e3]);exact ⟨z,HZ,K3,G3⟩
     ·go_wp2
      go_meet
      case rel=>exact ⟨ck,zhz (by have:=HCK.out;omega),KC,G2⟩
    case rest =>
    clear kx kxw
    obtain ⟨ck',HCK',KC',G3⟩:=hcut
    have kx:=KC'.out.rd
    have CD:=zhz (show Calls Tryz.prog 20 #[.pointer (some ⟨s,0,none⟩),.agg #[.int .i64 kd,.int .i64 ck',.int .i64 (k:Int),.slice dA na ca,.int .i64 dn,.slice sB nb cb]] wc (fun e w'=>∃ r,e=.returned r∧DoS w w4 w' base s [] 660 (max now ck') (500*2097153*(i:Int)+500*2097153) hi (.slice (some ⟨g,0,none⟩) nn c5) ls (fun b=>False∨b=bx)∧Fr (fun b=>base≤b∧¬ (w4.heap.size≤b∧b<hi∨(False∨b=bx))) wc w') from by
     have h:=G3.out.act HAM.out (ck:=ck') HCK'.out.1 (by have h1:=HNN.out.2;have h2:=HIN.out;omega)
     rw [if_neg (show ¬ kd=4 from HK4.out)] at h
     exact h)
    obtain ⟨nw,hnw⟩:=zeq (max now ck')
    rw [← hnw] at CD
    have emx:max now ck'=nw:=hnw.symm
    have HNM:=zhz hnw
    clear hnw
    go_upto_region 16 with (go_at_call 20;((with_reducible refine CD.out.mono ?_);rintro e w6 ⟨r6,rfl,g6,f6⟩;have G6:=zhz g6;have K6:=zhz (KC'.out.fr f6 (fun hF=>hF.2 (Or.inr (Or.inr rfl))));clear g6 f6))
    clear kx CD
    have kx:=K6.out.rd
    have CN:=zhz (zln G6.out.sv)
    go_upto_region 17 with (fail)
    clear kx emx
    have enn:(nw != nw)=false:=by simp
    go_wp2_with (go_at_call 22;((with_reducible refine CN.out.mono ?_);rintro e w7 ⟨rfl,rfl⟩))
    go_roundg (nn - (i+1))
    case measure=>have:=HKK.out;have:=HIN.out;omega
    case rel=>exact ⟨i+1,nw,HIN.out,zhz rfl,by go_num,rfl,zhz (by rw [show 500*2097153*((i+1:Nat):Int)=500*2097153*(i:Int)+500*2097153 by omega];exact G6.out.drop (fun _ h=>h.elim))⟩
  ·have hie:i=nn:=by omega
   subst hie
   go_wp2
   go_ret
   exact ⟨rfl,HG.out.bl⟩
end Go.Proofs.YtannniobeanhlaaGreat
