import Derived.Test.YtannniobeanhlaaGreatZLiftS
import Derived.Test.YtannniobeanhlaaGreatByt
import Derived.Deep.Cut
set_option linter.unusedSimpArgs false
set_option linter.unusedVariables false
set_option maxRecDepth 100000
set_option maxHeartbeats 9000000
namespace Go.Proofs.YtannniobeanhlaaGreat
open Go.ChangeShapes Go.WideShapes Go.ChangeAt Go.RowKit
theorem box10D (X:World) (a b c d e f g h i j:Value):∃ w1 w2,X.alloc (.cells #[.int .i64 0,.int .i64 0,.int .i64 0,.int .i64 0,.int .i64 0,.int .i64 0,.int .u32 0,.string ⟨#[]⟩,.int .i64 0,.slice none 0 0] 82)=w1 ∧
  (∀ q,w1.cell? ⟨X.heap.size,q,none⟩=(#[.int .i64 0,.int .i64 0,.int .i64 0,.int .i64 0,.int .i64 0,.int .i64 0,.int .u32 0,.string ⟨#[]⟩,.int .i64 0,.slice none 0 0]:Array Value)[q]?)∧(∀ q,w1.frozen? ⟨X.heap.size,q,none⟩=false) ∧
  (((((((((w1.setCell ⟨X.heap.size,0,none⟩ a).setCell ⟨X.heap.size,1,none⟩ b).setCell ⟨X.heap.size,2,none⟩ c).setCell ⟨X.heap.size,3,none⟩ d).setCell ⟨X.heap.size,4,none⟩ e).setCell ⟨X.heap.size,5,none⟩ f).setCell ⟨X.heap.size,6,none⟩ g).setCell ⟨X.heap.size,7,none⟩ h).setCell ⟨X.heap.size,8,none⟩ i).setCell ⟨X.heap.size,9,none⟩ j=w2 ∧
  Below X.heap.size X w2∧Blk w2 X.heap.size 82 #[a,b,c,d,e,f,g,h,i,j]:=by
 obtain ⟨w1,hw1,k1,b1,s1⟩:=zad X #[.int .i64 0,.int .i64 0,.int .i64 0,.int .i64 0,.int .i64 0,.int .i64 0,.int .u32 0,.string ⟨#[]⟩,.int .i64 0,.slice none 0 0] 82
 have hl:=lt_of_block k1
 have he:(((((((((w1.setCell ⟨X.heap.size,0,none⟩ a).setCell ⟨X.heap.size,1,none⟩ b).setCell ⟨X.heap.size,2,none⟩ c).setCell ⟨X.heap.size,3,none⟩ d).setCell ⟨X.heap.size,4,none⟩ e).setCell ⟨X.heap.size,5,none⟩ f).setCell ⟨X.heap.size,6,none⟩ g).setCell ⟨X.heap.size,7,none⟩ h).setCell ⟨X.heap.size,8,none⟩ i).setCell ⟨X.heap.size,9,none⟩ j=setObj w1 X.heap.size (.cells #[a,b,c,d,e,f,g,h,i,j] 82 (0,0)):=by
  rw [zac k1]
  simp only [zai hl,zs1,zs2,zs3]
 exact ⟨w1,_,hw1,k1.rd,k1.wr,he,b1.trans ((Fr.setObj (F:=fun k=>k=X.heap.size) (Fr.refl _ _) rfl _).below b1.size (fun k hk=>by omega)),zab hl _⟩
def lightD (L:List DeZ):Bool:=decide (L.length≤150) && L.all fun d=>decide (d.key.size≤200∧d.n≤300)
theorem ziu {L:List DeZ} (h:lightD L=true):L.length≤150∧∀ d ∈ L,d.key.size≤200∧d.n≤300:=by
 unfold lightD at h
 rw [Bool.and_eq_true,decide_eq_true_iff,List.all_eq_true] at h
 exact ⟨h.1,fun d hd=>of_decide_eq_true (h.2 d hd)⟩
theorem zlj {L:List DeZ} {i:Nat} {a:DeZ} (h:L[i]?=some a) (hs:a.key.size≤200∧a.n≤300) (hp:∀ j b,j<i→L[j]?=some b→b.key.size≤200∧b.n≤300):∀ j b,j<i+1→L[j]?=some b→b.key.size≤200∧b.n≤300:=by
 intro j b hj hb
 by_cases e:j=i
 ·subst e;rw [h] at hb;cases hb;exact hs
 ·exact hp j b (by omega) hb
theorem zg5 {L:List DeZ} (h:L.length≤150) (hp:∀ j b,j<L.length→L[j]?=some b→b.key.size≤200∧b.n≤300):lightD L=true:=by
 unfold lightD
 rw [decide_eq_true h,Bool.true_and,List.all_eq_true]
 intro d hd
 obtain ⟨j,hj,e⟩:=List.mem_iff_getElem.1 hd
 exact decide_eq_true (hp j d hj (by rw [zge hj,e]))
theorem zek {L:List DeZ} {i:Nat} {d:DeZ} (h:L[i]?=some d) (hs:200<d.key.size∨300<d.n):lightD L=false:=by
 unfold lightD
 have:L.all (fun d=>decide (d.key.size≤200∧d.n≤300))=false:=by
  rw [List.all_eq_false]
  exact ⟨d,List.mem_of_getElem? h,by simp;omega⟩
 rw [this,Bool.and_false]
theorem zfM (A:Option Addr) (n c:Nat) (L:List DeZ) (w:World) (hr:RdDe w A n c L) :
  Calls Tryz.prog 13 #[.slice A n c] w fun e w'=>e=.returned (.bool (lightD L))∧Below w.heap.size w w':=by
 have hmx:=hr.max
 unfold maxLen at hmx
 have hcp:=hr.cap
 have hlen:=hr.len
 by_cases hn:150<n
 ·have e:lightD L=false:=by unfold lightD;rw [hlen,decide_eq_false (by omega)];rfl
  rw [e]
  have t1:decide ((150:Int)<(n:Int))=true:=by rw [decide_eq_true_iff];omega
  clear hr hlen e
  go_enter Tryz.func13,Tryz.ntmps13
  go_wp2
  go_ret
  exact ⟨rfl,Below.refl _ _⟩
 have HR:=zhz hr
 have t1:decide ((150:Int)<(n:Int))=false:=by rw [zdn];omega
 have HLn:=zhz hlen
 have HN:=zhz (show n≤150 by omega)
 clear hr hlen
 go_enter Tryz.func13,Tryz.ntmps13
 go_wp2
 go_loopg [10] n (fun kk si wr=>∃ i:Nat,i≤n∧Hid (kk=n - i)∧si=.int .i64 (i:Int)∧Hid (Below w.heap.size w wr)∧Hid (∀ j b,j<i→L[j]?=some b→b.key.size≤200∧b.n≤300))
 case atStart=>exact ⟨0,by omega,zhz rfl,rfl,zhz (Below.refl _ _),zhz (fun j b h=>absurd h (by omega))⟩
 case round =>
  obtain ⟨i,hi,HKK,rfl,HB,HA⟩:=hrel
  by_cases hin:i<n
  ·obtain ⟨b,off,rfl,hbl,hc⟩:=(HR.out.below HB.out).at_ (by omega)
   obtain ⟨d,ha⟩:∃ a,L[i]?=some a:=⟨_,zge (by rw [HLn.out];exact hin)⟩
   have hok:=HR.out.ok d (List.mem_of_getElem? ha)
   have hil:i<L.length:=by rw [HLn.out];exact hin
   have hd:L[i]=d:=by rw [zge hil] at ha;exact Option.some.inj ha
   have hcc:∀ q,q<10→wr.cell? ⟨b,off+i*10+q,none⟩=d.cs[q]?:=fun q hq=>by rw [hc i hil q hq,hd]
   obtain ⟨kd,cn,cu,gp,op,ru,co,ky,kk,DA,dn,dc,raw⟩:=d
   have kr0:wr.cell? ⟨b,off+i*10,none⟩=some (.int .i64 kd):=hcc 0 (by omega)
   have kr1:wr.cell? ⟨b,off+i*10+1,none⟩=some (.int .i64 cn):=hcc 1 (by omega)
   have kr2:wr.cell? ⟨b,off+i*10+2,none⟩=some (.int .i64 cu):=hcc 2 (by omega)
   have kr3:wr.cell? ⟨b,off+i*10+3,none⟩=some (.int .i64 gp):=hcc 3 (by omega)
   have kr4:wr.cell? ⟨b,off+i*10+4,none⟩=some (.int .i64 op):=hcc 4 (by omega)
   have kr5:wr.cell? ⟨b,off+i*10+5,none⟩=some (.int .i64 ru):=hcc 5 (by omega)
   have kr6:wr.cell? ⟨b,off+i*10+6,none⟩=some (.int .u32 co):=hcc 6 (by omega)
   have kr7:wr.cell? ⟨b,off+i*10+7,none⟩=some (.string ky):=hcc 7 (by omega)
   have kr8:wr.cell? ⟨b,off+i*10+8,none⟩=some (.int .i64 kk):=hcc 8 (by omega)
   have kr9:wr.cell? ⟨b,off+i*10+9,none⟩=some (.slice DA dn dc):=hcc 9 (by omega)
   have hky:ky.size≤9223372036854775807:=by have:=hok.key;unfold maxLen at this;dsimp only at this;omega
   have hdn:dn≤9223372036854775807:=by have h1:=hok.raw.cap;have h2:=hok.raw.max;unfold maxLen at h2;dsimp only at h1 h2;omega
   obtain ⟨x1,x2,ex1,kr,kw,ex2,bl2,kc2⟩:=box10D wr (.int .i64 kd) (.int .i64 cn) (.int .i64 cu) (.int .i64 gp) (.int .i64 op) (.int .i64 ru) (.int .u32 co) (.string ky) (.int .i64 kk) (.slice DA dn dc)
   have BL:=zhz (HB.out.trans (bl2.mono HB.out.size))
   have kc3:=kc2.rd
   have t2:(i:Int)<(n:Int):=by omega
   have t3:(n:Int)≤150:=by have:=HN.out;omega
   have HIA:=zhz (And.intro ha hin)
   clear hc hbl ha bl2 kc2 hok hil hd hcc
   go_upto_region 6 with (fail)
   clear kr kw ex1 kr0 kr1 kr2 kr3 kr4 kr5 kr6 kr7 kr8 kr9 ex2
   by_cases h1:(200:Int)<(ky.size:Int)
   ·have H1:=zhz h1
    go_wp2
    go_ret
    exact ⟨by rw [zek HIA.out.1 (Or.inl (by have:=H1.out;dsimp only;omega))];rfl,BL.out⟩
   ·have H1:=zhz h1
    by_cases h2:(300:Int)<(dn:Int)
    ·have H2:=zhz h2
     go_wp2
     go_ret
     exact ⟨by rw [zek HIA.out.1 (Or.inr (by have:=H2.out;dsimp only;omega))];rfl,BL.out⟩
    ·have H2:=zhz h2
     go_wp2
     go_roundg (n - (i+1))
     case measure=>have:=HKK.out;have:=HIA.out.2;omega
     case rel=>exact ⟨i+1,HIA.out.2,zhz rfl,by go_num,BL,zhz (zlj HIA.out.1 (by have:=H1.out;have:=H2.out;dsimp only;omega) HA.out)⟩
  ·have hie:i=n:=by omega
   subst hie
   have e:lightD L=true:=zg5 (by rw [HLn.out];exact HN.out) (by rw [HLn.out];exact HA.out)
   have E:=zhz e
   clear e
   go_wp2
   go_ret
   exact ⟨by rw [E.out];rfl,HB.out⟩
end Go.Proofs.YtannniobeanhlaaGreat
