import Derived.Test.YtambcbbekoehiabGreatZSvW
set_option linter.unusedSimpArgs false
set_option linter.unusedVariables false
set_option maxRecDepth 100000
set_option maxHeartbeats 9000000
namespace Go.Proofs.YtambcbbekoehiabGreat
open Go.ChangeShapes Go.WideShapes Go.ChangeAt Go.RowKit
theorem zjY {w:World} {b:Nat} {T:TypeId} {p1 p2:RuZ} (h:Blk w b T #[.int .i64 p1.L,.int .i64 p1.W,.int .i64 p1.B,.int .i64 p1.Sl,.int .i64 p1.Ce,.int .i64 p1.Ro,.int .i64 p1.Wi,.int .i64 p1.Tr,.bool p1.sm,.int .i64 p2.L,.int .i64 p2.W,.int .i64 p2.B,.int .i64 p2.Sl,.int .i64 p2.Ce,.int .i64 p2.Ro,.int .i64 p2.Wi,.int .i64 p2.Tr,.bool p2.sm]) (h1:p1.ok) (h2:p2.ok):RdRu w (some ⟨b,0,none⟩) 2 2 [p1,p2] :=
 ⟨Nat.le_refl _,by unfold maxLen;omega,rfl,fun _=>⟨b,0,rfl,lt_of_block h,fun i hi j hj=>by
  have h0:i=0∨i=1:=by have:i<2:=hi;omega
  have hj':j=0∨j=1∨j=2∨j=3∨j=4∨j=5∨j=6∨j=7∨j=8:=by omega
  rcases h0 with rfl | rfl <;> rcases hj' with rfl | rfl | rfl | rfl | rfl | rfl | rfl | rfl | rfl <;> exact h.rd _⟩,fun r hr=>by
   rcases List.mem_cons.1 hr with rfl | hr
   ·exact h1
   ·rw [List.mem_singleton.1 hr];exact h2⟩
theorem zhN {w:World} {b:Nat} {t:TypeId} {a0 a1 a2 a3 a4 v:Value} (h:Blk w b t #[a0,a1,a2,a3,a4]):∃ y,w.setCell ⟨b,1,none⟩ v=y∧Blk y b t #[a0,v,a2,a3,a4]∧Fr (fun k=>k=b) w y:=by
 have hl:=lt_of_block h
 refine ⟨_,rfl,?_,?_⟩
 ·rw [zac h]
  simp only [zs1,zs2,zs3]
  exact zab hl _
 ·rw [zac h]
  exact Fr.setObj (F:=fun k=>k=b) (Fr.refl _ w) rfl _
section
variable {w w':World} {b1 h0 b d:Nat} {T:TypeId} {cs:Array Value} {A:Option Addr} {n c:Nat} {ev:List EvZ} {zs:List Int}
abbrev EvA (w:World) (h0:Nat) (A:Option Addr) (n:Nat) (ev:List EvZ):Prop:=RdE w A n ev∧n≤1000000∧∀ b off,0<n→A=some ⟨b,off,none⟩→h0≤b
abbrev NeA (A:Option Addr) (n d:Nat):Prop:=∀ b off,0<n→A=some ⟨b,off,none⟩→b≠d
theorem bK (h:Hid (Blk w b T cs∧h0≤b)) (hb:Below w.heap.size w w'):Hid (Blk w' b T cs∧h0≤b):=zhz ⟨h.out.1.keep hb,h.out.2⟩
theorem bF (h:Hid (Blk w b T cs∧h0≤b)) (f:Fr (inS b1 h0) w w'):Hid (Blk w' b T cs∧h0≤b):=zhz ⟨h.out.1.fr f (fun hh=>by have h9:=hh.2;have:=h.out.2;omega),h.out.2⟩
theorem bO (h:Hid (Blk w b T cs∧h0≤b)) (f:Fr (fun k=>k=d) w w') (hn:Hid (b≠d)):Hid (Blk w' b T cs∧h0≤b):=zhz ⟨h.out.1.fr f (fun hh=>hn.out hh),h.out.2⟩
theorem bN (h:Hid (Blk w b T cs∧h0≤b)) (hd:d=w.heap.size):Hid (b≠d):=zhz (by have:=lt_of_block h.out.1;omega)
theorem bN' (h:Hid (Blk w b T cs∧h0≤b)) (hd:d=w.heap.size):Hid (d≠b):=zhz (by have:=lt_of_block h.out.1;omega)
theorem rK {P:Prop} (h:Hid (RdI w .u8 A n c zs∧P)) (hb:Below w.heap.size w w'):Hid (RdI w' .u8 A n c zs∧P):=zhz ⟨h.out.1.below hb,h.out.2⟩
theorem eK (h:Hid (EvA w h0 A n ev)) (hb:Below w.heap.size w w'):Hid (EvA w' h0 A n ev):=zhz ⟨h.out.1.below hb,h.out.2⟩
theorem eF (h:Hid (EvA w h0 A n ev)) (f:Fr (inS b1 h0) w w'):Hid (EvA w' h0 A n ev):=zhz ⟨h.out.1.fr f (fun b off h1 e hh=>by have h9:=hh.2;have:=h.out.2.2 b off h1 e;omega),h.out.2⟩
theorem eO (h:Hid (EvA w h0 A n ev)) (f:Fr (fun k=>k=d) w w') (hn:Hid (NeA A n d)):Hid (EvA w' h0 A n ev):=zhz ⟨h.out.1.fr f (fun b off h1 e=>hn.out b off h1 e),h.out.2⟩
theorem eI (h:RdE w' A n ev) (hm:n≤1000000) (hl:∀ b off,0<n→A=some ⟨b,off,none⟩→w.heap.size≤b) (hi:h0≤w.heap.size):Hid (EvA w' h0 A n ev):=zhz ⟨h,hm,fun b off h1 e=>Nat.le_trans hi (hl b off h1 e)⟩
theorem neD (hl:∀ b off,0<n→A=some ⟨b,off,none⟩→w.heap.size≤b) (h:Hid (Blk w d T cs∧h0≤d)):Hid (NeA A n d):=zhz fun b off h1 e h2=>by have h3:=hl b off h1 e;have h4:=lt_of_block h.out.1;omega
theorem neA (h:Hid (EvA w h0 A n ev)) (hd:d=w.heap.size):Hid (NeA A n d):=zhz fun b off h1 e h2=>by have h3:=RdE.lt h.out.1 b off h1 e;omega
theorem bNew (w:World):∃ w' b,w.alloc (.cells #[.int .i64 0,.int .i64 0,.slice none 0 0,.slice none 0 0] 41)=w'∧Blk w' b 41 #[.int .i64 0,.int .i64 0,.slice none 0 0,.slice none 0 0]∧Below w.heap.size w w'∧b=w.heap.size:=by
 obtain ⟨w1,h1,k1,b1,s1⟩:=zad w #[.int .i64 0,.int .i64 0,.slice none 0 0,.slice none 0 0] 41
 exact ⟨w1,_,h1,k1,b1,rfl⟩
end
theorem wholerules_law (w:World) (p1 p2:RuZ) (As:Option Addr) (ns cs:Nat) (zs:List Int) (A2:Option Addr) (n2 c2:Nat) (L:List Cl) (h1:p1.ok) (h2:p2.ok) (hrs:RdI w .u64 As ns cs zs) (hr2:RdL w A2 n2 c2 4 encCl L) (hok:∀ a ∈ L,okCl a) :
  Calls Tryz.prog 3 #[.agg #[.int .i64 p1.L,.int .i64 p1.W,.int .i64 p1.B,.int .i64 p1.Sl,.int .i64 p1.Ce,.int .i64 p1.Ro,.int .i64 p1.Wi,.int .i64 p1.Tr,.bool p1.sm,.int .i64 p2.L,.int .i64 p2.W,.int .i64 p2.B,.int .i64 p2.Sl,.int .i64 p2.Ce,.int .i64 p2.Ro,.int .i64 p2.Wi,.int .i64 p2.Tr,.bool p2.sm],.slice As ns cs,.slice A2 n2 c2] w fun e w'=>e=.returned (.bool true)∧Below w.heap.size w w':=by
 have hmx2:=hr2.max
 have hmxs:=hrs.max
 unfold maxLen at hmx2 hmxs
 have hcp2:=hr2.cap
 have hcps:=hrs.cap
 have HSD:=zhz hrs
 have HR2:=zhz hr2
 have HO:=zhz hok
 clear hrs hr2 hok
 obtain ⟨w0,hw0,k0,b0,s0⟩:=zad w #[.int .i64 p1.L,.int .i64 p1.W,.int .i64 p1.B,.int .i64 p1.Sl,.int .i64 p1.Ce,.int .i64 p1.Ro,.int .i64 p1.Wi,.int .i64 p1.Tr,.bool p1.sm,.int .i64 p2.L,.int .i64 p2.W,.int .i64 p2.B,.int .i64 p2.Sl,.int .i64 p2.Ce,.int .i64 p2.Ro,.int .i64 p2.Wi,.int .i64 p2.Tr,.bool p2.sm] 24
 obtain ⟨lb,hlb⟩:=zeq (w.heap.size)
 rw [← hlb] at k0
 have HLB:=zhz hlb
 obtain ⟨lps,hlps⟩:=zeq ([p1,p2])
 have HRP:=zhz (show RdRu w0 (some ⟨lb,0,none⟩) 2 2 lps from by rw [hlps];exact zjY k0 h1 h2)
 have HC2:=zhz (show (confR lps).length=2 from by rw [hlps];rfl)
 have B0:=zhz b0
 clear k0 b0 s0 hlps
 go_enter Tryz.func3,Tryz.ntmps3
 go_upto_region 1 with (fail)
 rw [← HLB.out]
 clear hw0 hlb
 go_upto_region 3 with (go_at_call 7;((refine (ziW _).mono ?_);rintro e w3 ⟨rfl,b3⟩;have B03:=zhz (show Below w0.heap.size w0 w3 from b3);have B3:=zhz (zae B0.out B03.out);clear b3))
 by_cases h50:(50:Int)<(ns:Int)
 ·go_wp2
  go_ret
  exact ⟨rfl,B3.out⟩
 have HN50:=zhz (show ns≤50 by omega)
 have CLi:=zhz (ze5 A2 n2 c2 L w3 (HR2.out.below B3.out) HO.out)
 cases hlb:lightC L with
 | false =>
  rw [hlb] at CLi
  go_wp2_with (go_at_call 8;((with_reducible refine CLi.out.mono ?_);rintro e w4 ⟨rfl,b4⟩;have T4:=zhz (zae B3.out b4);clear b4))
  go_ret
  exact ⟨rfl,T4.out⟩
 | true =>
 rw [hlb] at CLi
 have hlc:=zh4 hlb
 have HLK:=zhz hlc.2
 have hb2:(n2:Int)≤150:=by have h1:=hlc.1;have h2:=HR2.out.len;omega
 clear hlb hlc
 go_upto_region 5 with (go_at_call 8;((with_reducible refine CLi.out.mono ?_);rintro e w4 ⟨rfl,b4⟩;have B4:=zhz (zae B3.out b4);have B04:=zhz (zae B03.out b4);clear b4))
 clear CLi h50
 have CF:=zhz (zgo lps 660 (some ⟨lb,0,none⟩) 2 2 0 rfl w4 (HRP.out.below B04.out))
 go_upto_region 6 with (first
  | (go_at_call 9;((with_reducible refine CF.out.mono ?_);rintro e w5 ⟨A',m',c',rfl,r8,z8,b8⟩;obtain ⟨x1,x2,ex1,kr,kw,ex2,b9,k9⟩:=box4K w5 (.int .i64 4294967296) (.int .i64 3) (.int .i64 660) (.slice A' m' c');have B9:=zhz (zae (zae B4.out b8) b9);have R9:=zhz (r8.below b9);have Z9:=zhz z8;have KC9:=zhz k9;clear r8 z8 b8 b9 k9)))
 try rw [ex2]
 clear ex1 kr kw ex2 CF
 obtain ⟨cb,hcb⟩:=zeq (w5.heap.size)
 rw [← hcb] at KC9 ⊢
 clear hcb
 have HM1:=zhz (show 1≤m'∧m'≤8 from by have h1:=R9.out.len;have h2:=Z9.out.2.1;omega)
 have kc:=KC9.out.rd
 have HNW:=zhz (svnewN lps 660 A' m' c' As ns cs zs x2 R9.out Z9.out (by omega) (by have:=HN50.out;omega) (HSD.out.below B9.out))
 go_upto_region 7 with (go_at_call 10;((with_reducible refine HNW.out.mono ?_);rintro e wa ⟨s,rfl,ha,ba⟩;have HA:=zhz ha;have BA:=zhz (zae B9.out ba);have RA:=zhz (R9.out.below ba);have KCA:=zhz (KC9.out.keep ba);have BX:=zhz ba;clear ha ba))
 clear HNW kc
 have kc:=KCA.out.rd
 have HNW:=zhz (svnewN lps 660 A' m' c' As ns cs zs wa RA.out Z9.out (by omega) (by have:=HN50.out;omega) (HSD.out.below BA.out))
 go_upto_region 8 with (go_at_call 10;((with_reducible refine HNW.out.mono ?_);rintro e wb ⟨t,rfl,hb,bb⟩;have HS:=zhz (TwC.start HA.out hb bb BX.out.size B9.out.size BA.out);have HWW:=zhz (Nat.le_trans BA.out.size bb.size);clear hb bb))
 clear HNW kc
 obtain ⟨base,hbase⟩:=zeq (x2.heap.size)
 obtain ⟨b2,hb2'⟩:=zeq (wa.heap.size)
 obtain ⟨h0,hh0⟩:=zeq (wb.heap.size)
 have HWH:=zhz (show w.heap.size≤h0 from by rw [hh0];exact HWW.out)
 have HCL:=zhz (show (confR lps).length=m' from R9.out.len)
 rw [← hbase,← hb2',← hh0] at HS
 obtain ⟨Na,Ka,ca,Nb,Kb,cc,hT,hLA,hsa,hsb,hka,hkb⟩:=HS.out
 obtain ⟨Ka0,hKa0⟩:∃ K,Ka[0]?=some K:=⟨_,List.getElem?_eq_getElem (by omega)⟩
 obtain ⟨Kb0,hKb0⟩:∃ K,Kb[0]?=some K:=⟨_,List.getElem?_eq_getElem (by omega)⟩
 have HK:=zhz (And.intro hKa0 hKb0)
 have HLA:=zhz hLA
 have HCC:=zhz (show (ca.rs=false∧ca.now=0)∧(cc.rs=false∧cc.now=0) from ⟨⟨hsa.rs,hsa.now⟩,hsb.rs,hsb.now⟩)
 have C1:=zhz (hT.openA (ck:=0) (by decide) 0 (kz:=0) rfl (.slice none 0 0) (.slice none 0 0) 0 hKa0 rfl ⟨rfl,rfl⟩ (by decide))
 clear hbase hb2' hT hLA hsa hsb hka hkb hKa0 hKb0 HS hh0
 go_upto_region 9 with (go_at_call 11;((with_reducible refine C1.out.mono ?_);rintro e z1 ⟨rfl,g1,f1⟩;have G1:=zhz g1;clear g1 f1))
 clear C1
 have C2:=zhz (G1.out.openB (ck:=0) (by decide) 0 (kz:=0) rfl (.slice none 0 0) (.slice none 0 0) 0 HK.out.2 rfl ⟨rfl,rfl⟩ (by decide))
 go_upto_region 10 with (go_at_call 11;((with_reducible refine C2.out.mono ?_);rintro e z2 ⟨rfl,g2,f2⟩;have G2:=zhz g2;clear g2 f2))
 clear C2
 have D0:=zhz (RuI.of (now:=0) G2.out ⟨HCC.out.1.1,(show max ca.now 0≤0 by rw [HCC.out.1.2];decide)⟩ ⟨HCC.out.2.1,(show max cc.now 0≤0 by rw [HCC.out.2.2];decide)⟩)
 clear G1 G2 HCC
 go_upto_region 12 with (fail)
 go_loopg [12,52] n2 (fun kk sn si wr=>∃ (i:Nat) (now:Int),i≤n2∧Hid (kk=n2 - i)∧sn=.int .i64 now∧si=.int .i64 (i:Int)∧Hid (0≤now∧now≤1023*(i:Int))∧Hid (RuI w wr base s b2 t h0 (confR lps) Na Ka Nb Kb (rsZ (confR lps)) now (150*2097153*(i:Int)) [] []))
 case atStart=>exact ⟨0,0,by omega,zhz rfl,rfl,rfl,zhz (by omega),zhz (by rw [show 150*2097153*((0:Nat):Int)=0 by omega];exact D0.out)⟩
 case round =>
  obtain ⟨i,now,hi,HKK,rfl,rfl,HNOW,HX⟩:=hrel
  by_cases hin:i<n2
  ·have HBL:=zhz HX.out.bl
   have hl2:=HR2.out.len
   obtain ⟨b',off,rfl,hbl,hcl⟩:=(HR2.out.below HBL.out).at_ (by omega)
   obtain ⟨⟨gp,cs',ky,pk⟩,ha⟩:∃ a,L[i]?=some a:=⟨_,List.getElem?_eq_getElem (by omega)⟩
   have HKY:=zhz (HLK.out _ (List.mem_of_getElem? ha))
   have kr0:wr.cell? ⟨b',off+i*4,none⟩=some (.int .i64 gp):=hcl i _ ha 0 (by omega)
   have kr1:wr.cell? ⟨b',off+i*4+1,none⟩=some (.int .i64 cs'):=hcl i _ ha 1 (by omega)
   have kr2:wr.cell? ⟨b',off+i*4+2,none⟩=some (.string ky):=hcl i _ ha 2 (by omega)
   have kr3:wr.cell? ⟨b',off+i*4+3,none⟩=some (.bool pk):=hcl i _ ha 3 (by omega)
   obtain ⟨y1,y2,ey1,kr,kw,ey2,bl2,kc2⟩:=box4C wr (.int .i64 gp) (.int .i64 cs') (.string ky) (.bool pk)
   obtain ⟨bx,hbx⟩:=zeq (wr.heap.size)
   rw [← hbx] at kc2
   have D2:=zhz (HX.out.keep bl2)
   have HBX:=zhz hbx
   have KC:=zhz kc2
   have t2:(i:Int)<(n2:Int):=by omega
   have HIN:=zhz hin
   clear hl2 hcl hbl bl2 kc2 hbx hin ha
   go_upto_region 14 with (fail)
   try rw [ey2]
   rw [← HBX.out]
   clear kr0 kr1 kr2 kr3 ey1 kr kw ey2
   have kx:=KC.out.rd
   have CG:=zhz (fun wx=>zjr gp wx)
   have hgb:=zk3 gp
   obtain ⟨gq,hgq⟩:=zeq (gapL gp)
   rw [← hgq] at CG hgb
   obtain ⟨t',ht'⟩:=zeq (now+gq)
   have et:IntKind.i64.wrap (now+gq)=t':=by have h1:=HNOW.out;rw [IntKind.wrap_i64];omega
   have HTT:=zhz (show now≤t'∧0≤t'∧t'≤1023*((i:Int)+1)∧t'≤9223372036854775807 from by have h1:=HNOW.out;omega)
   clear hgq ht' hgb
   go_upto_region 15 with (go_at_call 12;((with_reducible refine (CG.out _).mono ?_);rintro v y3 ⟨rfl,rfl⟩))
   clear CG et
   obtain ⟨cz,hcz⟩:=zeq (cs' % 32)
   have em:bits .and .i64 cs' 31=cz:=by rw [hcz];exact zbL _
   have HCZ:=zhz (show 0≤cz∧cz<32 from by omega)
   have ecv:IntKind.u32.wrap cz=cz:=by have:=HCZ.out;rw [IntKind.wrap_u32];omega
   clear hcz
   obtain ⟨z1',z2',ez1,kzr,kzw,ez2,bz,kz⟩:=box5Q y2 (.int .i64 1) (.int .i64 0) (.int .u32 cz) (.string ky) (.int .i64 0)
   obtain ⟨qb,hqb⟩:=zeq (y2.heap.size)
   have HQE:=zhz hqb
   have HQB:=zhz (show h0≤qb from by rw [hqb];exact D2.out.hi)
   rw [← hqb] at kz
   have KQ:=zhz kz
   have D3:=zhz (D2.out.keep bz)
   clear kz bz hqb
   go_upto_region 16 with (fail)
   try rw [ez2]
   rw [← HQE.out]
   clear em ecv kx ez1 kzr kzw ez2 HQE
   obtain ⟨mm,hmm⟩:∃ z,z=150*2097153*(i:Int):=⟨_,rfl⟩
   have HMM:=zhz (show 0≤mm∧mm≤150*2097153*150 from by have:=HIN.out;omega)
   have HME:=zhz hmm
   rw [← hmm] at D3
   clear hmm
   obtain ⟨pz,hpz⟩:∃ z,z=(i:Int) % 2:=⟨_,rfl⟩
   have em1:bits .and .i64 (i:Int) 1=pz:=by rw [hpz];exact G.i64_mask1 _
   have h01:pz=0∨pz=1:=by omega
   clear hpz
   rcases h01 with rfl | rfl
   rotate_left 1
   ·have HQ1:=zhz (show okQ (((confR lps).length:Nat):Int) (mkR 1 1 cz ky 0) from zh8 (by rw [HC2.out];decide) (by rw [HC2.out];decide) (Or.inl rfl) HKY.out rfl (by have:=HCZ.out;omega))
    have CE:=zhz (fun wx=>zkw (op:=1) (ru:=1) (co:=cz) (k:=0) (ky:=ky) (zbO (by rw [HC2.out];decide) HQ1.out) (by have:=HCZ.out;omega) wx)
    have kq:=KQ.out.rd
    have kqw:=KQ.out.wr
    obtain ⟨y5,ey5,k5',f5'⟩:=zhN (v:=.int .i64 1) KQ.out
    have K5:=zhz k5'
    have D5:=zhz (D3.out.own f5' HQB.out HWH.out)
    clear k5' f5'
    go_upto_region 18 with (fail)
    try rw [ey5]
    clear ey5 kq kqw em1
    have kq:=K5.out.rd
    have CB:=zhz (fun (wx:World) (g n1 c1:Nat) (hD:RuI w wx base s b2 t h0 (confR lps) Na Ka Nb Kb (rsZ (confR lps)) now mm [] []) (hz:RdI wx .u8 (some ⟨g,0,none⟩) n1 c1 (encZ (mkR 1 1 cz ky 0))) (hg:h0≤g)=>hD.one HK.out.2 (ck:=t') ⟨HTT.out.1,HTT.out.2.2.2⟩ HQ1.out (Or.inl rfl) rfl (by have:=HMM.out;omega) (some ⟨g,0,none⟩) n1 c1 hz (fun b off _ e=>by injection e with e;injection e with e;exact Or.inr (by omega)) 0 (.slice none 0 0))
    go_upto_region 19 with (first
     | (go_at_call 13;((with_reducible refine (CE.out _).mono ?_);rintro v w14 ⟨g14,n14,c14,rfl,l14,r14,hg14,b14⟩;have R14:=zhz (And.intro r14 (show h0≤g14 from Nat.le_trans D5.out.hi hg14));have D6:=zhz (D5.out.keep b14);clear l14 r14 hg14 b14))
     | (go_at_call 11;((with_reducible refine (CB.out _ _ _ _ D6.out R14.out.1 R14.out.2).mono ?_);rintro v w15 ⟨A5,n5,c5,x,rfl,g1,hx1,hx2,f1⟩;have D7:=zhz g1;have HXB:=zhz (And.intro hx1 hx2);clear g1 f1 hx1 hx2)))
    clear CE CB kq
    have CD:=zhz (D7.out.drainB HK.out.2 (ck:=t') ⟨Int.le_refl _,HTT.out.2.2.2⟩ HXB.out.1 HXB.out.2 (by have:=HMM.out;omega) (.slice none 0 0) (.slice none 0 0))
    go_wp2_with (go_at_call 11;((with_reducible refine CD.out.mono ?_);rintro v w16 ⟨g6,rfl,_,d8,_,_⟩;have D8:=zhz d8;clear d8))
    go_roundg (n2 - (i+1))
    case measure=>have:=HKK.out;have:=HIN.out;omega
    case rel=>exact ⟨i+1,t',HIN.out,zhz rfl,rfl,by go_num,zhz ⟨HTT.out.2.1,by have:=HTT.out.2.2.1;omega⟩,zhz (D8.out.mono (by have h1:=HMM.out;have h2:=HME.out;have:=HIN.out;omega) (Int.le_refl _))⟩
   ·have HQ1:=zhz (show okQ (((confR lps).length:Nat):Int) (mkR 1 0 cz ky 0) from zh8 (by rw [HC2.out];decide) (by rw [HC2.out];decide) (Or.inl rfl) HKY.out rfl (by have:=HCZ.out;omega))
    have CE:=zhz (fun wx=>zkw (op:=1) (ru:=0) (co:=cz) (k:=0) (ky:=ky) (zbO (by rw [HC2.out];decide) HQ1.out) (by have:=HCZ.out;omega) wx)
    go_upto_region 20 with (fail)
    clear em1
    go_cut [16,17] from 83 to 113 (fun s16 s17 wx=>∃ (xb yb na:Nat) (A4:Option Addr) (n4 c4:Nat) (B4:Option Addr) (k4 d4:Nat) (x:List Int) (ev:List EvZ),s16=.pointer (some ⟨xb,0,none⟩)∧s17=.pointer (some ⟨yb,0,none⟩)∧Hid (Blk wx xb 41 #[.int .i64 0,.int .i64 (na:Int),.slice none 0 0,.slice A4 n4 c4]∧h0≤xb)∧Hid (Blk wx yb 41 #[.int .i64 0,.int .i64 (na:Int),.slice none 0 0,.slice B4 k4 d4]∧h0≤yb)∧Hid (EvA wx h0 A4 n4 ev)∧Hid (EvA wx h0 B4 k4 ev)∧Hid (x.length=22∧byt x)∧Hid (RuI w wx base s b2 t h0 (confR lps) Na Ka Nb Kb (rsZ (confR lps)) t' (mm+75*2097153+75*2097153) x x))
    case first =>
     have N1:=zhz (show Below z2'.heap.size z2' z2'.drew from zaa (Below.refl _ _) 1)
     obtain ⟨W0,hW0⟩:=zeq (z2'.drew)
     rw [← hW0] at N1
     have TT:=zhz (D3.out.keep N1.out)
     have QB:=zhz (And.intro (KQ.out.keep N1.out) HQB.out)
     have st:=QB.out.1.rd
     have CA:=zhz (fun (wx:World) (g n1 c1:Nat) (hD:RuI w wx base s b2 t h0 (confR lps) Na Ka Nb Kb (rsZ (confR lps)) now mm [] []) (hz:RdI wx .u8 (some ⟨g,0,none⟩) n1 c1 (encZ (mkR 1 0 cz ky 0))∧h0≤g∧(encZ (mkR 1 0 cz ky 0)).length=n1)=>hD.askA HK.out.1 (ck:=t') ⟨HTT.out.1,HTT.out.2.2.2⟩ HQ1.out (Or.inl rfl) (by have:=HMM.out;omega) (some ⟨g,0,none⟩) n1 c1 hz.1 (fun b off _ e=>by injection e with e;injection e with e;exact Or.inr (by have:=hz.2.1;omega)) 0 (.slice none 0 0))
     have CB:=zhz (fun (wx:World) (g n1 c1:Nat) (x:List Int) (ev:List EvZ) (hD:RuH w wx base s b2 t h0 (confR lps) Na Ka Nb Kb (rsZ (confR lps)) now t' (mm+75*2097153) (mkR 1 0 cz ky 0) x ev) (hz:RdI wx .u8 (some ⟨g,0,none⟩) n1 c1 (encZ (mkR 1 0 cz ky 0))∧h0≤g∧(encZ (mkR 1 0 cz ky 0)).length=n1)=>hD.askB HLA.out HK.out.2 ⟨HTT.out.1,HTT.out.2.2.2⟩ HQ1.out (Or.inl rfl) rfl (by have:=HMM.out;omega) (some ⟨g,0,none⟩) n1 c1 hz.1 (fun b off _ e=>by injection e with e;injection e with e;exact Or.inr (by have:=hz.2.1;omega)) 0 (.slice none 0 0))
     refine wp_region_held_drew (S:=fun wx=>∀ j,wx.cell? ⟨qb,j,none⟩=(#[.int .i64 1,.int .i64 0,.int .u32 cz,.string ky,.int .i64 0]:Array Value)[j]?) (by kernel_rfl) (by rw [← hW0];exact st) (fun hHeld=>?_)
     rw [← hW0] at hHeld ⊢
     clear hW0 st
     refine wR 0 ?_
     refine wR 1 ?_
     refine wR 2 ?_
     refine wR 6 ?_
     refine wR 7 ?_
     refine wR 8 ?_
     refine wpAnyH_ready (rs:=[3,12,13]) (by kernel_rfl) (by simp) ?_
     refine AllReadyH.cons (o:=?_) ?_ ?_ ?_
     rotate_left 1
     ·rfl
     rotate_left 1
     ·refine AllReadyH.cons (o:=?_) ?_ ?_ ?_
      rotate_left 1
      ·rfl
      rotate_left 1
      ·refine AllReadyH.cons (o:=?_) ?_ ?_ ?_
       rotate_left 1
       ·rfl
       rotate_left 1
       ·exact AllReadyH.nil
       intro K hK
       go_simp
       obtain ⟨W1,yb,hw9,k9,b9,hb9⟩:=bNew W0;rw [hw9,← hb9];have YB:=zhz (And.intro k9 (show h0≤yb from by rw [hb9];exact TT.out.hi));have NQy:=bN QB hb9;replace TT:=zhz (TT.out.keep b9);replace QB:=bK QB b9;clear hw9 k9 b9 hb9
       refine hK.out _ _ QB.out.1.rd (fun hHeld=>?_)
       clear hK K
       try simp only [Act.put,zs1,zs2,zs3]
       refine wpAnyH_ready (rs:=[3,12]) (by kernel_rfl) (by simp) ?_
       refine AllReadyH.cons (o:=?_) ?_ ?_ ?_
       rotate_left 1
       ·rfl
       rotate_left 1
       ·refine AllReadyH.cons (o:=?_) ?_ ?_ ?_
        rotate_left 1
        ·rfl
        rotate_left 1
        ·exact AllReadyH.nil
        intro K hK
        go_simp
        obtain ⟨W2,xb,hw9,k9,b9,hb9⟩:=bNew W1;rw [hw9,← hb9];have XB:=zhz (And.intro k9 (show h0≤xb from by rw [hb9];exact TT.out.hi));have NQx:=bN QB hb9;have NXY:=bN' YB hb9;replace TT:=zhz (TT.out.keep b9);replace QB:=bK QB b9;replace YB:=bK YB b9;clear hw9 k9 b9 hb9
        refine hK.out _ _ QB.out.1.rd (fun hHeld=>?_)
        clear hK K
        try simp only [Act.put,zs1,zs2,zs3]
        refine wC 3 fun K hK=>?_
        go_simp
        ((with_reducible refine (CE.out _).mono ?_);rintro v W3 ⟨g1,n1,c1,rfl,l9,r9,hg9,b9⟩;have R1:=zhz (And.intro r9 (And.intro (Nat.le_trans TT.out.hi hg9) l9));replace TT:=zhz (TT.out.keep b9);replace QB:=bK QB b9;replace XB:=bK XB b9;replace YB:=bK YB b9;clear l9 r9 hg9 b9)
        refine hK.out _ _ QB.out.1.rd fun hHeld=>?_
        clear hK K
        try simp only [Act.put,zs1,zs2,zs3]
        refine wR 4 ?_
        refine wC 5 fun K hK=>?_
        go_simp
        ((with_reducible refine (CA.out _ _ _ _ TT.out R1.out).mono ?_);rintro v W4 ⟨A4,n4,c4,x,ev,rfl,g9,e9,l9,m9,f9⟩;have NE1x:=neD l9 XB;have NE1y:=neD l9 YB;replace QB:=bF QB f9;replace XB:=bF XB f9;replace YB:=bF YB f9;have E1:=eI e9 m9 l9 TT.out.hi;replace TT:=zhz g9;clear g9 e9 l9 m9 f9)
        refine hK.out _ _ QB.out.1.rd fun hHeld=>?_
        clear hK K
        try simp only [Act.put,zs1,zs2,zs3]
        refine wC 9 fun K hK=>?_
        go_simp
        ((with_reducible refine (CE.out _).mono ?_);rintro v W5 ⟨g2,n2q,c2q,rfl,l9,r9,hg9,b9⟩;have R2:=zhz (And.intro r9 (And.intro (Nat.le_trans TT.out.hi hg9) l9));replace TT:=zhz (TT.out.keep b9);replace QB:=bK QB b9;replace XB:=bK XB b9;replace YB:=bK YB b9;replace E1:=eK E1 b9;clear l9 r9 hg9 b9)
        refine hK.out _ _ QB.out.1.rd fun hHeld=>?_
        clear hK K
        try simp only [Act.put,zs1,zs2,zs3]
        refine wR 10 ?_
        refine wC 11 fun K hK=>?_
        go_simp
        (have LNX:=zhz TT.out.ln;(with_reducible refine (CB.out _ _ _ _ _ _ TT.out R2.out).mono ?_);rintro v W6 ⟨B4,k4,d4,rfl,g9,e9,l9,m9,f9⟩;have NE2x:=neD l9 XB;have NE2y:=neD l9 YB;replace QB:=bF QB f9;replace XB:=bF XB f9;replace YB:=bF YB f9;replace E1:=eF E1 f9;have E2:=eI e9 m9 l9 TT.out.hi;replace TT:=zhz g9;clear g9 e9 l9 m9 f9)
        refine hK.out _ _ QB.out.1.rd fun hHeld=>?_
        clear hK K
        try simp only [Act.put,zs1,zs2,zs3]
        obtain rfl:n2q=n1:=R2.out.2.2.symm.trans R1.out.2.2
        have kx:=XB.out.1.rd
        have kw:=XB.out.1.wr
        refine wC 14 fun K hK=>?_
        go_simp
        (obtain ⟨W7,q7,f7,k7⟩:=zai XB.out.1 (.int .i64 0) (.int .i64 (n2q:Int)) (.slice none 0 0) (.slice A4 n4 c4);rw [q7];clear q7 kx kw;replace QB:=bO QB f7 NQx;replace TT:=zhz (TT.out.own f7 XB.out.2 HWH.out);replace YB:=bO YB f7 (zhz NXY.out.symm);replace E1:=eO E1 f7 NE1x;replace E2:=eO E2 f7 NE2x;replace XB:=zhz (And.intro k7 XB.out.2);clear f7 k7)
        refine hK.out _ _ QB.out.1.rd fun hHeld=>?_
        clear hK K
        try simp only [Act.put,zs1,zs2,zs3]
        have kx:=YB.out.1.rd
        have kw:=YB.out.1.wr
        refine wC 15 fun K hK=>?_
        go_simp
        (obtain ⟨W7,q7,f7,k7⟩:=zai YB.out.1 (.int .i64 0) (.int .i64 (n2q:Int)) (.slice none 0 0) (.slice B4 k4 d4);rw [q7];clear q7 kx kw;replace QB:=bO QB f7 NQy;replace TT:=zhz (TT.out.own f7 YB.out.2 HWH.out);replace XB:=bO XB f7 NXY;replace E1:=eO E1 f7 NE1y;replace E2:=eO E2 f7 NE2y;replace YB:=zhz (And.intro k7 YB.out.2);clear f7 k7)
        refine hK.out _ _ QB.out.1.rd fun hHeld=>?_
        clear hK K
        try simp only [Act.put,zs1,zs2,zs3]
        refine wpAnyH_done (by kernel_rfl) ?_ _
        clear hHeld
        go_wp2
        go_meet
        case rel=>exact ⟨xb,yb,n2q,A4,n4,c4,B4,k4,d4,x,ev,rfl,rfl,XB,YB,E1,E2,LNX,TT⟩
       intro K hK
       go_simp
       (with_reducible refine (CE.out _).mono ?_);rintro v W2 ⟨g1,n1,c1,rfl,l9,r9,hg9,b9⟩;have R1:=zhz (And.intro r9 (And.intro (Nat.le_trans TT.out.hi hg9) l9));replace TT:=zhz (TT.out.keep b9);replace QB:=bK QB b9;replace YB:=bK YB b9;clear l9 r9 hg9 b9
       refine hK.out _ _ QB.out.1.rd (fun hHeld=>?_)
       clear hK K
       try simp only [Act.put,zs1,zs2,zs3]
       refine wR 4 ?_
       refine wpAnyH_ready (rs:=[5,12]) (by kernel_rfl) (by simp) ?_
       refine AllReadyH.cons (o:=?_) ?_ ?_ ?_
       rotate_left 1
       ·rfl
       rotate_left 1
       ·refine AllReadyH.cons (o:=?_) ?_ ?_ ?_
        rotate_left 1
        ·rfl
        rotate_left 1
        ·exact AllReadyH.nil
        intro K hK
        go_simp
        obtain ⟨W3,xb,hw9,k9,b9,hb9⟩:=bNew W2;rw [hw9,← hb9];have XB:=zhz (And.intro k9 (show h0≤xb from by rw [hb9];exact TT.out.hi));have NQx:=bN QB hb9;have NXY:=bN' YB hb9;replace TT:=zhz (TT.out.keep b9);replace QB:=bK QB b9;replace YB:=bK YB b9;replace R1:=rK R1 b9;clear hw9 k9 b9 hb9
        refine hK.out _ _ QB.out.1.rd (fun hHeld=>?_)
        clear hK K
        try simp only [Act.put,zs1,zs2,zs3]
        refine wC 5 fun K hK=>?_
        go_simp
        ((with_reducible refine (CA.out _ _ _ _ TT.out R1.out).mono ?_);rintro v W4 ⟨A4,n4,c4,x,ev,rfl,g9,e9,l9,m9,f9⟩;have NE1x:=neD l9 XB;have NE1y:=neD l9 YB;replace QB:=bF QB f9;replace XB:=bF XB f9;replace YB:=bF YB f9;have E1:=eI e9 m9 l9 TT.out.hi;replace TT:=zhz g9;clear g9 e9 l9 m9 f9)
        refine hK.out _ _ QB.out.1.rd fun hHeld=>?_
        clear hK K
        try simp only [Act.put,zs1,zs2,zs3]
        refine wC 9 fun K hK=>?_
        go_simp
        ((with_reducible refine (CE.out _).mono ?_);rintro v W5 ⟨g2,n2q,c2q,rfl,l9,r9,hg9,b9⟩;have R2:=zhz (And.intro r9 (And.intro (Nat.le_trans TT.out.hi hg9) l9));replace TT:=zhz (TT.out.keep b9);replace QB:=bK QB b9;replace XB:=bK XB b9;replace YB:=bK YB b9;replace E1:=eK E1 b9;clear l9 r9 hg9 b9)
        refine hK.out _ _ QB.out.1.rd fun hHeld=>?_
        clear hK K
        try simp only [Act.put,zs1,zs2,zs3]
        refine wR 10 ?_
        refine wC 11 fun K hK=>?_
        go_simp
        (have LNX:=zhz TT.out.ln;(with_reducible refine (CB.out _ _ _ _ _ _ TT.out R2.out).mono ?_);rintro v W6 ⟨B4,k4,d4,rfl,g9,e9,l9,m9,f9⟩;have NE2x:=neD l9 XB;have NE2y:=neD l9 YB;replace QB:=bF QB f9;replace XB:=bF XB f9;replace YB:=bF YB f9;replace E1:=eF E1 f9;have E2:=eI e9 m9 l9 TT.out.hi;replace TT:=zhz g9;clear g9 e9 l9 m9 f9)
        refine hK.out _ _ QB.out.1.rd fun hHeld=>?_
        clear hK K
        try simp only [Act.put,zs1,zs2,zs3]
        obtain rfl:n2q=n1:=R2.out.2.2.symm.trans R1.out.2.2
        have kx:=XB.out.1.rd
        have kw:=XB.out.1.wr
        refine wC 14 fun K hK=>?_
        go_simp
        (obtain ⟨W7,q7,f7,k7⟩:=zai XB.out.1 (.int .i64 0) (.int .i64 (n2q:Int)) (.slice none 0 0) (.slice A4 n4 c4);rw [q7];clear q7 kx kw;replace QB:=bO QB f7 NQx;replace TT:=zhz (TT.out.own f7 XB.out.2 HWH.out);replace YB:=bO YB f7 (zhz NXY.out.symm);replace E1:=eO E1 f7 NE1x;replace E2:=eO E2 f7 NE2x;replace XB:=zhz (And.intro k7 XB.out.2);clear f7 k7)
        refine hK.out _ _ QB.out.1.rd fun hHeld=>?_
        clear hK K
        try simp only [Act.put,zs1,zs2,zs3]
        have kx:=YB.out.1.rd
        have kw:=YB.out.1.wr
        refine wC 15 fun K hK=>?_
        go_simp
        (obtain ⟨W7,q7,f7,k7⟩:=zai YB.out.1 (.int .i64 0) (.int .i64 (n2q:Int)) (.slice none 0 0) (.slice B4 k4 d4);rw [q7];clear q7 kx kw;replace QB:=bO QB f7 NQy;replace TT:=zhz (TT.out.own f7 YB.out.2 HWH.out);replace XB:=bO XB f7 NXY;replace E1:=eO E1 f7 NE1y;replace E2:=eO E2 f7 NE2y;replace YB:=zhz (And.intro k7 YB.out.2);clear f7 k7)
        refine hK.out _ _ QB.out.1.rd fun hHeld=>?_
        clear hK K
        try simp only [Act.put,zs1,zs2,zs3]
        refine wpAnyH_done (by kernel_rfl) ?_ _
        clear hHeld
        go_wp2
        go_meet
        case rel=>exact ⟨xb,yb,n2q,A4,n4,c4,B4,k4,d4,x,ev,rfl,rfl,XB,YB,E1,E2,LNX,TT⟩
       intro K hK
       go_simp
       (with_reducible refine (CA.out _ _ _ _ TT.out R1.out).mono ?_);rintro v W3 ⟨A4,n4,c4,x,ev,rfl,g9,e9,l9,m9,f9⟩;have NE1y:=neD l9 YB;replace QB:=bF QB f9;replace YB:=bF YB f9;have E1:=eI e9 m9 l9 TT.out.hi;replace TT:=zhz g9;clear g9 e9 l9 m9 f9
       refine hK.out _ _ QB.out.1.rd (fun hHeld=>?_)
       clear hK K
       try simp only [Act.put,zs1,zs2,zs3]
       refine wpAnyH_ready (rs:=[9,12]) (by kernel_rfl) (by simp) ?_
       refine AllReadyH.cons (o:=?_) ?_ ?_ ?_
       rotate_left 1
       ·rfl
       rotate_left 1
       ·refine AllReadyH.cons (o:=?_) ?_ ?_ ?_
        rotate_left 1
        ·rfl
        rotate_left 1
        ·exact AllReadyH.nil
        intro K hK
        go_simp
        obtain ⟨W4,xb,hw9,k9,b9,hb9⟩:=bNew W3;rw [hw9,← hb9];have XB:=zhz (And.intro k9 (show h0≤xb from by rw [hb9];exact TT.out.hi));have NQx:=bN QB hb9;have NXY:=bN' YB hb9;have NE1x:=neA E1 hb9;replace TT:=zhz (TT.out.keep b9);replace QB:=bK QB b9;replace YB:=bK YB b9;replace E1:=eK E1 b9;clear hw9 k9 b9 hb9
        refine hK.out _ _ QB.out.1.rd (fun hHeld=>?_)
        clear hK K
        try simp only [Act.put,zs1,zs2,zs3]
        refine wC 9 fun K hK=>?_
        go_simp
        ((with_reducible refine (CE.out _).mono ?_);rintro v W5 ⟨g2,n2q,c2q,rfl,l9,r9,hg9,b9⟩;have R2:=zhz (And.intro r9 (And.intro (Nat.le_trans TT.out.hi hg9) l9));replace TT:=zhz (TT.out.keep b9);replace QB:=bK QB b9;replace XB:=bK XB b9;replace YB:=bK YB b9;replace E1:=eK E1 b9;clear l9 r9 hg9 b9)
        refine hK.out _ _ QB.out.1.rd fun hHeld=>?_
        clear hK K
        try simp only [Act.put,zs1,zs2,zs3]
        refine wR 10 ?_
        refine wC 11 fun K hK=>?_
        go_simp
        (have LNX:=zhz TT.out.ln;(with_reducible refine (CB.out _ _ _ _ _ _ TT.out R2.out).mono ?_);rintro v W6 ⟨B4,k4,d4,rfl,g9,e9,l9,m9,f9⟩;have NE2x:=neD l9 XB;have NE2y:=neD l9 YB;replace QB:=bF QB f9;replace XB:=bF XB f9;replace YB:=bF YB f9;replace E1:=eF E1 f9;have E2:=eI e9 m9 l9 TT.out.hi;replace TT:=zhz g9;clear g9 e9 l9 m9 f9)
        refine hK.out _ _ QB.out.1.rd fun hHeld=>?_
        clear hK K
        try simp only [Act.put,zs1,zs2,zs3]
        obtain rfl:n2q=n1:=R2.out.2.2.symm.trans R1.out.2.2
        have kx:=XB.out.1.rd
        have kw:=XB.out.1.wr
        refine wC 14 fun K hK=>?_
        go_simp
        (obtain ⟨W7,q7,f7,k7⟩:=zai XB.out.1 (.int .i64 0) (.int .i64 (n2q:Int)) (.slice none 0 0) (.slice A4 n4 c4);rw [q7];clear q7 kx kw;replace QB:=bO QB f7 NQx;replace TT:=zhz (TT.out.own f7 XB.out.2 HWH.out);replace YB:=bO YB f7 (zhz NXY.out.symm);replace E1:=eO E1 f7 NE1x;replace E2:=eO E2 f7 NE2x;replace XB:=zhz (And.intro k7 XB.out.2);clear f7 k7)
        refine hK.out _ _ QB.out.1.rd fun hHeld=>?_
        clear hK K
        try simp only [Act.put,zs1,zs2,zs3]
        have kx:=YB.out.1.rd
        have kw:=YB.out.1.wr
        refine wC 15 fun K hK=>?_
        go_simp
        (obtain ⟨W7,q7,f7,k7⟩:=zai YB.out.1 (.int .i64 0) (.int .i64 (n2q:Int)) (.slice none 0 0) (.slice B4 k4 d4);rw [q7];clear q7 kx kw;replace QB:=bO QB f7 NQy;replace TT:=zhz (TT.out.own f7 YB.out.2 HWH.out);replace XB:=bO XB f7 NXY;replace E1:=eO E1 f7 NE1y;replace E2:=eO E2 f7 NE2y;replace YB:=zhz (And.intro k7 YB.out.2);clear f7 k7)
        refine hK.out _ _ QB.out.1.rd fun hHeld=>?_
        clear hK K
        try simp only [Act.put,zs1,zs2,zs3]
        refine wpAnyH_done (by kernel_rfl) ?_ _
        clear hHeld
        go_wp2
        go_meet
        case rel=>exact ⟨xb,yb,n2q,A4,n4,c4,B4,k4,d4,x,ev,rfl,rfl,XB,YB,E1,E2,LNX,TT⟩
       intro K hK
       go_simp
       (with_reducible refine (CE.out _).mono ?_);rintro v W4 ⟨g2,n2q,c2q,rfl,l9,r9,hg9,b9⟩;have R2:=zhz (And.intro r9 (And.intro (Nat.le_trans TT.out.hi hg9) l9));replace TT:=zhz (TT.out.keep b9);replace QB:=bK QB b9;replace YB:=bK YB b9;replace E1:=eK E1 b9;clear l9 r9 hg9 b9
       refine hK.out _ _ QB.out.1.rd (fun hHeld=>?_)
       clear hK K
       try simp only [Act.put,zs1,zs2,zs3]
       refine wR 10 ?_
       refine wpAnyH_ready (rs:=[11,12]) (by kernel_rfl) (by simp) ?_
       refine AllReadyH.cons (o:=?_) ?_ ?_ ?_
       rotate_left 1
       ·rfl
       rotate_left 1
       ·refine AllReadyH.cons (o:=?_) ?_ ?_ ?_
        rotate_left 1
        ·rfl
        rotate_left 1
        ·exact AllReadyH.nil
        intro K hK
        go_simp
        obtain ⟨W5,xb,hw9,k9,b9,hb9⟩:=bNew W4;rw [hw9,← hb9];have XB:=zhz (And.intro k9 (show h0≤xb from by rw [hb9];exact TT.out.hi));have NQx:=bN QB hb9;have NXY:=bN' YB hb9;have NE1x:=neA E1 hb9;replace TT:=zhz (TT.out.keep b9);replace QB:=bK QB b9;replace YB:=bK YB b9;replace R2:=rK R2 b9;replace E1:=eK E1 b9;clear hw9 k9 b9 hb9
        refine hK.out _ _ QB.out.1.rd (fun hHeld=>?_)
        clear hK K
        try simp only [Act.put,zs1,zs2,zs3]
        refine wC 11 fun K hK=>?_
        go_simp
        (have LNX:=zhz TT.out.ln;(with_reducible refine (CB.out _ _ _ _ _ _ TT.out R2.out).mono ?_);rintro v W6 ⟨B4,k4,d4,rfl,g9,e9,l9,m9,f9⟩;have NE2x:=neD l9 XB;have NE2y:=neD l9 YB;replace QB:=bF QB f9;replace XB:=bF XB f9;replace YB:=bF YB f9;replace E1:=eF E1 f9;have E2:=eI e9 m9 l9 TT.out.hi;replace TT:=zhz g9;clear g9 e9 l9 m9 f9)
        refine hK.out _ _ QB.out.1.rd fun hHeld=>?_
        clear hK K
        try simp only [Act.put,zs1,zs2,zs3]
        obtain rfl:n2q=n1:=R2.out.2.2.symm.trans R1.out.2.2
        have kx:=XB.out.1.rd
        have kw:=XB.out.1.wr
        refine wC 14 fun K hK=>?_
        go_simp
        (obtain ⟨W7,q7,f7,k7⟩:=zai XB.out.1 (.int .i64 0) (.int .i64 (n2q:Int)) (.slice none 0 0) (.slice A4 n4 c4);rw [q7];clear q7 kx kw;replace QB:=bO QB f7 NQx;replace TT:=zhz (TT.out.own f7 XB.out.2 HWH.out);replace YB:=bO YB f7 (zhz NXY.out.symm);replace E1:=eO E1 f7 NE1x;replace E2:=eO E2 f7 NE2x;replace XB:=zhz (And.intro k7 XB.out.2);clear f7 k7)
        refine hK.out _ _ QB.out.1.rd fun hHeld=>?_
        clear hK K
        try simp only [Act.put,zs1,zs2,zs3]
        have kx:=YB.out.1.rd
        have kw:=YB.out.1.wr
        refine wC 15 fun K hK=>?_
        go_simp
        (obtain ⟨W7,q7,f7,k7⟩:=zai YB.out.1 (.int .i64 0) (.int .i64 (n2q:Int)) (.slice none 0 0) (.slice B4 k4 d4);rw [q7];clear q7 kx kw;replace QB:=bO QB f7 NQy;replace TT:=zhz (TT.out.own f7 YB.out.2 HWH.out);replace XB:=bO XB f7 NXY;replace E1:=eO E1 f7 NE1y;replace E2:=eO E2 f7 NE2y;replace YB:=zhz (And.intro k7 YB.out.2);clear f7 k7)
        refine hK.out _ _ QB.out.1.rd fun hHeld=>?_
        clear hK K
        try simp only [Act.put,zs1,zs2,zs3]
        refine wpAnyH_done (by kernel_rfl) ?_ _
        clear hHeld
        go_wp2
        go_meet
        case rel=>exact ⟨xb,yb,n2q,A4,n4,c4,B4,k4,d4,x,ev,rfl,rfl,XB,YB,E1,E2,LNX,TT⟩
       intro K hK
       go_simp
       have LNX:=zhz TT.out.ln;(with_reducible refine (CB.out _ _ _ _ _ _ TT.out R2.out).mono ?_);rintro v W5 ⟨B4,k4,d4,rfl,g9,e9,l9,m9,f9⟩;have NE2y:=neD l9 YB;replace QB:=bF QB f9;replace YB:=bF YB f9;replace E1:=eF E1 f9;have E2:=eI e9 m9 l9 TT.out.hi;replace TT:=zhz g9;clear g9 e9 l9 m9 f9
       refine hK.out _ _ QB.out.1.rd (fun hHeld=>?_)
       clear hK K
       try simp only [Act.put,zs1,zs2,zs3]
       refine wC 12 fun K hK=>?_
       go_simp
       (obtain ⟨W6,xb,hw9,k9,b9,hb9⟩:=bNew W5;rw [hw9,← hb9];have XB:=zhz (And.intro k9 (show h0≤xb from by rw [hb9];exact TT.out.hi));have NQx:=bN QB hb9;have NXY:=bN' YB hb9;have NE1x:=neA E1 hb9;have NE2x:=neA E2 hb9;replace TT:=zhz (TT.out.keep b9);replace QB:=bK QB b9;replace YB:=bK YB b9;replace E1:=eK E1 b9;replace E2:=eK E2 b9;clear hw9 k9 b9 hb9)
       refine hK.out _ _ QB.out.1.rd fun hHeld=>?_
       clear hK K
       try simp only [Act.put,zs1,zs2,zs3]
       obtain rfl:n2q=n1:=R2.out.2.2.symm.trans R1.out.2.2
       have kx:=XB.out.1.rd
       have kw:=XB.out.1.wr
       refine wC 14 fun K hK=>?_
       go_simp
       (obtain ⟨W7,q7,f7,k7⟩:=zai XB.out.1 (.int .i64 0) (.int .i64 (n2q:Int)) (.slice none 0 0) (.slice A4 n4 c4);rw [q7];clear q7 kx kw;replace QB:=bO QB f7 NQx;replace TT:=zhz (TT.out.own f7 XB.out.2 HWH.out);replace YB:=bO YB f7 (zhz NXY.out.symm);replace E1:=eO E1 f7 NE1x;replace E2:=eO E2 f7 NE2x;replace XB:=zhz (And.intro k7 XB.out.2);clear f7 k7)
       refine hK.out _ _ QB.out.1.rd fun hHeld=>?_
       clear hK K
       try simp only [Act.put,zs1,zs2,zs3]
       have kx:=YB.out.1.rd
       have kw:=YB.out.1.wr
       refine wC 15 fun K hK=>?_
       go_simp
       (obtain ⟨W7,q7,f7,k7⟩:=zai YB.out.1 (.int .i64 0) (.int .i64 (n2q:Int)) (.slice none 0 0) (.slice B4 k4 d4);rw [q7];clear q7 kx kw;replace QB:=bO QB f7 NQy;replace TT:=zhz (TT.out.own f7 YB.out.2 HWH.out);replace XB:=bO XB f7 NXY;replace E1:=eO E1 f7 NE1y;replace E2:=eO E2 f7 NE2y;replace YB:=zhz (And.intro k7 YB.out.2);clear f7 k7)
       refine hK.out _ _ QB.out.1.rd fun hHeld=>?_
       clear hK K
       try simp only [Act.put,zs1,zs2,zs3]
       refine wpAnyH_done (by kernel_rfl) ?_ _
       clear hHeld
       go_wp2
       go_meet
       case rel=>exact ⟨xb,yb,n2q,A4,n4,c4,B4,k4,d4,x,ev,rfl,rfl,XB,YB,E1,E2,LNX,TT⟩
      intro K hK
      go_simp
      obtain ⟨W1,xb,hw9,k9,b9,hb9⟩:=bNew W0;rw [hw9,← hb9];have XB:=zhz (And.intro k9 (show h0≤xb from by rw [hb9];exact TT.out.hi));have NQx:=bN QB hb9;replace TT:=zhz (TT.out.keep b9);replace QB:=bK QB b9;clear hw9 k9 b9 hb9
      refine hK.out _ _ QB.out.1.rd (fun hHeld=>?_)
      clear hK K
      try simp only [Act.put,zs1,zs2,zs3]
      refine wpAnyH_ready (rs:=[3,13]) (by kernel_rfl) (by simp) ?_
      refine AllReadyH.cons (o:=?_) ?_ ?_ ?_
      rotate_left 1
      ·rfl
      rotate_left 1
      ·refine AllReadyH.cons (o:=?_) ?_ ?_ ?_
       rotate_left 1
       ·rfl
       rotate_left 1
       ·exact AllReadyH.nil
       intro K hK
       go_simp
       obtain ⟨W2,yb,hw9,k9,b9,hb9⟩:=bNew W1;rw [hw9,← hb9];have YB:=zhz (And.intro k9 (show h0≤yb from by rw [hb9];exact TT.out.hi));have NQy:=bN QB hb9;have NXY:=bN XB hb9;replace TT:=zhz (TT.out.keep b9);replace QB:=bK QB b9;replace XB:=bK XB b9;clear hw9 k9 b9 hb9
       refine hK.out _ _ QB.out.1.rd (fun hHeld=>?_)
       clear hK K
       try simp only [Act.put,zs1,zs2,zs3]
       refine wC 3 fun K hK=>?_
       go_simp
       ((with_reducible refine (CE.out _).mono ?_);rintro v W3 ⟨g1,n1,c1,rfl,l9,r9,hg9,b9⟩;have R1:=zhz (And.intro r9 (And.intro (Nat.le_trans TT.out.hi hg9) l9));replace TT:=zhz (TT.out.keep b9);replace QB:=bK QB b9;replace XB:=bK XB b9;replace YB:=bK YB b9;clear l9 r9 hg9 b9)
       refine hK.out _ _ QB.out.1.rd fun hHeld=>?_
       clear hK K
       try simp only [Act.put,zs1,zs2,zs3]
       refine wR 4 ?_
       refine wC 5 fun K hK=>?_
       go_simp
       ((with_reducible refine (CA.out _ _ _ _ TT.out R1.out).mono ?_);rintro v W4 ⟨A4,n4,c4,x,ev,rfl,g9,e9,l9,m9,f9⟩;have NE1x:=neD l9 XB;have NE1y:=neD l9 YB;replace QB:=bF QB f9;replace XB:=bF XB f9;replace YB:=bF YB f9;have E1:=eI e9 m9 l9 TT.out.hi;replace TT:=zhz g9;clear g9 e9 l9 m9 f9)
       refine hK.out _ _ QB.out.1.rd fun hHeld=>?_
       clear hK K
       try simp only [Act.put,zs1,zs2,zs3]
       refine wC 9 fun K hK=>?_
       go_simp
       ((with_reducible refine (CE.out _).mono ?_);rintro v W5 ⟨g2,n2q,c2q,rfl,l9,r9,hg9,b9⟩;have R2:=zhz (And.intro r9 (And.intro (Nat.le_trans TT.out.hi hg9) l9));replace TT:=zhz (TT.out.keep b9);replace QB:=bK QB b9;replace XB:=bK XB b9;replace YB:=bK YB b9;replace E1:=eK E1 b9;clear l9 r9 hg9 b9)
       refine hK.out _ _ QB.out.1.rd fun hHeld=>?_
       clear hK K
       try simp only [Act.put,zs1,zs2,zs3]
       refine wR 10 ?_
       refine wC 11 fun K hK=>?_
       go_simp
       (have LNX:=zhz TT.out.ln;(with_reducible refine (CB.out _ _ _ _ _ _ TT.out R2.out).mono ?_);rintro v W6 ⟨B4,k4,d4,rfl,g9,e9,l9,m9,f9⟩;have NE2x:=neD l9 XB;have NE2y:=neD l9 YB;replace QB:=bF QB f9;replace XB:=bF XB f9;replace YB:=bF YB f9;replace E1:=eF E1 f9;have E2:=eI e9 m9 l9 TT.out.hi;replace TT:=zhz g9;clear g9 e9 l9 m9 f9)
       refine hK.out _ _ QB.out.1.rd fun hHeld=>?_
       clear hK K
       try simp only [Act.put,zs1,zs2,zs3]
       obtain rfl:n2q=n1:=R2.out.2.2.symm.trans R1.out.2.2
       have kx:=XB.out.1.rd
       have kw:=XB.out.1.wr
       refine wC 14 fun K hK=>?_
       go_simp
       (obtain ⟨W7,q7,f7,k7⟩:=zai XB.out.1 (.int .i64 0) (.int .i64 (n2q:Int)) (.slice none 0 0) (.slice A4 n4 c4);rw [q7];clear q7 kx kw;replace QB:=bO QB f7 NQx;replace TT:=zhz (TT.out.own f7 XB.out.2 HWH.out);replace YB:=bO YB f7 (zhz NXY.out.symm);replace E1:=eO E1 f7 NE1x;replace E2:=eO E2 f7 NE2x;replace XB:=zhz (And.intro k7 XB.out.2);clear f7 k7)
       refine hK.out _ _ QB.out.1.rd fun hHeld=>?_
       clear hK K
       try simp only [Act.put,zs1,zs2,zs3]
       have kx:=YB.out.1.rd
       have kw:=YB.out.1.wr
       refine wC 15 fun K hK=>?_
       go_simp
       (obtain ⟨W7,q7,f7,k7⟩:=zai YB.out.1 (.int .i64 0) (.int .i64 (n2q:Int)) (.slice none 0 0) (.slice B4 k4 d4);rw [q7];clear q7 kx kw;replace QB:=bO QB f7 NQy;replace TT:=zhz (TT.out.own f7 YB.out.2 HWH.out);replace XB:=bO XB f7 NXY;replace E1:=eO E1 f7 NE1y;replace E2:=eO E2 f7 NE2y;replace YB:=zhz (And.intro k7 YB.out.2);clear f7 k7)
       refine hK.out _ _ QB.out.1.rd fun hHeld=>?_
       clear hK K
       try simp only [Act.put,zs1,zs2,zs3]
       refine wpAnyH_done (by kernel_rfl) ?_ _
       clear hHeld
       go_wp2
       go_meet
       case rel=>exact ⟨xb,yb,n2q,A4,n4,c4,B4,k4,d4,x,ev,rfl,rfl,XB,YB,E1,E2,LNX,TT⟩
      intro K hK
      go_simp
      (with_reducible refine (CE.out _).mono ?_);rintro v W2 ⟨g1,n1,c1,rfl,l9,r9,hg9,b9⟩;have R1:=zhz (And.intro r9 (And.intro (Nat.le_trans TT.out.hi hg9) l9));replace TT:=zhz (TT.out.keep b9);replace QB:=bK QB b9;replace XB:=bK XB b9;clear l9 r9 hg9 b9
      refine hK.out _ _ QB.out.1.rd (fun hHeld=>?_)
      clear hK K
      try simp only [Act.put,zs1,zs2,zs3]
      refine wR 4 ?_
      refine wpAnyH_ready (rs:=[5,13]) (by kernel_rfl) (by simp) ?_
      refine AllReadyH.cons (o:=?_) ?_ ?_ ?_
      rotate_left 1
      ·rfl
      rotate_left 1
      ·refine AllReadyH.cons (o:=?_) ?_ ?_ ?_
       rotate_left 1
       ·rfl
       rotate_left 1
       ·exact AllReadyH.nil
       intro K hK
       go_simp
       obtain ⟨W3,yb,hw9,k9,b9,hb9⟩:=bNew W2;rw [hw9,← hb9];have YB:=zhz (And.intro k9 (show h0≤yb from by rw [hb9];exact TT.out.hi));have NQy:=bN QB hb9;have NXY:=bN XB hb9;replace TT:=zhz (TT.out.keep b9);replace QB:=bK QB b9;replace XB:=bK XB b9;replace R1:=rK R1 b9;clear hw9 k9 b9 hb9
       refine hK.out _ _ QB.out.1.rd (fun hHeld=>?_)
       clear hK K
       try simp only [Act.put,zs1,zs2,zs3]
       refine wC 5 fun K hK=>?_
       go_simp
       ((with_reducible refine (CA.out _ _ _ _ TT.out R1.out).mono ?_);rintro v W4 ⟨A4,n4,c4,x,ev,rfl,g9,e9,l9,m9,f9⟩;have NE1x:=neD l9 XB;have NE1y:=neD l9 YB;replace QB:=bF QB f9;replace XB:=bF XB f9;replace YB:=bF YB f9;have E1:=eI e9 m9 l9 TT.out.hi;replace TT:=zhz g9;clear g9 e9 l9 m9 f9)
       refine hK.out _ _ QB.out.1.rd fun hHeld=>?_
       clear hK K
       try simp only [Act.put,zs1,zs2,zs3]
       refine wC 9 fun K hK=>?_
       go_simp
       ((with_reducible refine (CE.out _).mono ?_);rintro v W5 ⟨g2,n2q,c2q,rfl,l9,r9,hg9,b9⟩;have R2:=zhz (And.intro r9 (And.intro (Nat.le_trans TT.out.hi hg9) l9));replace TT:=zhz (TT.out.keep b9);replace QB:=bK QB b9;replace XB:=bK XB b9;replace YB:=bK YB b9;replace E1:=eK E1 b9;clear l9 r9 hg9 b9)
       refine hK.out _ _ QB.out.1.rd fun hHeld=>?_
       clear hK K
       try simp only [Act.put,zs1,zs2,zs3]
       refine wR 10 ?_
       refine wC 11 fun K hK=>?_
       go_simp
       (have LNX:=zhz TT.out.ln;(with_reducible refine (CB.out _ _ _ _ _ _ TT.out R2.out).mono ?_);rintro v W6 ⟨B4,k4,d4,rfl,g9,e9,l9,m9,f9⟩;have NE2x:=neD l9 XB;have NE2y:=neD l9 YB;replace QB:=bF QB f9;replace XB:=bF XB f9;replace YB:=bF YB f9;replace E1:=eF E1 f9;have E2:=eI e9 m9 l9 TT.out.hi;replace TT:=zhz g9;clear g9 e9 l9 m9 f9)
       refine hK.out _ _ QB.out.1.rd fun hHeld=>?_
       clear hK K
       try simp only [Act.put,zs1,zs2,zs3]
       obtain rfl:n2q=n1:=R2.out.2.2.symm.trans R1.out.2.2
       have kx:=XB.out.1.rd
       have kw:=XB.out.1.wr
       refine wC 14 fun K hK=>?_
       go_simp
       (obtain ⟨W7,q7,f7,k7⟩:=zai XB.out.1 (.int .i64 0) (.int .i64 (n2q:Int)) (.slice none 0 0) (.slice A4 n4 c4);rw [q7];clear q7 kx kw;replace QB:=bO QB f7 NQx;replace TT:=zhz (TT.out.own f7 XB.out.2 HWH.out);replace YB:=bO YB f7 (zhz NXY.out.symm);replace E1:=eO E1 f7 NE1x;replace E2:=eO E2 f7 NE2x;replace XB:=zhz (And.intro k7 XB.out.2);clear f7 k7)
       refine hK.out _ _ QB.out.1.rd fun hHeld=>?_
       clear hK K
       try simp only [Act.put,zs1,zs2,zs3]
       have kx:=YB.out.1.rd
       have kw:=YB.out.1.wr
       refine wC 15 fun K hK=>?_
       go_simp
       (obtain ⟨W7,q7,f7,k7⟩:=zai YB.out.1 (.int .i64 0) (.int .i64 (n2q:Int)) (.slice none 0 0) (.slice B4 k4 d4);rw [q7];clear q7 kx kw;replace QB:=bO QB f7 NQy;replace TT:=zhz (TT.out.own f7 YB.out.2 HWH.out);replace XB:=bO XB f7 NXY;replace E1:=eO E1 f7 NE1y;replace E2:=eO E2 f7 NE2y;replace YB:=zhz (And.intro k7 YB.out.2);clear f7 k7)
       refine hK.out _ _ QB.out.1.rd fun hHeld=>?_
       clear hK K
       try simp only [Act.put,zs1,zs2,zs3]
       refine wpAnyH_done (by kernel_rfl) ?_ _
       clear hHeld
       go_wp2
       go_meet
       case rel=>exact ⟨xb,yb,n2q,A4,n4,c4,B4,k4,d4,x,ev,rfl,rfl,XB,YB,E1,E2,LNX,TT⟩
      intro K hK
      go_simp
      (with_reducible refine (CA.out _ _ _ _ TT.out R1.out).mono ?_);rintro v W3 ⟨A4,n4,c4,x,ev,rfl,g9,e9,l9,m9,f9⟩;have NE1x:=neD l9 XB;replace QB:=bF QB f9;replace XB:=bF XB f9;have E1:=eI e9 m9 l9 TT.out.hi;replace TT:=zhz g9;clear g9 e9 l9 m9 f9
      refine hK.out _ _ QB.out.1.rd (fun hHeld=>?_)
      clear hK K
      try simp only [Act.put,zs1,zs2,zs3]
      refine wpAnyH_ready (rs:=[9,13]) (by kernel_rfl) (by simp) ?_
      refine AllReadyH.cons (o:=?_) ?_ ?_ ?_
      rotate_left 1
      ·rfl
      rotate_left 1
      ·refine AllReadyH.cons (o:=?_) ?_ ?_ ?_
       rotate_left 1
       ·rfl
       rotate_left 1
       ·exact AllReadyH.nil
       intro K hK
       go_simp
       obtain ⟨W4,yb,hw9,k9,b9,hb9⟩:=bNew W3;rw [hw9,← hb9];have YB:=zhz (And.intro k9 (show h0≤yb from by rw [hb9];exact TT.out.hi));have NQy:=bN QB hb9;have NXY:=bN XB hb9;have NE1y:=neA E1 hb9;replace TT:=zhz (TT.out.keep b9);replace QB:=bK QB b9;replace XB:=bK XB b9;replace E1:=eK E1 b9;clear hw9 k9 b9 hb9
       refine hK.out _ _ QB.out.1.rd (fun hHeld=>?_)
       clear hK K
       try simp only [Act.put,zs1,zs2,zs3]
       refine wC 9 fun K hK=>?_
       go_simp
       ((with_reducible refine (CE.out _).mono ?_);rintro v W5 ⟨g2,n2q,c2q,rfl,l9,r9,hg9,b9⟩;have R2:=zhz (And.intro r9 (And.intro (Nat.le_trans TT.out.hi hg9) l9));replace TT:=zhz (TT.out.keep b9);replace QB:=bK QB b9;replace XB:=bK XB b9;replace YB:=bK YB b9;replace E1:=eK E1 b9;clear l9 r9 hg9 b9)
       refine hK.out _ _ QB.out.1.rd fun hHeld=>?_
       clear hK K
       try simp only [Act.put,zs1,zs2,zs3]
       refine wR 10 ?_
       refine wC 11 fun K hK=>?_
       go_simp
       (have LNX:=zhz TT.out.ln;(with_reducible refine (CB.out _ _ _ _ _ _ TT.out R2.out).mono ?_);rintro v W6 ⟨B4,k4,d4,rfl,g9,e9,l9,m9,f9⟩;have NE2x:=neD l9 XB;have NE2y:=neD l9 YB;replace QB:=bF QB f9;replace XB:=bF XB f9;replace YB:=bF YB f9;replace E1:=eF E1 f9;have E2:=eI e9 m9 l9 TT.out.hi;replace TT:=zhz g9;clear g9 e9 l9 m9 f9)
       refine hK.out _ _ QB.out.1.rd fun hHeld=>?_
       clear hK K
       try simp only [Act.put,zs1,zs2,zs3]
       obtain rfl:n2q=n1:=R2.out.2.2.symm.trans R1.out.2.2
       have kx:=XB.out.1.rd
       have kw:=XB.out.1.wr
       refine wC 14 fun K hK=>?_
       go_simp
       (obtain ⟨W7,q7,f7,k7⟩:=zai XB.out.1 (.int .i64 0) (.int .i64 (n2q:Int)) (.slice none 0 0) (.slice A4 n4 c4);rw [q7];clear q7 kx kw;replace QB:=bO QB f7 NQx;replace TT:=zhz (TT.out.own f7 XB.out.2 HWH.out);replace YB:=bO YB f7 (zhz NXY.out.symm);replace E1:=eO E1 f7 NE1x;replace E2:=eO E2 f7 NE2x;replace XB:=zhz (And.intro k7 XB.out.2);clear f7 k7)
       refine hK.out _ _ QB.out.1.rd fun hHeld=>?_
       clear hK K
       try simp only [Act.put,zs1,zs2,zs3]
       have kx:=YB.out.1.rd
       have kw:=YB.out.1.wr
       refine wC 15 fun K hK=>?_
       go_simp
       (obtain ⟨W7,q7,f7,k7⟩:=zai YB.out.1 (.int .i64 0) (.int .i64 (n2q:Int)) (.slice none 0 0) (.slice B4 k4 d4);rw [q7];clear q7 kx kw;replace QB:=bO QB f7 NQy;replace TT:=zhz (TT.out.own f7 YB.out.2 HWH.out);replace XB:=bO XB f7 NXY;replace E1:=eO E1 f7 NE1y;replace E2:=eO E2 f7 NE2y;replace YB:=zhz (And.intro k7 YB.out.2);clear f7 k7)
       refine hK.out _ _ QB.out.1.rd fun hHeld=>?_
       clear hK K
       try simp only [Act.put,zs1,zs2,zs3]
       refine wpAnyH_done (by kernel_rfl) ?_ _
       clear hHeld
       go_wp2
       go_meet
       case rel=>exact ⟨xb,yb,n2q,A4,n4,c4,B4,k4,d4,x,ev,rfl,rfl,XB,YB,E1,E2,LNX,TT⟩
      intro K hK
      go_simp
      (with_reducible refine (CE.out _).mono ?_);rintro v W4 ⟨g2,n2q,c2q,rfl,l9,r9,hg9,b9⟩;have R2:=zhz (And.intro r9 (And.intro (Nat.le_trans TT.out.hi hg9) l9));replace TT:=zhz (TT.out.keep b9);replace QB:=bK QB b9;replace XB:=bK XB b9;replace E1:=eK E1 b9;clear l9 r9 hg9 b9
      refine hK.out _ _ QB.out.1.rd (fun hHeld=>?_)
      clear hK K
      try simp only [Act.put,zs1,zs2,zs3]
      refine wR 10 ?_
      refine wpAnyH_ready (rs:=[11,13]) (by kernel_rfl) (by simp) ?_
      refine AllReadyH.cons (o:=?_) ?_ ?_ ?_
      rotate_left 1
      ·rfl
      rotate_left 1
      ·refine AllReadyH.cons (o:=?_) ?_ ?_ ?_
       rotate_left 1
       ·rfl
       rotate_left 1
       ·exact AllReadyH.nil
       intro K hK
       go_simp
       obtain ⟨W5,yb,hw9,k9,b9,hb9⟩:=bNew W4;rw [hw9,← hb9];have YB:=zhz (And.intro k9 (show h0≤yb from by rw [hb9];exact TT.out.hi));have NQy:=bN QB hb9;have NXY:=bN XB hb9;have NE1y:=neA E1 hb9;replace TT:=zhz (TT.out.keep b9);replace QB:=bK QB b9;replace XB:=bK XB b9;replace R2:=rK R2 b9;replace E1:=eK E1 b9;clear hw9 k9 b9 hb9
       refine hK.out _ _ QB.out.1.rd (fun hHeld=>?_)
       clear hK K
       try simp only [Act.put,zs1,zs2,zs3]
       refine wC 11 fun K hK=>?_
       go_simp
       (have LNX:=zhz TT.out.ln;(with_reducible refine (CB.out _ _ _ _ _ _ TT.out R2.out).mono ?_);rintro v W6 ⟨B4,k4,d4,rfl,g9,e9,l9,m9,f9⟩;have NE2x:=neD l9 XB;have NE2y:=neD l9 YB;replace QB:=bF QB f9;replace XB:=bF XB f9;replace YB:=bF YB f9;replace E1:=eF E1 f9;have E2:=eI e9 m9 l9 TT.out.hi;replace TT:=zhz g9;clear g9 e9 l9 m9 f9)
       refine hK.out _ _ QB.out.1.rd fun hHeld=>?_
       clear hK K
       try simp only [Act.put,zs1,zs2,zs3]
       obtain rfl:n2q=n1:=R2.out.2.2.symm.trans R1.out.2.2
       have kx:=XB.out.1.rd
       have kw:=XB.out.1.wr
       refine wC 14 fun K hK=>?_
       go_simp
       (obtain ⟨W7,q7,f7,k7⟩:=zai XB.out.1 (.int .i64 0) (.int .i64 (n2q:Int)) (.slice none 0 0) (.slice A4 n4 c4);rw [q7];clear q7 kx kw;replace QB:=bO QB f7 NQx;replace TT:=zhz (TT.out.own f7 XB.out.2 HWH.out);replace YB:=bO YB f7 (zhz NXY.out.symm);replace E1:=eO E1 f7 NE1x;replace E2:=eO E2 f7 NE2x;replace XB:=zhz (And.intro k7 XB.out.2);clear f7 k7)
       refine hK.out _ _ QB.out.1.rd fun hHeld=>?_
       clear hK K
       try simp only [Act.put,zs1,zs2,zs3]
       have kx:=YB.out.1.rd
       have kw:=YB.out.1.wr
       refine wC 15 fun K hK=>?_
       go_simp
       (obtain ⟨W7,q7,f7,k7⟩:=zai YB.out.1 (.int .i64 0) (.int .i64 (n2q:Int)) (.slice none 0 0) (.slice B4 k4 d4);rw [q7];clear q7 kx kw;replace QB:=bO QB f7 NQy;replace TT:=zhz (TT.out.own f7 YB.out.2 HWH.out);replace XB:=bO XB f7 NXY;replace E1:=eO E1 f7 NE1y;replace E2:=eO E2 f7 NE2y;replace YB:=zhz (And.intro k7 YB.out.2);clear f7 k7)
       refine hK.out _ _ QB.out.1.rd fun hHeld=>?_
       clear hK K
       try simp only [Act.put,zs1,zs2,zs3]
       refine wpAnyH_done (by kernel_rfl) ?_ _
       clear hHeld
       go_wp2
       go_meet
       case rel=>exact ⟨xb,yb,n2q,A4,n4,c4,B4,k4,d4,x,ev,rfl,rfl,XB,YB,E1,E2,LNX,TT⟩
      intro K hK
      go_simp
      have LNX:=zhz TT.out.ln;(with_reducible refine (CB.out _ _ _ _ _ _ TT.out R2.out).mono ?_);rintro v W5 ⟨B4,k4,d4,rfl,g9,e9,l9,m9,f9⟩;have NE2x:=neD l9 XB;replace QB:=bF QB f9;replace XB:=bF XB f9;replace E1:=eF E1 f9;have E2:=eI e9 m9 l9 TT.out.hi;replace TT:=zhz g9;clear g9 e9 l9 m9 f9
      refine hK.out _ _ QB.out.1.rd (fun hHeld=>?_)
      clear hK K
      try simp only [Act.put,zs1,zs2,zs3]
      refine wC 13 fun K hK=>?_
      go_simp
      (obtain ⟨W6,yb,hw9,k9,b9,hb9⟩:=bNew W5;rw [hw9,← hb9];have YB:=zhz (And.intro k9 (show h0≤yb from by rw [hb9];exact TT.out.hi));have NQy:=bN QB hb9;have NXY:=bN XB hb9;have NE1y:=neA E1 hb9;have NE2y:=neA E2 hb9;replace TT:=zhz (TT.out.keep b9);replace QB:=bK QB b9;replace XB:=bK XB b9;replace E1:=eK E1 b9;replace E2:=eK E2 b9;clear hw9 k9 b9 hb9)
      refine hK.out _ _ QB.out.1.rd fun hHeld=>?_
      clear hK K
      try simp only [Act.put,zs1,zs2,zs3]
      obtain rfl:n2q=n1:=R2.out.2.2.symm.trans R1.out.2.2
      have kx:=XB.out.1.rd
      have kw:=XB.out.1.wr
      refine wC 14 fun K hK=>?_
      go_simp
      (obtain ⟨W7,q7,f7,k7⟩:=zai XB.out.1 (.int .i64 0) (.int .i64 (n2q:Int)) (.slice none 0 0) (.slice A4 n4 c4);rw [q7];clear q7 kx kw;replace QB:=bO QB f7 NQx;replace TT:=zhz (TT.out.own f7 XB.out.2 HWH.out);replace YB:=bO YB f7 (zhz NXY.out.symm);replace E1:=eO E1 f7 NE1x;replace E2:=eO E2 f7 NE2x;replace XB:=zhz (And.intro k7 XB.out.2);clear f7 k7)
      refine hK.out _ _ QB.out.1.rd fun hHeld=>?_
      clear hK K
      try simp only [Act.put,zs1,zs2,zs3]
      have kx:=YB.out.1.rd
      have kw:=YB.out.1.wr
      refine wC 15 fun K hK=>?_
      go_simp
      (obtain ⟨W7,q7,f7,k7⟩:=zai YB.out.1 (.int .i64 0) (.int .i64 (n2q:Int)) (.slice none 0 0) (.slice B4 k4 d4);rw [q7];clear q7 kx kw;replace QB:=bO QB f7 NQy;replace TT:=zhz (TT.out.own f7 YB.out.2 HWH.out);replace XB:=bO XB f7 NXY;replace E1:=eO E1 f7 NE1y;replace E2:=eO E2 f7 NE2y;replace YB:=zhz (And.intro k7 YB.out.2);clear f7 k7)
      refine hK.out _ _ QB.out.1.rd fun hHeld=>?_
      clear hK K
      try simp only [Act.put,zs1,zs2,zs3]
      refine wpAnyH_done (by kernel_rfl) ?_ _
      clear hHeld
      go_wp2
      go_meet
      case rel=>exact ⟨xb,yb,n2q,A4,n4,c4,B4,k4,d4,x,ev,rfl,rfl,XB,YB,E1,E2,LNX,TT⟩
     intro K hK
     go_simp
     (with_reducible refine (CE.out _).mono ?_);rintro v W1 ⟨g1,n1,c1,rfl,l9,r9,hg9,b9⟩;have R1:=zhz (And.intro r9 (And.intro (Nat.le_trans TT.out.hi hg9) l9));replace TT:=zhz (TT.out.keep b9);replace QB:=bK QB b9;clear l9 r9 hg9 b9
     refine hK.out _ _ QB.out.1.rd (fun hHeld=>?_)
     clear hK K
     try simp only [Act.put,zs1,zs2,zs3]
     refine wR 4 ?_
     refine wpAnyH_ready (rs:=[5,12,13]) (by kernel_rfl) (by simp) ?_
     refine AllReadyH.cons (o:=?_) ?_ ?_ ?_
     rotate_left 1
     ·rfl
     rotate_left 1
     ·refine AllReadyH.cons (o:=?_) ?_ ?_ ?_
      rotate_left 1
      ·rfl
      rotate_left 1
      ·refine AllReadyH.cons (o:=?_) ?_ ?_ ?_
       rotate_left 1
       ·rfl
       rotate_left 1
       ·exact AllReadyH.nil
       intro K hK
       go_simp
       obtain ⟨W2,yb,hw9,k9,b9,hb9⟩:=bNew W1;rw [hw9,← hb9];have YB:=zhz (And.intro k9 (show h0≤yb from by rw [hb9];exact TT.out.hi));have NQy:=bN QB hb9;replace TT:=zhz (TT.out.keep b9);replace QB:=bK QB b9;replace R1:=rK R1 b9;clear hw9 k9 b9 hb9
       refine hK.out _ _ QB.out.1.rd (fun hHeld=>?_)
       clear hK K
       try simp only [Act.put,zs1,zs2,zs3]
       refine wpAnyH_ready (rs:=[5,12]) (by kernel_rfl) (by simp) ?_
       refine AllReadyH.cons (o:=?_) ?_ ?_ ?_
       rotate_left 1
       ·rfl
       rotate_left 1
       ·refine AllReadyH.cons (o:=?_) ?_ ?_ ?_
        rotate_left 1
        ·rfl
        rotate_left 1
        ·exact AllReadyH.nil
        intro K hK
        go_simp
        obtain ⟨W3,xb,hw9,k9,b9,hb9⟩:=bNew W2;rw [hw9,← hb9];have XB:=zhz (And.intro k9 (show h0≤xb from by rw [hb9];exact TT.out.hi));have NQx:=bN QB hb9;have NXY:=bN' YB hb9;replace TT:=zhz (TT.out.keep b9);replace QB:=bK QB b9;replace YB:=bK YB b9;replace R1:=rK R1 b9;clear hw9 k9 b9 hb9
        refine hK.out _ _ QB.out.1.rd (fun hHeld=>?_)
        clear hK K
        try simp only [Act.put,zs1,zs2,zs3]
        refine wC 5 fun K hK=>?_
        go_simp
        ((with_reducible refine (CA.out _ _ _ _ TT.out R1.out).mono ?_);rintro v W4 ⟨A4,n4,c4,x,ev,rfl,g9,e9,l9,m9,f9⟩;have NE1x:=neD l9 XB;have NE1y:=neD l9 YB;replace QB:=bF QB f9;replace XB:=bF XB f9;replace YB:=bF YB f9;have E1:=eI e9 m9 l9 TT.out.hi;replace TT:=zhz g9;clear g9 e9 l9 m9 f9)
        refine hK.out _ _ QB.out.1.rd fun hHeld=>?_
        clear hK K
        try simp only [Act.put,zs1,zs2,zs3]
        refine wC 9 fun K hK=>?_
        go_simp
        ((with_reducible refine (CE.out _).mono ?_);rintro v W5 ⟨g2,n2q,c2q,rfl,l9,r9,hg9,b9⟩;have R2:=zhz (And.intro r9 (And.intro (Nat.le_trans TT.out.hi hg9) l9));replace TT:=zhz (TT.out.keep b9);replace QB:=bK QB b9;replace XB:=bK XB b9;replace YB:=bK YB b9;replace E1:=eK E1 b9;clear l9 r9 hg9 b9)
        refine hK.out _ _ QB.out.1.rd fun hHeld=>?_
        clear hK K
        try simp only [Act.put,zs1,zs2,zs3]
        refine wR 10 ?_
        refine wC 11 fun K hK=>?_
        go_simp
        (have LNX:=zhz TT.out.ln;(with_reducible refine (CB.out _ _ _ _ _ _ TT.out R2.out).mono ?_);rintro v W6 ⟨B4,k4,d4,rfl,g9,e9,l9,m9,f9⟩;have NE2x:=neD l9 XB;have NE2y:=neD l9 YB;replace QB:=bF QB f9;replace XB:=bF XB f9;replace YB:=bF YB f9;replace E1:=eF E1 f9;have E2:=eI e9 m9 l9 TT.out.hi;replace TT:=zhz g9;clear g9 e9 l9 m9 f9)
        refine hK.out _ _ QB.out.1.rd fun hHeld=>?_
        clear hK K
        try simp only [Act.put,zs1,zs2,zs3]
        obtain rfl:n2q=n1:=R2.out.2.2.symm.trans R1.out.2.2
        have kx:=XB.out.1.rd
        have kw:=XB.out.1.wr
        refine wC 14 fun K hK=>?_
        go_simp
        (obtain ⟨W7,q7,f7,k7⟩:=zai XB.out.1 (.int .i64 0) (.int .i64 (n2q:Int)) (.slice none 0 0) (.slice A4 n4 c4);rw [q7];clear q7 kx kw;replace QB:=bO QB f7 NQx;replace TT:=zhz (TT.out.own f7 XB.out.2 HWH.out);replace YB:=bO YB f7 (zhz NXY.out.symm);replace E1:=eO E1 f7 NE1x;replace E2:=eO E2 f7 NE2x;replace XB:=zhz (And.intro k7 XB.out.2);clear f7 k7)
        refine hK.out _ _ QB.out.1.rd fun hHeld=>?_
        clear hK K
        try simp only [Act.put,zs1,zs2,zs3]
        have kx:=YB.out.1.rd
        have kw:=YB.out.1.wr
        refine wC 15 fun K hK=>?_
        go_simp
        (obtain ⟨W7,q7,f7,k7⟩:=zai YB.out.1 (.int .i64 0) (.int .i64 (n2q:Int)) (.slice none 0 0) (.slice B4 k4 d4);rw [q7];clear q7 kx kw;replace QB:=bO QB f7 NQy;replace TT:=zhz (TT.out.own f7 YB.out.2 HWH.out);replace XB:=bO XB f7 NXY;replace E1:=eO E1 f7 NE1y;replace E2:=eO E2 f7 NE2y;replace YB:=zhz (And.intro k7 YB.out.2);clear f7 k7)
        refine hK.out _ _ QB.out.1.rd fun hHeld=>?_
        clear hK K
        try simp only [Act.put,zs1,zs2,zs3]
        refine wpAnyH_done (by kernel_rfl) ?_ _
        clear hHeld
        go_wp2
        go_meet
        case rel=>exact ⟨xb,yb,n2q,A4,n4,c4,B4,k4,d4,x,ev,rfl,rfl,XB,YB,E1,E2,LNX,TT⟩
       intro K hK
       go_simp
       (with_reducible refine (CA.out _ _ _ _ TT.out R1.out).mono ?_);rintro v W3 ⟨A4,n4,c4,x,ev,rfl,g9,e9,l9,m9,f9⟩;have NE1y:=neD l9 YB;replace QB:=bF QB f9;replace YB:=bF YB f9;have E1:=eI e9 m9 l9 TT.out.hi;replace TT:=zhz g9;clear g9 e9 l9 m9 f9
       refine hK.out _ _ QB.out.1.rd (fun hHeld=>?_)
       clear hK K
       try simp only [Act.put,zs1,zs2,zs3]
       refine wpAnyH_ready (rs:=[9,12]) (by kernel_rfl) (by simp) ?_
       refine AllReadyH.cons (o:=?_) ?_ ?_ ?_
       rotate_left 1
       ·rfl
       rotate_left 1
       ·refine AllReadyH.cons (o:=?_) ?_ ?_ ?_
        rotate_left 1
        ·rfl
        rotate_left 1
        ·exact AllReadyH.nil
        intro K hK
        go_simp
        obtain ⟨W4,xb,hw9,k9,b9,hb9⟩:=bNew W3;rw [hw9,← hb9];have XB:=zhz (And.intro k9 (show h0≤xb from by rw [hb9];exact TT.out.hi));have NQx:=bN QB hb9;have NXY:=bN' YB hb9;have NE1x:=neA E1 hb9;replace TT:=zhz (TT.out.keep b9);replace QB:=bK QB b9;replace YB:=bK YB b9;replace E1:=eK E1 b9;clear hw9 k9 b9 hb9
        refine hK.out _ _ QB.out.1.rd (fun hHeld=>?_)
        clear hK K
        try simp only [Act.put,zs1,zs2,zs3]
        refine wC 9 fun K hK=>?_
        go_simp
        ((with_reducible refine (CE.out _).mono ?_);rintro v W5 ⟨g2,n2q,c2q,rfl,l9,r9,hg9,b9⟩;have R2:=zhz (And.intro r9 (And.intro (Nat.le_trans TT.out.hi hg9) l9));replace TT:=zhz (TT.out.keep b9);replace QB:=bK QB b9;replace XB:=bK XB b9;replace YB:=bK YB b9;replace E1:=eK E1 b9;clear l9 r9 hg9 b9)
        refine hK.out _ _ QB.out.1.rd fun hHeld=>?_
        clear hK K
        try simp only [Act.put,zs1,zs2,zs3]
        refine wR 10 ?_
        refine wC 11 fun K hK=>?_
        go_simp
        (have LNX:=zhz TT.out.ln;(with_reducible refine (CB.out _ _ _ _ _ _ TT.out R2.out).mono ?_);rintro v W6 ⟨B4,k4,d4,rfl,g9,e9,l9,m9,f9⟩;have NE2x:=neD l9 XB;have NE2y:=neD l9 YB;replace QB:=bF QB f9;replace XB:=bF XB f9;replace YB:=bF YB f9;replace E1:=eF E1 f9;have E2:=eI e9 m9 l9 TT.out.hi;replace TT:=zhz g9;clear g9 e9 l9 m9 f9)
        refine hK.out _ _ QB.out.1.rd fun hHeld=>?_
        clear hK K
        try simp only [Act.put,zs1,zs2,zs3]
        obtain rfl:n2q=n1:=R2.out.2.2.symm.trans R1.out.2.2
        have kx:=XB.out.1.rd
        have kw:=XB.out.1.wr
        refine wC 14 fun K hK=>?_
        go_simp
        (obtain ⟨W7,q7,f7,k7⟩:=zai XB.out.1 (.int .i64 0) (.int .i64 (n2q:Int)) (.slice none 0 0) (.slice A4 n4 c4);rw [q7];clear q7 kx kw;replace QB:=bO QB f7 NQx;replace TT:=zhz (TT.out.own f7 XB.out.2 HWH.out);replace YB:=bO YB f7 (zhz NXY.out.symm);replace E1:=eO E1 f7 NE1x;replace E2:=eO E2 f7 NE2x;replace XB:=zhz (And.intro k7 XB.out.2);clear f7 k7)
        refine hK.out _ _ QB.out.1.rd fun hHeld=>?_
        clear hK K
        try simp only [Act.put,zs1,zs2,zs3]
        have kx:=YB.out.1.rd
        have kw:=YB.out.1.wr
        refine wC 15 fun K hK=>?_
        go_simp
        (obtain ⟨W7,q7,f7,k7⟩:=zai YB.out.1 (.int .i64 0) (.int .i64 (n2q:Int)) (.slice none 0 0) (.slice B4 k4 d4);rw [q7];clear q7 kx kw;replace QB:=bO QB f7 NQy;replace TT:=zhz (TT.out.own f7 YB.out.2 HWH.out);replace XB:=bO XB f7 NXY;replace E1:=eO E1 f7 NE1y;replace E2:=eO E2 f7 NE2y;replace YB:=zhz (And.intro k7 YB.out.2);clear f7 k7)
        refine hK.out _ _ QB.out.1.rd fun hHeld=>?_
        clear hK K
        try simp only [Act.put,zs1,zs2,zs3]
        refine wpAnyH_done (by kernel_rfl) ?_ _
        clear hHeld
        go_wp2
        go_meet
        case rel=>exact ⟨xb,yb,n2q,A4,n4,c4,B4,k4,d4,x,ev,rfl,rfl,XB,YB,E1,E2,LNX,TT⟩
       intro K hK
       go_simp
       (with_reducible refine (CE.out _).mono ?_);rintro v W4 ⟨g2,n2q,c2q,rfl,l9,r9,hg9,b9⟩;have R2:=zhz (And.intro r9 (And.intro (Nat.le_trans TT.out.hi hg9) l9));replace TT:=zhz (TT.out.keep b9);replace QB:=bK QB b9;replace YB:=bK YB b9;replace E1:=eK E1 b9;clear l9 r9 hg9 b9
       refine hK.out _ _ QB.out.1.rd (fun hHeld=>?_)
       clear hK K
       try simp only [Act.put,zs1,zs2,zs3]
       refine wR 10 ?_
       refine wpAnyH_ready (rs:=[11,12]) (by kernel_rfl) (by simp) ?_
       refine AllReadyH.cons (o:=?_) ?_ ?_ ?_
       rotate_left 1
       ·rfl
       rotate_left 1
       ·refine AllReadyH.cons (o:=?_) ?_ ?_ ?_
        rotate_left 1
        ·rfl
        rotate_left 1
        ·exact AllReadyH.nil
        intro K hK
        go_simp
        obtain ⟨W5,xb,hw9,k9,b9,hb9⟩:=bNew W4;rw [hw9,← hb9];have XB:=zhz (And.intro k9 (show h0≤xb from by rw [hb9];exact TT.out.hi));have NQx:=bN QB hb9;have NXY:=bN' YB hb9;have NE1x:=neA E1 hb9;replace TT:=zhz (TT.out.keep b9);replace QB:=bK QB b9;replace YB:=bK YB b9;replace R2:=rK R2 b9;replace E1:=eK E1 b9;clear hw9 k9 b9 hb9
        refine hK.out _ _ QB.out.1.rd (fun hHeld=>?_)
        clear hK K
        try simp only [Act.put,zs1,zs2,zs3]
        refine wC 11 fun K hK=>?_
        go_simp
        (have LNX:=zhz TT.out.ln;(with_reducible refine (CB.out _ _ _ _ _ _ TT.out R2.out).mono ?_);rintro v W6 ⟨B4,k4,d4,rfl,g9,e9,l9,m9,f9⟩;have NE2x:=neD l9 XB;have NE2y:=neD l9 YB;replace QB:=bF QB f9;replace XB:=bF XB f9;replace YB:=bF YB f9;replace E1:=eF E1 f9;have E2:=eI e9 m9 l9 TT.out.hi;replace TT:=zhz g9;clear g9 e9 l9 m9 f9)
        refine hK.out _ _ QB.out.1.rd fun hHeld=>?_
        clear hK K
        try simp only [Act.put,zs1,zs2,zs3]
        obtain rfl:n2q=n1:=R2.out.2.2.symm.trans R1.out.2.2
        have kx:=XB.out.1.rd
        have kw:=XB.out.1.wr
        refine wC 14 fun K hK=>?_
        go_simp
        (obtain ⟨W7,q7,f7,k7⟩:=zai XB.out.1 (.int .i64 0) (.int .i64 (n2q:Int)) (.slice none 0 0) (.slice A4 n4 c4);rw [q7];clear q7 kx kw;replace QB:=bO QB f7 NQx;replace TT:=zhz (TT.out.own f7 XB.out.2 HWH.out);replace YB:=bO YB f7 (zhz NXY.out.symm);replace E1:=eO E1 f7 NE1x;replace E2:=eO E2 f7 NE2x;replace XB:=zhz (And.intro k7 XB.out.2);clear f7 k7)
        refine hK.out _ _ QB.out.1.rd fun hHeld=>?_
        clear hK K
        try simp only [Act.put,zs1,zs2,zs3]
        have kx:=YB.out.1.rd
        have kw:=YB.out.1.wr
        refine wC 15 fun K hK=>?_
        go_simp
        (obtain ⟨W7,q7,f7,k7⟩:=zai YB.out.1 (.int .i64 0) (.int .i64 (n2q:Int)) (.slice none 0 0) (.slice B4 k4 d4);rw [q7];clear q7 kx kw;replace QB:=bO QB f7 NQy;replace TT:=zhz (TT.out.own f7 YB.out.2 HWH.out);replace XB:=bO XB f7 NXY;replace E1:=eO E1 f7 NE1y;replace E2:=eO E2 f7 NE2y;replace YB:=zhz (And.intro k7 YB.out.2);clear f7 k7)
        refine hK.out _ _ QB.out.1.rd fun hHeld=>?_
        clear hK K
        try simp only [Act.put,zs1,zs2,zs3]
        refine wpAnyH_done (by kernel_rfl) ?_ _
        clear hHeld
        go_wp2
        go_meet
        case rel=>exact ⟨xb,yb,n2q,A4,n4,c4,B4,k4,d4,x,ev,rfl,rfl,XB,YB,E1,E2,LNX,TT⟩
       intro K hK
       go_simp
       have LNX:=zhz TT.out.ln;(with_reducible refine (CB.out _ _ _ _ _ _ TT.out R2.out).mono ?_);rintro v W5 ⟨B4,k4,d4,rfl,g9,e9,l9,m9,f9⟩;have NE2y:=neD l9 YB;replace QB:=bF QB f9;replace YB:=bF YB f9;replace E1:=eF E1 f9;have E2:=eI e9 m9 l9 TT.out.hi;replace TT:=zhz g9;clear g9 e9 l9 m9 f9
       refine hK.out _ _ QB.out.1.rd (fun hHeld=>?_)
       clear hK K
       try simp only [Act.put,zs1,zs2,zs3]
       refine wC 12 fun K hK=>?_
       go_simp
       (obtain ⟨W6,xb,hw9,k9,b9,hb9⟩:=bNew W5;rw [hw9,← hb9];have XB:=zhz (And.intro k9 (show h0≤xb from by rw [hb9];exact TT.out.hi));have NQx:=bN QB hb9;have NXY:=bN' YB hb9;have NE1x:=neA E1 hb9;have NE2x:=neA E2 hb9;replace TT:=zhz (TT.out.keep b9);replace QB:=bK QB b9;replace YB:=bK YB b9;replace E1:=eK E1 b9;replace E2:=eK E2 b9;clear hw9 k9 b9 hb9)
       refine hK.out _ _ QB.out.1.rd fun hHeld=>?_
       clear hK K
       try simp only [Act.put,zs1,zs2,zs3]
       obtain rfl:n2q=n1:=R2.out.2.2.symm.trans R1.out.2.2
       have kx:=XB.out.1.rd
       have kw:=XB.out.1.wr
       refine wC 14 fun K hK=>?_
       go_simp
       (obtain ⟨W7,q7,f7,k7⟩:=zai XB.out.1 (.int .i64 0) (.int .i64 (n2q:Int)) (.slice none 0 0) (.slice A4 n4 c4);rw [q7];clear q7 kx kw;replace QB:=bO QB f7 NQx;replace TT:=zhz (TT.out.own f7 XB.out.2 HWH.out);replace YB:=bO YB f7 (zhz NXY.out.symm);replace E1:=eO E1 f7 NE1x;replace E2:=eO E2 f7 NE2x;replace XB:=zhz (And.intro k7 XB.out.2);clear f7 k7)
       refine hK.out _ _ QB.out.1.rd fun hHeld=>?_
       clear hK K
       try simp only [Act.put,zs1,zs2,zs3]
       have kx:=YB.out.1.rd
       have kw:=YB.out.1.wr
       refine wC 15 fun K hK=>?_
       go_simp
       (obtain ⟨W7,q7,f7,k7⟩:=zai YB.out.1 (.int .i64 0) (.int .i64 (n2q:Int)) (.slice none 0 0) (.slice B4 k4 d4);rw [q7];clear q7 kx kw;replace QB:=bO QB f7 NQy;replace TT:=zhz (TT.out.own f7 YB.out.2 HWH.out);replace XB:=bO XB f7 NXY;replace E1:=eO E1 f7 NE1y;replace E2:=eO E2 f7 NE2y;replace YB:=zhz (And.intro k7 YB.out.2);clear f7 k7)
       refine hK.out _ _ QB.out.1.rd fun hHeld=>?_
       clear hK K
       try simp only [Act.put,zs1,zs2,zs3]
       refine wpAnyH_done (by kernel_rfl) ?_ _
       clear hHeld
       go_wp2
       go_meet
       case rel=>exact ⟨xb,yb,n2q,A4,n4,c4,B4,k4,d4,x,ev,rfl,rfl,XB,YB,E1,E2,LNX,TT⟩
      intro K hK
      go_simp
      obtain ⟨W2,xb,hw9,k9,b9,hb9⟩:=bNew W1;rw [hw9,← hb9];have XB:=zhz (And.intro k9 (show h0≤xb from by rw [hb9];exact TT.out.hi));have NQx:=bN QB hb9;replace TT:=zhz (TT.out.keep b9);replace QB:=bK QB b9;replace R1:=rK R1 b9;clear hw9 k9 b9 hb9
      refine hK.out _ _ QB.out.1.rd (fun hHeld=>?_)
      clear hK K
      try simp only [Act.put,zs1,zs2,zs3]
      refine wpAnyH_ready (rs:=[5,13]) (by kernel_rfl) (by simp) ?_
      refine AllReadyH.cons (o:=?_) ?_ ?_ ?_
      rotate_left 1
      ·rfl
      rotate_left 1
      ·refine AllReadyH.cons (o:=?_) ?_ ?_ ?_
       rotate_left 1
       ·rfl
       rotate_left 1
       ·exact AllReadyH.nil
       intro K hK
       go_simp
       obtain ⟨W3,yb,hw9,k9,b9,hb9⟩:=bNew W2;rw [hw9,← hb9];have YB:=zhz (And.intro k9 (show h0≤yb from by rw [hb9];exact TT.out.hi));have NQy:=bN QB hb9;have NXY:=bN XB hb9;replace TT:=zhz (TT.out.keep b9);replace QB:=bK QB b9;replace XB:=bK XB b9;replace R1:=rK R1 b9;clear hw9 k9 b9 hb9
       refine hK.out _ _ QB.out.1.rd (fun hHeld=>?_)
       clear hK K
       try simp only [Act.put,zs1,zs2,zs3]
       refine wC 5 fun K hK=>?_
       go_simp
       ((with_reducible refine (CA.out _ _ _ _ TT.out R1.out).mono ?_);rintro v W4 ⟨A4,n4,c4,x,ev,rfl,g9,e9,l9,m9,f9⟩;have NE1x:=neD l9 XB;have NE1y:=neD l9 YB;replace QB:=bF QB f9;replace XB:=bF XB f9;replace YB:=bF YB f9;have E1:=eI e9 m9 l9 TT.out.hi;replace TT:=zhz g9;clear g9 e9 l9 m9 f9)
       refine hK.out _ _ QB.out.1.rd fun hHeld=>?_
       clear hK K
       try simp only [Act.put,zs1,zs2,zs3]
       refine wC 9 fun K hK=>?_
       go_simp
       ((with_reducible refine (CE.out _).mono ?_);rintro v W5 ⟨g2,n2q,c2q,rfl,l9,r9,hg9,b9⟩;have R2:=zhz (And.intro r9 (And.intro (Nat.le_trans TT.out.hi hg9) l9));replace TT:=zhz (TT.out.keep b9);replace QB:=bK QB b9;replace XB:=bK XB b9;replace YB:=bK YB b9;replace E1:=eK E1 b9;clear l9 r9 hg9 b9)
       refine hK.out _ _ QB.out.1.rd fun hHeld=>?_
       clear hK K
       try simp only [Act.put,zs1,zs2,zs3]
       refine wR 10 ?_
       refine wC 11 fun K hK=>?_
       go_simp
       (have LNX:=zhz TT.out.ln;(with_reducible refine (CB.out _ _ _ _ _ _ TT.out R2.out).mono ?_);rintro v W6 ⟨B4,k4,d4,rfl,g9,e9,l9,m9,f9⟩;have NE2x:=neD l9 XB;have NE2y:=neD l9 YB;replace QB:=bF QB f9;replace XB:=bF XB f9;replace YB:=bF YB f9;replace E1:=eF E1 f9;have E2:=eI e9 m9 l9 TT.out.hi;replace TT:=zhz g9;clear g9 e9 l9 m9 f9)
       refine hK.out _ _ QB.out.1.rd fun hHeld=>?_
       clear hK K
       try simp only [Act.put,zs1,zs2,zs3]
       obtain rfl:n2q=n1:=R2.out.2.2.symm.trans R1.out.2.2
       have kx:=XB.out.1.rd
       have kw:=XB.out.1.wr
       refine wC 14 fun K hK=>?_
       go_simp
       (obtain ⟨W7,q7,f7,k7⟩:=zai XB.out.1 (.int .i64 0) (.int .i64 (n2q:Int)) (.slice none 0 0) (.slice A4 n4 c4);rw [q7];clear q7 kx kw;replace QB:=bO QB f7 NQx;replace TT:=zhz (TT.out.own f7 XB.out.2 HWH.out);replace YB:=bO YB f7 (zhz NXY.out.symm);replace E1:=eO E1 f7 NE1x;replace E2:=eO E2 f7 NE2x;replace XB:=zhz (And.intro k7 XB.out.2);clear f7 k7)
       refine hK.out _ _ QB.out.1.rd fun hHeld=>?_
       clear hK K
       try simp only [Act.put,zs1,zs2,zs3]
       have kx:=YB.out.1.rd
       have kw:=YB.out.1.wr
       refine wC 15 fun K hK=>?_
       go_simp
       (obtain ⟨W7,q7,f7,k7⟩:=zai YB.out.1 (.int .i64 0) (.int .i64 (n2q:Int)) (.slice none 0 0) (.slice B4 k4 d4);rw [q7];clear q7 kx kw;replace QB:=bO QB f7 NQy;replace TT:=zhz (TT.out.own f7 YB.out.2 HWH.out);replace XB:=bO XB f7 NXY;replace E1:=eO E1 f7 NE1y;replace E2:=eO E2 f7 NE2y;replace YB:=zhz (And.intro k7 YB.out.2);clear f7 k7)
       refine hK.out _ _ QB.out.1.rd fun hHeld=>?_
       clear hK K
       try simp only [Act.put,zs1,zs2,zs3]
       refine wpAnyH_done (by kernel_rfl) ?_ _
       clear hHeld
       go_wp2
       go_meet
       case rel=>exact ⟨xb,yb,n2q,A4,n4,c4,B4,k4,d4,x,ev,rfl,rfl,XB,YB,E1,E2,LNX,TT⟩
      intro K hK
      go_simp
      (with_reducible refine (CA.out _ _ _ _ TT.out R1.out).mono ?_);rintro v W3 ⟨A4,n4,c4,x,ev,rfl,g9,e9,l9,m9,f9⟩;have NE1x:=neD l9 XB;replace QB:=bF QB f9;replace XB:=bF XB f9;have E1:=eI e9 m9 l9 TT.out.hi;replace TT:=zhz g9;clear g9 e9 l9 m9 f9
      refine hK.out _ _ QB.out.1.rd (fun hHeld=>?_)
      clear hK K
      try simp only [Act.put,zs1,zs2,zs3]
      refine wpAnyH_ready (rs:=[9,13]) (by kernel_rfl) (by simp) ?_
      refine AllReadyH.cons (o:=?_) ?_ ?_ ?_
      rotate_left 1
      ·rfl
      rotate_left 1
      ·refine AllReadyH.cons (o:=?_) ?_ ?_ ?_
       rotate_left 1
       ·rfl
       rotate_left 1
       ·exact AllReadyH.nil
       intro K hK
       go_simp
       obtain ⟨W4,yb,hw9,k9,b9,hb9⟩:=bNew W3;rw [hw9,← hb9];have YB:=zhz (And.intro k9 (show h0≤yb from by rw [hb9];exact TT.out.hi));have NQy:=bN QB hb9;have NXY:=bN XB hb9;have NE1y:=neA E1 hb9;replace TT:=zhz (TT.out.keep b9);replace QB:=bK QB b9;replace XB:=bK XB b9;replace E1:=eK E1 b9;clear hw9 k9 b9 hb9
       refine hK.out _ _ QB.out.1.rd (fun hHeld=>?_)
       clear hK K
       try simp only [Act.put,zs1,zs2,zs3]
       refine wC 9 fun K hK=>?_
       go_simp
       ((with_reducible refine (CE.out _).mono ?_);rintro v W5 ⟨g2,n2q,c2q,rfl,l9,r9,hg9,b9⟩;have R2:=zhz (And.intro r9 (And.intro (Nat.le_trans TT.out.hi hg9) l9));replace TT:=zhz (TT.out.keep b9);replace QB:=bK QB b9;replace XB:=bK XB b9;replace YB:=bK YB b9;replace E1:=eK E1 b9;clear l9 r9 hg9 b9)
       refine hK.out _ _ QB.out.1.rd fun hHeld=>?_
       clear hK K
       try simp only [Act.put,zs1,zs2,zs3]
       refine wR 10 ?_
       refine wC 11 fun K hK=>?_
       go_simp
       (have LNX:=zhz TT.out.ln;(with_reducible refine (CB.out _ _ _ _ _ _ TT.out R2.out).mono ?_);rintro v W6 ⟨B4,k4,d4,rfl,g9,e9,l9,m9,f9⟩;have NE2x:=neD l9 XB;have NE2y:=neD l9 YB;replace QB:=bF QB f9;replace XB:=bF XB f9;replace YB:=bF YB f9;replace E1:=eF E1 f9;have E2:=eI e9 m9 l9 TT.out.hi;replace TT:=zhz g9;clear g9 e9 l9 m9 f9)
       refine hK.out _ _ QB.out.1.rd fun hHeld=>?_
       clear hK K
       try simp only [Act.put,zs1,zs2,zs3]
       obtain rfl:n2q=n1:=R2.out.2.2.symm.trans R1.out.2.2
       have kx:=XB.out.1.rd
       have kw:=XB.out.1.wr
       refine wC 14 fun K hK=>?_
       go_simp
       (obtain ⟨W7,q7,f7,k7⟩:=zai XB.out.1 (.int .i64 0) (.int .i64 (n2q:Int)) (.slice none 0 0) (.slice A4 n4 c4);rw [q7];clear q7 kx kw;replace QB:=bO QB f7 NQx;replace TT:=zhz (TT.out.own f7 XB.out.2 HWH.out);replace YB:=bO YB f7 (zhz NXY.out.symm);replace E1:=eO E1 f7 NE1x;replace E2:=eO E2 f7 NE2x;replace XB:=zhz (And.intro k7 XB.out.2);clear f7 k7)
       refine hK.out _ _ QB.out.1.rd fun hHeld=>?_
       clear hK K
       try simp only [Act.put,zs1,zs2,zs3]
       have kx:=YB.out.1.rd
       have kw:=YB.out.1.wr
       refine wC 15 fun K hK=>?_
       go_simp
       (obtain ⟨W7,q7,f7,k7⟩:=zai YB.out.1 (.int .i64 0) (.int .i64 (n2q:Int)) (.slice none 0 0) (.slice B4 k4 d4);rw [q7];clear q7 kx kw;replace QB:=bO QB f7 NQy;replace TT:=zhz (TT.out.own f7 YB.out.2 HWH.out);replace XB:=bO XB f7 NXY;replace E1:=eO E1 f7 NE1y;replace E2:=eO E2 f7 NE2y;replace YB:=zhz (And.intro k7 YB.out.2);clear f7 k7)
       refine hK.out _ _ QB.out.1.rd fun hHeld=>?_
       clear hK K
       try simp only [Act.put,zs1,zs2,zs3]
       refine wpAnyH_done (by kernel_rfl) ?_ _
       clear hHeld
       go_wp2
       go_meet
       case rel=>exact ⟨xb,yb,n2q,A4,n4,c4,B4,k4,d4,x,ev,rfl,rfl,XB,YB,E1,E2,LNX,TT⟩
      intro K hK
      go_simp
      (with_reducible refine (CE.out _).mono ?_);rintro v W4 ⟨g2,n2q,c2q,rfl,l9,r9,hg9,b9⟩;have R2:=zhz (And.intro r9 (And.intro (Nat.le_trans TT.out.hi hg9) l9));replace TT:=zhz (TT.out.keep b9);replace QB:=bK QB b9;replace XB:=bK XB b9;replace E1:=eK E1 b9;clear l9 r9 hg9 b9
      refine hK.out _ _ QB.out.1.rd (fun hHeld=>?_)
      clear hK K
      try simp only [Act.put,zs1,zs2,zs3]
      refine wR 10 ?_
      refine wpAnyH_ready (rs:=[11,13]) (by kernel_rfl) (by simp) ?_
      refine AllReadyH.cons (o:=?_) ?_ ?_ ?_
      rotate_left 1
      ·rfl
      rotate_left 1
      ·refine AllReadyH.cons (o:=?_) ?_ ?_ ?_
       rotate_left 1
       ·rfl
       rotate_left 1
       ·exact AllReadyH.nil
       intro K hK
       go_simp
       obtain ⟨W5,yb,hw9,k9,b9,hb9⟩:=bNew W4;rw [hw9,← hb9];have YB:=zhz (And.intro k9 (show h0≤yb from by rw [hb9];exact TT.out.hi));have NQy:=bN QB hb9;have NXY:=bN XB hb9;have NE1y:=neA E1 hb9;replace TT:=zhz (TT.out.keep b9);replace QB:=bK QB b9;replace XB:=bK XB b9;replace R2:=rK R2 b9;replace E1:=eK E1 b9;clear hw9 k9 b9 hb9
       refine hK.out _ _ QB.out.1.rd (fun hHeld=>?_)
       clear hK K
       try simp only [Act.put,zs1,zs2,zs3]
       refine wC 11 fun K hK=>?_
       go_simp
       (have LNX:=zhz TT.out.ln;(with_reducible refine (CB.out _ _ _ _ _ _ TT.out R2.out).mono ?_);rintro v W6 ⟨B4,k4,d4,rfl,g9,e9,l9,m9,f9⟩;have NE2x:=neD l9 XB;have NE2y:=neD l9 YB;replace QB:=bF QB f9;replace XB:=bF XB f9;replace YB:=bF YB f9;replace E1:=eF E1 f9;have E2:=eI e9 m9 l9 TT.out.hi;replace TT:=zhz g9;clear g9 e9 l9 m9 f9)
       refine hK.out _ _ QB.out.1.rd fun hHeld=>?_
       clear hK K
       try simp only [Act.put,zs1,zs2,zs3]
       obtain rfl:n2q=n1:=R2.out.2.2.symm.trans R1.out.2.2
       have kx:=XB.out.1.rd
       have kw:=XB.out.1.wr
       refine wC 14 fun K hK=>?_
       go_simp
       (obtain ⟨W7,q7,f7,k7⟩:=zai XB.out.1 (.int .i64 0) (.int .i64 (n2q:Int)) (.slice none 0 0) (.slice A4 n4 c4);rw [q7];clear q7 kx kw;replace QB:=bO QB f7 NQx;replace TT:=zhz (TT.out.own f7 XB.out.2 HWH.out);replace YB:=bO YB f7 (zhz NXY.out.symm);replace E1:=eO E1 f7 NE1x;replace E2:=eO E2 f7 NE2x;replace XB:=zhz (And.intro k7 XB.out.2);clear f7 k7)
       refine hK.out _ _ QB.out.1.rd fun hHeld=>?_
       clear hK K
       try simp only [Act.put,zs1,zs2,zs3]
       have kx:=YB.out.1.rd
       have kw:=YB.out.1.wr
       refine wC 15 fun K hK=>?_
       go_simp
       (obtain ⟨W7,q7,f7,k7⟩:=zai YB.out.1 (.int .i64 0) (.int .i64 (n2q:Int)) (.slice none 0 0) (.slice B4 k4 d4);rw [q7];clear q7 kx kw;replace QB:=bO QB f7 NQy;replace TT:=zhz (TT.out.own f7 YB.out.2 HWH.out);replace XB:=bO XB f7 NXY;replace E1:=eO E1 f7 NE1y;replace E2:=eO E2 f7 NE2y;replace YB:=zhz (And.intro k7 YB.out.2);clear f7 k7)
       refine hK.out _ _ QB.out.1.rd fun hHeld=>?_
       clear hK K
       try simp only [Act.put,zs1,zs2,zs3]
       refine wpAnyH_done (by kernel_rfl) ?_ _
       clear hHeld
       go_wp2
       go_meet
       case rel=>exact ⟨xb,yb,n2q,A4,n4,c4,B4,k4,d4,x,ev,rfl,rfl,XB,YB,E1,E2,LNX,TT⟩
      intro K hK
      go_simp
      have LNX:=zhz TT.out.ln;(with_reducible refine (CB.out _ _ _ _ _ _ TT.out R2.out).mono ?_);rintro v W5 ⟨B4,k4,d4,rfl,g9,e9,l9,m9,f9⟩;have NE2x:=neD l9 XB;replace QB:=bF QB f9;replace XB:=bF XB f9;replace E1:=eF E1 f9;have E2:=eI e9 m9 l9 TT.out.hi;replace TT:=zhz g9;clear g9 e9 l9 m9 f9
      refine hK.out _ _ QB.out.1.rd (fun hHeld=>?_)
      clear hK K
      try simp only [Act.put,zs1,zs2,zs3]
      refine wC 13 fun K hK=>?_
      go_simp
      (obtain ⟨W6,yb,hw9,k9,b9,hb9⟩:=bNew W5;rw [hw9,← hb9];have YB:=zhz (And.intro k9 (show h0≤yb from by rw [hb9];exact TT.out.hi));have NQy:=bN QB hb9;have NXY:=bN XB hb9;have NE1y:=neA E1 hb9;have NE2y:=neA E2 hb9;replace TT:=zhz (TT.out.keep b9);replace QB:=bK QB b9;replace XB:=bK XB b9;replace E1:=eK E1 b9;replace E2:=eK E2 b9;clear hw9 k9 b9 hb9)
      refine hK.out _ _ QB.out.1.rd fun hHeld=>?_
      clear hK K
      try simp only [Act.put,zs1,zs2,zs3]
      obtain rfl:n2q=n1:=R2.out.2.2.symm.trans R1.out.2.2
      have kx:=XB.out.1.rd
      have kw:=XB.out.1.wr
      refine wC 14 fun K hK=>?_
      go_simp
      (obtain ⟨W7,q7,f7,k7⟩:=zai XB.out.1 (.int .i64 0) (.int .i64 (n2q:Int)) (.slice none 0 0) (.slice A4 n4 c4);rw [q7];clear q7 kx kw;replace QB:=bO QB f7 NQx;replace TT:=zhz (TT.out.own f7 XB.out.2 HWH.out);replace YB:=bO YB f7 (zhz NXY.out.symm);replace E1:=eO E1 f7 NE1x;replace E2:=eO E2 f7 NE2x;replace XB:=zhz (And.intro k7 XB.out.2);clear f7 k7)
      refine hK.out _ _ QB.out.1.rd fun hHeld=>?_
      clear hK K
      try simp only [Act.put,zs1,zs2,zs3]
      have kx:=YB.out.1.rd
      have kw:=YB.out.1.wr
      refine wC 15 fun K hK=>?_
      go_simp
      (obtain ⟨W7,q7,f7,k7⟩:=zai YB.out.1 (.int .i64 0) (.int .i64 (n2q:Int)) (.slice none 0 0) (.slice B4 k4 d4);rw [q7];clear q7 kx kw;replace QB:=bO QB f7 NQy;replace TT:=zhz (TT.out.own f7 YB.out.2 HWH.out);replace XB:=bO XB f7 NXY;replace E1:=eO E1 f7 NE1y;replace E2:=eO E2 f7 NE2y;replace YB:=zhz (And.intro k7 YB.out.2);clear f7 k7)
      refine hK.out _ _ QB.out.1.rd fun hHeld=>?_
      clear hK K
      try simp only [Act.put,zs1,zs2,zs3]
      refine wpAnyH_done (by kernel_rfl) ?_ _
      clear hHeld
      go_wp2
      go_meet
      case rel=>exact ⟨xb,yb,n2q,A4,n4,c4,B4,k4,d4,x,ev,rfl,rfl,XB,YB,E1,E2,LNX,TT⟩
     intro K hK
     go_simp
     (with_reducible refine (CA.out _ _ _ _ TT.out R1.out).mono ?_);rintro v W2 ⟨A4,n4,c4,x,ev,rfl,g9,e9,l9,m9,f9⟩;replace QB:=bF QB f9;have E1:=eI e9 m9 l9 TT.out.hi;replace TT:=zhz g9;clear g9 e9 l9 m9 f9
     refine hK.out _ _ QB.out.1.rd (fun hHeld=>?_)
     clear hK K
     try simp only [Act.put,zs1,zs2,zs3]
     refine wpAnyH_ready (rs:=[9,12,13]) (by kernel_rfl) (by simp) ?_
     refine AllReadyH.cons (o:=?_) ?_ ?_ ?_
     rotate_left 1
     ·rfl
     rotate_left 1
     ·refine AllReadyH.cons (o:=?_) ?_ ?_ ?_
      rotate_left 1
      ·rfl
      rotate_left 1
      ·refine AllReadyH.cons (o:=?_) ?_ ?_ ?_
       rotate_left 1
       ·rfl
       rotate_left 1
       ·exact AllReadyH.nil
       intro K hK
       go_simp
       obtain ⟨W3,yb,hw9,k9,b9,hb9⟩:=bNew W2;rw [hw9,← hb9];have YB:=zhz (And.intro k9 (show h0≤yb from by rw [hb9];exact TT.out.hi));have NQy:=bN QB hb9;have NE1y:=neA E1 hb9;replace TT:=zhz (TT.out.keep b9);replace QB:=bK QB b9;replace E1:=eK E1 b9;clear hw9 k9 b9 hb9
       refine hK.out _ _ QB.out.1.rd (fun hHeld=>?_)
       clear hK K
       try simp only [Act.put,zs1,zs2,zs3]
       refine wpAnyH_ready (rs:=[9,12]) (by kernel_rfl) (by simp) ?_
       refine AllReadyH.cons (o:=?_) ?_ ?_ ?_
       rotate_left 1
       ·rfl
       rotate_left 1
       ·refine AllReadyH.cons (o:=?_) ?_ ?_ ?_
        rotate_left 1
        ·rfl
        rotate_left 1
        ·exact AllReadyH.nil
        intro K hK
        go_simp
        obtain ⟨W4,xb,hw9,k9,b9,hb9⟩:=bNew W3;rw [hw9,← hb9];have XB:=zhz (And.intro k9 (show h0≤xb from by rw [hb9];exact TT.out.hi));have NQx:=bN QB hb9;have NXY:=bN' YB hb9;have NE1x:=neA E1 hb9;replace TT:=zhz (TT.out.keep b9);replace QB:=bK QB b9;replace YB:=bK YB b9;replace E1:=eK E1 b9;clear hw9 k9 b9 hb9
        refine hK.out _ _ QB.out.1.rd (fun hHeld=>?_)
        clear hK K
        try simp only [Act.put,zs1,zs2,zs3]
        refine wC 9 fun K hK=>?_
        go_simp
        ((with_reducible refine (CE.out _).mono ?_);rintro v W5 ⟨g2,n2q,c2q,rfl,l9,r9,hg9,b9⟩;have R2:=zhz (And.intro r9 (And.intro (Nat.le_trans TT.out.hi hg9) l9));replace TT:=zhz (TT.out.keep b9);replace QB:=bK QB b9;replace XB:=bK XB b9;replace YB:=bK YB b9;replace E1:=eK E1 b9;clear l9 r9 hg9 b9)
        refine hK.out _ _ QB.out.1.rd fun hHeld=>?_
        clear hK K
        try simp only [Act.put,zs1,zs2,zs3]
        refine wR 10 ?_
        refine wC 11 fun K hK=>?_
        go_simp
        (have LNX:=zhz TT.out.ln;(with_reducible refine (CB.out _ _ _ _ _ _ TT.out R2.out).mono ?_);rintro v W6 ⟨B4,k4,d4,rfl,g9,e9,l9,m9,f9⟩;have NE2x:=neD l9 XB;have NE2y:=neD l9 YB;replace QB:=bF QB f9;replace XB:=bF XB f9;replace YB:=bF YB f9;replace E1:=eF E1 f9;have E2:=eI e9 m9 l9 TT.out.hi;replace TT:=zhz g9;clear g9 e9 l9 m9 f9)
        refine hK.out _ _ QB.out.1.rd fun hHeld=>?_
        clear hK K
        try simp only [Act.put,zs1,zs2,zs3]
        obtain rfl:n2q=n1:=R2.out.2.2.symm.trans R1.out.2.2
        have kx:=XB.out.1.rd
        have kw:=XB.out.1.wr
        refine wC 14 fun K hK=>?_
        go_simp
        (obtain ⟨W7,q7,f7,k7⟩:=zai XB.out.1 (.int .i64 0) (.int .i64 (n2q:Int)) (.slice none 0 0) (.slice A4 n4 c4);rw [q7];clear q7 kx kw;replace QB:=bO QB f7 NQx;replace TT:=zhz (TT.out.own f7 XB.out.2 HWH.out);replace YB:=bO YB f7 (zhz NXY.out.symm);replace E1:=eO E1 f7 NE1x;replace E2:=eO E2 f7 NE2x;replace XB:=zhz (And.intro k7 XB.out.2);clear f7 k7)
        refine hK.out _ _ QB.out.1.rd fun hHeld=>?_
        clear hK K
        try simp only [Act.put,zs1,zs2,zs3]
        have kx:=YB.out.1.rd
        have kw:=YB.out.1.wr
        refine wC 15 fun K hK=>?_
        go_simp
        (obtain ⟨W7,q7,f7,k7⟩:=zai YB.out.1 (.int .i64 0) (.int .i64 (n2q:Int)) (.slice none 0 0) (.slice B4 k4 d4);rw [q7];clear q7 kx kw;replace QB:=bO QB f7 NQy;replace TT:=zhz (TT.out.own f7 YB.out.2 HWH.out);replace XB:=bO XB f7 NXY;replace E1:=eO E1 f7 NE1y;replace E2:=eO E2 f7 NE2y;replace YB:=zhz (And.intro k7 YB.out.2);clear f7 k7)
        refine hK.out _ _ QB.out.1.rd fun hHeld=>?_
        clear hK K
        try simp only [Act.put,zs1,zs2,zs3]
        refine wpAnyH_done (by kernel_rfl) ?_ _
        clear hHeld
        go_wp2
        go_meet
        case rel=>exact ⟨xb,yb,n2q,A4,n4,c4,B4,k4,d4,x,ev,rfl,rfl,XB,YB,E1,E2,LNX,TT⟩
       intro K hK
       go_simp
       (with_reducible refine (CE.out _).mono ?_);rintro v W4 ⟨g2,n2q,c2q,rfl,l9,r9,hg9,b9⟩;have R2:=zhz (And.intro r9 (And.intro (Nat.le_trans TT.out.hi hg9) l9));replace TT:=zhz (TT.out.keep b9);replace QB:=bK QB b9;replace YB:=bK YB b9;replace E1:=eK E1 b9;clear l9 r9 hg9 b9
       refine hK.out _ _ QB.out.1.rd (fun hHeld=>?_)
       clear hK K
       try simp only [Act.put,zs1,zs2,zs3]
       refine wR 10 ?_
       refine wpAnyH_ready (rs:=[11,12]) (by kernel_rfl) (by simp) ?_
       refine AllReadyH.cons (o:=?_) ?_ ?_ ?_
       rotate_left 1
       ·rfl
       rotate_left 1
       ·refine AllReadyH.cons (o:=?_) ?_ ?_ ?_
        rotate_left 1
        ·rfl
        rotate_left 1
        ·exact AllReadyH.nil
        intro K hK
        go_simp
        obtain ⟨W5,xb,hw9,k9,b9,hb9⟩:=bNew W4;rw [hw9,← hb9];have XB:=zhz (And.intro k9 (show h0≤xb from by rw [hb9];exact TT.out.hi));have NQx:=bN QB hb9;have NXY:=bN' YB hb9;have NE1x:=neA E1 hb9;replace TT:=zhz (TT.out.keep b9);replace QB:=bK QB b9;replace YB:=bK YB b9;replace R2:=rK R2 b9;replace E1:=eK E1 b9;clear hw9 k9 b9 hb9
        refine hK.out _ _ QB.out.1.rd (fun hHeld=>?_)
        clear hK K
        try simp only [Act.put,zs1,zs2,zs3]
        refine wC 11 fun K hK=>?_
        go_simp
        (have LNX:=zhz TT.out.ln;(with_reducible refine (CB.out _ _ _ _ _ _ TT.out R2.out).mono ?_);rintro v W6 ⟨B4,k4,d4,rfl,g9,e9,l9,m9,f9⟩;have NE2x:=neD l9 XB;have NE2y:=neD l9 YB;replace QB:=bF QB f9;replace XB:=bF XB f9;replace YB:=bF YB f9;replace E1:=eF E1 f9;have E2:=eI e9 m9 l9 TT.out.hi;replace TT:=zhz g9;clear g9 e9 l9 m9 f9)
        refine hK.out _ _ QB.out.1.rd fun hHeld=>?_
        clear hK K
        try simp only [Act.put,zs1,zs2,zs3]
        obtain rfl:n2q=n1:=R2.out.2.2.symm.trans R1.out.2.2
        have kx:=XB.out.1.rd
        have kw:=XB.out.1.wr
        refine wC 14 fun K hK=>?_
        go_simp
        (obtain ⟨W7,q7,f7,k7⟩:=zai XB.out.1 (.int .i64 0) (.int .i64 (n2q:Int)) (.slice none 0 0) (.slice A4 n4 c4);rw [q7];clear q7 kx kw;replace QB:=bO QB f7 NQx;replace TT:=zhz (TT.out.own f7 XB.out.2 HWH.out);replace YB:=bO YB f7 (zhz NXY.out.symm);replace E1:=eO E1 f7 NE1x;replace E2:=eO E2 f7 NE2x;replace XB:=zhz (And.intro k7 XB.out.2);clear f7 k7)
        refine hK.out _ _ QB.out.1.rd fun hHeld=>?_
        clear hK K
        try simp only [Act.put,zs1,zs2,zs3]
        have kx:=YB.out.1.rd
        have kw:=YB.out.1.wr
        refine wC 15 fun K hK=>?_
        go_simp
        (obtain ⟨W7,q7,f7,k7⟩:=zai YB.out.1 (.int .i64 0) (.int .i64 (n2q:Int)) (.slice none 0 0) (.slice B4 k4 d4);rw [q7];clear q7 kx kw;replace QB:=bO QB f7 NQy;replace TT:=zhz (TT.out.own f7 YB.out.2 HWH.out);replace XB:=bO XB f7 NXY;replace E1:=eO E1 f7 NE1y;replace E2:=eO E2 f7 NE2y;replace YB:=zhz (And.intro k7 YB.out.2);clear f7 k7)
        refine hK.out _ _ QB.out.1.rd fun hHeld=>?_
        clear hK K
        try simp only [Act.put,zs1,zs2,zs3]
        refine wpAnyH_done (by kernel_rfl) ?_ _
        clear hHeld
        go_wp2
        go_meet
        case rel=>exact ⟨xb,yb,n2q,A4,n4,c4,B4,k4,d4,x,ev,rfl,rfl,XB,YB,E1,E2,LNX,TT⟩
       intro K hK
       go_simp
       have LNX:=zhz TT.out.ln;(with_reducible refine (CB.out _ _ _ _ _ _ TT.out R2.out).mono ?_);rintro v W5 ⟨B4,k4,d4,rfl,g9,e9,l9,m9,f9⟩;have NE2y:=neD l9 YB;replace QB:=bF QB f9;replace YB:=bF YB f9;replace E1:=eF E1 f9;have E2:=eI e9 m9 l9 TT.out.hi;replace TT:=zhz g9;clear g9 e9 l9 m9 f9
       refine hK.out _ _ QB.out.1.rd (fun hHeld=>?_)
       clear hK K
       try simp only [Act.put,zs1,zs2,zs3]
       refine wC 12 fun K hK=>?_
       go_simp
       (obtain ⟨W6,xb,hw9,k9,b9,hb9⟩:=bNew W5;rw [hw9,← hb9];have XB:=zhz (And.intro k9 (show h0≤xb from by rw [hb9];exact TT.out.hi));have NQx:=bN QB hb9;have NXY:=bN' YB hb9;have NE1x:=neA E1 hb9;have NE2x:=neA E2 hb9;replace TT:=zhz (TT.out.keep b9);replace QB:=bK QB b9;replace YB:=bK YB b9;replace E1:=eK E1 b9;replace E2:=eK E2 b9;clear hw9 k9 b9 hb9)
       refine hK.out _ _ QB.out.1.rd fun hHeld=>?_
       clear hK K
       try simp only [Act.put,zs1,zs2,zs3]
       obtain rfl:n2q=n1:=R2.out.2.2.symm.trans R1.out.2.2
       have kx:=XB.out.1.rd
       have kw:=XB.out.1.wr
       refine wC 14 fun K hK=>?_
       go_simp
       (obtain ⟨W7,q7,f7,k7⟩:=zai XB.out.1 (.int .i64 0) (.int .i64 (n2q:Int)) (.slice none 0 0) (.slice A4 n4 c4);rw [q7];clear q7 kx kw;replace QB:=bO QB f7 NQx;replace TT:=zhz (TT.out.own f7 XB.out.2 HWH.out);replace YB:=bO YB f7 (zhz NXY.out.symm);replace E1:=eO E1 f7 NE1x;replace E2:=eO E2 f7 NE2x;replace XB:=zhz (And.intro k7 XB.out.2);clear f7 k7)
       refine hK.out _ _ QB.out.1.rd fun hHeld=>?_
       clear hK K
       try simp only [Act.put,zs1,zs2,zs3]
       have kx:=YB.out.1.rd
       have kw:=YB.out.1.wr
       refine wC 15 fun K hK=>?_
       go_simp
       (obtain ⟨W7,q7,f7,k7⟩:=zai YB.out.1 (.int .i64 0) (.int .i64 (n2q:Int)) (.slice none 0 0) (.slice B4 k4 d4);rw [q7];clear q7 kx kw;replace QB:=bO QB f7 NQy;replace TT:=zhz (TT.out.own f7 YB.out.2 HWH.out);replace XB:=bO XB f7 NXY;replace E1:=eO E1 f7 NE1y;replace E2:=eO E2 f7 NE2y;replace YB:=zhz (And.intro k7 YB.out.2);clear f7 k7)
       refine hK.out _ _ QB.out.1.rd fun hHeld=>?_
       clear hK K
       try simp only [Act.put,zs1,zs2,zs3]
       refine wpAnyH_done (by kernel_rfl) ?_ _
       clear hHeld
       go_wp2
       go_meet
       case rel=>exact ⟨xb,yb,n2q,A4,n4,c4,B4,k4,d4,x,ev,rfl,rfl,XB,YB,E1,E2,LNX,TT⟩
      intro K hK
      go_simp
      obtain ⟨W3,xb,hw9,k9,b9,hb9⟩:=bNew W2;rw [hw9,← hb9];have XB:=zhz (And.intro k9 (show h0≤xb from by rw [hb9];exact TT.out.hi));have NQx:=bN QB hb9;have NE1x:=neA E1 hb9;replace TT:=zhz (TT.out.keep b9);replace QB:=bK QB b9;replace E1:=eK E1 b9;clear hw9 k9 b9 hb9
      refine hK.out _ _ QB.out.1.rd (fun hHeld=>?_)
      clear hK K
      try simp only [Act.put,zs1,zs2,zs3]
      refine wpAnyH_ready (rs:=[9,13]) (by kernel_rfl) (by simp) ?_
      refine AllReadyH.cons (o:=?_) ?_ ?_ ?_
      rotate_left 1
      ·rfl
      rotate_left 1
      ·refine AllReadyH.cons (o:=?_) ?_ ?_ ?_
       rotate_left 1
       ·rfl
       rotate_left 1
       ·exact AllReadyH.nil
       intro K hK
       go_simp
       obtain ⟨W4,yb,hw9,k9,b9,hb9⟩:=bNew W3;rw [hw9,← hb9];have YB:=zhz (And.intro k9 (show h0≤yb from by rw [hb9];exact TT.out.hi));have NQy:=bN QB hb9;have NXY:=bN XB hb9;have NE1y:=neA E1 hb9;replace TT:=zhz (TT.out.keep b9);replace QB:=bK QB b9;replace XB:=bK XB b9;replace E1:=eK E1 b9;clear hw9 k9 b9 hb9
       refine hK.out _ _ QB.out.1.rd (fun hHeld=>?_)
       clear hK K
       try simp only [Act.put,zs1,zs2,zs3]
       refine wC 9 fun K hK=>?_
       go_simp
       ((with_reducible refine (CE.out _).mono ?_);rintro v W5 ⟨g2,n2q,c2q,rfl,l9,r9,hg9,b9⟩;have R2:=zhz (And.intro r9 (And.intro (Nat.le_trans TT.out.hi hg9) l9));replace TT:=zhz (TT.out.keep b9);replace QB:=bK QB b9;replace XB:=bK XB b9;replace YB:=bK YB b9;replace E1:=eK E1 b9;clear l9 r9 hg9 b9)
       refine hK.out _ _ QB.out.1.rd fun hHeld=>?_
       clear hK K
       try simp only [Act.put,zs1,zs2,zs3]
       refine wR 10 ?_
       refine wC 11 fun K hK=>?_
       go_simp
       (have LNX:=zhz TT.out.ln;(with_reducible refine (CB.out _ _ _ _ _ _ TT.out R2.out).mono ?_);rintro v W6 ⟨B4,k4,d4,rfl,g9,e9,l9,m9,f9⟩;have NE2x:=neD l9 XB;have NE2y:=neD l9 YB;replace QB:=bF QB f9;replace XB:=bF XB f9;replace YB:=bF YB f9;replace E1:=eF E1 f9;have E2:=eI e9 m9 l9 TT.out.hi;replace TT:=zhz g9;clear g9 e9 l9 m9 f9)
       refine hK.out _ _ QB.out.1.rd fun hHeld=>?_
       clear hK K
       try simp only [Act.put,zs1,zs2,zs3]
       obtain rfl:n2q=n1:=R2.out.2.2.symm.trans R1.out.2.2
       have kx:=XB.out.1.rd
       have kw:=XB.out.1.wr
       refine wC 14 fun K hK=>?_
       go_simp
       (obtain ⟨W7,q7,f7,k7⟩:=zai XB.out.1 (.int .i64 0) (.int .i64 (n2q:Int)) (.slice none 0 0) (.slice A4 n4 c4);rw [q7];clear q7 kx kw;replace QB:=bO QB f7 NQx;replace TT:=zhz (TT.out.own f7 XB.out.2 HWH.out);replace YB:=bO YB f7 (zhz NXY.out.symm);replace E1:=eO E1 f7 NE1x;replace E2:=eO E2 f7 NE2x;replace XB:=zhz (And.intro k7 XB.out.2);clear f7 k7)
       refine hK.out _ _ QB.out.1.rd fun hHeld=>?_
       clear hK K
       try simp only [Act.put,zs1,zs2,zs3]
       have kx:=YB.out.1.rd
       have kw:=YB.out.1.wr
       refine wC 15 fun K hK=>?_
       go_simp
       (obtain ⟨W7,q7,f7,k7⟩:=zai YB.out.1 (.int .i64 0) (.int .i64 (n2q:Int)) (.slice none 0 0) (.slice B4 k4 d4);rw [q7];clear q7 kx kw;replace QB:=bO QB f7 NQy;replace TT:=zhz (TT.out.own f7 YB.out.2 HWH.out);replace XB:=bO XB f7 NXY;replace E1:=eO E1 f7 NE1y;replace E2:=eO E2 f7 NE2y;replace YB:=zhz (And.intro k7 YB.out.2);clear f7 k7)
       refine hK.out _ _ QB.out.1.rd fun hHeld=>?_
       clear hK K
       try simp only [Act.put,zs1,zs2,zs3]
       refine wpAnyH_done (by kernel_rfl) ?_ _
       clear hHeld
       go_wp2
       go_meet
       case rel=>exact ⟨xb,yb,n2q,A4,n4,c4,B4,k4,d4,x,ev,rfl,rfl,XB,YB,E1,E2,LNX,TT⟩
      intro K hK
      go_simp
      (with_reducible refine (CE.out _).mono ?_);rintro v W4 ⟨g2,n2q,c2q,rfl,l9,r9,hg9,b9⟩;have R2:=zhz (And.intro r9 (And.intro (Nat.le_trans TT.out.hi hg9) l9));replace TT:=zhz (TT.out.keep b9);replace QB:=bK QB b9;replace XB:=bK XB b9;replace E1:=eK E1 b9;clear l9 r9 hg9 b9
      refine hK.out _ _ QB.out.1.rd (fun hHeld=>?_)
      clear hK K
      try simp only [Act.put,zs1,zs2,zs3]
      refine wR 10 ?_
      refine wpAnyH_ready (rs:=[11,13]) (by kernel_rfl) (by simp) ?_
      refine AllReadyH.cons (o:=?_) ?_ ?_ ?_
      rotate_left 1
      ·rfl
      rotate_left 1
      ·refine AllReadyH.cons (o:=?_) ?_ ?_ ?_
       rotate_left 1
       ·rfl
       rotate_left 1
       ·exact AllReadyH.nil
       intro K hK
       go_simp
       obtain ⟨W5,yb,hw9,k9,b9,hb9⟩:=bNew W4;rw [hw9,← hb9];have YB:=zhz (And.intro k9 (show h0≤yb from by rw [hb9];exact TT.out.hi));have NQy:=bN QB hb9;have NXY:=bN XB hb9;have NE1y:=neA E1 hb9;replace TT:=zhz (TT.out.keep b9);replace QB:=bK QB b9;replace XB:=bK XB b9;replace R2:=rK R2 b9;replace E1:=eK E1 b9;clear hw9 k9 b9 hb9
       refine hK.out _ _ QB.out.1.rd (fun hHeld=>?_)
       clear hK K
       try simp only [Act.put,zs1,zs2,zs3]
       refine wC 11 fun K hK=>?_
       go_simp
       (have LNX:=zhz TT.out.ln;(with_reducible refine (CB.out _ _ _ _ _ _ TT.out R2.out).mono ?_);rintro v W6 ⟨B4,k4,d4,rfl,g9,e9,l9,m9,f9⟩;have NE2x:=neD l9 XB;have NE2y:=neD l9 YB;replace QB:=bF QB f9;replace XB:=bF XB f9;replace YB:=bF YB f9;replace E1:=eF E1 f9;have E2:=eI e9 m9 l9 TT.out.hi;replace TT:=zhz g9;clear g9 e9 l9 m9 f9)
       refine hK.out _ _ QB.out.1.rd fun hHeld=>?_
       clear hK K
       try simp only [Act.put,zs1,zs2,zs3]
       obtain rfl:n2q=n1:=R2.out.2.2.symm.trans R1.out.2.2
       have kx:=XB.out.1.rd
       have kw:=XB.out.1.wr
       refine wC 14 fun K hK=>?_
       go_simp
       (obtain ⟨W7,q7,f7,k7⟩:=zai XB.out.1 (.int .i64 0) (.int .i64 (n2q:Int)) (.slice none 0 0) (.slice A4 n4 c4);rw [q7];clear q7 kx kw;replace QB:=bO QB f7 NQx;replace TT:=zhz (TT.out.own f7 XB.out.2 HWH.out);replace YB:=bO YB f7 (zhz NXY.out.symm);replace E1:=eO E1 f7 NE1x;replace E2:=eO E2 f7 NE2x;replace XB:=zhz (And.intro k7 XB.out.2);clear f7 k7)
       refine hK.out _ _ QB.out.1.rd fun hHeld=>?_
       clear hK K
       try simp only [Act.put,zs1,zs2,zs3]
       have kx:=YB.out.1.rd
       have kw:=YB.out.1.wr
       refine wC 15 fun K hK=>?_
       go_simp
       (obtain ⟨W7,q7,f7,k7⟩:=zai YB.out.1 (.int .i64 0) (.int .i64 (n2q:Int)) (.slice none 0 0) (.slice B4 k4 d4);rw [q7];clear q7 kx kw;replace QB:=bO QB f7 NQy;replace TT:=zhz (TT.out.own f7 YB.out.2 HWH.out);replace XB:=bO XB f7 NXY;replace E1:=eO E1 f7 NE1y;replace E2:=eO E2 f7 NE2y;replace YB:=zhz (And.intro k7 YB.out.2);clear f7 k7)
       refine hK.out _ _ QB.out.1.rd fun hHeld=>?_
       clear hK K
       try simp only [Act.put,zs1,zs2,zs3]
       refine wpAnyH_done (by kernel_rfl) ?_ _
       clear hHeld
       go_wp2
       go_meet
       case rel=>exact ⟨xb,yb,n2q,A4,n4,c4,B4,k4,d4,x,ev,rfl,rfl,XB,YB,E1,E2,LNX,TT⟩
      intro K hK
      go_simp
      have LNX:=zhz TT.out.ln;(with_reducible refine (CB.out _ _ _ _ _ _ TT.out R2.out).mono ?_);rintro v W5 ⟨B4,k4,d4,rfl,g9,e9,l9,m9,f9⟩;have NE2x:=neD l9 XB;replace QB:=bF QB f9;replace XB:=bF XB f9;replace E1:=eF E1 f9;have E2:=eI e9 m9 l9 TT.out.hi;replace TT:=zhz g9;clear g9 e9 l9 m9 f9
      refine hK.out _ _ QB.out.1.rd (fun hHeld=>?_)
      clear hK K
      try simp only [Act.put,zs1,zs2,zs3]
      refine wC 13 fun K hK=>?_
      go_simp
      (obtain ⟨W6,yb,hw9,k9,b9,hb9⟩:=bNew W5;rw [hw9,← hb9];have YB:=zhz (And.intro k9 (show h0≤yb from by rw [hb9];exact TT.out.hi));have NQy:=bN QB hb9;have NXY:=bN XB hb9;have NE1y:=neA E1 hb9;have NE2y:=neA E2 hb9;replace TT:=zhz (TT.out.keep b9);replace QB:=bK QB b9;replace XB:=bK XB b9;replace E1:=eK E1 b9;replace E2:=eK E2 b9;clear hw9 k9 b9 hb9)
      refine hK.out _ _ QB.out.1.rd fun hHeld=>?_
      clear hK K
      try simp only [Act.put,zs1,zs2,zs3]
      obtain rfl:n2q=n1:=R2.out.2.2.symm.trans R1.out.2.2
      have kx:=XB.out.1.rd
      have kw:=XB.out.1.wr
      refine wC 14 fun K hK=>?_
      go_simp
      (obtain ⟨W7,q7,f7,k7⟩:=zai XB.out.1 (.int .i64 0) (.int .i64 (n2q:Int)) (.slice none 0 0) (.slice A4 n4 c4);rw [q7];clear q7 kx kw;replace QB:=bO QB f7 NQx;replace TT:=zhz (TT.out.own f7 XB.out.2 HWH.out);replace YB:=bO YB f7 (zhz NXY.out.symm);replace E1:=eO E1 f7 NE1x;replace E2:=eO E2 f7 NE2x;replace XB:=zhz (And.intro k7 XB.out.2);clear f7 k7)
      refine hK.out _ _ QB.out.1.rd fun hHeld=>?_
      clear hK K
      try simp only [Act.put,zs1,zs2,zs3]
      have kx:=YB.out.1.rd
      have kw:=YB.out.1.wr
      refine wC 15 fun K hK=>?_
      go_simp
      (obtain ⟨W7,q7,f7,k7⟩:=zai YB.out.1 (.int .i64 0) (.int .i64 (n2q:Int)) (.slice none 0 0) (.slice B4 k4 d4);rw [q7];clear q7 kx kw;replace QB:=bO QB f7 NQy;replace TT:=zhz (TT.out.own f7 YB.out.2 HWH.out);replace XB:=bO XB f7 NXY;replace E1:=eO E1 f7 NE1y;replace E2:=eO E2 f7 NE2y;replace YB:=zhz (And.intro k7 YB.out.2);clear f7 k7)
      refine hK.out _ _ QB.out.1.rd fun hHeld=>?_
      clear hK K
      try simp only [Act.put,zs1,zs2,zs3]
      refine wpAnyH_done (by kernel_rfl) ?_ _
      clear hHeld
      go_wp2
      go_meet
      case rel=>exact ⟨xb,yb,n2q,A4,n4,c4,B4,k4,d4,x,ev,rfl,rfl,XB,YB,E1,E2,LNX,TT⟩
     intro K hK
     go_simp
     (with_reducible refine (CE.out _).mono ?_);rintro v W3 ⟨g2,n2q,c2q,rfl,l9,r9,hg9,b9⟩;have R2:=zhz (And.intro r9 (And.intro (Nat.le_trans TT.out.hi hg9) l9));replace TT:=zhz (TT.out.keep b9);replace QB:=bK QB b9;replace E1:=eK E1 b9;clear l9 r9 hg9 b9
     refine hK.out _ _ QB.out.1.rd (fun hHeld=>?_)
     clear hK K
     try simp only [Act.put,zs1,zs2,zs3]
     refine wR 10 ?_
     refine wpAnyH_ready (rs:=[11,12,13]) (by kernel_rfl) (by simp) ?_
     refine AllReadyH.cons (o:=?_) ?_ ?_ ?_
     rotate_left 1
     ·rfl
     rotate_left 1
     ·refine AllReadyH.cons (o:=?_) ?_ ?_ ?_
      rotate_left 1
      ·rfl
      rotate_left 1
      ·refine AllReadyH.cons (o:=?_) ?_ ?_ ?_
       rotate_left 1
       ·rfl
       rotate_left 1
       ·exact AllReadyH.nil
       intro K hK
       go_simp
       obtain ⟨W4,yb,hw9,k9,b9,hb9⟩:=bNew W3;rw [hw9,← hb9];have YB:=zhz (And.intro k9 (show h0≤yb from by rw [hb9];exact TT.out.hi));have NQy:=bN QB hb9;have NE1y:=neA E1 hb9;replace TT:=zhz (TT.out.keep b9);replace QB:=bK QB b9;replace R2:=rK R2 b9;replace E1:=eK E1 b9;clear hw9 k9 b9 hb9
       refine hK.out _ _ QB.out.1.rd (fun hHeld=>?_)
       clear hK K
       try simp only [Act.put,zs1,zs2,zs3]
       refine wpAnyH_ready (rs:=[11,12]) (by kernel_rfl) (by simp) ?_
       refine AllReadyH.cons (o:=?_) ?_ ?_ ?_
       rotate_left 1
       ·rfl
       rotate_left 1
       ·refine AllReadyH.cons (o:=?_) ?_ ?_ ?_
        rotate_left 1
        ·rfl
        rotate_left 1
        ·exact AllReadyH.nil
        intro K hK
        go_simp
        obtain ⟨W5,xb,hw9,k9,b9,hb9⟩:=bNew W4;rw [hw9,← hb9];have XB:=zhz (And.intro k9 (show h0≤xb from by rw [hb9];exact TT.out.hi));have NQx:=bN QB hb9;have NXY:=bN' YB hb9;have NE1x:=neA E1 hb9;replace TT:=zhz (TT.out.keep b9);replace QB:=bK QB b9;replace YB:=bK YB b9;replace R2:=rK R2 b9;replace E1:=eK E1 b9;clear hw9 k9 b9 hb9
        refine hK.out _ _ QB.out.1.rd (fun hHeld=>?_)
        clear hK K
        try simp only [Act.put,zs1,zs2,zs3]
        refine wC 11 fun K hK=>?_
        go_simp
        (have LNX:=zhz TT.out.ln;(with_reducible refine (CB.out _ _ _ _ _ _ TT.out R2.out).mono ?_);rintro v W6 ⟨B4,k4,d4,rfl,g9,e9,l9,m9,f9⟩;have NE2x:=neD l9 XB;have NE2y:=neD l9 YB;replace QB:=bF QB f9;replace XB:=bF XB f9;replace YB:=bF YB f9;replace E1:=eF E1 f9;have E2:=eI e9 m9 l9 TT.out.hi;replace TT:=zhz g9;clear g9 e9 l9 m9 f9)
        refine hK.out _ _ QB.out.1.rd fun hHeld=>?_
        clear hK K
        try simp only [Act.put,zs1,zs2,zs3]
        obtain rfl:n2q=n1:=R2.out.2.2.symm.trans R1.out.2.2
        have kx:=XB.out.1.rd
        have kw:=XB.out.1.wr
        refine wC 14 fun K hK=>?_
        go_simp
        (obtain ⟨W7,q7,f7,k7⟩:=zai XB.out.1 (.int .i64 0) (.int .i64 (n2q:Int)) (.slice none 0 0) (.slice A4 n4 c4);rw [q7];clear q7 kx kw;replace QB:=bO QB f7 NQx;replace TT:=zhz (TT.out.own f7 XB.out.2 HWH.out);replace YB:=bO YB f7 (zhz NXY.out.symm);replace E1:=eO E1 f7 NE1x;replace E2:=eO E2 f7 NE2x;replace XB:=zhz (And.intro k7 XB.out.2);clear f7 k7)
        refine hK.out _ _ QB.out.1.rd fun hHeld=>?_
        clear hK K
        try simp only [Act.put,zs1,zs2,zs3]
        have kx:=YB.out.1.rd
        have kw:=YB.out.1.wr
        refine wC 15 fun K hK=>?_
        go_simp
        (obtain ⟨W7,q7,f7,k7⟩:=zai YB.out.1 (.int .i64 0) (.int .i64 (n2q:Int)) (.slice none 0 0) (.slice B4 k4 d4);rw [q7];clear q7 kx kw;replace QB:=bO QB f7 NQy;replace TT:=zhz (TT.out.own f7 YB.out.2 HWH.out);replace XB:=bO XB f7 NXY;replace E1:=eO E1 f7 NE1y;replace E2:=eO E2 f7 NE2y;replace YB:=zhz (And.intro k7 YB.out.2);clear f7 k7)
        refine hK.out _ _ QB.out.1.rd fun hHeld=>?_
        clear hK K
        try simp only [Act.put,zs1,zs2,zs3]
        refine wpAnyH_done (by kernel_rfl) ?_ _
        clear hHeld
        go_wp2
        go_meet
        case rel=>exact ⟨xb,yb,n2q,A4,n4,c4,B4,k4,d4,x,ev,rfl,rfl,XB,YB,E1,E2,LNX,TT⟩
       intro K hK
       go_simp
       have LNX:=zhz TT.out.ln;(with_reducible refine (CB.out _ _ _ _ _ _ TT.out R2.out).mono ?_);rintro v W5 ⟨B4,k4,d4,rfl,g9,e9,l9,m9,f9⟩;have NE2y:=neD l9 YB;replace QB:=bF QB f9;replace YB:=bF YB f9;replace E1:=eF E1 f9;have E2:=eI e9 m9 l9 TT.out.hi;replace TT:=zhz g9;clear g9 e9 l9 m9 f9
       refine hK.out _ _ QB.out.1.rd (fun hHeld=>?_)
       clear hK K
       try simp only [Act.put,zs1,zs2,zs3]
       refine wC 12 fun K hK=>?_
       go_simp
       (obtain ⟨W6,xb,hw9,k9,b9,hb9⟩:=bNew W5;rw [hw9,← hb9];have XB:=zhz (And.intro k9 (show h0≤xb from by rw [hb9];exact TT.out.hi));have NQx:=bN QB hb9;have NXY:=bN' YB hb9;have NE1x:=neA E1 hb9;have NE2x:=neA E2 hb9;replace TT:=zhz (TT.out.keep b9);replace QB:=bK QB b9;replace YB:=bK YB b9;replace E1:=eK E1 b9;replace E2:=eK E2 b9;clear hw9 k9 b9 hb9)
       refine hK.out _ _ QB.out.1.rd fun hHeld=>?_
       clear hK K
       try simp only [Act.put,zs1,zs2,zs3]
       obtain rfl:n2q=n1:=R2.out.2.2.symm.trans R1.out.2.2
       have kx:=XB.out.1.rd
       have kw:=XB.out.1.wr
       refine wC 14 fun K hK=>?_
       go_simp
       (obtain ⟨W7,q7,f7,k7⟩:=zai XB.out.1 (.int .i64 0) (.int .i64 (n2q:Int)) (.slice none 0 0) (.slice A4 n4 c4);rw [q7];clear q7 kx kw;replace QB:=bO QB f7 NQx;replace TT:=zhz (TT.out.own f7 XB.out.2 HWH.out);replace YB:=bO YB f7 (zhz NXY.out.symm);replace E1:=eO E1 f7 NE1x;replace E2:=eO E2 f7 NE2x;replace XB:=zhz (And.intro k7 XB.out.2);clear f7 k7)
       refine hK.out _ _ QB.out.1.rd fun hHeld=>?_
       clear hK K
       try simp only [Act.put,zs1,zs2,zs3]
       have kx:=YB.out.1.rd
       have kw:=YB.out.1.wr
       refine wC 15 fun K hK=>?_
       go_simp
       (obtain ⟨W7,q7,f7,k7⟩:=zai YB.out.1 (.int .i64 0) (.int .i64 (n2q:Int)) (.slice none 0 0) (.slice B4 k4 d4);rw [q7];clear q7 kx kw;replace QB:=bO QB f7 NQy;replace TT:=zhz (TT.out.own f7 YB.out.2 HWH.out);replace XB:=bO XB f7 NXY;replace E1:=eO E1 f7 NE1y;replace E2:=eO E2 f7 NE2y;replace YB:=zhz (And.intro k7 YB.out.2);clear f7 k7)
       refine hK.out _ _ QB.out.1.rd fun hHeld=>?_
       clear hK K
       try simp only [Act.put,zs1,zs2,zs3]
       refine wpAnyH_done (by kernel_rfl) ?_ _
       clear hHeld
       go_wp2
       go_meet
       case rel=>exact ⟨xb,yb,n2q,A4,n4,c4,B4,k4,d4,x,ev,rfl,rfl,XB,YB,E1,E2,LNX,TT⟩
      intro K hK
      go_simp
      obtain ⟨W4,xb,hw9,k9,b9,hb9⟩:=bNew W3;rw [hw9,← hb9];have XB:=zhz (And.intro k9 (show h0≤xb from by rw [hb9];exact TT.out.hi));have NQx:=bN QB hb9;have NE1x:=neA E1 hb9;replace TT:=zhz (TT.out.keep b9);replace QB:=bK QB b9;replace R2:=rK R2 b9;replace E1:=eK E1 b9;clear hw9 k9 b9 hb9
      refine hK.out _ _ QB.out.1.rd (fun hHeld=>?_)
      clear hK K
      try simp only [Act.put,zs1,zs2,zs3]
      refine wpAnyH_ready (rs:=[11,13]) (by kernel_rfl) (by simp) ?_
      refine AllReadyH.cons (o:=?_) ?_ ?_ ?_
      rotate_left 1
      ·rfl
      rotate_left 1
      ·refine AllReadyH.cons (o:=?_) ?_ ?_ ?_
       rotate_left 1
       ·rfl
       rotate_left 1
       ·exact AllReadyH.nil
       intro K hK
       go_simp
       obtain ⟨W5,yb,hw9,k9,b9,hb9⟩:=bNew W4;rw [hw9,← hb9];have YB:=zhz (And.intro k9 (show h0≤yb from by rw [hb9];exact TT.out.hi));have NQy:=bN QB hb9;have NXY:=bN XB hb9;have NE1y:=neA E1 hb9;replace TT:=zhz (TT.out.keep b9);replace QB:=bK QB b9;replace XB:=bK XB b9;replace R2:=rK R2 b9;replace E1:=eK E1 b9;clear hw9 k9 b9 hb9
       refine hK.out _ _ QB.out.1.rd (fun hHeld=>?_)
       clear hK K
       try simp only [Act.put,zs1,zs2,zs3]
       refine wC 11 fun K hK=>?_
       go_simp
       (have LNX:=zhz TT.out.ln;(with_reducible refine (CB.out _ _ _ _ _ _ TT.out R2.out).mono ?_);rintro v W6 ⟨B4,k4,d4,rfl,g9,e9,l9,m9,f9⟩;have NE2x:=neD l9 XB;have NE2y:=neD l9 YB;replace QB:=bF QB f9;replace XB:=bF XB f9;replace YB:=bF YB f9;replace E1:=eF E1 f9;have E2:=eI e9 m9 l9 TT.out.hi;replace TT:=zhz g9;clear g9 e9 l9 m9 f9)
       refine hK.out _ _ QB.out.1.rd fun hHeld=>?_
       clear hK K
       try simp only [Act.put,zs1,zs2,zs3]
       obtain rfl:n2q=n1:=R2.out.2.2.symm.trans R1.out.2.2
       have kx:=XB.out.1.rd
       have kw:=XB.out.1.wr
       refine wC 14 fun K hK=>?_
       go_simp
       (obtain ⟨W7,q7,f7,k7⟩:=zai XB.out.1 (.int .i64 0) (.int .i64 (n2q:Int)) (.slice none 0 0) (.slice A4 n4 c4);rw [q7];clear q7 kx kw;replace QB:=bO QB f7 NQx;replace TT:=zhz (TT.out.own f7 XB.out.2 HWH.out);replace YB:=bO YB f7 (zhz NXY.out.symm);replace E1:=eO E1 f7 NE1x;replace E2:=eO E2 f7 NE2x;replace XB:=zhz (And.intro k7 XB.out.2);clear f7 k7)
       refine hK.out _ _ QB.out.1.rd fun hHeld=>?_
       clear hK K
       try simp only [Act.put,zs1,zs2,zs3]
       have kx:=YB.out.1.rd
       have kw:=YB.out.1.wr
       refine wC 15 fun K hK=>?_
       go_simp
       (obtain ⟨W7,q7,f7,k7⟩:=zai YB.out.1 (.int .i64 0) (.int .i64 (n2q:Int)) (.slice none 0 0) (.slice B4 k4 d4);rw [q7];clear q7 kx kw;replace QB:=bO QB f7 NQy;replace TT:=zhz (TT.out.own f7 YB.out.2 HWH.out);replace XB:=bO XB f7 NXY;replace E1:=eO E1 f7 NE1y;replace E2:=eO E2 f7 NE2y;replace YB:=zhz (And.intro k7 YB.out.2);clear f7 k7)
       refine hK.out _ _ QB.out.1.rd fun hHeld=>?_
       clear hK K
       try simp only [Act.put,zs1,zs2,zs3]
       refine wpAnyH_done (by kernel_rfl) ?_ _
       clear hHeld
       go_wp2
       go_meet
       case rel=>exact ⟨xb,yb,n2q,A4,n4,c4,B4,k4,d4,x,ev,rfl,rfl,XB,YB,E1,E2,LNX,TT⟩
      intro K hK
      go_simp
      have LNX:=zhz TT.out.ln;(with_reducible refine (CB.out _ _ _ _ _ _ TT.out R2.out).mono ?_);rintro v W5 ⟨B4,k4,d4,rfl,g9,e9,l9,m9,f9⟩;have NE2x:=neD l9 XB;replace QB:=bF QB f9;replace XB:=bF XB f9;replace E1:=eF E1 f9;have E2:=eI e9 m9 l9 TT.out.hi;replace TT:=zhz g9;clear g9 e9 l9 m9 f9
      refine hK.out _ _ QB.out.1.rd (fun hHeld=>?_)
      clear hK K
      try simp only [Act.put,zs1,zs2,zs3]
      refine wC 13 fun K hK=>?_
      go_simp
      (obtain ⟨W6,yb,hw9,k9,b9,hb9⟩:=bNew W5;rw [hw9,← hb9];have YB:=zhz (And.intro k9 (show h0≤yb from by rw [hb9];exact TT.out.hi));have NQy:=bN QB hb9;have NXY:=bN XB hb9;have NE1y:=neA E1 hb9;have NE2y:=neA E2 hb9;replace TT:=zhz (TT.out.keep b9);replace QB:=bK QB b9;replace XB:=bK XB b9;replace E1:=eK E1 b9;replace E2:=eK E2 b9;clear hw9 k9 b9 hb9)
      refine hK.out _ _ QB.out.1.rd fun hHeld=>?_
      clear hK K
      try simp only [Act.put,zs1,zs2,zs3]
      obtain rfl:n2q=n1:=R2.out.2.2.symm.trans R1.out.2.2
      have kx:=XB.out.1.rd
      have kw:=XB.out.1.wr
      refine wC 14 fun K hK=>?_
      go_simp
      (obtain ⟨W7,q7,f7,k7⟩:=zai XB.out.1 (.int .i64 0) (.int .i64 (n2q:Int)) (.slice none 0 0) (.slice A4 n4 c4);rw [q7];clear q7 kx kw;replace QB:=bO QB f7 NQx;replace TT:=zhz (TT.out.own f7 XB.out.2 HWH.out);replace YB:=bO YB f7 (zhz NXY.out.symm);replace E1:=eO E1 f7 NE1x;replace E2:=eO E2 f7 NE2x;replace XB:=zhz (And.intro k7 XB.out.2);clear f7 k7)
      refine hK.out _ _ QB.out.1.rd fun hHeld=>?_
      clear hK K
      try simp only [Act.put,zs1,zs2,zs3]
      have kx:=YB.out.1.rd
      have kw:=YB.out.1.wr
      refine wC 15 fun K hK=>?_
      go_simp
      (obtain ⟨W7,q7,f7,k7⟩:=zai YB.out.1 (.int .i64 0) (.int .i64 (n2q:Int)) (.slice none 0 0) (.slice B4 k4 d4);rw [q7];clear q7 kx kw;replace QB:=bO QB f7 NQy;replace TT:=zhz (TT.out.own f7 YB.out.2 HWH.out);replace XB:=bO XB f7 NXY;replace E1:=eO E1 f7 NE1y;replace E2:=eO E2 f7 NE2y;replace YB:=zhz (And.intro k7 YB.out.2);clear f7 k7)
      refine hK.out _ _ QB.out.1.rd fun hHeld=>?_
      clear hK K
      try simp only [Act.put,zs1,zs2,zs3]
      refine wpAnyH_done (by kernel_rfl) ?_ _
      clear hHeld
      go_wp2
      go_meet
      case rel=>exact ⟨xb,yb,n2q,A4,n4,c4,B4,k4,d4,x,ev,rfl,rfl,XB,YB,E1,E2,LNX,TT⟩
     intro K hK
     go_simp
     have LNX:=zhz TT.out.ln;(with_reducible refine (CB.out _ _ _ _ _ _ TT.out R2.out).mono ?_);rintro v W4 ⟨B4,k4,d4,rfl,g9,e9,l9,m9,f9⟩;replace QB:=bF QB f9;replace E1:=eF E1 f9;have E2:=eI e9 m9 l9 TT.out.hi;replace TT:=zhz g9;clear g9 e9 l9 m9 f9
     refine hK.out _ _ QB.out.1.rd (fun hHeld=>?_)
     clear hK K
     try simp only [Act.put,zs1,zs2,zs3]
     refine wpAnyH_ready (rs:=[12,13]) (by kernel_rfl) (by simp) ?_
     refine AllReadyH.cons (o:=?_) ?_ ?_ ?_
     rotate_left 1
     ·rfl
     rotate_left 1
     ·refine AllReadyH.cons (o:=?_) ?_ ?_ ?_
      rotate_left 1
      ·rfl
      rotate_left 1
      ·exact AllReadyH.nil
      intro K hK
      go_simp
      obtain ⟨W5,yb,hw9,k9,b9,hb9⟩:=bNew W4;rw [hw9,← hb9];have YB:=zhz (And.intro k9 (show h0≤yb from by rw [hb9];exact TT.out.hi));have NQy:=bN QB hb9;have NE1y:=neA E1 hb9;have NE2y:=neA E2 hb9;replace TT:=zhz (TT.out.keep b9);replace QB:=bK QB b9;replace E1:=eK E1 b9;replace E2:=eK E2 b9;clear hw9 k9 b9 hb9
      refine hK.out _ _ QB.out.1.rd (fun hHeld=>?_)
      clear hK K
      try simp only [Act.put,zs1,zs2,zs3]
      refine wC 12 fun K hK=>?_
      go_simp
      (obtain ⟨W6,xb,hw9,k9,b9,hb9⟩:=bNew W5;rw [hw9,← hb9];have XB:=zhz (And.intro k9 (show h0≤xb from by rw [hb9];exact TT.out.hi));have NQx:=bN QB hb9;have NXY:=bN' YB hb9;have NE1x:=neA E1 hb9;have NE2x:=neA E2 hb9;replace TT:=zhz (TT.out.keep b9);replace QB:=bK QB b9;replace YB:=bK YB b9;replace E1:=eK E1 b9;replace E2:=eK E2 b9;clear hw9 k9 b9 hb9)
      refine hK.out _ _ QB.out.1.rd fun hHeld=>?_
      clear hK K
      try simp only [Act.put,zs1,zs2,zs3]
      obtain rfl:n2q=n1:=R2.out.2.2.symm.trans R1.out.2.2
      have kx:=XB.out.1.rd
      have kw:=XB.out.1.wr
      refine wC 14 fun K hK=>?_
      go_simp
      (obtain ⟨W7,q7,f7,k7⟩:=zai XB.out.1 (.int .i64 0) (.int .i64 (n2q:Int)) (.slice none 0 0) (.slice A4 n4 c4);rw [q7];clear q7 kx kw;replace QB:=bO QB f7 NQx;replace TT:=zhz (TT.out.own f7 XB.out.2 HWH.out);replace YB:=bO YB f7 (zhz NXY.out.symm);replace E1:=eO E1 f7 NE1x;replace E2:=eO E2 f7 NE2x;replace XB:=zhz (And.intro k7 XB.out.2);clear f7 k7)
      refine hK.out _ _ QB.out.1.rd fun hHeld=>?_
      clear hK K
      try simp only [Act.put,zs1,zs2,zs3]
      have kx:=YB.out.1.rd
      have kw:=YB.out.1.wr
      refine wC 15 fun K hK=>?_
      go_simp
      (obtain ⟨W7,q7,f7,k7⟩:=zai YB.out.1 (.int .i64 0) (.int .i64 (n2q:Int)) (.slice none 0 0) (.slice B4 k4 d4);rw [q7];clear q7 kx kw;replace QB:=bO QB f7 NQy;replace TT:=zhz (TT.out.own f7 YB.out.2 HWH.out);replace XB:=bO XB f7 NXY;replace E1:=eO E1 f7 NE1y;replace E2:=eO E2 f7 NE2y;replace YB:=zhz (And.intro k7 YB.out.2);clear f7 k7)
      refine hK.out _ _ QB.out.1.rd fun hHeld=>?_
      clear hK K
      try simp only [Act.put,zs1,zs2,zs3]
      refine wpAnyH_done (by kernel_rfl) ?_ _
      clear hHeld
      go_wp2
      go_meet
      case rel=>exact ⟨xb,yb,n2q,A4,n4,c4,B4,k4,d4,x,ev,rfl,rfl,XB,YB,E1,E2,LNX,TT⟩
     intro K hK
     go_simp
     obtain ⟨W5,xb,hw9,k9,b9,hb9⟩:=bNew W4;rw [hw9,← hb9];have XB:=zhz (And.intro k9 (show h0≤xb from by rw [hb9];exact TT.out.hi));have NQx:=bN QB hb9;have NE1x:=neA E1 hb9;have NE2x:=neA E2 hb9;replace TT:=zhz (TT.out.keep b9);replace QB:=bK QB b9;replace E1:=eK E1 b9;replace E2:=eK E2 b9;clear hw9 k9 b9 hb9
     refine hK.out _ _ QB.out.1.rd (fun hHeld=>?_)
     clear hK K
     try simp only [Act.put,zs1,zs2,zs3]
     refine wC 13 fun K hK=>?_
     go_simp
     (obtain ⟨W6,yb,hw9,k9,b9,hb9⟩:=bNew W5;rw [hw9,← hb9];have YB:=zhz (And.intro k9 (show h0≤yb from by rw [hb9];exact TT.out.hi));have NQy:=bN QB hb9;have NXY:=bN XB hb9;have NE1y:=neA E1 hb9;have NE2y:=neA E2 hb9;replace TT:=zhz (TT.out.keep b9);replace QB:=bK QB b9;replace XB:=bK XB b9;replace E1:=eK E1 b9;replace E2:=eK E2 b9;clear hw9 k9 b9 hb9)
     refine hK.out _ _ QB.out.1.rd fun hHeld=>?_
     clear hK K
     try simp only [Act.put,zs1,zs2,zs3]
     obtain rfl:n2q=n1:=R2.out.2.2.symm.trans R1.out.2.2
     have kx:=XB.out.1.rd
     have kw:=XB.out.1.wr
     refine wC 14 fun K hK=>?_
     go_simp
     (obtain ⟨W7,q7,f7,k7⟩:=zai XB.out.1 (.int .i64 0) (.int .i64 (n2q:Int)) (.slice none 0 0) (.slice A4 n4 c4);rw [q7];clear q7 kx kw;replace QB:=bO QB f7 NQx;replace TT:=zhz (TT.out.own f7 XB.out.2 HWH.out);replace YB:=bO YB f7 (zhz NXY.out.symm);replace E1:=eO E1 f7 NE1x;replace E2:=eO E2 f7 NE2x;replace XB:=zhz (And.intro k7 XB.out.2);clear f7 k7)
     refine hK.out _ _ QB.out.1.rd fun hHeld=>?_
     clear hK K
     try simp only [Act.put,zs1,zs2,zs3]
     have kx:=YB.out.1.rd
     have kw:=YB.out.1.wr
     refine wC 15 fun K hK=>?_
     go_simp
     (obtain ⟨W7,q7,f7,k7⟩:=zai YB.out.1 (.int .i64 0) (.int .i64 (n2q:Int)) (.slice none 0 0) (.slice B4 k4 d4);rw [q7];clear q7 kx kw;replace QB:=bO QB f7 NQy;replace TT:=zhz (TT.out.own f7 YB.out.2 HWH.out);replace XB:=bO XB f7 NXY;replace E1:=eO E1 f7 NE1y;replace E2:=eO E2 f7 NE2y;replace YB:=zhz (And.intro k7 YB.out.2);clear f7 k7)
     refine hK.out _ _ QB.out.1.rd fun hHeld=>?_
     clear hK K
     try simp only [Act.put,zs1,zs2,zs3]
     refine wpAnyH_done (by kernel_rfl) ?_ _
     clear hHeld
     go_wp2
     go_meet
     case rel=>exact ⟨xb,yb,n2q,A4,n4,c4,B4,k4,d4,x,ev,rfl,rfl,XB,YB,E1,E2,LNX,TT⟩
    case rest =>
    obtain ⟨xb,yb,na,A4,n4,c4,B4,k4,d4,x,ev,rfl,rfl,XB,YB,E1,E2,HXL,TT⟩:=hcut
    have hke:k4=n4:=by rw [← E2.out.1.len,← E1.out.1.len]
    subst hke
    have CDa:=zhz (TT.out.drainA HK.out.1 (ck:=t') ⟨Int.le_refl _,HTT.out.2.2.2⟩ HXL.out.1 HXL.out.2 (by have:=HMM.out;omega) (.slice none 0 0) (.slice none 0 0))
    have CDb:=zhz (fun (wq:World) (hT:RuI w wq base s b2 t h0 (confR lps) Na Ka Nb Kb (rsZ (confR lps)) t' (mm+75*2097153+75*2097153) [] x)=>hT.drainB HK.out.2 (ck:=t') ⟨Int.le_refl _,HTT.out.2.2.2⟩ HXL.out.1 HXL.out.2 (by have:=HMM.out;omega) (.slice none 0 0) (.slice none 0 0))
    go_upto_region 22 with (first
     | (go_at_call 11;((with_reducible refine CDa.out.mono ?_);rintro v w1 ⟨g1,rfl,o1,t1,l1,f1⟩;have T9:=zhz t1;have O1:=zhz (And.intro o1 l1);have KX1:=zhz (And.intro (XB.out.1.fr f1 (fun hh=>by have h9:=hh.2;have:=XB.out.2;omega)) (YB.out.1.fr f1 (fun hh=>by have h9:=hh.2;have:=YB.out.2;omega)));have E9:=zhz (And.intro (E1.out.1.fr f1 (fun b off h1 e hh=>by have h9:=hh.2;have:=E1.out.2.2 b off h1 e;omega)) (E2.out.1.fr f1 (fun b off h1 e hh=>by have h9:=hh.2;have:=E2.out.2.2 b off h1 e;omega)));clear o1 t1 l1 f1 CDa))
     | (go_at_call 11;((with_reducible refine (CDb.out _ T9.out).mono ?_);rintro v w4 ⟨g2,rfl,o2,t2',l2,f2⟩;obtain ⟨u5,u6,u7,u8,ex1,ex2,zz1,ex3,zz2,ex4,bD,kD1,kD2,hn1,hn2⟩:=box4D w4 (.int .i64 0) (.int .i64 0) (.slice (some ⟨g1,0,none⟩) 22 22) (.slice none 0 0) (.int .i64 0) (.int .i64 0) (.slice (some ⟨g2,0,none⟩) 22 22) (.slice none 0 0);have hn12:w4.heap.size≠u5.heap.size:=(by omega);have hn21:u5.heap.size≠w4.heap.size:=(by omega);have T11:=zhz (t2'.keep bD);have KX2:=zhz (And.intro ((KX1.out.1.fr f2 (fun hh=>by have h9:=hh.2;have:=XB.out.2;omega)).keep bD) ((KX1.out.2.fr f2 (fun hh=>by have h9:=hh.2;have:=YB.out.2;omega)).keep bD));have O2:=zhz (And.intro ((zfh O1.out.1 f2 (fun b off _ e hh=>by injection e with e;injection e with e;have h9:=hh.2;have:=O1.out.2;omega)).below bD) (o2.below bD));have E10:=zhz (And.intro ((E9.out.1.fr f2 (fun b off h1 e hh=>by have h9:=hh.2;have:=E1.out.2.2 b off h1 e;omega)).below bD) ((E9.out.2.fr f2 (fun b off h1 e hh=>by have h9:=hh.2;have:=E2.out.2.2 b off h1 e;omega)).below bD));have KD2:=zhz (And.intro kD1 kD2);clear o2 t2' l2 f2)))
    try rw [ex4]
    clear ex1 ex2 zz1 ex3 zz2 ex4 bD kD1 kD2 hn1 hn2 hn12 hn21 CDb
    obtain ⟨p3,hp3⟩:=zeq (w4.heap.size)
    obtain ⟨p4,hp4⟩:=zeq (u5.heap.size)
    rw [← hp3,← hp4] at KD2 ⊢
    clear hp3 hp4
    have k1:=KX2.out.1.rd
    have k2:=KX2.out.2.rd
    have k3:=KD2.out.1.rd
    have k5:=KD2.out.2.rd
    have CS1:=zhz (zgn 0 (na:Int) none none A4 B4 0 k4 0 0 c4 d4 [] _ u8 (zgf _ _) (zgf _ _) E10.out.1 E10.out.2 E1.out.2.1)
    have CS2:=zhz (fun (wq:World) (hb:Below u8.heap.size u8 wq)=>zgn 0 0 (some ⟨g1,0,none⟩) (some ⟨g2,0,none⟩) none none 22 0 22 22 0 0 x [] wq (O2.out.1.below hb) (O2.out.2.below hb) (RdE.nil _) (RdE.nil _) (by omega))
    go_wp2_with (first
     | (go_at_call 14;((with_reducible refine CS1.out.mono ?_);rintro v w5 ⟨rfl,b5⟩;have B5:=zhz b5;have k3b:=(KD2.out.1.keep b5).rd;have k5b:=(KD2.out.2.keep b5).rd;clear b5 CS1))
     | (go_at_call 14;((with_reducible refine (CS2.out _ B5.out).mono ?_);rintro v w6 ⟨rfl,b6⟩;have B6:=zhz (show Below u8.heap.size u8 w6 from B5.out.trans (b6.mono B5.out.size));clear b6)))
    go_roundg (n2 - (i+1))
    case measure=>have:=HKK.out;have:=HIN.out;omega
    case rel=>exact ⟨i+1,t',HIN.out,zhz rfl,rfl,by go_num,zhz ⟨HTT.out.2.1,by have:=HTT.out.2.2.1;omega⟩,zhz ((T11.out.keep B6.out).mono (by have h1:=HMM.out;have h2:=HME.out;have:=HIN.out;omega) (Int.le_refl _))⟩
  ·have hie:i=n2:=by omega
   subst hie
   obtain ⟨la,lb',lc,q1,q2,q3,q4,q5,hTT⟩:=HX.out.tot HLA.out HC2.out
   have CR1:=zhz (hTT _ (Below.refl _ _)).1
   have CR2:=zhz (fun wx (hb:Below wr.heap.size wr wx)=>(hTT wx hb).2.1)
   have CR3:=zhz (fun wx (hb:Below wr.heap.size wr wx)=>(hTT wx hb).2.2.1)
   have CT1:=zhz (fun wx (hb:Below wr.heap.size wr wx)=>(hTT wx hb).2.2.2.1)
   have CT2:=zhz (fun wx (hb:Below wr.heap.size wr wx)=>(hTT wx hb).2.2.2.2.1)
   have CT3:=zhz (fun wx (hb:Below wr.heap.size wr wx)=>(hTT wx hb).2.2.2.2.2)
   have heq:∀ w,(Op.equalIn 10000 54 (.agg #[.int .i64 q1,.int .i64 q2,.int .i64 q3,.int .i64 q4,.int .i64 q5]) (.agg #[.int .i64 q1,.int .i64 q2,.int .i64 q3,.int .i64 q4,.int .i64 q5])).run Tryz.prog w=.ok true w:=fun w=>by rw [zcj];simp
   have heq0:∀ w,(Op.equalIn 10000 54 (.agg #[.int .i64 0,.int .i64 0,.int .i64 0,.int .i64 0,.int .i64 0]) (.agg #[.int .i64 0,.int .i64 0,.int .i64 0,.int .i64 0,.int .i64 0])).run Tryz.prog w=.ok true w:=fun w=>by rw [zcj];simp
   clear hTT
   go_wp2_with (first
    | (go_at_call 15;((with_reducible refine CR1.out.mono ?_);rintro e u2 ⟨rfl,rfl⟩;clear CR1))
    | (go_at_call 16;((with_reducible refine (CT1.out _ (Below.refl _ _)).mono ?_);rintro e u3 ⟨rfl,b3'⟩;have BT:=zhz (show Below wr.heap.size wr u3 from b3');clear b3' CT1))
    | (go_at_call 15;((with_reducible refine (CR2.out _ BT.out).mono ?_);rintro e u4 ⟨rfl,rfl⟩;clear CR2))
    | (go_at_call 16;((with_reducible refine (CT2.out _ BT.out).mono ?_);rintro e u5 ⟨rfl,b5'⟩;have BU:=zhz (show Below wr.heap.size wr u5 from BT.out.trans (b5'.mono BT.out.size));clear b5' CT2))
    | (go_at_call 15;((with_reducible refine (CR3.out _ BU.out).mono ?_);rintro e u6 ⟨rfl,rfl⟩;clear CR3))
    | (go_at_call 16;((with_reducible refine (CT3.out _ BU.out).mono ?_);rintro e u7 ⟨rfl,b7'⟩;have BV:=zhz (zae (zae HX.out.bl BU.out) b7');clear b7' CT3)))
   go_ret
   exact ⟨rfl,BV.out⟩
end Go.Proofs.YtambcbbekoehiabGreat
