import Derived.Test.YtannniobeanhlaaGreatZIx
import Derived.Test.YtannniobeanhlaaGreatRf
set_option linter.unusedSimpArgs false
set_option linter.unusedVariables false
set_option maxRecDepth 100000
set_option maxHeartbeats 9000000
namespace Go.Proofs.YtannniobeanhlaaGreat
open Go.ChangeShapes Go.WideShapes Go.ChangeAt Go.RowKit
theorem KeepB.keys {W w:World} {b gb gs gf n:Nat} {fl:List Nat} {K:Nat→Option ByteArray} {F:Nat→Prop} (hk:KeepB F W w) (h:KeysIn W b gb gs gf n fl K) (hF:∀ k,kyF b gb gs gf k→F k):KeysIn w b gb gs gf n fl K:=by
 obtain ⟨bs,ss,fs,h⟩:=h
 exact ⟨bs,ss,fs,hk _ _ _ (hF _ (Or.inl rfl)) h.hb,hk _ _ _ (hF _ (Or.inr (Or.inl rfl))) h.hgb,hk _ _ _ (hF _ (Or.inr (Or.inr (Or.inl rfl)))) h.hgs,hk _ _ _ (hF _ (Or.inr (Or.inr (Or.inr rfl)))) h.hgf,h.lb,h.ls,h.lf,h.vs,h.vf,h.vb,h.pl,h.n1,h.ne⟩
theorem KeepB.idx {W w:World} {N:IxN} {σ:KSt} {F:Nat→Prop} (hk:KeepB F W w) (h:IdxAt W N σ) (hF:∀ k,N.F k∨k=N.x→F k):IdxAt w N σ:=by
 obtain ⟨L,hm,ht⟩:=h
 exact ⟨L,⟨hk _ _ _ (hF _ (Or.inr rfl)) hm.hx,hk _ _ _ (hF _ (Or.inl (Or.inl rfl))) hm.hg,hm.len,hm.sz,hk.keys hm.ks (fun k h=>hF k (Or.inl (Or.inr h))),hm.lX,hm.lA,hm.lB,hm.ne⟩,ht⟩
end Go.Proofs.YtannniobeanhlaaGreat
