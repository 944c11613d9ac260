import Derived.Test.YtannniobeanhlaaGreatZObj
import Derived.Test.YtannniobeanhlaaGreatLift
import Derived.Lib.Hide
set_option linter.unusedSimpArgs false
set_option linter.unusedVariables false
set_option maxRecDepth 100000
set_option maxHeartbeats 9000000
namespace Go.Proofs.YtannniobeanhlaaGreat
open Go.RowKit
section
open Go
def noughts (n:Nat):Array Value:=((List.replicate n (0:Int)).map (Value.int .u8)).toArray
theorem za7 {P:Program} {t e:TypeId} {i:TypeInfo} (ht:P.underlying t=some (.slice e)) (hi:P.info? e=some i) (hz:i.zero=some (.int .u8 0)) (hs:i.size=1) (hb:i.bytes=1) (n:Nat) (hn:n≤140737488351232) (w:World) :
  (Instr.makeSlice t (.int .i64 (n:Int)) (.int .i64 (n:Int))).run P w=.ok (.slice (some ⟨w.heap.size,0,none⟩) n n) (w.alloc (.cells (noughts n) e)):=by
 have:=run_make w t e i (.int .u8 0) ht hi hz .i64 .i64 (n:Int) (n:Int) (by omega) (by omega) (by rw [hb];omega) (by omega)
 rw [this,hs]
 simp only [Int.toNat_natCast,Nat.mul_one]
 have e1:madeCells (Value.int IntKind.u8 0).cells n=noughts n:=by
  have:=toList_madeCells_one (.int .u8 0) n
  show madeCells #[Value.int .u8 0] n=noughts n
  apply Array.ext'
  rw [this];simp [noughts]
 rw [e1]
theorem zdC {P:Program} {w:World} {src dst e:TypeId} {A:Option Addr} {n c:Nat} {zs:List Int} (hs:P.underlying src=some (.slice e)) (he:P.underlying e=some (.int .u8)) (hd:P.underlying dst=some .string) (h:RdI w .u8 A n c zs) :
  (convert src dst (.slice A n c)).run P w=.ok (.string (strOfNums zs)) w:=by
 have hl:=h.len
 rcases Nat.eq_zero_or_pos n with h0 | h0
 ·subst h0
  have hz:zs=[]:=List.length_eq_zero_iff.1 hl
  subst hz
  cases A with
  | none=>exact run_convert_bytes_nil w src e hs he 0 c dst hd
  | some a =>
   obtain ⟨b,off,s⟩:=a
   rw [run_convert_bytes_string w src dst e _ 0 c hs he hd]
   rw [run_bytesToString w _ 0 c [] (by simpa using run_loadCells_list (P:=P) w ⟨b,off,s⟩ [] (fun j v hj=>by simp at hj))]
   rfl
 ·obtain ⟨b,off,rfl,_,hc⟩:=h.at_ h0
  exact run_convert_bytes_arg w src e hs he b off n c zs hl hc dst hd
theorem zbh {w:World} {s n:Nat} {t:TypeId} {zs:List Int} {k:IntKind} (h:Blk w s t (zs.map (Value.int k)).toArray) (hl:zs.length=n) (hm:n≤maxLen) (hw:∀ z ∈ zs,(Lit.int k z).wf=true):RdI w k (some ⟨s,0,none⟩) n n zs :=
 ⟨hl,Nat.le_refl _,hm,fun _=>⟨s,0,rfl,lt_of_block h,fun i hi=>by
  rw [zag h]
  simp [List.getD,show i<zs.length by omega]⟩,hw⟩
theorem zgD (zs:List Int):(strOfNums zs).size=zs.length:=strOfNums_size zs
theorem zfR {z:Int} (h:(Lit.int .u8 z).wf=true):0≤z∧z≤255:=by
 simp [Lit.wf,IntKind.min,IntKind.max,IntKind.signed,IntKind.bits] at h
 omega
theorem zbK {z:Int} (h:0≤z∧z≤255):(Lit.int .u8 z).wf=true:=by
 simp [Lit.wf,IntKind.min,IntKind.max,IntKind.signed,IntKind.bits]
 omega
end
end Go.Proofs.YtannniobeanhlaaGreat
