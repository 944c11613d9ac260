import Derived.Test.YtannniobeanhlaaGreatProg
import Derived.Test.YtannniobeanhlaaGreatZMap
import Derived.DeepKeys4
set_option linter.unusedSimpArgs false
set_option linter.unusedVariables false
set_option maxRecDepth 100000
set_option maxHeartbeats 9000000
namespace Go.Proofs.YtannniobeanhlaaGreat.Mg
open Go Go.RowKit Go.Maps Go.ChangeShapes Go.WideShapes
open Go.ChangeMaps (setBlock heap_setBlock_same heap_setBlock_other)
section
variable {P:Program} {k:TypeId} {α:Type} {C:KC P k α} {w w':World} {b c:Nat} {M:α→Option Value} {t e:TypeId}
theorem MapS.clear (ht:P.underlying t=some (.map k e)) (h:MapS C w b c M) :
  ∃ w',(∀ ty:TypeId,(Builtin.clear_ #[t] ty #[.map (some b)]).run P w=.ok (.tuple #[]) w')∧MapS C w' b 0 (fun _=>none)∧Fr (fun k=>k=b) w w':=by
 obtain ⟨D,⟨es,clock,hb,F,hs,hD⟩,h2,h3⟩:=h
 have hz:(setBlock w b (.map #[] clock)).heap.size=w.heap.size:=by simp [setBlock]
 refine ⟨setBlock w b (.map #[] clock),?_,⟨.map [],⟨#[],clock,heap_setBlock_same hb _,⟨by simp,MapKept.stamped_empty _,by simp⟩,Nat.le_refl _,rfl⟩,rfl,⟨fun _ _=>rfl,(fun _ _ _ h=>by cases h)⟩⟩,?_⟩
 ·intro ty
  simp [Builtin.clear_,run_underlying ht,MapKept.run_getObj_map hb,MapKept.run_setObj_map _ hb,Result.andThen,setBlock]
 ·exact ⟨rfl,rfl,rfl,by rw [hz];exact Nat.le_refl _,fun k _ hk=>by simp [setBlock,Array.getElem?_setIfInBounds,show ¬ b=k from fun e=>hk e.symm]⟩
end
end Go.Proofs.YtannniobeanhlaaGreat.Mg
namespace Go.Proofs.YtannniobeanhlaaGreat
open Go Go.RowKit Go.Maps
open Go.WideMaps (KeyLaw)
structure Who where
 r:Int
 s:ByteArray
 ok:(Lit.int .i64 r).wf=true∧s.size≤maxLen
theorem Who.ext {x y:Who} (h1:x.r=y.r) (h2:x.s=y.s):x=y:=by
 obtain ⟨a,b,c⟩:=x
 obtain ⟨d,e,f⟩:=y
 dsimp only at h1 h2
 subst h1 h2
 rfl
instance:DecidableEq Who:=fun x y=>if h:x.r=y.r∧x.s=y.s then isTrue (Who.ext h.1 h.2) else isFalse (fun e=>h (by rw [e];exact ⟨rfl,rfl⟩))
def whoV (x:Who):Value:=.agg #[.int .i64 x.r,.string x.s]
def whoL (x:Who):Lit:=.string (keyBytes [.int .i64 x.r,.string x.s.data.toList])
theorem zkI:laidOutB Tryz.prog=true:=by kernel_rfl
theorem who_law:KeyLaw Tryz.prog 103:=deep_law_laid zkI (m:=2) (by omega) (of_decide_eq_true (by kernel_rfl)) (by kernel_rfl) (by rw [Tryz.underlying103])
theorem zfT:Tryz.prog.cellsOf 103=2:=by kernel_rfl
theorem zld:Tryz.prog.cellsOf 3=1:=by kernel_rfl
theorem zle:Tryz.prog.cellsOf 9=1:=by kernel_rfl
theorem zmQ:Tryz.prog.keyType 103=true:=by kernel_rfl
theorem zgL:∃ m,Tryz.prog.types.size=m+1:=by
 have h:0<Tryz.prog.types.size:=of_decide_eq_true (by kernel_rfl)
 exact ⟨_,(Nat.sub_add_cancel h).symm⟩
theorem zfU (x:Who):keyOf Tryz.prog 103 (whoV x)=some (whoL x):=by
 obtain ⟨r,s,h1,h2⟩:=x
 obtain ⟨m,hm⟩:=zgL
 have u3:=Tryz.underlying3
 have u9:=Tryz.underlying9
 unfold whoV whoL keyOf
 simp only [Tryz.underlying103]
 rw [if_pos (by simp [zmQ,Value.formed,Tryz.underlying103,zfT]),hm]
 unfold Program.keyLits
 simp only [Tryz.underlying103,Value.cells]
 rw [if_pos (by rw [zfT];exact ⟨rfl,by simp⟩)]
 simp [zld,zle,Program.keyLits,u3,u9,h1,h2]
theorem zkH (v:Value) (l:Lit) (h:keyOf Tryz.prog 103 v=some l):∃ x:Who,v=whoV x∧l=whoL x:=by
 obtain ⟨xs,L,rfl,hl,rfl⟩:=keyOf_top (by rw [Tryz.underlying103]) h
 obtain ⟨m,hm⟩:=zgL
 have u3:=Tryz.underlying3
 have u9:=Tryz.underlying9
 rw [hm] at hl
 unfold Program.keyLits at hl
 simp only [Tryz.underlying103] at hl
 split at hl
 ·rename_i hc
  obtain ⟨xl⟩:=xs
  have hlen:xl.length=2:=by rw [← zfT];exact hc.1
  match xl,hlen with
  | [a,b],_ =>
   simp [zld,zle] at hl
   cases q1:Tryz.prog.keyLits (m+1) 3 [a] with
   | none=>simp [q1] at hl
   | some l1 =>
    cases q2:Tryz.prog.keyLits (m+1) 9 [b] with
    | none=>simp [q1,q2] at hl
    | some l2 =>
     simp [q1,q2] at hl
     obtain ⟨n,e1,e2⟩:=keyLits_int' u3 q1
     obtain ⟨s,e3,e4⟩:=keyLits_string' u9 q2
     injection e1 with e1 _
     injection e3 with e3 _
     subst e1 e3 e2 e4 hl
     simp [Program.keyLits,u3] at q1
     simp [Program.keyLits,u9] at q2
     exact ⟨⟨n,s,q1,q2⟩,rfl,rfl⟩
 ·cases hl
theorem zgK {s t:Who} (h:whoV s=whoV t):s=t:=by
 unfold whoV at h
 injection h with h
 injection h with h
 injection h with e1 h
 injection h with e2 _
 injection e1 with _ e1
 injection e2 with e2
 exact Who.ext e1 e2
def whoC:Mg.KC Tryz.prog 103 Who where
 vl:=whoV
 kl:=whoL
 ok:=fun _=>True
 keyed:=Keyed.of_law who_law
 inj:=fun {s t} h=>zgK (who_law.inj (zfU s) (by rw [h];exact zfU t))
 isKey:=fun s=>by unfold WideAt.IsKeyLit whoL;simp
 vinj:=zgK
 kmk:=fun s _=>zfU s
 back:=fun v l h=>by obtain ⟨x,h1,h2⟩:=zkH v l h;exact ⟨x,h1,h2,trivial⟩
end Go.Proofs.YtannniobeanhlaaGreat
