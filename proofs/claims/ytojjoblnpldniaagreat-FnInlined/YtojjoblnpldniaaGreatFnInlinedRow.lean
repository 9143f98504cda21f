/- Proved here: FnInlined answers true for every slice of bytes and leaves it as it was, with no condition on it. -/
import Derived.Test.YtojjoblnpldniaaGreatJ20
open Go.Proofs.Tryz
set_option linter.defProp false
namespace Go.Proofs.YtojjoblnpldniaaGreat.fnInlined
open Go.Sort
open ChangeShapes WideShapes ChangeAt RowKit
open Pl
set_option linter.unusedVariables false
def own:ownKnob prog.godebug=none:=by kernel_rfl
def laidOut:laidOutB prog=true:=by kernel_rfl
set_option maxRecDepth 100000 in
def lifted(os:Os)(started:os.Started)(H:Type)(enc:TypeId×Value->H):
  ReturnsInHanded {} Tryz.checked os 7 .any (Rows.fnInlinedSpec.pre6 enc prog Tryz.f7 Rows.fnInlinedRow.domain false) (Rows.fnInlinedSpec.post enc prog Tryz.f7 false true false false):=by
 refine returnsInHanded_of_change_shaped (C:=Tryz.checked) own started (by kernel_rfl) func7
  (ChangeSpec.witness6 (enc:=enc) (C:=Tryz.checked) false ⟨#[],#[.slice none 0 0],[]⟩ 8 (by kernel_rfl) (by kernel_rfl) (by kernel_rfl) (by kernel_rfl)) ?_
 intro W base args ds gs before hval0 hW hcnd _ hsh _;have hval:∀(j:Nat) t v,Tryz.f7.params[j]?=some t->args[j]?=some v->Value.okWide prog W .any base t v:=hval0;have hW':=hW;obtain⟨p,q,hA0,hV,rfl,hfz,hnd⟩:=hW;have hA:DataW.TrodAll enc prog W 0 (fun _=>true) true Tryz.f7.params.toList args.toList ds p:=hA0;rw[Tryz.params7]at hA hval;obtain⟨v0,vs0,d0,ds0,p0,q0,hargs,rfl,rfl,h0,r0⟩:=trodAll_cons hA;obtain⟨rfl,rfl,rfl⟩:=trodAll_nil r0;obtain rfl:args=#[v0]:=by cases args;simp_all
 obtain⟨rfl,rfl⟩:=trodVars_none hV;have k0:=h0;have lt0:∀x∈p0,x.block<W.heap.size:=by obtain⟨m,hm⟩:=k0;exact DataW.trod_lt m _ _ _ hm
 obtain⟨ad0,len0,cap0,hv0⟩:=okWide_slice underlying22<|hval 0 22 v0 rfl rfl;subst hv0;obtain⟨fuel0,hf0⟩:=h0;have hby0:=KA (by simpa[Value.cells] using hf0);clear hA0 hval0
 haveI:DecidableEq Fc:=fun x y=>Classical.propDecidable<|x=y
 refine(walk ad0 len0 cap0 W hby0).mono fun e W' ⟨he,bel⟩=>?_;subst he;exact⟨_,rfl,_,_,_,[],_,[],hW',trodAll_mk1<|shut_bool underlying4 _,(trodAll_cons_mk (Below.trod laidOut (by kernel_rfl) (of_decide_eq_true<|by kernel_rfl) k0 bel lt0) trodAll_mk0),rfl,bel.frame _,fun h=>by cases h⟩
def i1:(Rows.fnInlinedRow.inPlace==Tryz.pinned.checked.prog.inPlace 7)=true:=by kernel_rfl
def i2:(Rows.fnInlinedRow.unfollowed==Tryz.pinned.checked.prog.unfollowed 7)=true:=by kernel_rfl
def i3:(Rows.fnInlinedRow.recurses==Tryz.pinned.checked.prog.recurses 7)=true:=by kernel_rfl
def i4:(Rows.fnInlinedRow.named==Tryz.pinned.checked.prog.varsNamed 7)=true:=by kernel_rfl
def cl:joinedFacts Tryz.pinned.checked.prog 7 Tryz.f7 Rows.fnInlinedSpec Rows.fnInlinedRow=true:=by unfold joinedFacts;rewrite [i1,i2,i3,i4];kernel_rfl
def wr:Tryz.f7.isWrapper Tryz.pinned.checked.prog Rows.fnInlinedRow.wrapper Rows.fnInlinedRow.mainSum:=by unfold Func.isWrapper;first|(rw[if_pos (by decide +kernel)];kernel_rfl)|(rw[if_neg (by decide +kernel)];exact⟨rfl,rfl⟩)
def over:Rows.fnInlinedRow.holds Tryz.pinned (OpenSpec.ofChange Rows.fnInlinedSpec) :=
 OpenClaim.holds_of_wide 7 Tryz.f7 rfl rfl rfl rfl rfl rfl rfl ⟨rfl,rfl,rfl,rfl,rfl⟩ rfl rfl rfl rfl rfl (by kernel_rfl) func7 cl
  (of_decide_eq_true<|by kernel_rfl) wr
  (fun os started H enc _=>lifted os started H enc)
end Go.Proofs.YtojjoblnpldniaaGreat.fnInlined
namespace Go.Proofs.YtojjoblnpldniaaGreat
theorem FnInlined_holds:Rows.FnInlinedSaid:=fnInlined.over
end Go.Proofs.YtojjoblnpldniaaGreat
