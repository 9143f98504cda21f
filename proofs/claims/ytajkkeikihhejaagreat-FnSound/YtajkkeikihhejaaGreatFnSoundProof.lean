/- Proved here: FnSound answers true for every slice of bytes and leaves it as it was, with no condition on it. -/
import Derived.Test.YtajkkeikihhejaaGreatSq
import Derived.Test.YtajkkeikihhejaaGreatJ23
import Derived.OpenShut
import Derived.ShutString
import Derived.HandedShaped
open Go.Proofs.Tryz
set_option maxHeartbeats 80000000
namespace Go.Proofs.YtajkkeikihhejaaGreat.fnSound
open ChangeShapes WideShapes ChangeAt RowKit
open Pl
set_option linter.unusedVariables false
structure St(w:World)(Xk:Q02)(g:Nat)(WY:Q02)(rs:Q06)(ts:Q05)(L:Q04)(W:World):Prop where
 bel:ae w W
 sl:j5 W Xk rs
 tu:Sl W (some ⟨g,0,none⟩) ts
 li:kw W WY L
theorem St.later{w W W':af}{Xk:Q02}{g:Nat}{WY:Q02}{rs:Q06}{ts:Q05}{L:Q04}(h:St w Xk g WY rs ts L W)(hb:ae W W'):St w Xk g WY rs ts L W' :=
 ⟨h.bel.trans (hb.mono h.bel.size),h.sl.below hb,h.tu.below hb,h.li.below hb⟩
set_option maxRecDepth 100000 in
theorem walk[DecidableEq Fc](ad:Q02)(len cap:Nat)(w:af)(h:Bytes w ad len):
  Calls prog 6 #[.slice ad len cap] w fun e w'=>e=.returned (.bool true)/\ae w w':=by
 have H:=gF h;clear h;go_enter func6,ntmps6;go_wp2_with fail;refine(RA ad len cap w).mono ?_;rintro e w0 ⟨rfl,rfl⟩;by_cases hbig:(1048576:Int)<(len:Int)
 ·go_wp2;go_ret;exact⟨rfl,Vb _ _⟩
 go_wp2_with fail;refine(zl ad len cap _ H.out).mono ?_;rintro e w1 ⟨v,rs,g,c,ts,WY,Wz,L,rfl,hT,⟨hG1,hG2,hG3⟩,hl9,hsh,YP,Y4,hLc,hLs,hown,hb1⟩;obtain⟨Xk,WV,rfl,hs1,hcp⟩:=hT.read;obtain⟨hrow,hg,-,-⟩:=lZ hown rfl;have K1:Hid (St w0 Xk g WY rs ts L w1):=⟨hb1,hs1,.inr ⟨g,0,rfl,hg,hrow⟩,hLs⟩;have hlen:rs.length<=1048576:=by omega
 have hlt:ts.length<=1048576:=by omega
 have hll:L.length<=1048576:=by omega
 obtain⟨st,hst0⟩:=Tj (ag rs);have Xl:=gF hst0;have HL:=gF hG2;have HF:=gF hG3;have HC:=gF hcp;have WE:=gF hsh.fits;have Z9:=gF YP;clear hT hG2 hG3 hcp hb1 hs1 hbig hown hsh hrow hg H hst0 YP hLs;go_wp2_with fail;refine(qp st Xk WV rs _ c ts WY Wz L _ hlen K1.out.sl HL.out HF.out HC.out hlt K1.out.tu WE.out hll K1.out.li Z9.out Xl.out).mono ?_;rintro e w2 ⟨rfl,hb2⟩;have K2:=gF (K1.out.later hb2);clear hb2 K1;obtain⟨q,hq⟩:∃q,lc st rs ts L=q:=⟨_,rfl⟩;have HIS:=gF hq;rw[hq];clear hq;go_wp2_with fail;refine(qo st Xk WV rs _ c ts WY Wz L _ hlen K2.out.sl HL.out HF.out hlt K2.out.tu WE.out hll hLc K2.out.li Z9.out Xl.out).mono ?_;rintro e w3 ⟨rfl,hb3⟩;have K3:=gF (K2.out.later hb3);rw[HIS.out];clear hb3 K2;cases q;case false=>
  go_wp2_with fail;refine(qo st Xk WV rs _ c ts WY Wz L _ hlen K3.out.sl HL.out HF.out hlt K3.out.tu WE.out hll hLc K3.out.li Z9.out Xl.out).mono ?_;rintro e w4 ⟨rfl,hb4⟩;have HBe:=gF (K3.out.later hb4).bel;rw[HIS.out];clear hb4;go_wp2;go_ret;exact⟨rfl,HBe.out⟩
 have h1:1<=L.length:=(uN HIS.out).2.1;have HPF:=gF (N8 Xl.out HIS.out);go_wp2_with fail;go_loopw[7] (fun i wr=>∃k:Nat,k<=L.length/\i=.int .i64 k/\Hid (ae w3 wr)) (fun i _=>L.length-(intOf i).toNat);case atStart=>exact⟨0,Vf _,rfl,Vb _ _⟩
 obtain⟨k,hk,rfl,HB⟩:=hrel;have hi1:=bC k;have KR:=gF (K3.out.later HB.out);by_cases hlk:k<L.length
 ·have hi2:(k:Int)<(L.length:Int):=by omega
  have HTR:=gF (HPF.out k hlk);obtain⟨b,off,Wt,⟨t0,t1,t2,t3,t4⟩,hbl⟩:=kw.at0 KR.out.li hlk;obtain⟨x,hx⟩:∃x,x=L[k]:=⟨_,rfl⟩;rw[<-hx]at t0 t1 t2 t3 t4 HTR;rw[Wt];clear hx;go_wp2_with fail;rw[<-Wt];refine(CS st Xk WV rs _ c ts x _ hlen KR.out.sl HL.out HF.out HC.out hlt KR.out.tu WE.out Xl.out).mono ?_;rintro e w5 ⟨rfl,hb5⟩;rw[HTR.out];have XH:=gF (HB.out.trans (hb5.mono HB.out.size));clear hb5 t0 t1 t2 t3 t4;go_wp2;go_roundw;case rel=>exact⟨k+1,by omega,by go_num,XH⟩
  simp[intOf]<;>omega
 have hi2:¬((k:Int)<(L.length:Int)):=by omega
 have hwr:IntKind.i64.wrap ((L.length:Int)-1)=(L.length:Int)-1:=by rw[IntKind.wrap_i64]<;>omega
 obtain⟨n,hn⟩:∃n,L.length=n+1:=⟨L.length-1,by omega⟩;have hsub:(L.length:Int)-1=(n:Int):=by omega
 by_cases hn0:n=0
 ·have hz:((n:Int)==0)=true:=by rw[hn0];rfl
  clear hn hn0;go_wp2;go_ret;exact⟨rfl,KR.out.bel⟩
 have hz:((n:Int)==0)=false:=by simpa using hn0
 have hz2:¬(n:Int)=0:=by omega
 have hq1:=bC n;have hq2:(n:Int)<=(Wz:Int):=by omega
 have hq3:n<=Wz:=by omega
 have hdl:(L.take n).length=n:=by rw[Vz];omega
 have HLS:=gF (Rb HIS.out (n:=n) (by omega) (by omega));have hC:=qp st Xk WV rs _ c ts WY Wz (L.take n) wr hlen KR.out.sl HL.out HF.out HC.out hlt KR.out.tu WE.out (by omega) (KR.out.li.takeF n) (fun x hx=>Z9.out x (List.mem_of_mem_take hx)) Xl.out;rw[hdl,HLS.out]at hC;have XD:=gF hC;clear hn hn0 hdl hC;go_wp2_with fail;refine XD.out.mono ?_;rintro e w5 ⟨rfl,hb5⟩;have HBe:=gF (KR.out.later hb5).bel;clear hb5;go_wp2;go_ret;exact⟨rfl,HBe.out⟩
theorem own:ownKnob prog.godebug=none:=by kernel_rfl
theorem laidOut:laidOutB prog=true:=by kernel_rfl
set_option maxRecDepth 100000 in
theorem lifted(os:Os)(started:os.Started)(H:Type)(enc:TypeId×Value->H):
  ReturnsInHanded {} Tryz.checked os 6 .any (Rows.fnSoundSpec.pre6 enc prog Tryz.f6 Rows.fnSoundRow.domain false) (Rows.fnSoundSpec.post enc prog Tryz.f6 false true false false):=by
 refine returnsInHanded_of_change_shaped (C:=Tryz.checked) own started (by kernel_rfl) func6
  (ChangeSpec.witness6 (enc:=enc) (C:=Tryz.checked) false ⟨#[],#[.slice none 0 0],[]⟩ 8 (by kernel_rfl) (by kernel_rfl) (by kernel_rfl) (by kernel_rfl)) ?_
 intro W base args ds gs before hval0 hW hcnd _ hsh _;have hval:∀(j:Nat) t v,Tryz.f6.params[j]?=some t->args[j]?=some v->Value.okWide prog W .any base t v:=hval0;have hW':=hW;obtain⟨p,q,hA0,hV,rfl,hfz,hnd⟩:=hW;have hA:DataW.TrodAll enc prog W 0 (fun _=>true) true Tryz.f6.params.toList args.toList ds p:=hA0;rw[Tryz.params6]at hA hval;obtain⟨v0,vs0,d0,ds0,p0,q0,hargs,rfl,rfl,h0,r0⟩:=trodAll_cons hA;obtain⟨rfl,rfl,rfl⟩:=trodAll_nil r0;obtain rfl:args=#[v0]:=by cases args;simp_all
 obtain⟨rfl,rfl⟩:=trodVars_none hV;have k0:=h0;have lt0:∀x∈p0,x.block<W.heap.size:=by obtain⟨m,hm⟩:=k0;exact DataW.trod_lt m _ _ _ hm
 obtain⟨ad0,len0,cap0,hv0⟩:=okWide_slice underlying22 (hval 0 22 v0 rfl rfl);subst hv0;obtain⟨fuel0,hf0⟩:=h0;have hby0:=JA (by simpa[Value.cells] using hf0);clear hA0 hval0
 haveI:DecidableEq Fc:=fun x y=>Classical.propDecidable (x=y)
 refine(walk ad0 len0 cap0 W hby0).mono fun e W' ⟨he,bel⟩=>?_;subst he;exact⟨_,rfl,_,_,_,[],_,[],hW',trodAll_mk1 (shut_bool underlying4 _),(trodAll_cons_mk (Below.trod laidOut (by kernel_rfl) (of_decide_eq_true (by kernel_rfl)) k0 bel lt0) trodAll_mk0),rfl,bel.frame _,fun h=>by cases h⟩
theorem over:Rows.fnSoundRow.holds Tryz.pinned (OpenSpec.ofChange Rows.fnSoundSpec) :=
 OpenClaim.holds_of_wide 6 Tryz.f6 rfl rfl rfl rfl rfl rfl rfl ⟨rfl,rfl,rfl,rfl,rfl⟩ rfl rfl rfl rfl rfl (by kernel_rfl) func6 (by kernel_rfl)
  (of_decide_eq_true (by kernel_rfl)) (by unfold Func.isWrapper;first|(rw[if_pos (by decide +kernel)];kernel_rfl)|(rw[if_neg (by decide +kernel)];exact⟨rfl,rfl⟩))
  (fun os started H enc _=>lifted os started H enc)
end Go.Proofs.YtajkkeikihhejaaGreat.fnSound
namespace Go.Proofs.YtajkkeikihhejaaGreat
theorem FnSound_holds:Rows.FnSoundSaid:=fnSound.over
end Go.Proofs.YtajkkeikihhejaaGreat
