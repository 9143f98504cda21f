/- Proved here: FnFollows answers true for every slice of bytes and leaves it as it was, with no condition on it. -/
import Derived.Test.YtajkkeikihhejaaGreatSq
import Derived.Test.YtajkkeikihhejaaGreatJ36
import Derived.Test.YtajkkeikihhejaaGreatJ38
import Derived.OpenShut
import Derived.ShutString
import Derived.HandedShaped
open Go.Proofs.Tryz
set_option maxHeartbeats 80000000
namespace Go.Proofs.YtajkkeikihhejaaGreat.fnFollows
open ChangeShapes WideShapes ChangeAt RowKit
open Pl
set_option linter.unusedVariables false
structure St(w:World)(WQ:Q02)(g gK capK n:Nat)(rs:Q06)(ts:Q05)(ks:Q04)(f:Fc)(W:World):Prop where
 bel:ae w W
 sl:kU W WQ rs
 tu:Sl W (some ⟨g,0,none⟩) ts
 kn:W.ownsRow w.heap.size 29 5 (.slice (some ⟨gK,0,none⟩) ks.length capK) ks.length (aA ks)
 lt:n<W.heap.size
 bx:W.cell? ⟨n,0,none⟩=some (.string f.a)/\W.cell? ⟨n,1,none⟩=some (.string f.b)/\W.cell? ⟨n,2,none⟩=some (.string f.r)/\W.cell? ⟨n,3,none⟩=some (.string f.c)/\W.cell? ⟨n,4,none⟩=some (.string f.d)
theorem St.later{w W W':af}{WQ:Q02}{g gK capK n:Nat}{rs:Q06}{ts:Q05}{ks:Q04}{f:Fc}(h:St w WQ g gK capK n rs ts ks f W)(hb:ae W W'):St w WQ g gK capK n rs ts ks f W' :=
 ⟨h.bel.trans (hb.mono h.bel.size),h.sl.below hb,h.tu.below hb,aY h.kn hb,UT h.lt hb.size,by
  obtain⟨c0,c1,c2,c3,c4⟩:=h.bx;have hk:=fun o=>hb.cell (p:=⟨n,o,none⟩) h.lt;exact⟨(hk _).trans c0,(hk _).trans c1,(hk _).trans c2,(hk _).trans c3,(hk _).trans c4⟩⟩
theorem St.slk{w W:af}{WQ:Q02}{g gK capK n:Nat}{rs:Q06}{ts:Q05}{ks:Q04}{f:Fc}(h:St w WQ g gK capK n rs ts ks f W):o8 W (some ⟨gK,0,none⟩) ks:=by
 obtain⟨_,_,e,hs⟩:=iP h.kn;injection e with e1 e2 e3;subst e1;exact hs
theorem QT{T:Type}{p:T->Bool}{l:List T}{k:Nat}(h:k<l.length):(l.take (k+1)).all p=((l.take k).all p&&p l[k]):=by
 rw[UX h,VV];simp
set_option maxRecDepth 100000 in
theorem walk[DecidableEq Fc](ad:Q02)(len cap:Nat)(w:af)(h:Bytes w ad len):
  Calls prog 7 #[.slice ad len cap] w fun e w'=>e=.returned (.bool true)/\ae w w':=by
 have H:=dX h;clear h;go_enter func7,ntmps7;go_wp2_with fail;refine(Ro ad len cap w).mono ?_;rintro e w0 ⟨rfl,rfl⟩;by_cases hbig:(1048576:Int)<(len:Int)
 ·go_wp2;go_ret;exact⟨rfl,UV _ _⟩
 go_wp2_with fail;refine(yY ad len cap _ H.out).mono ?_;rintro e w1 ⟨v,rs,g,c,ts,gK,capK,ks,f,rfl,hT,⟨hG1,hG2,hG3⟩,hl9,hsh,hkf,hkl,hko,hff,hown,hb1⟩;obtain⟨WQ,WG,rfl,hs1,hcp⟩:=hT.read;obtain⟨hrow,hg,-,-⟩:=nk hown rfl;obtain⟨W1,hW1⟩:∃W1,W1=w1.alloc (.cells #[.string f.a,.string f.b,.string f.r,.string f.c,.string f.d] 29):=⟨_,rfl⟩;have ZK:ae w1 W1:=by rw[hW1];exact(UV _ _).alloc (UU _) _
 have K1:Hid (St w0 WQ g gK capK w1.heap.size rs ts ks f W1):=by
  refine⟨hb1.trans (ZK.mono hb1.size),hs1.below ZK,Sl.below (.inr ⟨g,0,rfl,hg,hrow⟩) ZK,aY hko ZK,by rw[hW1];simp,?_⟩;refine⟨?_,?_,?_,?_,?_⟩<;>(rw[hW1];simp)
 have hlen:rs.length<=1048576:=by omega
 have hlt:ts.length<=1048576:=by omega
 have hk1:ks.length<=1048576:=by omega
 obtain⟨st,hst0⟩:=SI (ag rs);have WR:=dX hst0;have HL:=dX hG2;have HF:=dX hG3;have HC:=dX hcp;have Wl:=dX hsh.fits;have Yy:=dX hff;have ZG:=dX hkf;clear hT hG2 hG3 hcp hb1 hs1 hbig hown hsh hff hrow hg ZK H hst0 hkf hko;obtain⟨x0,x1,x2,x3,x4⟩:=K1.out.bx;go_wp2_with fail;rw[<-hW1];clear hW1;refine(pY st WQ WG rs _ c ts _ capK ks f _ hlen K1.out.sl HL.out HF.out HC.out hlt K1.out.tu Wl.out hk1 K1.out.slk ZG.out Yy.out WR.out).mono ?_;rintro e w2 ⟨rfl,hb2⟩;have K2:=dX (K1.out.later hb2);clear hb2 K1 x0 x1 x2 x3 x4;obtain⟨x0,x1,x2,x3,x4⟩:=K2.out.bx;obtain⟨q,hq⟩:∃q,mQ st rs ts ks f=q:=⟨_,rfl⟩;have HIS:=dX hq;rw[hq];clear hq;go_wp2_with fail;refine(pX st WQ WG rs _ c ts _ capK ks f _ hlen K2.out.sl HL.out HF.out hlt K2.out.tu Wl.out hk1 K2.out.slk Yy.out WR.out).mono ?_;rintro e w3 ⟨rfl,hb3⟩;have K3:=dX (K2.out.later hb3);rw[HIS.out];clear hb3 K2 x0 x1 x2 x3 x4;cases q;case false=>
  obtain⟨x0,x1,x2,x3,x4⟩:=K3.out.bx;go_wp2_with fail;refine(pX st WQ WG rs _ c ts _ capK ks f _ hlen K3.out.sl HL.out HF.out hlt K3.out.tu Wl.out hk1 K3.out.slk Yy.out WR.out).mono ?_;rintro e w4 ⟨rfl,hb4⟩;have HBe:=dX (K3.out.later hb4).bel;rw[HIS.out];clear hb4;go_wp2;go_ret;exact⟨rfl,HBe.out⟩
 have h200:ks.length<=200:=(pO HIS.out).2.2.1;go_wp2_with fail;go_loopw[8,9] (fun vb i wr=>∃k:Nat,k<=ks.length/\i=.int .i64 k/\vb=.bool ((ks.take k).all fun x=>bB (aO st rs ts) x)/\Hid (ae w3 wr)) (fun _ i _=>ks.length-(intOf i).toNat);case atStart=>exact⟨0,UY _,rfl,rfl,UV _ _⟩
 obtain⟨k,hk,rfl,rfl,HB⟩:=hrel;have hi1:=bG k;have KR:=dX (K3.out.later HB.out);by_cases hlk:k<ks.length
 ·have hi2:(k:Int)<(ks.length:Int):=by omega
  have HD:=dX (QT (p:=fun x=>bB (aO st rs ts) x) hlk);obtain⟨A,hA⟩:∃A,((ks.take k).all fun x=>bB (aO st rs ts) x)=A:=⟨_,rfl⟩;rw[hA]at HD ⊢;clear hA;cases A;case false=>
   go_wp2;go_roundw;case rel=>exact⟨k+1,by omega,by go_num,by rw[HD.out];rfl,HB⟩
   simp[intOf]<;>omega
  obtain⟨b,off,V6,⟨t0,t1,t2,t3,t4⟩,hbl⟩:=o8.at0 KR.out.slk hlk;injection V6 with V6;injection V6 with e1 e2 e3;subst e1 e2;simp only[Vj]at t0 t1 t2 t3 t4;obtain⟨x,hx⟩:∃x,x=ks[k]:=⟨_,rfl⟩;rw[<-hx]at t0 t1 t2 t3 t4 HD;clear hx;go_wp2_with fail;refine(tq st WQ WG rs _ c ts x _ hlen KR.out.sl HL.out HF.out HC.out hlt KR.out.tu Wl.out WR.out).mono ?_;rintro e w5 ⟨rfl,hb5⟩;have Xt:=dX (HB.out.trans (hb5.mono HB.out.size));clear hb5 t0 t1 t2 t3 t4;go_wp2;go_roundw;case rel=>exact⟨k+1,by omega,by go_num,by rw[HD.out];rfl,Xt⟩
  simp[intOf]<;>omega
 have hi2:¬((k:Int)<(ks.length:Int)):=by omega
 obtain rfl:k=ks.length:=by omega
 obtain⟨A,hA⟩:∃A,((ks.take ks.length).all fun x=>bB (aO st rs ts) x)=A:=⟨_,rfl⟩;have HTH:Hid (A=true->bB (aO st rs ts) f=true):=fun h=>by
  rw[Va]at hA;exact KH WR.out HIS.out fun x hx=>U5.1 (hA.trans h) x hx
 rw[hA];obtain⟨w4,hw4⟩:∃w4,w4=wr:=⟨_,rfl⟩;rw[<-hw4]at KR ⊢;clear hA hw4 HB K3;obtain⟨iF,h0,h1,h2,h3⟩:=pq;have XN:=dX (And.intro h0 (And.intro h1 (And.intro h2 h3)));obtain⟨W5,WL⟩:∃W5,W5=w4.alloc (.cells #[.string f.a,.string f.b,.string f.r,.string f.c,.string f.d] 29):=⟨_,rfl⟩;have Wm:Hid (W5.ownsRow w4.heap.size 29 5 (.slice (some ⟨w4.heap.size,0,none⟩) 1 1) 1 f.row):=by
  show World.ownsRow _ _ _ _ _ _ _;rw[WL];exact World.ownsRow_lit w4 #[.string f.a,.string f.b,.string f.r,.string f.c,.string f.d] 1 (UU _) (by unfold maxLen;omega) (by simp)
 have hb5:ae w4 W5:=by rw[WL];exact(UV _ _).alloc (UU _) _
 have Xt:=dX hb5;have HN5:Hid (∀j u,(aA ks)[j]?=some u->W5.cell? ((⟨gK,0,none⟩:Addr).add j)=some u):=by
  have h:=uA (KR.out.later hb5).kn ks.length (UU _);rw[Va]at h;exact h
 have hsz5:w4.heap.size<=W5.heap.size:=hb5.size;obtain⟨x0,x1,x2,x3,x4⟩:=KR.out.bx;have xl:=KR.out.lt;clear h0 h1 h2 h3 hb5;go_wp2_with(at_builtin;rw[<-WL];clear WL;refine wpList_append_own_at _ rfl _ _ 40 rfl w4.heap.size 29 iF (.agg #[.string ⟨#[]⟩,.string ⟨#[]⟩,.string ⟨#[]⟩,.string ⟨#[]⟩,.string ⟨#[]⟩]) 5 80 underlying40 XN.out.1 XN.out.2.1 XN.out.2.2.1 XN.out.2.2.2 rfl (by decide) _ 1 f.row rfl Wm.out ⟨gK,0,none⟩ ks.length capK (aA ks) rfl (j6 ks) HN5.out (rA ks) (by unfold maxLen;omega) (by omega) hsz5 ?_);intro v' w6 hown hgr _ _;have hown2:w6.ownsRow w4.heap.size 29 5 v' (f::ks).length (aA (f::ks)):=by
  rw[Vq,Nat.add_comm];exact hown
 obtain⟨adM,capM,rfl,hsM⟩:=iP hown2;have HSM:=dX hsM;have K6:=dX (KR.out.later (Xt.out.grown hgr Xt.out.size (fun g hg=>(Wm.out.lt g hg).1)));obtain⟨ms,hms⟩:∃ms,ms=f::ks:=⟨_,rfl⟩;have HMF:Hid (∀x∈ms,x.fits):=fun x hx=>by
  rw[hms]at hx;rcases U9.1 hx with rfl|hx
  ·exact Yy.out
  exact ZG.out x hx
 have HMQ:Hid (ms.length<=200->mQ st rs ts ms f=true):=fun h=>NN HIS.out (fun x hx=>by rw[hms];exact Vv _ hx) h;have hm201:ms.length<=201:=by rw[hms];simp;omega
 rw[<-hms]at HSM ⊢;clear hown hown2 hgr hsM hms Wm HN5 Xt KR x0 x1 x2 x3 x4 xl XN;obtain⟨x0,x1,x2,x3,x4⟩:=K6.out.bx;by_cases hm2:ms.length<=200
 case' neg =>
  have hd1:(200:Int)<(ms.length:Int):=by omega
  have hd2:decide (200<ms.length)=true:=by simp;omega
  obtain⟨w7,hw7⟩:∃w7,w7=w6:=⟨_,rfl⟩;rw[<-hw7]at K6 ⊢;have K7:=K6;clear hw7 K6
 case' pos =>
  have hd1:¬(200:Int)<(ms.length:Int):=by omega
  have hd2:decide (200<ms.length)=false:=by simp;omega
  go_wp2_with fail;refine(pY st WQ WG rs _ c ts adM capM ms f _ hlen K6.out.sl HL.out HF.out HC.out hlt K6.out.tu Wl.out (by omega) HSM.out HMF.out Yy.out WR.out).mono ?_;rintro e w7 ⟨rfl,ZU⟩;rw[HMQ.out hm2];have K7:=dX (K6.out.later ZU);clear ZU K6
 all_goals
  clear x0 x1 x2 x3 x4;obtain⟨x0,x1,x2,x3,x4⟩:=K7.out.bx;cases A;case false=>
   go_wp2;go_ret;exact⟨rfl,K7.out.bel⟩
  go_wp2_with fail;refine(tq st WQ WG rs _ c ts f _ hlen K7.out.sl HL.out HF.out HC.out hlt K7.out.tu Wl.out WR.out).mono ?_;rintro e w8 ⟨rfl,hb8⟩;rw[HTH.out (by simp)];have HBe:=dX (K7.out.later hb8).bel;clear hb8;go_wp2;go_ret;exact⟨rfl,HBe.out⟩
theorem own:ownKnob prog.godebug=none:=by kernel_rfl
theorem laidOut:laidOutB prog=true:=by kernel_rfl
set_option maxRecDepth 100000 in
theorem lifted(os:Os)(started:os.Started)(H:Type)(enc:TypeId×Value->H):
  ReturnsInHanded {} Tryz.checked os 7 .any (Rows.fnFollowsSpec.pre6 enc prog Tryz.f7 Rows.fnFollowsRow.domain false) (Rows.fnFollowsSpec.post enc prog Tryz.f7 false true false false):=by
 refine returnsInHanded_of_change_shaped (C:=Tryz.checked) own started (by kernel_rfl) func7
  (ChangeSpec.witness6 (enc:=enc) (C:=Tryz.checked) false ⟨#[],#[.slice none 0 0],[]⟩ 8 (by kernel_rfl) (by kernel_rfl) (by kernel_rfl) (by kernel_rfl)) ?_
 intro W base args ds gs before hval0 hW hcnd _ hsh _;have hval:∀(j:Nat) t v,Tryz.f7.params[j]?=some t->args[j]?=some v->Value.okWide prog W .any base t v:=hval0;have hW':=hW;obtain⟨p,q,hA0,hV,rfl,hfz,hnd⟩:=hW;have hA:DataW.TrodAll enc prog W 0 (fun _=>true) true Tryz.f7.params.toList args.toList ds p:=hA0;rw[Tryz.params7]at hA hval;obtain⟨v0,vs0,d0,ds0,p0,q0,hargs,rfl,rfl,h0,r0⟩:=trodAll_cons hA;obtain⟨rfl,rfl,rfl⟩:=trodAll_nil r0;obtain rfl:args=#[v0]:=by cases args;simp_all
 obtain⟨rfl,rfl⟩:=trodVars_none hV;have k0:=h0;have lt0:∀x∈p0,x.block<W.heap.size:=by obtain⟨m,hm⟩:=k0;exact DataW.trod_lt m _ _ _ hm
 obtain⟨ad0,len0,cap0,hv0⟩:=okWide_slice underlying22 (hval 0 22 v0 rfl rfl);subst hv0;obtain⟨fuel0,hf0⟩:=h0;have hby0:=JE (by simpa[Value.cells] using hf0);clear hA0 hval0
 haveI:DecidableEq Fc:=fun x y=>Classical.propDecidable (x=y)
 refine(walk ad0 len0 cap0 W hby0).mono fun e W' ⟨he,bel⟩=>?_;subst he;exact⟨_,rfl,_,_,_,[],_,[],hW',trodAll_mk1 (shut_bool underlying4 _),(trodAll_cons_mk (Below.trod laidOut (by kernel_rfl) (of_decide_eq_true (by kernel_rfl)) k0 bel lt0) trodAll_mk0),rfl,bel.frame _,fun h=>by cases h⟩
theorem over:Rows.fnFollowsRow.holds Tryz.pinned (OpenSpec.ofChange Rows.fnFollowsSpec) :=
 OpenClaim.holds_of_wide 7 Tryz.f7 rfl rfl rfl rfl rfl rfl rfl ⟨rfl,rfl,rfl,rfl,rfl⟩ rfl rfl rfl rfl rfl (by kernel_rfl) func7 (by kernel_rfl)
  (of_decide_eq_true (by kernel_rfl)) (by unfold Func.isWrapper;first|(rw[if_pos (by decide +kernel)];kernel_rfl)|(rw[if_neg (by decide +kernel)];exact⟨rfl,rfl⟩))
  (fun os started H enc _=>lifted os started H enc)
end Go.Proofs.YtajkkeikihhejaaGreat.fnFollows
namespace Go.Proofs.YtajkkeikihhejaaGreat
theorem FnFollows_holds:Rows.FnFollowsSaid:=fnFollows.over
end Go.Proofs.YtajkkeikihhejaaGreat
