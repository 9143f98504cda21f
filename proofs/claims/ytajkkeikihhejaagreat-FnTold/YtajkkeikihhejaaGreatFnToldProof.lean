/- Proved here: FnTold answers true for every slice of bytes and leaves it as it was, with no condition on it. -/
import Derived.Test.YtajkkeikihhejaaGreatSq
import Derived.Test.YtajkkeikihhejaaGreatDrawChk
import Derived.Test.YtajkkeikihhejaaGreatJ35
import Derived.OpenShut
import Derived.ShutString
import Derived.HandedShaped
open Go.Proofs.Tryz
set_option maxHeartbeats 80000000
namespace Go.Proofs.YtajkkeikihhejaaGreat.fnTold
open Go.ChangeShapes Go.WideShapes Go.ChangeAt Go.RowKit
open Pl
set_option linter.unusedVariables false
structure St (w:World) (Vw:Option Addr) (g n:Nat) (rs:List TR) (ts:List Tp) (f:Fc) (W:World):Prop where
 bel:ag w W
 sl:kW W Vw rs
 tu:Sl W (some ⟨g,0,none⟩) ts
 lt:n < W.heap.size
 bx:W.cell? ⟨n,0,none⟩=some (.string f.a)∧W.cell? ⟨n,1,none⟩=some (.string f.b)∧W.cell? ⟨n,2,none⟩=some (.string f.r)∧W.cell? ⟨n,3,none⟩=some (.string f.c)∧W.cell? ⟨n,4,none⟩=some (.string f.d)
theorem St.later {w W W':af} {Vw:Option Addr} {g n:Nat} {rs:List TR} {ts:List Tp} {f:Fc} (h:St w Vw g n rs ts f W) (hb:ag W W'):St w Vw g n rs ts f W' :=
 ⟨h.bel.trans (hb.mono h.bel.size),h.sl.below hb,h.tu.below hb,TP h.lt hb.size,by
  obtain ⟨c0,c1,c2,c3,c4⟩:=h.bx;have hk:=fun o=>hb.cell (p:=⟨n,o,none⟩) h.lt;exact ⟨(hk _).trans c0,(hk _).trans c1,(hk _).trans c2,(hk _).trans c3,(hk _).trans c4⟩⟩
theorem P7 [DecidableEq Fc] {st:ByteArray × ByteArray→Int} {rs:List TR} {ts:List Tp} (h:(iy st rs ts).length ≠ 0):aQ (gV rs) rs ts=true:=by
 cases hr:aQ (gV rs) rs ts;case true=>rfl
 rw [Br,jo hr] at h; exact absurd rfl h
theorem P8 [DecidableEq Fc] {st:ByteArray × ByteArray→Int} {rs:List TR} {ts:List Tp} (hle:aJ (ae rs)=true→Least (ae rs) st) (hr:aQ (gV rs) rs ts=true) (f:Fc) {x:ER} (hx:aj [x]=rX (ae rs) f.a f.r) (hk:x.e.kind=1) (ha:∀ a ∈ x.e.allow,a.s.toList.isEmpty=true):bP (bC st rs ts) f=l7 ts ⟨f.a,f.b,f.r,f.c,f.d,⟨#[]⟩⟩:=by
 have hd:aJ (ae rs)=true:=by
  have h2:=hr;unfold aQ at h2;simp only [TU] at h2;exact h2.1.1
 refine told_plain hle hr f (x:=x.e) ?_ hk ha;unfold rX at hx;rw [hd] at hx;exact hx.symm
theorem DL {rs:List TR} (hl:∀ r ∈ rs,r.light) (ty n:bH):(rX (ae rs) ty n).length≤15∧∀ e ∈ rX (ae rs) ty n,e.allow.length≤1048576∧av e=true:=by
 unfold rX;cases hd:aJ (ae rs);case false=>simp
 simp only [if_true];unfold aA;cases e:fI (ae rs) ty n with
 | none=>simp
 | some es =>
  obtain ⟨t,ht,q,hq,-,-,rfl⟩:=nY e;obtain ⟨h1,h2,h3⟩:=(bq (aY.1 hd).1).2.2 t ht q hq;simp only [Option.getD_some];refine ⟨by rw [aT]; exact h2,fun x hx=>?_⟩;have h4:(aj q.rows).all av=true:=by simp only [aK,TU] at h1; exact h1.1.1.1.2
  refine ⟨?_,Ub.1 h4 x hx⟩;obtain ⟨y,hy,rfl⟩:=Ue.1 hx;exact (((hl t ht).2 q hq).2 y hy).1
set_option maxRecDepth 100000 in
theorem walk [DecidableEq Fc] (ad:Option Addr) (len cap:Nat) (w:af) (h:Bytes w ad len) :
  Calls prog 3 #[.slice ad len cap] w fun e w'=>e=.returned (.bool true)∧ag w w':=by
 have H:=fE h;clear h;go_enter func3,ntmps3;go_wp2_with fail;refine (Qn ad len cap w).mono ?_;rintro e w0 ⟨rfl,rfl⟩;by_cases hbig:(1048576:Int) < (len:Int)
 ·go_wp2;go_ret;exact ⟨rfl,TT _ _⟩
 go_wp2_with fail;refine (BX ad len cap _ H.out).mono ?_;rintro e w1 ⟨v,rs,g,c,ts,f,rfl,hT,⟨hG1,hG2,hG3⟩,hl9,hsh,hff,hown,hb1⟩;obtain ⟨Vw,Vs,rfl,hs1,hcp⟩:=hT.read;obtain ⟨hrow,hg,-,-⟩:=nk hown rfl;obtain ⟨W1,hW1⟩:∃ W1,W1=w1.alloc (.cells #[.string f.a,.string f.b,.string f.r,.string f.c,.string f.d] 29):=⟨_,rfl⟩;have Yl:ag w1 W1:=by rw [hW1]; exact (TT _ _).alloc (TS _) _
 have K1:Hid (St w0 Vw g w1.heap.size rs ts f W1):=by
  refine ⟨hb1.trans (Yl.mono hb1.size),hs1.below Yl,Sl.below (.inr ⟨g,0,rfl,hg,hrow⟩) Yl,by rw [hW1]; simp,?_⟩;refine ⟨?_,?_,?_,?_,?_⟩ <;> (rw [hW1]; simp)
 have hlen:rs.length≤1048576:=by omega
 have hlt:ts.length≤1048576:=by omega
 obtain ⟨st,hst0⟩:=RN (ae rs);have Vj:=fE hst0;have HL:=fE hG2;have HF:=fE hG3;have HC:=fE hcp;have UL:=fE hsh.fits;have ZY:=fE hff;have m1:f.a.size≤maxLen:=hff.1;have m3:f.r.size≤maxLen:=hff.2.2.1;clear hT hG2 hG3 hcp hb1 hs1 hbig hown hsh hff hrow hg Yl H hst0;obtain ⟨x0,x1,x2,x3,x4⟩:=K1.out.bx;go_wp2_with fail;rw [← hW1];clear hW1;refine (BU st Vw Vs rs _ c ts f _ hlen K1.out.sl HL.out HF.out HC.out hlt K1.out.tu UL.out Vj.out).mono ?_;rintro e w2 ⟨rfl,hb2⟩;have K2:=fE (K1.out.later hb2);clear hb2 K1 x0 x1 x2 x3 x4;obtain ⟨x0,x1,x2,x3,x4⟩:=K2.out.bx;go_wp2_with fail;refine (BO Vw Vs rs f.a f.r _ hlen K2.out.sl HL.out HF.out HC.out m1 m3).mono ?_;rintro e w3 ⟨UC,capE,qs,rfl,hqe,hqs,-,hb3⟩;have K3:=fE (K2.out.later hb3);have HE:=fE hqs;have HQ:=fE hqe;have HQL:Hid (∀ q ∈ qs,q.e.allow.length≤1048576):=fun q hq=>((DL HL.out f.a f.r).2 q.e (by rw [← hqe]; exact Ue.2 ⟨q,hq,rfl⟩)).1;have X7:qs.length≤15:=by have:=(DL HL.out f.a f.r).1; rw [← hqe,aT] at this; exact this
 have HTH:Hid ((!(rX (ae rs) f.a f.r).isEmpty)=!qs.isEmpty):=by show _=_; rw [← hqe]; cases qs <;> rfl
 rw [HTH.out];clear hb3 K2 x0 x1 x2 x3 x4 hqs hqe HTH;obtain ⟨x0,x1,x2,x3,x4⟩:=K3.out.bx;obtain ⟨q,hq⟩:∃ q,bP (bC st rs ts) f=q:=⟨_,rfl⟩;have HIS:=fE hq;rw [hq];clear hq;go_wp2_with fail;refine (sJ st Vw Vs rs _ c ts f _ hlen K3.out.sl HL.out HF.out hlt K3.out.tu UL.out Vj.out).mono ?_;rintro e w4 ⟨rfl,hb4⟩;rw [HIS.out];have K4:=fE (K3.out.later hb4);have HE4:=fE (HE.out.below hb4);clear hb4 K3 HE x0 x1 x2 x3 x4;have hqn:(q != q)=false:=by simp
 have hqq:(q == q)=true:=by simp
 rcases qs with _ | ⟨x,xs⟩
 case' nil =>
  have hie:(!([]:List ER).isEmpty)=false:=rfl;have KE:=K4;rw [hie]
 case' cons =>
  have hie:(!(x::xs).isEmpty)=true:=rfl;rw [hie];rcases xs with _ | ⟨y,ys⟩
  case' cons =>
   have hn1:(((x::y::ys).length:Int) != 1)=true:=by simp; omega
   have hn2:((x::y::ys).length:Int) ≠ 1:=by simp; omega
   obtain ⟨n,hn⟩:∃ n,(x::y::ys).length=n:=⟨_,rfl⟩;rw [hn] at hn1 hn2 ⊢;have KE:=K4;clear hn
  case' nil =>
   rcases HE4.out with hnil | ⟨bE,oE,rfl,Z7,hr,hok⟩
   ·cases hnil
   obtain ⟨t0,t1,-,-,-⟩:=hr 0 (by simp);have hA:=fE (hok x (Us ..)).1;have Wy:Hid (w4.cell? ⟨bE,oE,none⟩=some (.int .i64 x.e.kind)∧w4.cell? ⟨bE,oE + 1,none⟩=some (.slice x.adA x.e.allow.length x.capA)):=⟨by simpa using t0,by simpa using t1⟩;clear hr hok t0 t1 HE4;obtain ⟨t0,t1⟩:=Wy.out;by_cases hk:x.e.kind=1
   case' neg =>
    have hk1:(x.e.kind != 1)=true:=by simpa using hk
    have hk2:(x.e.kind == 1)=false:=by simpa using hk
    have KE:=K4
   case' pos =>
    rw [hk] at t0;go_wp2_with fail;refine (sI st Vw Vs rs _ c ts _ hlen K4.out.sl HL.out HF.out HC.out hlt K4.out.tu UL.out Vj.out).mono ?_;rintro e w5 hP;obtain ⟨⟨v,rfl,hof⟩,hb5⟩:=BS hP;obtain ⟨XU,Vr,rfl,-⟩:=mW hof;have K5:=fE (K4.out.later hb5);have HC6:Hid (w5.cell? ⟨bE,oE,none⟩=some (.int .i64 1)∧w5.cell? ⟨bE,oE + 1,none⟩=some (.slice x.adA x.e.allow.length x.capA)):=⟨bf hb5 Z7 t0,bf hb5 Z7 t1⟩;have hA5:=fE (hA.out.below hb5);have hbE5:=TP Z7 hb5.size;clear hb5 hP hof K4 hA Wy t0 t1 Z7;obtain ⟨m,hm⟩:∃ m,(iy st rs ts).length=m:=⟨_,rfl⟩;rw [hm];by_cases hm0:m=0
    case' pos =>
     subst hm0;have KE:=K5
    case' neg =>
     have HRT:=fE (P7 (st:=st) (rs:=rs) (ts:=ts) (by rw [hm]; exact hm0));have hm1:((m:Int) == 0)=false:=by simpa using hm0
     have hm2:¬ (m:Int)=0:=by omega
     have HK:=fE hk;clear hm hk;have hal:=HQL.out x (Us ..);obtain ⟨al,hal0⟩:∃ al,x.e.allow=al:=⟨_,rfl⟩;have UN:=fE hal0;rw [hal0] at hA5 HC6 hal;clear hal0;go_wp2;go_loopw [9] (fun i wr=>∃ k:Nat,k≤al.length∧i=.int .i64 k∧Hid (∀ j (hj:j < al.length),j < k→al[j].s.toList.isEmpty=true)∧Hid (ag w5 wr)) (fun i _=>al.length - (intOf i).toNat);case atStart=>exact ⟨0,TW _,rfl,fun j _ h=>absurd h (Uw _),TT _ _⟩
     obtain ⟨k,hk,rfl,HP,HB⟩:=hrel;have hk1:=bB k;have K6:=fE (K5.out.later HB.out);have t1:=bf HB.out hbE5 HC6.out.2;by_cases hlt2:k < al.length
     ·have hk2:(k:Int) < (al.length:Int):=by omega
      rcases hA5.out.below HB.out with hnil | ⟨bA,offA,hAd,Ze,hrA⟩
      ·rw [hnil] at hlt2; simp at hlt2
      obtain ⟨u0,u1⟩:=hrA k hlt2;rw [hAd] at t1;clear hrA hAd;cases hs:al[k].s.toList.isEmpty;case false=>
       have hs2:(al[k].s.toList == [])=false:=by rw [mX]; exact hs
       clear hs;go_wp2;go_ret;exact ⟨rfl,K6.out.bel⟩
      have hs2:(al[k].s.toList == [])=true:=by rw [mX]; exact hs
      have UI:Hid (∀ j (hj:j < al.length),j < k + 1→al[j].s.toList.isEmpty=true):=fun j hj h=>by
       rcases Nat.lt_or_ge j k with h2 | h2
       ·exact HP.out j hj h2
       obtain rfl:j=k:=by omega
       exact hs
      clear hs;go_wp2;go_roundw;case rel=>exact ⟨k + 1,by omega,by go_num,UI,HB⟩
      simp [intOf] <;> omega
     have HT:Hid (q=l7 ts ⟨f.a,f.b,f.r,f.c,f.d,⟨#[]⟩⟩):=by
      show _=_;rw [← HIS.out];refine P8 Vj.out HRT.out f HQ.out HK.out fun a ha=>?_;rw [UN.out] at ha;obtain ⟨i,hi,rfl⟩:=Uu ha;exact HP.out i hi (by omega)
     obtain ⟨x0,x1,x2,x3,x4⟩:=K6.out.bx;clear HP HC6 hA5;go_wp2_with fail;refine (ET _ c ts ⟨f.a,f.b,f.r,f.c,f.d,⟨#[]⟩⟩ _ hlt K6.out.tu).mono ?_;rintro e y ⟨rfl,hy⟩;have HBe:=fE (K6.out.later hy).bel;rw [← HT.out];clear hy HT;go_wp2;go_ret;exact ⟨rfl,HBe.out⟩
 all_goals
  obtain ⟨x0,x1,x2,x3,x4⟩:=KE.out.bx;go_wp2_with fail;refine (sJ st Vw Vs rs _ c ts f _ hlen KE.out.sl HL.out HF.out hlt KE.out.tu UL.out Vj.out).mono ?_;rintro e y ⟨rfl,hy⟩;have HBe:=fE (KE.out.later hy).bel;rw [HIS.out];clear hy;go_wp2;go_ret;exact ⟨rfl,HBe.out⟩
theorem own:ownKnob prog.godebug=none:=by kernel_rfl
theorem laidOut:laidOutB prog=true:=by kernel_rfl
set_option maxRecDepth 100000 in
theorem lifted (os:Os) (started:os.Started) (H:Type) (enc:TypeId × Value→H) :
  ReturnsInHanded {} Tryz.checked os 3 .any (Rows.fnToldSpec.pre6 enc prog Tryz.f3 Rows.fnToldRow.domain false) (Rows.fnToldSpec.post enc prog Tryz.f3 false true false false):=by
 refine returnsInHanded_of_change_shaped (C:=Tryz.checked) own started (by kernel_rfl) func3
  (ChangeSpec.witness6 (enc:=enc) (C:=Tryz.checked) false ⟨#[],#[.slice none 0 0],[]⟩ 8 (by kernel_rfl) (by kernel_rfl) (by kernel_rfl) (by kernel_rfl)) ?_
 intro W base args ds gs before hval0 hW hcnd _ hsh _;have hval:∀ (j:Nat) t v,Tryz.f3.params[j]?=some t→args[j]?=some v→Value.okWide prog W .any base t v:=hval0;have hW':=hW;obtain ⟨p,q,hA0,hV,rfl,hfz,hnd⟩:=hW;have hA:DataW.TrodAll enc prog W 0 (fun _=>true) true Tryz.f3.params.toList args.toList ds p:=hA0;rw [Tryz.params3] at hA hval;obtain ⟨v0,vs0,d0,ds0,p0,q0,hargs,rfl,rfl,h0,r0⟩:=trodAll_cons hA;obtain ⟨rfl,rfl,rfl⟩:=trodAll_nil r0;obtain rfl:args=#[v0]:=by cases args; simp_all
 obtain ⟨rfl,rfl⟩:=trodVars_none hV;have k0:=h0;have lt0:∀ x ∈ p0,x.block < W.heap.size:=by obtain ⟨m,hm⟩:=k0; exact DataW.trod_lt m _ _ _ hm
 obtain ⟨ad0,len0,cap0,hv0⟩:=okWide_slice underlying22 (hval 0 22 v0 rfl rfl);subst hv0;obtain ⟨fuel0,hf0⟩:=h0;have hby0:=Ig (by simpa [Value.cells] using hf0);clear hA0 hval0
 haveI:DecidableEq Fc:=fun x y=>Classical.propDecidable (x=y)
 refine (walk ad0 len0 cap0 W hby0).mono fun e W' ⟨he,bel⟩=>?_;subst he;exact ⟨_,rfl,_,_,_,[],_,[],hW',trodAll_mk1 (shut_bool underlying4 _),(trodAll_cons_mk (Below.trod laidOut (by kernel_rfl) (of_decide_eq_true (by kernel_rfl)) k0 bel lt0) trodAll_mk0),rfl,bel.frame _,fun h=>by cases h⟩
theorem over:Rows.fnToldRow.holds Tryz.pinned (OpenSpec.ofChange Rows.fnToldSpec) :=
 OpenClaim.holds_of_wide 3 Tryz.f3 rfl rfl rfl rfl rfl rfl rfl ⟨rfl,rfl,rfl,rfl,rfl⟩ rfl rfl rfl rfl rfl (by kernel_rfl) func3 (by kernel_rfl)
  (of_decide_eq_true (by kernel_rfl)) (by unfold Func.isWrapper; first | (rw [if_pos (by decide +kernel)]; kernel_rfl) | (rw [if_neg (by decide +kernel)]; exact ⟨rfl,rfl⟩))
  (fun os started H enc _=>lifted os started H enc)
end Go.Proofs.YtajkkeikihhejaaGreat.fnTold
namespace Go.Proofs.YtajkkeikihhejaaGreat
theorem FnTold_holds:Rows.FnToldSaid:=fnTold.over
end Go.Proofs.YtajkkeikihhejaaGreat
