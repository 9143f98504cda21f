/- The objects that tuples name, each once, as the document lists them. -/
import Derived.Test.YtdmniljjnaebbaaGreatDoorSq
import Derived.Test.YtdmniljjnaebbaaGreatDoorJ13
import Derived.Test.YtdmniljjnaebbaaGreatDoorJ16
open Go.Proofs.Tryz
set_option maxHeartbeats 80000000
namespace Go.Proofs.YtdmniljjnaebbaaGreatDoor
set_option linter.unusedVariables false
set_option maxRecDepth 100000
open Go.ChangeShapes Go.WideShapes Go.ChangeAt Go.RowKit Go.Maps
open Pl
def eD (u:Bool) (ts:List Tp):List Al:=if u then dA ts else fG ts
def gM (u:Bool) (xs:List Al) (t:Tp):Nat→List Al
 | 0=>xs
 | 1=>if u then xs else aZ xs ⟨t.a,t.b⟩
 | _=>if u then cZ xs t else gp xs t
theorem Fx (u:Bool) {ts:List Tp} {k:Nat} (h:k < ts.length):eD u (ts.take (k + 1))=gM u (eD u (ts.take k)) ts[k] 2:=by
 rw [Sk h];cases u
 ·exact yN _ _
 exact vN _ _
theorem Il (u:Bool) (ts:List Tp):(eD u ts).length≤2 * ts.length:=by
 cases u
 ·have key:∀ (ts:List Tp) (xs:List Al),(ts.foldl gp xs).length≤xs.length + 2 * ts.length:=by
   intro ts
   induction ts with
   | nil=>intro xs; simp
   | cons t ts ih=>intro xs; have h1:=ih (gp xs t); have h2:=pq xs t; simp only [List.foldl_cons,List.length_cons]; omega
  have:=key ts [];simpa [eD,fG] using this
 have key:∀ (ts:List Tp) (xs:List Al),(ts.foldl cZ xs).length≤xs.length + ts.length:=by
  intro ts
  induction ts with
  | nil=>intro xs; simp
  | cons t ts ih=>intro xs; have h1:=ih (cZ xs t); have h2:=pu xs t; simp only [List.foldl_cons,List.length_cons]; omega
 have:=key ts [];simp [eD,dA] at this ⊢;omega
theorem Nw (u:Bool) (xs:List Al) (t:Tp) (q:Nat):(gM u xs t q).length≤xs.length + 2:=by
 match q with
 | 0=>simp [gM]
 | 1=>have:=mi xs ⟨t.a,t.b⟩; cases u <;> simp [gM]; omega
 | q + 2=>have h1:=pu xs t; have h2:=pq xs t; cases u <;> simp [gM] <;> omega
theorem Im {xs:List Al} {o:Al} {k:Nat} (h:k < xs.length):mh (xs.take (k + 1)) o=(mh (xs.take k) o || yR xs[k].t xs[k].s o.t o.s):=by
 unfold mh;rw [Sk h,List.any_append];simp [jy,yR]
theorem Qe (w:af) (o:Al):∀ j u,[Value.string o.t,.string o.s][j]?=some u→(w.alloc (.cells #[.string o.t,.string o.s] 40)).cell? ((⟨w.heap.size,0,none⟩:Addr).add j)=some u:=fun j u hu=>by
 match j,hu with
 | 0,hu=>simp at hu; subst hu; simp [Addr.add]
 | 1,hu=>simp at hu; subst hu; simp [Addr.add]
theorem gP.at0 {w:af} {ad:Option Addr} {xs:List Al} (h:gP w ad xs) {k:Nat} (hk:k < xs.length):∃ b off,ad=some ⟨b,off,none⟩∧OD w b (off + k * 2) xs[k]∧b < w.heap.size:=by
 rcases h with h | ⟨b',off',e,hb,hr⟩
 ·rw [h] at hk; simp at hk
 exact ⟨b',off',e,hr k hk,hb⟩
theorem qB (ad:Option Addr) (cap:Nat) (ts:List Tp) (u:Bool) (w:af) (hlt:ts.length≤40) (hst:Sl w ad ts) :
  Calls prog 82 #[.slice ad ts.length cap,.bool u] w fun e w'=>(∃ v,e=.returned v∧w'.ownsRow w.heap.size 40 2 v (eD u ts).length (pairs (eD u ts)))∧aa w w':=by
 obtain ⟨iO,h0,h1,h2,h3⟩:=yM;have Xd:=au (And.intro h0 (And.intro h1 (And.intro h2 h3)));have HST:=au hst;obtain ⟨W0,hW0⟩:∃ W0,W0=w.alloc (.cells #[] 40):=⟨_,rfl⟩;have HB0:=mY hW0;have TG:Hid (W0.ownsRow w.heap.size 40 2 (.slice (some ⟨w.heap.size,0,none⟩) 0 0) (eD u (ts.take 0)).length (pairs (eD u (ts.take 0)))):=by
  have e:eD u (ts.take 0)=[]:=by cases u <;> rfl
  show World.ownsRow _ _ _ _ _ _ _;rw [hW0,e];exact World.ownsRow_lit w #[] 0 (Sj _) (by unfold maxLen; omega) (by simp)
 clear hst h0 h1 h2 h3;go_enter func82,ntmps82;go_wp2_with fail;rw [← hW0];clear hW0;go_loopw [5,6] (fun v i wr=>∃ k:Nat,k≤ts.length∧i=.int .i64 k∧Hid (wr.ownsRow w.heap.size 40 2 v (eD u (ts.take k)).length (pairs (eD u (ts.take k))))∧Hid (aa w wr)) (fun _ i _=>ts.length - (intOf i).toNat);case atStart=>exact ⟨0,Sm _,rfl,TG,HB0⟩
 clear TG HB0;obtain ⟨k,hk,rfl,HOW,Tt⟩:=hrel;by_cases hlt2:k < ts.length
 ·have Ym:=au (Fx u hlt2);obtain ⟨x,hx⟩:∃ x,x=ts[k]:=⟨_,rfl⟩;obtain ⟨xs,hxs⟩:∃ xs,xs=eD u (ts.take k):=⟨_,rfl⟩;have hxl:xs.length≤80:=by have:=Il u (ts.take k); rw [SL] at this; rw [hxs]; omega
  rw [← hx,← hxs] at Ym;rw [← hxs] at HOW;have HX:=au hx;have hi1:=bH k;have hi2:(k:Int) < (ts.length:Int):=by omega
  clear hxs hx;go_wp2;go_loopw [5,7] (fun v i w2=>∃ q:Nat,q≤2∧i=.int .i64 q∧Hid (w2.ownsRow w.heap.size 40 2 v (gM u xs x q).length (pairs (gM u xs x q)))∧Hid (aa w w2)) (fun _ i _=>2 - (intOf i).toNat);case atStart=>exact ⟨0,by omega,rfl,HOW,Tt⟩
  obtain ⟨w2,rfl⟩:∃ w2,w2=wr:=⟨_,rfl⟩;obtain ⟨q,hq,rfl,Tj,HB2⟩:=hrel;have hi1:=bH k;have hi2:(k:Int) < (ts.length:Int):=by omega
  have hsl:=Nw u xs x q;obtain ⟨b,off,Tq,⟨t0,t1,t2,t3,t4,t5⟩,hb⟩:=Sl.at0 (HST.out.below HB2.out) hlt2;rw [← HX.out] at t0 t1 t2 t3 t4 t5;subst Tq;by_cases hq2:q < 2
  ·have hc:q=0 ∨ q=1:=by omega
   rcases hc with rfl | rfl
   case' inl =>
    cases u;case true =>
     have HE:Hid (gM true xs x 1=gM true xs x 0):=rfl;have HR:Hid ((w2.alloc (.cells #[.string x.a,.string x.b] 40)).ownsRow w.heap.size 40 2 u5 (gM true xs x 1).length (pairs (gM true xs x 1))):=by show World.ownsRow _ _ _ _ _ _ _; rw [HE.out]; exact Tj.out.alloc _
     have VI:Hid (aa w (w2.alloc (.cells #[.string x.a,.string x.b] 40))):=HB2.out.alloc HB2.out.size _;go_wp2;exact ⟨⟨1,by omega,rfl,HR,VI⟩,by decide⟩
    obtain ⟨o,ho⟩:∃ o:Al,o=⟨x.a,x.b⟩:=⟨_,rfl⟩;have Vf:Hid (gM false xs x (0 + 1)=aZ (gM false xs x 0) o):=by show _=_; rw [ho]; rfl
    obtain ⟨ys,hys⟩:∃ ys,ys=gM false xs x 0:=⟨_,rfl⟩;rw [← hys] at Vf Tj hsl;obtain ⟨ns,hns⟩:∃ ns,ns=gM false xs x (0 + 1):=⟨_,rfl⟩;have XH:Hid (∀ (W:World) (v:Value),W.ownsRow w.heap.size 40 2 v ns.length (pairs ns)→W.ownsRow w.heap.size 40 2 v (gM false xs x (0 + 1)).length (pairs (gM false xs x (0 + 1)))):=fun W v h=>by rw [← hns]; exact h
    rw [← hns] at Vf;clear hns;clear hys;have hx1:x.a=o.t:=by rw [ho]
    have hx2:x.b=o.s:=by rw [ho]
    clear ho;obtain ⟨U1,UG,rfl,hsO⟩:=jG Tj.out;have Zp:=au hsO;obtain ⟨W1,hW1⟩:∃ W1,W1=w2.alloc (.cells #[.string o.t,.string o.s] 40):=⟨_,rfl⟩;have TT:=mY hW1;have hz1:w2.heap.size < W1.heap.size:=by rw [hW1]; simp
    have d0:W1.cell? ⟨w2.heap.size,0,none⟩=some (.string o.t):=by rw [hW1]; simp
    have d1:W1.cell? ⟨w2.heap.size,1,none⟩=some (.string o.s):=by rw [hW1]; simp
    clear hsO;go_wp2_with fail;rw [← hW1];clear hW1 t0 t1 t2 t3 t4 t5 hx1 hx2
   case' inr =>
    cases u
    case' true =>
     cases hz:x.s.toList.isEmpty;case false =>
      have hs2:(x.s.toList == [])=false:=by rw [qa]; exact hz
      have HE:Hid (gM true xs x 2=gM true xs x 1):=by show cZ xs x=xs; unfold cZ; rw [hs2]; rfl
      have HR:Hid ((w2.alloc (.cells #[.string x.c,.string x.d] 40)).ownsRow w.heap.size 40 2 u5 (gM true xs x 2).length (pairs (gM true xs x 2))):=by show World.ownsRow _ _ _ _ _ _ _; rw [HE.out]; exact Tj.out.alloc _
      have VI:Hid (aa w (w2.alloc (.cells #[.string x.c,.string x.d] 40))):=HB2.out.alloc HB2.out.size _;go_wp2;exact ⟨⟨2,by omega,rfl,HR,VI⟩,by decide⟩
     have hs2:(x.s.toList == [])=true:=by rw [qa]; exact hz
     obtain ⟨o,ho⟩:∃ o:Al,o=⟨x.c,x.d⟩:=⟨_,rfl⟩;have Vf:Hid (gM true xs x (1 + 1)=aZ (gM true xs x 1) o):=by show _=_; rw [ho]; show cZ xs x=_; unfold cZ; rw [hs2]; rfl
     obtain ⟨ys,hys⟩:∃ ys,ys=gM true xs x 1:=⟨_,rfl⟩;rw [← hys] at Vf Tj hsl;obtain ⟨ns,hns⟩:∃ ns,ns=gM true xs x (1 + 1):=⟨_,rfl⟩;have XH:Hid (∀ (W:World) (v:Value),W.ownsRow w.heap.size 40 2 v ns.length (pairs ns)→W.ownsRow w.heap.size 40 2 v (gM true xs x (1 + 1)).length (pairs (gM true xs x (1 + 1)))):=fun W v h=>by rw [← hns]; exact h
     rw [← hns] at Vf;clear hns;clear hys;have hx1:x.c=o.t:=by rw [ho]
     have hx2:x.d=o.s:=by rw [ho]
     clear ho;obtain ⟨U1,UG,rfl,hsO⟩:=jG Tj.out;have Zp:=au hsO;obtain ⟨W1,hW1⟩:∃ W1,W1=w2.alloc (.cells #[.string o.t,.string o.s] 40):=⟨_,rfl⟩;have TT:=mY hW1;have hz1:w2.heap.size < W1.heap.size:=by rw [hW1]; simp
     have d0:W1.cell? ⟨w2.heap.size,0,none⟩=some (.string o.t):=by rw [hW1]; simp
     have d1:W1.cell? ⟨w2.heap.size,1,none⟩=some (.string o.s):=by rw [hW1]; simp
     clear hsO;go_wp2_with fail;rw [← hW1];clear hW1 t0 t1 t2 t3 t4 t5 hx1 hx2
    case' false =>
     obtain ⟨o,ho⟩:∃ o:Al,o=⟨x.c,x.d⟩:=⟨_,rfl⟩;have Vf:Hid (gM false xs x (1 + 1)=aZ (gM false xs x 1) o):=by show _=_; rw [ho]; rfl
     obtain ⟨ys,hys⟩:∃ ys,ys=gM false xs x 1:=⟨_,rfl⟩;rw [← hys] at Vf Tj hsl;obtain ⟨ns,hns⟩:∃ ns,ns=gM false xs x (1 + 1):=⟨_,rfl⟩;have XH:Hid (∀ (W:World) (v:Value),W.ownsRow w.heap.size 40 2 v ns.length (pairs ns)→W.ownsRow w.heap.size 40 2 v (gM false xs x (1 + 1)).length (pairs (gM false xs x (1 + 1)))):=fun W v h=>by rw [← hns]; exact h
     rw [← hns] at Vf;clear hns;clear hys;have hx1:x.c=o.t:=by rw [ho]
     have hx2:x.d=o.s:=by rw [ho]
     clear ho;obtain ⟨U1,UG,rfl,hsO⟩:=jG Tj.out;have Zp:=au hsO;obtain ⟨W1,hW1⟩:∃ W1,W1=w2.alloc (.cells #[.string o.t,.string o.s] 40):=⟨_,rfl⟩;have TT:=mY hW1;have hz1:w2.heap.size < W1.heap.size:=by rw [hW1]; simp
     have d0:W1.cell? ⟨w2.heap.size,0,none⟩=some (.string o.t):=by rw [hW1]; simp
     have d1:W1.cell? ⟨w2.heap.size,1,none⟩=some (.string o.s):=by rw [hW1]; simp
     clear hsO;go_wp2_with fail;rw [← hW1];clear hW1 t0 t1 t2 t3 t4 t5 hx1 hx2
   all_goals
    go_loopw [9,10] (fun ov j w3=>∃ (m:Nat) (bb:Bool),m≤ys.length∧ov=.bool bb∧j=.int .i64 m∧Hid (bb=mh (ys.take m) o)∧Hid (aa W1 w3)) (fun _ j _=>ys.length - (intOf j).toNat);case atStart=>exact ⟨0,false,Sm _,rfl,rfl,rfl,Si _ _⟩
    obtain ⟨m,bb,hm,rfl,rfl,U3,HB3⟩:=hrel;have HBx:Hid (aa w2 wr):=TT.out.trans (HB3.out.mono TT.out.size);have HBw:Hid (aa w wr):=HB2.out.trans (HBx.out.mono HB2.out.size);have HOx:=au (aB Tj.out HBx.out);have c0:=mK HB3.out hz1 d0;have c1:=mK HB3.out hz1 d1;have hz3:w2.heap.size < wr.heap.size:=Sg hz1 HB3.out.size;by_cases hlm:m < ys.length
    ·obtain ⟨bO,TK,Wm,⟨s0,s1⟩,hbO⟩:=gP.at0 (Zp.out.below HBx.out) hlm;have hm1:=bH m;have hm2:(m:Int) < (ys.length:Int):=by omega
     have ZJ:=au (Im (o:=o) hlm);cases bb;case true=>
      have WR:Hid (true=mh (ys.take (m + 1)) o):=by show _=_; rw [ZJ.out,← U3.out]; rfl
      clear s0 s1 c0 c1;go_wp2_with fail;go_quiet (fail);go_wp2;go_roundw;case rel=>exact ⟨m + 1,true,by omega,rfl,by go_num,WR,below_drewN HB3.out _⟩
      simp [intOf] <;> omega
     cases hv:yR ys[m].t ys[m].s o.t o.s;case true=>
      have heq:=iY _ _ _ _ hv;have WR:Hid (true=mh (ys.take (m + 1)) o):=by show _=_; rw [ZJ.out,hv]; simp
      clear hv;go_wp2_with fail;go_quiet (fail);go_wp2;go_roundw;case rel=>exact ⟨m + 1,true,by omega,rfl,by go_num,WR,below_drewN HB3.out _⟩
      simp [intOf] <;> omega
     have heq:=iY _ _ _ _ hv;have WR:Hid (false=mh (ys.take (m + 1)) o):=by show _=_; rw [ZJ.out,hv,← U3.out]; rfl
     clear hv;go_wp2_with fail;go_quiet (fail);go_wp2;go_roundw;case rel=>exact ⟨m + 1,false,by omega,rfl,by go_num,WR,below_drewN HB3.out _⟩
     simp [intOf] <;> omega
    have TB:Hid (bb=mh ys o):=by show _=_; rw [U3.out,List.take_of_length_le (by omega)]
    cases bb;case true=>
     have HR:Hid (wr.ownsRow w.heap.size 40 2 (.slice U1 ys.length UG) (ns).length (pairs (ns))):=by
      show World.ownsRow _ _ _ _ _ _ _;rw [Vf.out]; unfold aZ; rw [← TB.out]; exact HOx.out
     clear TB c0 c1;go_wp2;have HR2:=au (XH.out _ _ HR.out)
     first | exact ⟨⟨0 + 1,by omega,rfl,HR2,HBw⟩,by decide⟩ | exact ⟨⟨1 + 1,by omega,rfl,HR2,HBw⟩,by decide⟩
    have HWE:Hid (aZ ys o=ys ++ [o]):=by show _=_; unfold aZ; rw [← TB.out]; rfl
    obtain ⟨W4,TV⟩:∃ W4,W4=wr.alloc (.cells #[.string o.t,.string o.s] 40):=⟨_,rfl⟩;have TJ:Hid (W4.ownsRow w.heap.size 40 2 (.slice U1 ys.length UG) ys.length (pairs ys)):=by show World.ownsRow _ _ _ _ _ _ _; rw [TV]; exact HOx.out.alloc _
    have HN4:Hid (∀ j u,[Value.string o.t,.string o.s][j]?=some u→W4.cell? ((⟨wr.heap.size,0,none⟩:Addr).add j)=some u):=by rw [TV]; exact Qe wr o
    have Uh:Hid (aa w W4):=by show Below _ _ _; rw [TV]; exact HBw.out.alloc HBw.out.size _
    have WS:w.heap.size≤W4.heap.size:=Uh.out.size;clear TB;go_wp2_with (at_builtin; rw [← TV]; clear TV; refine wpList_append_own_at _ rfl _ _ 139 rfl w.heap.size 40 iO (.agg #[.string ⟨#[]⟩,.string ⟨#[]⟩]) 2 32 underlying139 Xd.out.1 Xd.out.2.1 Xd.out.2.2.1 Xd.out.2.2.2 rfl (by decide) _ ys.length (pairs ys) rfl TJ.out ⟨wr.heap.size,0,none⟩ 1 1 [.string o.t,.string o.s] rfl rfl HN4.out (by simp [Value.oneCell']) (by unfold maxLen; omega) (by omega) WS ?_);intro v' w5 hown hgr _ _;have HR:Hid (w5.ownsRow w.heap.size 40 2 v' (ns).length (pairs (ns))):=by
     show World.ownsRow _ _ _ _ _ _ _;rw [Vf.out,HWE.out,Sr];have:pairs (ys ++ [o])=pairs ys ++ [.string o.t,.string o.s]:=by simp [pairs]
     rw [this]; exact hown
    have VI:Hid (aa w w5):=Uh.out.grown hgr Uh.out.size (fun g hg=>(TJ.out.lt g hg).1);clear hown hgr c0 c1;go_wp2;have HR2:=au (XH.out _ _ HR.out)
    first | exact ⟨⟨0 + 1,by omega,rfl,HR2,VI⟩,by decide⟩ | exact ⟨⟨1 + 1,by omega,rfl,HR2,VI⟩,by decide⟩
  have TD:Hid (w2.ownsRow w.heap.size 40 2 u5 (eD u (ts.take (k + 1))).length (pairs (eD u (ts.take (k + 1))))):=by
   have e:q=2:=by omega
   have h2:=Tj.out;rw [e] at h2;show World.ownsRow _ _ _ _ _ _ _; rw [Ym.out]; exact h2
  go_wp2;go_roundw;case rel=>exact ⟨k + 1,by omega,by go_num,TD,HB2⟩
  simp [intOf] <;> omega
 have HE:Hid (eD u (ts.take k)=eD u ts):=by show _=_; rw [List.take_of_length_le (by omega)]
 have TD:Hid (wr.ownsRow w.heap.size 40 2 u5 (eD u ts).length (pairs (eD u ts))):=by show World.ownsRow _ _ _ _ _ _ _; rw [← HE.out]; exact HOW.out
 go_wp2;go_ret;exact ⟨⟨_,rfl,TD.out⟩,Tt.out⟩
end Go.Proofs.YtdmniljjnaebbaaGreatDoor
