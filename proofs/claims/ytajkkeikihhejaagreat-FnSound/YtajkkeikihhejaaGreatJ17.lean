/- The objects that tuples name, each once, as the document lists them. -/
import Derived.Test.YtajkkeikihhejaaGreatSq
import Derived.Test.YtajkkeikihhejaaGreatJ11
import Derived.Test.YtajkkeikihhejaaGreatJ7
open Go.Proofs.Tryz
set_option maxHeartbeats 80000000
namespace Go.Proofs.YtajkkeikihhejaaGreat
set_option linter.unusedVariables false
set_option maxRecDepth 100000
open ChangeShapes WideShapes ChangeAt RowKit Maps
open Pl
def fO(u:Bool)(ts:Q05):List Al:=if u then bQ ts else dN ts
def ja(u:Bool)(xs:Q0a)(t:Tp):Nat->List Al
 | 0=>xs
 | 1=>if u then xs else bz xs ⟨t.a,t.b⟩
 | _=>if u then df xs t else fV xs t
theorem Ii(u:Bool){ts:Q05}{k:Nat}(h:k<ts.length):fO u (ts.take (k+1))=ja u (fO u (ts.take k)) ts[k] 2:=by
 rw[Ve h];cases u
 ·exact Bt _ _
 exact yG _ _
theorem Kq(u:Bool)(ts:Q05):(fO u ts).length<=2*ts.length:=by
 cases u
 ·have key:∀(ts:Q05) (xs:Q0a),(ts.foldl fV xs).length<=xs.length+2*ts.length:=by
   intro ts
   induction ts with
   | nil=>intro xs;simp
   | cons t ts ih=>intro xs;have h1:=ih (fV xs t);have h2:=qY xs t;simp only[List.foldl_cons,VI];omega
  have:=key ts [];simpa[fO,dN] using this
 have key:∀(ts:Q05) (xs:Q0a),(ts.foldl df xs).length<=xs.length+ts.length:=by
  intro ts
  induction ts with
  | nil=>intro xs;simp
  | cons t ts ih=>intro xs;have h1:=ih (df xs t);have h2:=qZ xs t;simp only[List.foldl_cons,VI];omega
 have:=key ts [];simp[fO,bQ]at this ⊢;omega
theorem Qw(u:Bool)(xs:Q0a)(t:Tp)(q:Nat):(ja u xs t q).length<=xs.length+2:=by
 match q with
 | 0=>simp[ja]
 | 1=>have:=oG xs ⟨t.a,t.b⟩;cases u<;>simp[ja];omega
 | q+2=>have h1:=qZ xs t;have h2:=qY xs t;cases u<;>simp[ja]<;>omega
theorem Kr{xs:Q0a}{o:Al}{k:Nat}(h:k<xs.length):nu (xs.take (k+1)) o=(nu (xs.take k) o || yz xs[k].t xs[k].s o.t o.s):=by
 unfold nu;rw[Ve h,List.any_append];simp[ko,yz]
theorem Tk(w:af)(o:Al):∀j u,[Value.string o.t,.string o.s][j]?=some u->(w.alloc (.cells #[.string o.t,.string o.s] 27)).cell? ((⟨w.heap.size,0,none⟩:Addr).add j)=some u:=fun j u hu=>by
 match j,hu with
 | 0,hu=>simp at hu;subst hu;simp[Addr.add]
 | 1,hu=>simp at hu;subst hu;simp[Addr.add]
theorem lK.at0{w:af}{ad:Q02}{xs:Q0a}(h:lK w ad xs){k:Nat}(hk:k<xs.length):∃b off,ad=some ⟨b,off,none⟩/\Tu w b (off+k*2) xs[k]/\b<w.heap.size:=by
 rcases h with h|⟨b',off',e,hb,hr⟩
 ·rw[h]at hk;simp at hk
 exact⟨b',off',e,hr k hk,hb⟩
theorem tN(ad:Q02)(cap:Nat)(ts:Q05)(u:Bool)(w:af)(hlt:ts.length<=40)(hst:Sl w ad ts):
  Calls prog 95 #[.slice ad ts.length cap,.bool u] w fun e w'=>(∃v,e=.returned v/\w'.ownsRow w.heap.size 27 2 v (fO u ts).length (pairs (fO u ts)))/\ae w w':=by
 obtain⟨iO,h0,h1,h2,h3⟩:=Br;have HIO:=aH (And.intro h0 (And.intro h1 (And.intro h2 h3)));have HST:=aH hst;obtain⟨W0,hW0⟩:∃W0,W0=w.alloc (.cells #[] 27):=⟨_,rfl⟩;have HB0:=mi hW0;have WU:Hid (W0.ownsRow w.heap.size 27 2 (.slice (some ⟨w.heap.size,0,none⟩) 0 0) (fO u (ts.take 0)).length (pairs (fO u (ts.take 0)))):=by
  have e:fO u (ts.take 0)=[]:=by cases u<;>rfl
  show World.ownsRow _ _ _ _ _ _ _;rw[hW0,e];exact World.ownsRow_lit w #[] 0 (Va _) (by unfold maxLen;omega) (by simp)
 clear hst h0 h1 h2 h3;go_enter func95,ntmps95;go_wp2_with fail;rw[<-hW0];clear hW0;go_loopw[5,6] (fun v i wr=>∃k:Nat,k<=ts.length/\i=.int .i64 k/\Hid (wr.ownsRow w.heap.size 27 2 v (fO u (ts.take k)).length (pairs (fO u (ts.take k))))/\Hid (ae w wr)) (fun _ i _=>ts.length-(intOf i).toNat);case atStart=>exact⟨0,Vf _,rfl,WU,HB0⟩
 clear WU HB0;obtain⟨k,hk,rfl,HOW,Wx⟩:=hrel;by_cases hlt2:k<ts.length
 ·have YS:=aH (Ii u hlt2);obtain⟨x,hx⟩:∃x,x=ts[k]:=⟨_,rfl⟩;obtain⟨xs,hxs⟩:∃xs,xs=fO u (ts.take k):=⟨_,rfl⟩;have hxl:xs.length<=80:=by have:=Kq u (ts.take k);rw[Vz]at this;rw[hxs];omega
  rw[<-hx,<-hxs]at YS;rw[<-hxs]at HOW;have HX:=aH hx;have hi1:=bC k;have hi2:(k:Int)<(ts.length:Int):=by omega
  clear hxs hx;go_wp2;go_loopw[5,7] (fun v i w2=>∃q:Nat,q<=2/\i=.int .i64 q/\Hid (w2.ownsRow w.heap.size 27 2 v (ja u xs x q).length (pairs (ja u xs x q)))/\Hid (ae w w2)) (fun _ i _=>2-(intOf i).toNat);case atStart=>exact⟨0,by omega,rfl,HOW,Wx⟩
  obtain⟨w2,rfl⟩:∃w2,w2=wr:=⟨_,rfl⟩;obtain⟨q,hq,rfl,Wu,HB2⟩:=hrel;have hi1:=bC k;have hi2:(k:Int)<(ts.length:Int):=by omega
  have hsl:=Qw u xs x q;obtain⟨b,off,Wt,⟨t0,t1,t2,t3,t4,t5⟩,hb⟩:=Sl.at0 (HST.out.below HB2.out) hlt2;rw[<-HX.out]at t0 t1 t2 t3 t4 t5;subst Wt;by_cases hq2:q<2
  ·have hc:q=0\/q=1:=by omega
   rcases hc with rfl|rfl
   case' inl =>
    cases u;case true =>
     have HE:Hid (ja true xs x 1=ja true xs x 0):=rfl;have HR:Hid ((w2.alloc (.cells #[.string x.a,.string x.b] 27)).ownsRow w.heap.size 27 2 u5 (ja true xs x 1).length (pairs (ja true xs x 1))):=by show World.ownsRow _ _ _ _ _ _ _;rw[HE.out];exact Wu.out.alloc _
     have YZ:Hid (ae w (w2.alloc (.cells #[.string x.a,.string x.b] 27))):=HB2.out.alloc HB2.out.size _;go_wp2;exact⟨⟨1,by omega,rfl,HR,YZ⟩,by decide⟩
    obtain⟨o,ho⟩:∃o:Al,o=⟨x.a,x.b⟩:=⟨_,rfl⟩;have Zy:Hid (ja false xs x (0+1)=bz (ja false xs x 0) o):=by show _=_;rw[ho];rfl
    obtain⟨ys,hys⟩:∃ys,ys=ja false xs x 0:=⟨_,rfl⟩;rw[<-hys]at Zy Wu hsl;obtain⟨ns,hns⟩:∃ns,ns=ja false xs x (0+1):=⟨_,rfl⟩;have Xc:Hid (∀(W:World) (v:Value),W.ownsRow w.heap.size 27 2 v ns.length (pairs ns)->W.ownsRow w.heap.size 27 2 v (ja false xs x (0+1)).length (pairs (ja false xs x (0+1)))):=fun W v h=>by rw[<-hns];exact h
    rw[<-hns]at Zy;clear hns;clear hys;have hx1:x.a=o.t:=by rw[ho]
    have hx2:x.b=o.s:=by rw[ho]
    clear ho;obtain⟨Yp,Yc,rfl,hsO⟩:=kV Wu.out;have HSO:=aH hsO;obtain⟨W1,hW1⟩:∃W1,W1=w2.alloc (.cells #[.string o.t,.string o.s] 27):=⟨_,rfl⟩;have WZ:=mi hW1;have hz1:w2.heap.size<W1.heap.size:=by rw[hW1];simp
    have d0:W1.cell? ⟨w2.heap.size,0,none⟩=some (.string o.t):=by rw[hW1];simp
    have d1:W1.cell? ⟨w2.heap.size,1,none⟩=some (.string o.s):=by rw[hW1];simp
    clear hsO;go_wp2_with fail;rw[<-hW1];clear hW1 t0 t1 t2 t3 t4 t5 hx1 hx2
   case' inr =>
    cases u
    case' true =>
     cases hz:x.s.toList.isEmpty;case false =>
      have hs2:(x.s.toList==[])=false:=by rw[nG];exact hz
      have HE:Hid (ja true xs x 2=ja true xs x 1):=by show df xs x=xs;unfold df;rw[hs2];rfl
      have HR:Hid ((w2.alloc (.cells #[.string x.c,.string x.d] 27)).ownsRow w.heap.size 27 2 u5 (ja true xs x 2).length (pairs (ja true xs x 2))):=by show World.ownsRow _ _ _ _ _ _ _;rw[HE.out];exact Wu.out.alloc _
      have YZ:Hid (ae w (w2.alloc (.cells #[.string x.c,.string x.d] 27))):=HB2.out.alloc HB2.out.size _;go_wp2;exact⟨⟨2,by omega,rfl,HR,YZ⟩,by decide⟩
     have hs2:(x.s.toList==[])=true:=by rw[nG];exact hz
     obtain⟨o,ho⟩:∃o:Al,o=⟨x.c,x.d⟩:=⟨_,rfl⟩;have Zy:Hid (ja true xs x (1+1)=bz (ja true xs x 1) o):=by show _=_;rw[ho];show df xs x=_;unfold df;rw[hs2];rfl
     obtain⟨ys,hys⟩:∃ys,ys=ja true xs x 1:=⟨_,rfl⟩;rw[<-hys]at Zy Wu hsl;obtain⟨ns,hns⟩:∃ns,ns=ja true xs x (1+1):=⟨_,rfl⟩;have Xc:Hid (∀(W:World) (v:Value),W.ownsRow w.heap.size 27 2 v ns.length (pairs ns)->W.ownsRow w.heap.size 27 2 v (ja true xs x (1+1)).length (pairs (ja true xs x (1+1)))):=fun W v h=>by rw[<-hns];exact h
     rw[<-hns]at Zy;clear hns;clear hys;have hx1:x.c=o.t:=by rw[ho]
     have hx2:x.d=o.s:=by rw[ho]
     clear ho;obtain⟨Yp,Yc,rfl,hsO⟩:=kV Wu.out;have HSO:=aH hsO;obtain⟨W1,hW1⟩:∃W1,W1=w2.alloc (.cells #[.string o.t,.string o.s] 27):=⟨_,rfl⟩;have WZ:=mi hW1;have hz1:w2.heap.size<W1.heap.size:=by rw[hW1];simp
     have d0:W1.cell? ⟨w2.heap.size,0,none⟩=some (.string o.t):=by rw[hW1];simp
     have d1:W1.cell? ⟨w2.heap.size,1,none⟩=some (.string o.s):=by rw[hW1];simp
     clear hsO;go_wp2_with fail;rw[<-hW1];clear hW1 t0 t1 t2 t3 t4 t5 hx1 hx2
    case' false =>
     obtain⟨o,ho⟩:∃o:Al,o=⟨x.c,x.d⟩:=⟨_,rfl⟩;have Zy:Hid (ja false xs x (1+1)=bz (ja false xs x 1) o):=by show _=_;rw[ho];rfl
     obtain⟨ys,hys⟩:∃ys,ys=ja false xs x 1:=⟨_,rfl⟩;rw[<-hys]at Zy Wu hsl;obtain⟨ns,hns⟩:∃ns,ns=ja false xs x (1+1):=⟨_,rfl⟩;have Xc:Hid (∀(W:World) (v:Value),W.ownsRow w.heap.size 27 2 v ns.length (pairs ns)->W.ownsRow w.heap.size 27 2 v (ja false xs x (1+1)).length (pairs (ja false xs x (1+1)))):=fun W v h=>by rw[<-hns];exact h
     rw[<-hns]at Zy;clear hns;clear hys;have hx1:x.c=o.t:=by rw[ho]
     have hx2:x.d=o.s:=by rw[ho]
     clear ho;obtain⟨Yp,Yc,rfl,hsO⟩:=kV Wu.out;have HSO:=aH hsO;obtain⟨W1,hW1⟩:∃W1,W1=w2.alloc (.cells #[.string o.t,.string o.s] 27):=⟨_,rfl⟩;have WZ:=mi hW1;have hz1:w2.heap.size<W1.heap.size:=by rw[hW1];simp
     have d0:W1.cell? ⟨w2.heap.size,0,none⟩=some (.string o.t):=by rw[hW1];simp
     have d1:W1.cell? ⟨w2.heap.size,1,none⟩=some (.string o.s):=by rw[hW1];simp
     clear hsO;go_wp2_with fail;rw[<-hW1];clear hW1 t0 t1 t2 t3 t4 t5 hx1 hx2
   all_goals
    go_loopw[9,10] (fun ov j w3=>∃(m:Nat) (bb:Bool),m<=ys.length/\ov=.bool bb/\j=.int .i64 m/\Hid (bb=nu (ys.take m) o)/\Hid (ae W1 w3)) (fun _ j _=>ys.length-(intOf j).toNat);case atStart=>exact⟨0,false,Vf _,rfl,rfl,rfl,Vb _ _⟩
    obtain⟨m,bb,hm,rfl,rfl,Yq,HB3⟩:=hrel;have HBx:Hid (ae w2 wr):=WZ.out.trans (HB3.out.mono WZ.out.size);have HBw:Hid (ae w wr):=HB2.out.trans (HBx.out.mono HB2.out.size);have HOx:=aH (bu Wu.out HBx.out);have c0:=mK HB3.out hz1 d0;have c1:=mK HB3.out hz1 d1;have hz3:w2.heap.size<wr.heap.size:=U9 hz1 HB3.out.size;by_cases hlm:m<ys.length
    ·obtain⟨bO,Xn,ZW,⟨s0,s1⟩,hbO⟩:=lK.at0 (HSO.out.below HBx.out) hlm;have hm1:=bC m;have hm2:(m:Int)<(ys.length:Int):=by omega
     have HTK:=aH (Kr (o:=o) hlm);cases bb;case true=>
      have HBB2:Hid (true=nu (ys.take (m+1)) o):=by show _=_;rw[HTK.out,<-Yq.out];rfl
      clear s0 s1 c0 c1;go_wp2_with fail;go_quiet (fail);go_wp2;go_roundw;case rel=>exact⟨m+1,true,by omega,rfl,by go_num,HBB2,below_drewN HB3.out _⟩
      simp[intOf]<;>omega
     cases hv:yz ys[m].t ys[m].s o.t o.s;case true=>
      have heq:=iH _ _ _ _ hv;have HBB2:Hid (true=nu (ys.take (m+1)) o):=by show _=_;rw[HTK.out,hv];simp
      clear hv;go_wp2_with fail;go_quiet (fail);go_wp2;go_roundw;case rel=>exact⟨m+1,true,by omega,rfl,by go_num,HBB2,below_drewN HB3.out _⟩
      simp[intOf]<;>omega
     have heq:=iH _ _ _ _ hv;have HBB2:Hid (false=nu (ys.take (m+1)) o):=by show _=_;rw[HTK.out,hv,<-Yq.out];rfl
     clear hv;go_wp2_with fail;go_quiet (fail);go_wp2;go_roundw;case rel=>exact⟨m+1,false,by omega,rfl,by go_num,HBB2,below_drewN HB3.out _⟩
     simp[intOf]<;>omega
    have WM:Hid (bb=nu ys o):=by show _=_;rw[Yq.out,VE (by omega)]
    cases bb;case true=>
     have HR:Hid (wr.ownsRow w.heap.size 27 2 (.slice Yp ys.length Yc) (ns).length (pairs (ns))):=by
      show World.ownsRow _ _ _ _ _ _ _;rw[Zy.out];unfold bz;rw[<-WM.out];exact HOx.out
     clear WM c0 c1;go_wp2;have HR2:=aH (Xc.out _ _ HR.out)
     first|exact⟨⟨0+1,by omega,rfl,HR2,HBw⟩,by decide⟩|exact⟨⟨1+1,by omega,rfl,HR2,HBw⟩,by decide⟩
    have HWE:Hid (bz ys o=ys++[o]):=by show _=_;unfold bz;rw[<-WM.out];rfl
    obtain⟨W4,WP⟩:∃W4,W4=wr.alloc (.cells #[.string o.t,.string o.s] 27):=⟨_,rfl⟩;have WG:Hid (W4.ownsRow w.heap.size 27 2 (.slice Yp ys.length Yc) ys.length (pairs ys)):=by show World.ownsRow _ _ _ _ _ _ _;rw[WP];exact HOx.out.alloc _
    have HN4:Hid (∀j u,[Value.string o.t,.string o.s][j]?=some u->W4.cell? ((⟨wr.heap.size,0,none⟩:Addr).add j)=some u):=by rw[WP];exact Tk wr o
    have Xp:Hid (ae w W4):=by show Below _ _ _;rw[WP];exact HBw.out.alloc HBw.out.size _
    have Zm:w.heap.size<=W4.heap.size:=Xp.out.size;clear WM;go_wp2_with(at_builtin;rw[<-WP];clear WP;refine wpList_append_own_at _ rfl _ _ 49 rfl w.heap.size 27 iO (.agg #[.string ⟨#[]⟩,.string ⟨#[]⟩]) 2 32 underlying49 HIO.out.1 HIO.out.2.1 HIO.out.2.2.1 HIO.out.2.2.2 rfl (by decide) _ ys.length (pairs ys) rfl WG.out ⟨wr.heap.size,0,none⟩ 1 1 [.string o.t,.string o.s] rfl rfl HN4.out (by simp[Value.oneCell']) (by unfold maxLen;omega) (by omega) Zm ?_);intro v' w5 hown hgr _ _;have HR:Hid (w5.ownsRow w.heap.size 27 2 v' (ns).length (pairs (ns))):=by
     show World.ownsRow _ _ _ _ _ _ _;rw[Zy.out,HWE.out,Vh];have:pairs (ys++[o])=pairs ys++[.string o.t,.string o.s]:=by simp[pairs]
     rw[this];exact hown
    have YZ:Hid (ae w w5):=Xp.out.grown hgr Xp.out.size (fun g hg=>(WG.out.lt g hg).1);clear hown hgr c0 c1;go_wp2;have HR2:=aH (Xc.out _ _ HR.out)
    first|exact⟨⟨0+1,by omega,rfl,HR2,YZ⟩,by decide⟩|exact⟨⟨1+1,by omega,rfl,HR2,YZ⟩,by decide⟩
  have WO:Hid (w2.ownsRow w.heap.size 27 2 u5 (fO u (ts.take (k+1))).length (pairs (fO u (ts.take (k+1))))):=by
   have e:q=2:=by omega
   have h2:=Wu.out;rw[e]at h2;show World.ownsRow _ _ _ _ _ _ _;rw[YS.out];exact h2
  go_wp2;go_roundw;case rel=>exact⟨k+1,by omega,by go_num,WO,HB2⟩
  simp[intOf]<;>omega
 have HE:Hid (fO u (ts.take k)=fO u ts):=by show _=_;rw[VE (by omega)]
 have WO:Hid (wr.ownsRow w.heap.size 27 2 u5 (fO u ts).length (pairs (fO u ts))):=by show World.ownsRow _ _ _ _ _ _ _;rw[<-HE.out];exact HOW.out
 go_wp2;go_ret;exact⟨⟨_,rfl,WO.out⟩,Wx.out⟩
theorem Ij(v0:Value)(Yo:Q02)(XU:Nat)(ts:Q05)(Ws:Q02)(capE:Nat)(rows:Q08)(n:Nat)(adK:Q02)(capK:Nat)(known:Q04)(Xf:Q02)(WJ:Nat)(truth:Q04)(f:Fc)(w:af)(hW:HW w Yo ts Ws rows adK known Xf truth)(hn:n<rows.length)(hre:rows.length<=1000)(hkl:known.length<=1048576)(hk:rows[n].e.kind=2):
  Calls prog 98 #[v0,.slice Yo ts.length XU,.slice Ws rows.length capE,.int .i64 (n:Int),.slice adK known.length capK,.slice Xf truth.length WJ,.agg #[.string f.a,.string f.b,.string f.r,.string f.c,.string f.d]] w fun e w'=>e=.returned (.bool (bB known ⟨f.a,f.b,rows[n].e.name,f.c,f.d⟩))/\ae w w':=by
 obtain⟨b,off,Wt,⟨t0,t1,t2,t3,t4⟩,hbl,-⟩:=ik.at0 hW.ex hn;have HW0:=ai hW;obtain⟨W0,hW0⟩:∃W0,W0=vX w f rows[n]:=⟨_,rfl⟩;have HB0:Hid (ae w W0):=by show Below _ _ _;rw[hW0];exact eu _ _ _
 have hk1:(rows[n].e.kind==1)=false:=by rw[hk];rfl
 have hk2:(rows[n].e.kind==2)=true:=by rw[hk];rfl
 have hn1:=bC n;have hn2:(n:Int)<(rows.length:Int):=by omega
 unfold vX at hW0;rw[Wt];clear Wt hW hk;go_enter func98,ntmps98;go_wp2_with fail;rw[<-hW0];refine(oz adK capK known ⟨f.a,f.b,rows[n].e.name,f.c,f.d⟩ W0 hkl (HW0.out.kn.below HB0.out)).mono ?_;rintro e w1 ⟨rfl,hb1⟩;have HB1:=ai (HB0.out.trans (hb1.mono HB0.out.size));clear hb1 hW0;go_wp2;go_ret;exact⟨rfl,HB1.out⟩
theorem Kt(v0:Value)(Yo:Q02)(XU:Nat)(ts:Q05)(Ws:Q02)(capE:Nat)(rows:Q08)(n:Nat)(vK vR:Value)(f:Fc)(w:af)(hex:ik w Ws rows)(hn:n<rows.length)(hre:rows.length<=1000)(k1:rows[n].e.kind≠1)(k2:rows[n].e.kind≠2)(k3:rows[n].e.kind≠3)(k4:rows[n].e.kind≠4)(k5:rows[n].e.kind≠5)(k6:rows[n].e.kind≠6):
  Calls prog 98 #[v0,.slice Yo ts.length XU,.slice Ws rows.length capE,.int .i64 (n:Int),vK,vR,.agg #[.string f.a,.string f.b,.string f.r,.string f.c,.string f.d]] w fun e w'=>e=.returned (.bool false)/\ae w w':=by
 obtain⟨b,off,Wt,⟨t0,t1,t2,t3,t4⟩,hbl,-⟩:=ik.at0 hex hn;have HB0:=ai (eu w f rows[n]);unfold vX at HB0;have hk1:(rows[n].e.kind==1)=false:=by simpa using k1
 have hk2:(rows[n].e.kind==2)=false:=by simpa using k2
 have hk3:(rows[n].e.kind==3)=false:=by simpa using k3
 have hk4:(rows[n].e.kind==4)=false:=by simpa using k4
 have hk5:(rows[n].e.kind==5)=false:=by simpa using k5
 have hk6:(rows[n].e.kind==6)=false:=by simpa using k6
 have hn1:=bC n;have hn2:(n:Int)<(rows.length:Int):=by omega
 rw[Wt];clear Wt hex k1 k2 k3 k4 k5 k6;go_enter func98,ntmps98;go_wp2;go_ret;exact⟨rfl,HB0.out⟩
theorem FN(v0:Value)(Yo:Q02)(XU:Nat)(ts:Q05)(Ws:Q02)(capE:Nat)(rows:Q08)(n:Nat)(adK:Q02)(capK:Nat)(known:Q04)(Xf:Q02)(WJ:Nat)(truth:Q04)(f:Fc)(w:af)(hW:HW w Yo ts Ws rows adK known Xf truth)(hn:n<rows.length)(hre:rows.length<=1000)(hkl:known.length<=1048576)(htl:ts.length<=1048576)(hk:rows[n].e.kind=1):
  Calls prog 98 #[v0,.slice Yo ts.length XU,.slice Ws rows.length capE,.int .i64 (n:Int),.slice adK known.length capK,.slice Xf truth.length WJ,.agg #[.string f.a,.string f.b,.string f.r,.string f.c,.string f.d]] w fun e w'=>e=.returned (.bool (eQ ts known f))/\ae w w':=by
 obtain⟨b,off,Wt,⟨t0,t1,t2,t3,t4⟩,hbl,-⟩:=ik.at0 hW.ex hn;have HW0:=ai hW;obtain⟨W0,hW0⟩:∃W0,W0=vX w f rows[n]:=⟨_,rfl⟩;have HB0:Hid (ae w W0):=by show Below _ _ _;rw[hW0];exact eu _ _ _
 have YV:Hid (EnB W0 w.heap.size f rows[n]):=by show EnB _ _ _ _;rw[hW0];exact gy _ _ _
 have hk1:(rows[n].e.kind==1)=true:=by rw[hk];rfl
 have hn1:=bC n;have hn2:(n:Int)<(rows.length:Int):=by omega
 unfold vX at hW0;rw[Wt];clear Wt hW hk;go_enter func98,ntmps98;go_wp2_with fail;rw[<-hW0];clear hW0 t0 t1 t2 t3 t4;go_loopw[16] (fun i wr=>∃k:Nat,k<=ts.length/\i=.int .i64 k/\Hid (eQ (ts.drop k) known f=eQ ts known f)/\Hid (ae W0 wr)) (fun i _=>ts.length-(intOf i).toNat);case atStart=>exact⟨0,Vf _,rfl,rfl,Vb _ _⟩
 obtain⟨k,hk,rfl,HP,HB⟩:=hrel;have Wx:Hid (ae w wr):=HB0.out.trans (HB.out.mono HB0.out.size);by_cases hlt:k<ts.length
 ·obtain⟨bT,offT,Yh,⟨a0,a1,a2,a3,a4,a5⟩,hbT⟩:=Sl.at0 (HW0.out.tup.below Wx.out) hlt;have hE:=YV.out.below HB.out;have e0:=hE.f0;have e1:=hE.f1;have e2:=hE.f2;have e3:=hE.f3;have e4:=hE.f4;have el:w.heap.size<wr.heap.size:=by have:=hE.lt;omega
  have hi1:=bC k;have hi2:(k:Int)<(ts.length:Int):=by omega
  obtain⟨W1,hW1⟩:∃W1,W1=wr.alloc (.cells #[.string ts[k].a,.string ts[k].b,.string ts[k].r,.string ts[k].c,.string ts[k].d,.string ts[k].s] 46):=⟨_,rfl⟩;have WZ:=mi hW1;have HB1:Hid (ae W0 W1):=HB.out.trans (WZ.out.mono HB.out.size);have XF:Hid (ae w W1):=Wx.out.trans (WZ.out.mono Wx.out.size);have HD:Hid (eQ ts known f=(AP known f ts[k] || eQ (ts.drop (k+1)) known f)):=by show _=_;rw[<-HP.out];exact JC hlt known f
  rw[Yh];clear Yh hE;cases ho:yz ts[k].a ts[k].b f.a f.b;case false=>
   have hneq:=GR _ _ _ _ ho;have WB:Hid (eQ (ts.drop (k+1)) known f=eQ ts known f):=by
    show _=_;unfold yz at ho;rw[HD.out];unfold AP;rw[ho];rfl
   clear ho;go_wp2;rw[<-hW1];clear hW1;go_roundw;case rel=>exact⟨k+1,by omega,by go_num,WB,HB1⟩
   simp[intOf]<;>omega
  have hneq:=GR _ _ _ _ ho;have HO:Hid (yz ts[k].a ts[k].b f.a f.b=true):=ho;clear ho;cases hr:(ts[k].r.toList==f.r.toList);case false=>
   have WB:Hid (eQ (ts.drop (k+1)) known f=eQ ts known f):=by
    show _=_;have h2:=HO.out;unfold yz at h2;rw[HD.out];unfold AP;rw[h2,hr];rfl
   go_wp2;rw[<-hW1];clear hW1;go_roundw;case rel=>exact⟨k+1,by omega,by go_num,WB,HB1⟩
   simp[intOf]<;>omega
  have HT:Hid (AP known f ts[k]=(if ts[k].s.toList.isEmpty then ts[k].c.toList==f.c.toList&&ts[k].d.toList==f.d.toList else bB known ⟨ts[k].c,ts[k].d,ts[k].s,f.c,f.d⟩)):=by
   show _=_;have h2:=HO.out;unfold yz at h2;unfold AP;rw[h2,hr];rfl
  cases hs:ts[k].s.toList.isEmpty;case true=>
   have hs2:(ts[k].s.toList==[])=true:=by rw[nG];exact hs
   cases hu:yz ts[k].c ts[k].d f.c f.d;case true=>
    have heq:=iH _ _ _ _ hu;have HN:Hid (eQ ts known f=true):=by
     show _=_;unfold yz at hu;rw[HD.out,HT.out,if_pos hs,hu];rfl
    clear hu hs;go_wp2;rw[<-hW1];go_ret;exact⟨by rw[HN.out];rfl,XF.out⟩
   have heq:=iH _ _ _ _ hu;have WB:Hid (eQ (ts.drop (k+1)) known f=eQ ts known f):=by
    show _=_;unfold yz at hu;rw[HD.out,HT.out,if_pos hs,hu];rfl
   clear hu hs;go_wp2;rw[<-hW1];clear hW1;go_roundw;case rel=>exact⟨k+1,by omega,by go_num,WB,HB1⟩
   simp[intOf]<;>omega
  have hs2:(ts[k].s.toList==[])=false:=by rw[nG];exact hs
  have HT2:Hid (AP known f ts[k]=bB known ⟨ts[k].c,ts[k].d,ts[k].s,f.c,f.d⟩):=by show _=_;rw[HT.out,if_neg (by rw[hs];decide)]
  clear hs;go_wp2_with fail;rw[<-hW1];clear hW1;refine(oz adK capK known ⟨ts[k].c,ts[k].d,ts[k].s,f.c,f.d⟩ W1 hkl (HW0.out.kn.below XF.out)).mono ?_;rintro e w2 ⟨rfl,hb2⟩;have HB2:=jF HB1 hb2;have HBW2:=jF XF hb2;clear hb2;cases hh:bB known ⟨ts[k].c,ts[k].d,ts[k].s,f.c,f.d⟩;case true=>
   have HN:Hid (eQ ts known f=true):=by show _=_;rw[HD.out,HT2.out,hh];rfl
   go_wp2;go_ret;exact⟨by rw[HN.out];rfl,HBW2.out⟩
  have WB:Hid (eQ (ts.drop (k+1)) known f=eQ ts known f):=by show _=_;rw[HD.out,HT2.out,hh];rfl
  go_wp2;go_roundw;case rel=>exact⟨k+1,by omega,by go_num,WB,HB2⟩
  simp[intOf]<;>omega
 have HN:Hid (eQ ts known f=false):=by show _=_;rw[<-HP.out,Vt (by omega)];rfl
 go_wp2;go_ret;exact⟨by rw[HN.out];rfl,Wx.out⟩
end Go.Proofs.YtajkkeikihhejaaGreat
