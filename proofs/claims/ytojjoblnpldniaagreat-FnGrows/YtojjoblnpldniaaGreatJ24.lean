/- What the program's tables and the document's strata ask: the same questions; how many facts there may be; the program's rounds over fewer users. -/
import Derived.Test.YtojjoblnpldniaaGreatSq
import Derived.Test.YtojjoblnpldniaaGreatDataOf
import Derived.Test.YtojjoblnpldniaaGreatJ23
namespace Go.Proofs.YtojjoblnpldniaaGreat
set_option linter.unusedVariables false
open ChangeShapes WideShapes ChangeAt RowKit Maps
open Pl
def ny(known:Q04)(f:Fc)(t:Tp):Bool:=if t.s.toList.isEmpty then t.c.toList==f.c.toList&&t.d.toList==f.d.toList else df known ⟨t.c,t.d,t.s,f.c,f.d⟩
def wD(known:Q04)(name:ByteArray)(f:Fc)(t:Tp):Bool:=df known ⟨t.c,t.d,name,f.c,f.d⟩
theorem Ie(l:Q05)(k:K3)(p:Tp->Bool):(G.lookL (dN l) k).any p=l.any fun t=>(t.a.toList==k.1.toList&&t.b.toList==k.2.1.toList&&t.r.toList==k.2.2.toList)&&p t:=by
 induction l with
 | nil=>rfl
 | cons t l ih =>
  have e:dN (t::l)=[(MQ t,t)]++dN l:=rfl;rw[e,G.lookL_append,List.any_append,ih,List.any_cons];congr 1;unfold G.lookL MQ;by_cases h:(t.a,t.b,t.r)=k
  ·subst h;simp
  have h2:(t.a.toList==k.1.toList&&t.b.toList==k.2.1.toList&&t.r.toList==k.2.2.toList)=false:=by
   cases hb:(t.a.toList==k.1.toList&&t.b.toList==k.2.1.toList&&t.r.toList==k.2.2.toList);case false=>rfl
   rw[Vt,Vt,fC,fC,fC]at hb;exact absurd (Prod.ext hb.1.1 (Prod.ext hb.1.2 hb.2)) h
  simp[h,h2]
theorem Kr(l:Q05)(known:Q04)(f:Fc):eG l known f=(G.lookL (dN l) (f.a,f.b,f.r)).any (ny known f):=by rw[Ie];rfl
theorem Kt(l:Q05)(known:Q04)(over name:bQ)(f:Fc):fQ l known over name f=(G.lookL (dN l) (f.a,f.b,over)).any (wD known name f):=by rw[Ie];rfl
theorem NN(st:Q00)(n:Int)(o:Al)(tn:bQ)(rows:Q07):((rows.map fun r=>(tn,r.name)).filter fun k=>k.1.toList==o.t.toList&&decide (st k=n))=(G.lookL (rows.map fun r=>((tn,st (tn,r.name)),r)) (o.t,n)).map fun r=>(o.t,r.name):=by
 induction rows with
 | nil=>rfl
 | cons r rows ih =>
  have e:((r::rows).map fun r=>((tn,st (tn,r.name)),r))=[((tn,st (tn,r.name)),r)]++rows.map fun r=>((tn,st (tn,r.name)),r):=rfl;rw[e,G.lookL_append,Wu,<-ih,WF,WG];unfold G.lookL;by_cases h:tn=o.t/\st (tn,r.name)=n
  ·obtain⟨rfl,rfl⟩:=h;simp
  have h1:(tn.toList==o.t.toList&&decide (st (tn,r.name)=n))=false:=by
   cases hb:(tn.toList==o.t.toList&&decide (st (tn,r.name)=n));case false=>rfl
   rw[Vt,fC,VF]at hb;exact absurd hb h
  have h2:¬((tn,st (tn,r.name))=(o.t,n)):=fun e=>h ⟨congrArg Prod.fst e,congrArg Prod.snd e⟩;simp[h1,h2]
theorem Ig(st:Q00)(n:Int)(o:Al)(rs:Q06):Ar (af rs) st n o=(G.lookL (fe st rs) (o.t,n)).map fun r=>(o.t,r.name):=by
 unfold Ar
 induction rs with
 | nil=>rfl
 | cons t rs ih =>
  have e1:ak (af (t::rs))=(t.rows.map fun r=>(t.name,r.name))++ak (af rs):=by
   have:jI t.p=t.rows.map fun r=>(t.name,r.name):=by unfold jI;show List.map _ (eQ t.rows)=_;unfold eQ;rw[List.map_map];rfl
   simp[ak,af,this]
  have e2:fe st (t::rs)=(t.rows.map fun r=>((t.name,st (t.name,r.name)),r))++fe st rs:=rfl;rw[e1,e2,G.lookL_append,WJ,Wu,ih,NN]
theorem BH{s:St}:∀{sts:List St},(iy sts).Nodup->s∈sts->fJ sts s.key=s.n
 | [],_,h=>by cases h
 | x::xs,hd,h=>by
  have hd2:x.key ∉ iy xs/\(iy xs).Nodup:=List.nodup_cons.1 hd;unfold fJ;by_cases e:zF x s.key.1 s.key.2=true
  ·rw[if_pos e];have ek:=qK.1 e;rcases VH.1 h with rfl|h
   ·rfl
   exact absurd (by rw[ek];exact VY h) hd2.1
  rw[if_neg e];rcases VH.1 h with rfl|h
  ·exact absurd (qK.2 rfl) e
  exact BH hd2.2 h
def U6(sts:List St)(n:Int)(o:Al):List St:=sts.filter fun s=>s.typ.toList==o.t.toList&&decide (s.n=n)
theorem Sr{ts:Q0b}{sts:List St}(hk:iy sts=ak ts)(hn:(ak ts).Nodup)(n:Int)(o:Al):Ar ts (fJ sts) n o=(U6 sts n o).map St.key:=by
 unfold Ar U6;rw[<-hk];rw[<-hk]at hn;unfold iy;rw[List.filter_map];congr 1;refine List.filter_congr fun s hs=>?_;show(s.key.1.toList==o.t.toList&&decide (fJ sts s.key=n))=_;rw[BH hn hs];rfl
theorem Ku{rs:Q06}(h:aY (af rs)=true):(ak (af rs)).Nodup:=by
 have e:ak (af rs)=rs.flatMap fun t=>t.rows.map fun r=>(t.name,r.name):=by
  unfold ak af;rw[List.flatMap_map];congr 1
  funext t
  unfold jI;show List.map _ (eQ t.rows)=_;unfold eQ;rw[List.map_map];rfl
 rw[e,List.Nodup,List.pairwise_flatMap];constructor
 ·intro t ht;obtain ⟨i,hi,rfl⟩:=V7.1 ht;have hu:=(lK h i hi).2.2;rw [List.pairwise_map,List.pairwise_iff_getElem];intro a b ha hb hab e;have hne:=rR (f:=fun k=>(rs[i].rows[k]?.map RR.name).getD ByteArray.empty) (n:=rs[i].rows.length) (fun k hk=>by
   have h0:k<rs[i].rows.length:=by omega
   simp only[Vy hk,Vy h0,Option.map_some,Wd];exact(Dl hu (k+1) hk hk).2.1 k h0 rfl)
  have:=hne a b hab hb;simp[ha,hb]at this;exact this (congrArg Prod.snd e)
 rw [List.pairwise_iff_getElem];intro a b ha hb hab x hx y hy e;obtain ⟨r,hr,rfl⟩:=VG.1 hx;obtain ⟨q,hq,rfl⟩:=VG.1 hy;have hne:=rR (f:=fun k=>(rs[k]?.map TR.name).getD ByteArray.empty) (n:=rs.length) (fun k hk=>by
  have h0:k<rs.length:=by omega
  simp only[Vy hk,Vy h0,Option.map_some,Wd];exact(lK h (k+1) hk).2.1 k h0 rfl)
 have:=hne a b hab hb;simp[ha,hb]at this;exact this (congrArg Prod.fst e)
theorem Ih{α:Type}[DecidableEq α]:∀{a b:List α},a.Nodup->(∀x∈a,x∈b)->a.length<=b.length
 | [],_,_,_=>Vv _
 | x::a,b,hd,hs=>by
  obtain⟨h1,h2⟩:=List.nodup_cons.1 hd;have hx:=hs x (by simp);have:=Ih (a:=a) (b:=b.erase x) h2 fun y hy=>(List.mem_erase_of_ne (fun e:y=x=>h1 (by rw[<-e];exact hy))).2 (hs y (by simp[hy]));rw[List.length_erase_of_mem hx]at this;have hp:0<b.length:=List.length_pos_of_mem hx;simp only[VS];omega
def Cw(ts:Q0b)(xo xu:Q0a):List Fc:=xo.flatMap fun o=>(ak ts).flatMap fun k=>jc o k.2 xu
theorem D9{ts:Q0b}{st:Q00}{xo xu:Q0a}{n:Int}{f:Fc}(h:f∈bF ts st xo xu n):f∈Cw ts xo xu:=by
 unfold bF vC at h;obtain⟨o,ho,h⟩:=VJ.1 h;obtain⟨k,hk,h⟩:=VJ.1 h;exact VJ.2 ⟨o,ho,VJ.2 ⟨k,(Wz.1 hk).1,h⟩⟩
theorem BI{α β:Type}(f:α->List β)(m:Nat)(hf:∀a,(f a).length<=m):∀l:List α,(l.flatMap f).length<=l.length*m
 | []=>by simp
 | a::l=>by
  have h1:=BI f m hf l;have h2:=hf a;simp only[VX,Vx,VS,Nat.add_mul];omega
theorem QU(ts:Q0b)(xo xu:Q0a):(Cw ts xo xu).length<=xo.length*((ak ts).length*xu.length) :=
 BI _ _ (fun o=>BI _ _ (fun k=>by unfold jc;rw[Wy];exact Vr _) _) _
structure GoodO(ts:Q0b)(xo xu:Q0a)(out:Q04):Prop where
 once:out.Nodup
 sub:∀g∈out,g∈Cw ts xo xu
def UG(us:Q0a):List (ByteArray×ByteArray):=us.map fun u=>(u.t,u.s)
def UH(us:Q0a)(x:Q01):Bool:=us.any fun u=>u.t.toList==x.1.toList&&u.s.toList==x.2.toList
theorem zb{us:Q0a}{x:Q01}:UH us x=true↔x∈UG us:=by
 unfold UH UG;rw[VT,VG];constructor
 ·rintro⟨u,hu,h⟩;rw[Vt,fC,fC]at h;exact⟨u,hu,Prod.ext h.1 h.2⟩
 rintro⟨u,hu,rfl⟩;exact⟨u,hu,by simp⟩
def fw(us:Q0a)(new:Q04):List Al:=us.filter fun u=>new.any fun g=>g.c.toList==u.t.toList&&g.d.toList==u.s.toList
theorem Ea{us:Q0a}{new:Q04}{x:Q01}:x∈UG (fw us new)↔x∈UG us/\∃g∈new,g.u=x:=by
 unfold UG fw;constructor
 ·intro h;obtain⟨u,hu,rfl⟩:=VG.1 h;obtain⟨h1,h2⟩:=Wz.1 hu;obtain⟨g,hg,h3⟩:=VT.1 h2;rw[Vt,fC,fC]at h3;exact⟨VY (f:=fun u:Al=>(u.t,u.s)) h1,g,hg,Prod.ext h3.1 h3.2⟩
 rintro⟨h,g,hg,hx⟩;obtain⟨u,hu,rfl⟩:=VG.1 h;refine VG.2 ⟨u,Wz.2 ⟨hu,VT.2 ⟨g,hg,?_⟩⟩,rfl⟩;rw[Vt,fC,fC];exact⟨congrArg Prod.fst hx,congrArg Prod.snd hx⟩
theorem Kv(us:Q0a):fw us []=[]:=by unfold fw;rw[List.filter_eq_nil_iff];simp
theorem Kw{ts:Q0b}{xo xu:Q0a}{n:Int}{st st':Q00}(h:∀k∈ak ts,st k=st' k):bF ts st xo xu n=bF ts st' xo xu n:=by
 unfold bF vC;congr 1
 funext o
 have:Ar ts st n o=Ar ts st' n o:=List.filter_congr fun k hk=>by rw[h k hk]
 rw[this]
set_option linter.unusedSectionVars false
section
variable  [DecidableEq Fc]
theorem GoodO.run{ts:Q0b}{xo xu:Q0a}{out:Q04}(h:GoodO ts xo xu out){H:List Fc->Fc->Bool}{qs:Q04}(hq:∀g∈qs,g∈Cw ts xo xu):GoodO ts xo xu (bB H qs out):=by
 refine⟨wO qs h.once,fun g hg=>?_⟩;obtain⟨n,e,hn⟩:=jB (H:=H) qs out;rw[e]at hg;rcases VE.1 hg with hg|hg
 ·exact h.sub g hg
 exact hq g (hn g hg).1
theorem GoodO.len{ts:Q0b}{xo xu:Q0a}{out:Q04}(h:GoodO ts xo xu out)(h1:xo.length<=80)(h2:(ak ts).length<=36)(h3:xu.length<=40):out.length<=115200:=by
 have a1:=Ih h.once h.sub;have a2:=QU ts xo xu;have a3:(ak ts).length*xu.length<=36*40:=Nat.mul_le_mul h2 h3;have a4:xo.length*((ak ts).length*xu.length)<=80*(36*40):=Nat.mul_le_mul h1 a3;omega
structure FewA(ts:Q0b)(l:Q05)(st:Q00)(xo xu:Q0a)(n:Int)(us:Q0a)(out:Q04):Prop where
 sub:us=xu.filter fun u:Al=>UH us (u.t,u.s)
 few:Few Fc.u (fu ts l) (bF ts st xo xu n) (UG us) out
variable  {ts:Q0b}{l:Q05}{st:Q00}{xo xu:Q0a}{n:Int}
theorem FewA.start(out:Q04):FewA ts l st xo xu n xu out:=by
 refine⟨(List.filter_eq_self.2 fun u hu=>zb.2 (VY (f:=fun u:Al=>(u.t,u.s)) hu)).symm,Few.start fun f hf=>JG hf⟩
theorem Kz{φ υ:Type}[DecidableEq φ]{us:φ->υ}{H:List φ->φ->Bool}(hL:Loc us H){qs:List φ}{users:List υ}{out:List φ}(h:Few us H qs users out)(P:υ->Bool)(hP:∀u,P u=true↔u∈users):bB H (qs.filter fun f=>P (us f)) out=bB H qs out :=
 (mX hL P qs out fun f hf hp=>h.set f hf fun hm=>by rw[(hP _).2 hm]at hp;cases hp).symm
theorem FewA.round{us:Q0a}{out:Q04}(h:FewA ts l st xo xu n us out):bB (fu ts l) (bF ts st xo us n) out=bB (fu ts l) (bF ts st xo xu n) out:=by
 have h2:=GM ts st xo xu n (UH us);rw[<-h.sub]at h2;rw[<-h2];exact Kz (Dn ts l) h.few (UH us) fun u=>zb
theorem FewA.next{us:Q0a}{out new:Q04}(h:FewA ts l st xo xu n us out)(hn:bB (fu ts l) (bF ts st xo us n) out=out++new):FewA ts l st xo xu n (fw us new) (out++new):=by
 refine⟨?_,h.few.next (Dn ts l) (h.round.symm.trans hn) fun u=>Ea⟩;have h1:fw us new=(xu.filter fun u:Al=>UH us (u.t,u.s)).filter fun u=>new.any fun g=>g.c.toList==u.t.toList&&g.d.toList==u.s.toList:=by rw[<-h.sub];rfl
 rw[List.filter_filter]at h1;refine h1.trans (List.filter_congr fun u hu=>?_);rw[VL,zb,Ea,Vt,zb,VT,and_comm];refine and_congr Iff.rfl ⟨fun⟨g,hg,h3⟩=>⟨g,hg,?_⟩,fun⟨g,hg,h3⟩=>⟨g,hg,?_⟩⟩
 ·rw[Vt,fC,fC]at h3;exact Prod.ext h3.1 h3.2
 rw[Vt,fC,fC];exact⟨congrArg Prod.fst h3,congrArg Prod.snd h3⟩
theorem FewA.done{out:Q04}(h:FewA ts l st xo xu n [] out):kz (fu ts l) (bF ts st xo xu n) out=out:=h.few.done
theorem xD{st st':Q00}(h:∀k∈ak ts,st k=st' k):∀N,kV ts l st xo xu N=kV ts l st' xo xu N
 | 0=>rfl
 | N+1=>by rw[iw,iw,xD h N,Kw h]
end
set_option linter.unusedSectionVars false
def kK(sts:List St)(xu:Q0a)(n:Int)(o:Al)(k:Nat):List Fc:=((sts.take k).filter fun s=>s.typ.toList==o.t.toList&&decide (s.n=n)).flatMap fun s=>jc o s.rel xu
def Uq(sts:List St)(xu:Q0a)(n:Int)(o:Al):List Fc:=kK sts xu n o sts.length
def sN(sts:List St)(xo xu:Q0a)(n:Int)(i:Nat):List Fc:=(xo.take i).flatMap (Uq sts xu n)
theorem NP(sts:List St)(xu:Q0a)(n:Int)(o:Al):kK sts xu n o 0=[]:=rfl
theorem Su{sts:List St}{xu:Q0a}{n:Int}{o:Al}{k:Nat}(h:k<sts.length)(hc:(sts[k].typ.toList==o.t.toList&&decide (sts[k].n=n))=false):kK sts xu n o (k+1)=kK sts xu n o k:=by
 unfold kK;rw[Vu h,WJ,Wj];simp[hc]
theorem QV{sts:List St}{xu:Q0a}{n:Int}{o:Al}{k:Nat}(h:k<sts.length)(hc:(sts[k].typ.toList==o.t.toList&&decide (sts[k].n=n))=true):kK sts xu n o (k+1)=kK sts xu n o k++jc o sts[k].rel xu:=by
 unfold kK;rw[Vu h,WJ,Wj];simp[hc]
theorem NQ{sts:List St}{xo xu:Q0a}{n:Int}{i:Nat}(h:i<xo.length):sN sts xo xu n (i+1)=sN sts xo xu n i++kK sts xu n xo[i] sts.length:=by
 unfold sN;rw[Vu h,Wj];simp[Uq]
theorem QW{ts:Q0b}{sts:List St}(hk:iy sts=ak ts)(hn:(ak ts).Nodup)(xo xu:Q0a)(n:Int):sN sts xo xu n xo.length=bF ts (fJ sts) xo xu n:=by
 unfold sN bF;rw[VI];congr 1
 funext o
 unfold Uq kK vC;rw[VI,Sr hk hn,List.flatMap_map];rfl
theorem NR(o:Al)(rel:bQ){xu:Q0a}{j:Nat}(h:j<xu.length):jc o rel (xu.take (j+1))=jc o rel (xu.take j)++[⟨o.t,o.s,rel,xu[j].t,xu[j].s⟩]:=by
 unfold jc;rw[Vu h,Wu];rfl
theorem BJ{e:Ex}(h:av e=true):e.kids.length<=5/\(e.kind=6->2<=e.kids.length):=by
 unfold av at h;by_cases k1:e.kind=1
 ·rw[if_pos k1]at h;simp only[Vt,VF]at h;exact⟨by omega,fun h6=>by omega⟩
 by_cases k2:e.kind=2
 ·rw[if_neg k1,if_pos k2]at h;simp only[Vt,VF]at h;exact⟨by omega,fun h6=>by omega⟩
 by_cases k3:e.kind=3
 ·rw[if_neg k1,if_neg k2,if_pos k3]at h;simp only[Vt,VF]at h;exact⟨by omega,fun h6=>by omega⟩
 by_cases k4:e.kind=4\/e.kind=5
 ·rw[if_neg k1,if_neg k2,if_neg k3,if_pos k4]at h;simp only[Vt,VF]at h;exact⟨by omega,fun h6=>by omega⟩
 by_cases k6:e.kind=6
 ·rw[if_neg k1,if_neg k2,if_neg k3,if_neg k4,if_pos k6]at h;simp only[Vt,VF]at h;exact⟨by omega,fun h6=>by omega⟩
 rw[if_neg k1,if_neg k2,if_neg k3,if_neg k4,if_neg k6]at h;cases h
theorem LH{rows:Q08}(h:aK (aj rows)=true):YW rows/\1<=rows.length:=by
 have hl:1<=rows.length/\rows.length<=15:=by
  unfold aK at h;simp only[Vt,VF,aX]at h;exact⟨h.1.1.1.1.1,h.1.1.1.1.2⟩
 have hlow:=JD h;have hkl:∀q∈rows,q.e.kids.length<=1000:=fun q hq=>by
  have:=(BJ (jr h q.e (VG.2 ⟨q,hq,rfl⟩))).1;omega
 refine⟨⟨by omega,hkl,hlow,fun e he h6=>?_⟩,hl.1⟩;exact(BJ (jr h e he)).2 h6
section
variable  [DecidableEq Fc]
theorem sF(H:List Fc->Fc->Bool)(qs:Q04)(f:Fc)(out:Q04):bB H (qs++[f]) out=dV H (bB H qs out) f:=by rw[Ga];rfl
theorem wE{H:List Fc->Fc->Bool}{out:Q04}{f:Fc}(h:df out f=true\/H out f=false):dV H out f=out:=by
 unfold dV;rw[if_pos];rcases h with h|h
 ·exact .inl (bY.1 h)
 exact .inr h
theorem Eb{H:List Fc->Fc->Bool}{out:Q04}{f:Fc}(h1:df out f=false)(h2:H out f=true):dV H out f=out++[f]:=by
 unfold dV;rw[if_neg];rintro(h|h)
 ·rw[bY.2 h]at h1;cases h1
 rw[h2]at h;cases h
theorem Ii(H:List Fc->Fc->Bool)(qs out:Q04):out.length<=(bB H qs out).length:=by
 obtain⟨n,e,-⟩:=jB (H:=H) qs out;rw[e,Vx];omega
theorem KA{H:List Fc->Fc->Bool}{qs out:Q04}(h:decide (out.length<(bB H qs out).length)=false):bB H qs out=out:=by
 obtain⟨n,e,-⟩:=jB (H:=H) qs out;rw[e,Vx,decide_eq_false_iff_not]at h;have:n=[]:=VM.1 (by omega);rw[e,this,Wp]
end
end Go.Proofs.YtojjoblnpldniaaGreat
