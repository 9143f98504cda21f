/- The program's function that tells a relation's expression, where there is none. -/
import Derived.Test.YtojjoblnpldniaaGreatSq
import Derived.Test.YtojjoblnpldniaaGreatJ13
import Derived.Test.YtojjoblnpldniaaGreatJ16
import Derived.RangeFuncLeaves
import Derived.OwnWalkIn
import Derived.TacticsInMore
import Derived.LoopNIn
import Derived.LoopIn
import Derived.Maps.OwnIn
open Go.Proofs.Tryz
set_option maxHeartbeats 80000000
namespace Go.Proofs.YtojjoblnpldniaaGreat
open ChangeShapes WideShapes ChangeAt RowKit Maps
open Pl
set_option maxRecDepth 100000 in
theorem CJ(ad:Q02)(cap:Nat)(rs:Q06)(typ rel:bi)(w:af)(hlen:rs.length<=1048576)(hs:jK w ad rs)(hl:∀r∈rs,r.light)(hf:∀r∈rs,r.fits)(hcp:∀r∈rs,r.caps)(ht:typ.size<=maxLen)(hr:rel.size<=maxLen)(hd:aD (ae rs)=true)(hno:ak (ae rs) typ rel=[]):
  Calls prog 42 #[.slice ad rs.length cap,.string typ,.string rel] w fun e w'=>e=.returned (.tuple #[.slice none 0 0,.bool false])/\ag w w':=by
 obtain⟨kl,hkl⟩:=jN (typ,rel) ht hr;have XP:Hid (keyOf prog 146 (dw (typ,rel))=some kl):=hkl;have HS:=dG hs;have HSC:=dG (cZ ad cap rs w hlen hs hl hf hcp);have hSP:=aG.1 hd;obtain⟨h6,XA,hex⟩:=aW hSP.1;have X0:=dG XA;have WT:=dG hf;have HTAB:Hid (Tab rs (jY rs)):=ry hSP.1;have hm:jY rs (typ,rel)=none:=by
  cases hm:jY rs (typ,rel) with
  | none=>rfl
  | some v =>
   obtain⟨t,ZL,q,hq,-,rfl,e1,-⟩:=HTAB.out.yes _ v hm;have:=(lY (hex t ZL q hq).1).1;unfold ak at hno;rw[e1]at hno;simp only[Wn]at hno;rw[hno]at this;simp at this
 have HM:=dG hm;rw[hd]at HSC;clear hs hl hf hcp hkl hd hno hSP XA hex hm;go_enter func42,ntmps42;go_wp2_with fail;refine HSC.out.mono ?_;rintro e w1 ⟨rfl,hb1⟩;have HB1:=dG hb1;clear hb1 HSC;go_wp2_with fail;refine(kS ad cap rs _ h6 (HS.out.below HB1.out) X0.out WT.out).mono ?_;rintro e w2 ⟨rfl,hmv,hb2⟩;have HB2:=iX HB1 hb2;have HMV:=az hmv;clear hmv hb2;go_wp2_with(at_lookup;refine dm _ rfl _ _ 102 rfl 146 37 iZ underlying102 (oO _) w1.heap.size 36 (jY rs) rfl HMV.out (typ,rel) kl rfl XP.out ?_;simp only[HM.out,Option.getD_none,Option.isSome_none]);refine bodyPost_ret (v:=.tuple #[.slice none 0 0,.bool false]) ?_ rfl ⟨rfl,HB2.out⟩;simp[results,Tryz.results42,go_sem]
set_option linter.unusedVariables false
def nX(known:Q04)(f:Fc)(t:Tp):Bool:=if t.s.toList.isEmpty then t.c.toList==f.c.toList&&t.d.toList==f.d.toList else gZ known ⟨t.c,t.d,t.s,f.c,f.d⟩
def wU(known:Q04)(name:ByteArray)(f:Fc)(t:Tp):Bool:=gZ known ⟨t.c,t.d,name,f.c,f.d⟩
theorem IM(l:Q05)(k:K3)(p:Tp->Bool):(G.lookL (dQ l) k).any p=l.any fun t=>(t.a.toList==k.1.toList&&t.b.toList==k.2.1.toList&&t.r.toList==k.2.2.toList)&&p t:=by
 induction l with
 | nil=>rfl
 | cons t l ih =>
  have e:dQ (t::l)=[(NK t,t)]++dQ l:=rfl;rw[e,G.lookL_append,List.any_append,ih,List.any_cons];congr 1;unfold G.lookL NK;by_cases h:(t.a,t.b,t.r)=k
  ·subst h;simp
  have h2:(t.a.toList==k.1.toList&&t.b.toList==k.2.1.toList&&t.r.toList==k.2.2.toList)=false:=by
   cases hb:(t.a.toList==k.1.toList&&t.b.toList==k.2.1.toList&&t.r.toList==k.2.2.toList);case false=>rfl
   rw[Vw,Vw,fP,fP,fP]at hb;exact absurd (Prod.ext hb.1.1 (Prod.ext hb.1.2 hb.2)) h
  simp[h,h2]
theorem KS(l:Q05)(known:Q04)(f:Fc):qY l known f=(G.lookL (dQ l) (f.a,f.b,f.r)).any (nX known f):=by rw[IM];rfl
theorem KT(l:Q05)(known:Q04)(over name:bi)(f:Fc):tF l known over name f=(G.lookL (dQ l) (f.a,f.b,over)).any (wU known name f):=by rw[IM];rfl
theorem Og(st:Q00)(n:Int)(o:Al)(tn:bi)(rows:Q07):((rows.map fun r=>(tn,r.name)).filter fun k=>k.1.toList==o.t.toList&&decide (st k=n))=(G.lookL (rows.map fun r=>((tn,st (tn,r.name)),r)) (o.t,n)).map fun r=>(o.t,r.name):=by
 induction rows with
 | nil=>rfl
 | cons r rows ih =>
  have e:((r::rows).map fun r=>((tn,st (tn,r.name)),r))=[((tn,st (tn,r.name)),r)]++rows.map fun r=>((tn,st (tn,r.name)),r):=rfl;rw[e,G.lookL_append,Wl,<-ih,WC,WM];unfold G.lookL;by_cases h:tn=o.t/\st (tn,r.name)=n
  ·obtain⟨rfl,rfl⟩:=h;simp
  have h1:(tn.toList==o.t.toList&&decide (st (tn,r.name)=n))=false:=by
   cases hb:(tn.toList==o.t.toList&&decide (st (tn,r.name)=n));case false=>rfl
   rw[Vw,fP,VH]at hb;exact absurd hb h
  have h2:¬((tn,st (tn,r.name))=(o.t,n)):=fun e=>h ⟨congrArg Prod.fst e,congrArg Prod.snd e⟩;simp[h1,h2]
theorem IP(st:Q00)(n:Int)(o:Al)(rs:Q06):EZ (ae rs) st n o=(G.lookL (fC st rs) (o.t,n)).map fun r=>(o.t,r.name):=by
 unfold EZ
 induction rs with
 | nil=>rfl
 | cons t rs ih =>
  have e1:au (ae (t::rs))=(t.rows.map fun r=>(t.name,r.name))++au (ae rs):=by
   have:jZ t.p=t.rows.map fun r=>(t.name,r.name):=by unfold jZ;show List.map _ (bQ t.rows)=_;unfold bQ;rw[List.map_map];rfl
   simp[au,ae,this]
  have e2:fC st (t::rs)=(t.rows.map fun r=>((t.name,st (t.name,r.name)),r))++fC st rs:=rfl;rw[e1,e2,G.lookL_append,WF,Wl,ih,Og]
theorem IQ{α:Type}[DecidableEq α]:∀{a b:List α},a.Nodup->(∀x∈a,x∈b)->a.length<=b.length
 | [],_,_,_=>Vy _
 | x::a,b,hd,hs=>by
  obtain⟨h1,h2⟩:=List.nodup_cons.1 hd;have hx:=hs x (by simp);have:=IQ (a:=a) (b:=b.erase x) h2 fun y hy=>(List.mem_erase_of_ne (fun e:y=x=>h1 (by rw[<-e];exact hy))).2 (hs y (by simp[hy]));rw[List.length_erase_of_mem hx]at this;have hp:0<b.length:=List.length_pos_of_mem hx;simp only[V8];omega
def KU(ts:Q0b)(xo xu:Q0a):List Fc:=xo.flatMap fun o=>(au ts).flatMap fun k=>sS o k.2 xu
theorem Oh{ts:Q0b}{st:Q00}{xo xu:Q0a}{n:Int}{f:Fc}(h:f∈bP ts st xo xu n):f∈KU ts xo xu:=by
 unfold bP xM at h;obtain⟨o,ho,h⟩:=VP.1 h;obtain⟨k,hk,h⟩:=VP.1 h;exact VP.2 ⟨o,ho,VP.2 ⟨k,(Wo.1 hk).1,h⟩⟩
theorem BX{α β:Type}(f:α->List β)(m:Nat)(hf:∀a,(f a).length<=m):∀l:List α,(l.flatMap f).length<=l.length*m
 | []=>by simp
 | a::l=>by
  have h1:=BX f m hf l;have h2:=hf a;simp only[V6,VD,V8,Nat.add_mul];omega
theorem Q9(ts:Q0b)(xo xu:Q0a):(KU ts xo xu).length<=xo.length*((au ts).length*xu.length) :=
 BX _ _ (fun o=>BX _ _ (fun k=>by unfold sS;rw[Wp];exact Vu _) _) _
structure GoodO(ts:Q0b)(xo xu:Q0a)(out:Q04):Prop where
 once:out.Nodup
 sub:∀g∈out,g∈KU ts xo xu
def UE(us:Q0a):List (ByteArray×ByteArray):=us.map fun u=>(u.t,u.s)
def UF(us:Q0a)(x:Q01):Bool:=us.any fun u=>u.t.toList==x.1.toList&&u.s.toList==x.2.toList
theorem zz{us:Q0a}{x:Q01}:UF us x=true↔x∈UE us:=by
 unfold UF UE;rw[VX,VE];constructor
 ·rintro⟨u,hu,h⟩;rw[Vw,fP,fP]at h;exact⟨u,hu,Prod.ext h.1 h.2⟩
 rintro⟨u,hu,rfl⟩;exact⟨u,hu,by simp⟩
def fG(us:Q0a)(new:Q04):List Al:=us.filter fun u=>new.any fun g=>g.c.toList==u.t.toList&&g.d.toList==u.s.toList
theorem Eh{us:Q0a}{new:Q04}{x:Q01}:x∈UE (fG us new)↔x∈UE us/\∃g∈new,g.u=x:=by
 unfold UE fG;constructor
 ·intro h;obtain⟨u,hu,rfl⟩:=VE.1 h;obtain⟨h1,h2⟩:=Wo.1 hu;obtain⟨g,hg,h3⟩:=VX.1 h2;rw[Vw,fP,fP]at h3;exact⟨VS (f:=fun u:Al=>(u.t,u.s)) h1,g,hg,Prod.ext h3.1 h3.2⟩
 rintro⟨h,g,hg,hx⟩;obtain⟨u,hu,rfl⟩:=VE.1 h;refine VE.2 ⟨u,Wo.2 ⟨hu,VX.2 ⟨g,hg,?_⟩⟩,rfl⟩;rw[Vw,fP,fP];exact⟨congrArg Prod.fst hx,congrArg Prod.snd hx⟩
theorem KV(us:Q0a):fG us []=[]:=by unfold fG;rw[List.filter_eq_nil_iff];simp
theorem KW{ts:Q0b}{xo xu:Q0a}{n:Int}{st st':Q00}(h:∀k∈au ts,st k=st' k):bP ts st xo xu n=bP ts st' xo xu n:=by
 unfold bP xM;congr 1
 funext o
 have:EZ ts st n o=EZ ts st' n o:=List.filter_congr fun k hk=>by rw[h k hk]
 rw[this]
set_option linter.unusedSectionVars false
section
variable  [DecidableEq Fc]
theorem GoodO.run{ts:Q0b}{xo xu:Q0a}{out:Q04}(h:GoodO ts xo xu out){H:List Fc->Fc->Bool}{qs:Q04}(hq:∀g∈qs,g∈KU ts xo xu):GoodO ts xo xu (dN H qs out):=by
 refine⟨xm qs h.once,fun g hg=>?_⟩;obtain⟨n,e,hn⟩:=mo (H:=H) qs out;rw[e]at hg;rcases VJ.1 hg with hg|hg
 ·exact h.sub g hg
 exact hq g (hn g hg).1
theorem GoodO.len{ts:Q0b}{xo xu:Q0a}{out:Q04}(h:GoodO ts xo xu out)(h1:xo.length<=80)(h2:(au ts).length<=36)(h3:xu.length<=40):out.length<=115200:=by
 have a1:=IQ h.once h.sub;have a2:=Q9 ts xo xu;have a3:(au ts).length*xu.length<=36*40:=Nat.mul_le_mul h2 h3;have a4:xo.length*((au ts).length*xu.length)<=80*(36*40):=Nat.mul_le_mul h1 a3;omega
structure FewA(ts:Q0b)(l:Q05)(st:Q00)(xo xu:Q0a)(n:Int)(us:Q0a)(out:Q04):Prop where
 sub:us=xu.filter fun u:Al=>UF us (u.t,u.s)
 few:Few Fc.u (dO ts l) (bP ts st xo xu n) (UE us) out
variable  {ts:Q0b}{l:Q05}{st:Q00}{xo xu:Q0a}{n:Int}
theorem FewA.start(out:Q04):FewA ts l st xo xu n xu out:=by
 refine⟨(List.filter_eq_self.2 fun u hu=>zz.2 (VS (f:=fun u:Al=>(u.t,u.s)) hu)).symm,Few.start fun f hf=>JI hf⟩
theorem KX{φ υ:Type}[DecidableEq φ]{us:φ->υ}{H:List φ->φ->Bool}(hL:Loc us H){qs:List φ}{users:List υ}{out:List φ}(h:Few us H qs users out)(P:υ->Bool)(hP:∀u,P u=true↔u∈users):dN H (qs.filter fun f=>P (us f)) out=dN H qs out :=
 (nH hL P qs out fun f hf hp=>h.set f hf fun hm=>by rw[(hP _).2 hm]at hp;cases hp).symm
theorem FewA.round{us:Q0a}{out:Q04}(h:FewA ts l st xo xu n us out):dN (dO ts l) (bP ts st xo us n) out=dN (dO ts l) (bP ts st xo xu n) out:=by
 have h2:=GN ts st xo xu n (UF us);rw[<-h.sub]at h2;rw[<-h2];exact KX (Du ts l) h.few (UF us) fun u=>zz
theorem FewA.next{us:Q0a}{out new:Q04}(h:FewA ts l st xo xu n us out)(hn:dN (dO ts l) (bP ts st xo us n) out=out++new):FewA ts l st xo xu n (fG us new) (out++new):=by
 refine⟨?_,h.few.next (Du ts l) (h.round.symm.trans hn) fun u=>Eh⟩;have h1:fG us new=(xu.filter fun u:Al=>UF us (u.t,u.s)).filter fun u=>new.any fun g=>g.c.toList==u.t.toList&&g.d.toList==u.s.toList:=by rw[<-h.sub];rfl
 rw[List.filter_filter]at h1;refine h1.trans (List.filter_congr fun u hu=>?_);rw[VR,zz,Eh,Vw,zz,VX,and_comm];refine and_congr Iff.rfl ⟨fun⟨g,hg,h3⟩=>⟨g,hg,?_⟩,fun⟨g,hg,h3⟩=>⟨g,hg,?_⟩⟩
 ·rw[Vw,fP,fP]at h3;exact Prod.ext h3.1 h3.2
 rw[Vw,fP,fP];exact⟨congrArg Prod.fst h3,congrArg Prod.snd h3⟩
theorem FewA.done{out:Q04}(h:FewA ts l st xo xu n [] out):mr (dO ts l) (bP ts st xo xu n) out=out:=h.few.done
theorem Ei{st st':Q00}(h:∀k∈au ts,st k=st' k):∀N,iG ts l st xo xu N=iG ts l st' xo xu N
 | 0=>rfl
 | N+1=>by rw[jD,jD,Ei h N,KW h]
end
set_option maxRecDepth 100000
def CK(out:Q04)(f:Fc):Option Value:=if gZ out f then some (.agg #[]) else none
theorem Ra(out:Q04)(f:Fc):(CK out f).isSome=gZ out f:=by unfold CK;cases gZ out f<;>rfl
theorem SG(out:Q04)(f:Fc):∀v,CK out f=some v->v=.agg #[]:=fun v h=>by
 unfold CK at h;split at h
 ·injection h with h;exact h.symm
 cases h
theorem wV(b n:Nat)(out:Q04)(f:Fc)(w:af)(hf:f.fits)(hV:aJ oV prog 52 w b n (CK out)):
  Calls prog 76 #[.map (some b),.agg #[.string f.a,.string f.b,.string f.r,.string f.c,.string f.d]] w fun e w'=>e=.returned (.bool (gZ out f))/\ag w w':=by
 have h:=H9 b n (CK out) f w hf hV (SG out f);rw[Ra]at h;exact h
theorem IR{w:af}{bp np:Nat}{Mp:K3->Option Value}{E:List (K3×Tp)}(h:G.Grp qK prog 273 29 6 Tp.row w bp np Mp E)(k:K3):∃ad cap,(Mp k).getD (.slice none 0 0)=.slice ad (G.lookL E k).length cap/\Sl w ad (G.lookL E k):=by
 obtain⟨ad,cap,e,hs,-⟩:=LA (ts:=G.lookL E k) (Ea h k) rfl;exact⟨ad,cap,e,hs⟩
theorem Ej(p:Tp->Bool){ts:Q05}{k:Nat}(h:k<ts.length):(ts.drop k).any p=(p ts[k] || (ts.drop (k+1)).any p):=by rw[Wi h];rfl
theorem IU{ts:Q05}{k:K3}{t:Tp}(h:t∈G.lookL (dQ ts) k):t∈ts:=by
 have:=G.mem_lookL.1 h;unfold dQ at this;obtain⟨x,hx,e⟩:=VE.1 this;injection e with e1 e2;rw[<-e2];exact hx
theorem IV(ts:Q05)(k:K3):(G.lookL (dQ ts) k).length<=ts.length:=by
 unfold G.lookL dQ;exact Vz (WJ _ _) (by simp)
section
variable  {w:World}{rs:Q06}{D br bp bt bK nK:Nat}{n1:Int}{nr:Nat}{Mr:KL->Option Value}{Er:List (KL×RR)}{ts:Q05}{xo xu:Q0a}{np:Nat}{Mp:K3->Option Value}{vo vu:Value}{out:Q04}{f:Fc}
theorem CL(hD:DatA w rs D br bp bt n1 nr Mr Er (dQ ts) xo xu np Mp vo vu)(hK:aJ oV prog 52 w bK nK (CK out))(hf:f.fits)(hts:∀t∈ts,t.fits)(htl:ts.length<=1000):
  Calls prog 284 #[.pointer (some ⟨D,0,none⟩),.agg #[.string f.a,.string f.b,.string f.r,.string f.c,.string f.d],.map (some bK)] w fun e w'=>e=.returned (.bool (qY ts out f))/\ag w w':=by
 obtain⟨kl,hkl⟩:=Ez (f.a,f.b,f.r) hf.1 hf.2.1 hf.2.2.1;obtain⟨adL,capL,hgd,hsl⟩:=IR hD.dat.told (f.a,f.b,f.r);have HL:=aY (KS ts out f);have hll:=IV ts (f.a,f.b,f.r);have HFL:Hid (∀t∈G.lookL (dQ ts) (f.a,f.b,f.r),t.fits):=fun t ht=>hts t (IU ht);obtain⟨L,Zm⟩:=eQx (G.lookL (dQ ts) (f.a,f.b,f.r));rw[<-Zm]at hgd hsl HL hll HFL;obtain⟨W0,hW0⟩:=eQx (w.alloc (.cells #[.string f.a,.string f.b,.string f.r,.string f.c,.string f.d] 52));have HB0:=qC hW0;have c0:W0.cell? ⟨w.heap.size,0,none⟩=some (.string f.a):=by rw[hW0];simp
 have c1:W0.cell? ⟨w.heap.size,1,none⟩=some (.string f.b):=by rw[hW0];simp
 have c2:W0.cell? ⟨w.heap.size,2,none⟩=some (.string f.r):=by rw[hW0];simp
 have c3:W0.cell? ⟨w.heap.size,3,none⟩=some (.string f.c):=by rw[hW0];simp
 have c4:W0.cell? ⟨w.heap.size,4,none⟩=some (.string f.d):=by rw[hW0];simp
 have d3:=HB0.out.cell (p:=⟨D,3,none⟩) hD.dat.lt |>.trans hD.dat.c3;have hlk:∀m,(Instr.lookup 191 (.map (some bp)) (.agg #[.string f.a,.string f.b,.string f.r]) false).run prog (W0.drewN m)=.ok (.slice adL L.length capL) (W0.drewN m):=fun m=>by
  have h:=((hD.dat.told.map.below HB0.out).below (below_drewN (Vv _ _) m)).look (t:=191) (e:=25) Tk underlying191 (KE _) (x:=(f.a,f.b,f.r)) hkl;rw[hgd]at h;exact h
 have Y4:=aY hsl;have HKN:=aY hK;have HF:=aY hf;have X9:Hid (W0.cell? ⟨w.heap.size,3,none⟩=some (.string f.c)/\W0.cell? ⟨w.heap.size,4,none⟩=some (.string f.d)/\w.heap.size<W0.heap.size):=⟨c3,c4,by rw[hW0];simp⟩;clear hsl hK hf Zm hgd hkl;go_enter func284,ntmps284;go_wp2_with fail;rw[<-hW0];clear hW0;go_quiet (fail);clear c0 c1 c2 c3 c4 d3 hlk;go_wp2;go_loopw[20] (fun i wr=>∃k:Nat,k<=L.length/\i=.int .i64 k/\Hid ((L.drop k).any (nX out f)=L.any (nX out f))/\Hid (ag w wr)/\Hid (wr.cell? ⟨w.heap.size,3,none⟩=some (.string f.c)/\wr.cell? ⟨w.heap.size,4,none⟩=some (.string f.d)/\w.heap.size<wr.heap.size)) (fun i _=>L.length-(intOf i).toNat);case atStart=>exact⟨0,Vy _,rfl,rfl,below_drewN HB0.out _,X9⟩
 clear X9 HB0;obtain⟨k,hk,rfl,HP,HB,HC⟩:=hrel;by_cases hlt:k<L.length
 ·obtain⟨bT,offT,hadT,⟨a0,a1,a2,a3,a4,a5⟩,hbT⟩:=Sl.at0 (Y4.out.below HB.out) hlt;obtain⟨c3,c4,cl⟩:=HC.out;have hi1:=bI k;have hi2:(k:Int)<(L.length:Int):=by omega
  have HTF:=aY (HFL.out _ (Vs hlt));have HD2:Hid (L.any (nX out f)=(nX out f L[k] || (L.drop (k+1)).any (nX out f))):=by show _=_;rw[<-HP.out];exact Ej _ hlt
  obtain⟨t,ht⟩:=eQx (L[k]);rw[<-ht]at a0 a1 a2 a3 a4 a5 HTF HD2;clear ht;obtain⟨W1,hW1⟩:=eQx (wr.alloc (.cells #[.string t.a,.string t.b,.string t.r,.string t.c,.string t.d,.string t.s] 29));have HBr:=qC hW1;have HB1:=aY (HB.out.trans (HBr.out.mono HB.out.size));have Xu:Hid (W1.cell? ⟨w.heap.size,3,none⟩=some (.string f.c)/\W1.cell? ⟨w.heap.size,4,none⟩=some (.string f.d)/\w.heap.size<W1.heap.size):=⟨mK HBr.out cl c3,mK HBr.out cl c4,Vt cl HBr.out.size⟩;subst hadT;cases hs:t.s.toList.isEmpty;case true=>
   have hs2:(t.s.toList==[])=true:=by rw[LP];exact hs
   have HTT:Hid (nX out f t=UR t.c t.d f.c f.d):=by show _=_;unfold nX;rw[if_pos hs];rfl
   cases hu:UR t.c t.d f.c f.d;case true=>
    have heq:=Az _ _ _ _ hu;have HN:Hid (qY ts out f=true):=by show _=_;rw[HL.out,HD2.out,HTT.out,hu];rfl
    clear hu hs;go_wp2;rw[<-hW1];go_ret;exact⟨by rw[HN.out];rfl,HB1.out⟩
   have heq:=Az _ _ _ _ hu;have WQ:Hid ((L.drop (k+1)).any (nX out f)=L.any (nX out f)):=by show _=_;rw[HD2.out,HTT.out,hu];rfl
   clear hu hs;go_wp2;rw[<-hW1];clear hW1;go_roundw;case rel=>exact⟨k+1,by omega,by go_num,WQ,HB1,Xu⟩
   simp[intOf]<;>omega
  have hs2:(t.s.toList==[])=false:=by rw[LP];exact hs
  have HTT:Hid (nX out f t=gZ out ⟨t.c,t.d,t.s,f.c,f.d⟩):=by show _=_;unfold nX;rw[if_neg (by rw[hs];decide)]
  clear hs;go_wp2_with fail;rw[<-hW1];clear hW1;refine(wV bK nK out ⟨t.c,t.d,t.s,f.c,f.d⟩ W1 ⟨HTF.out.2.2.2.1,HTF.out.2.2.2.2.1,HTF.out.2.2.2.2.2,HF.out.2.2.2.1,HF.out.2.2.2.2⟩ (HKN.out.below HB1.out)).mono ?_;rintro e w2 ⟨rfl,hb2⟩;have HB2:=aY (HB1.out.trans (hb2.mono HB1.out.size));have Xk:Hid (w2.cell? ⟨w.heap.size,3,none⟩=some (.string f.c)/\w2.cell? ⟨w.heap.size,4,none⟩=some (.string f.d)/\w.heap.size<w2.heap.size):=⟨mK hb2 Xu.out.2.2 Xu.out.1,mK hb2 Xu.out.2.2 Xu.out.2.1,Vt Xu.out.2.2 hb2.size⟩;clear hb2;cases hh:gZ out ⟨t.c,t.d,t.s,f.c,f.d⟩;case true=>
   have HN:Hid (qY ts out f=true):=by show _=_;rw[HL.out,HD2.out,HTT.out,hh];rfl
   go_wp2;go_ret;exact⟨by rw[HN.out];rfl,HB2.out⟩
  have WQ:Hid ((L.drop (k+1)).any (nX out f)=L.any (nX out f)):=by show _=_;rw[HD2.out,HTT.out,hh];rfl
  go_wp2;go_roundw;case rel=>exact⟨k+1,by omega,by go_num,WQ,HB2,Xk⟩
  simp[intOf]<;>omega
 have HN:Hid (qY ts out f=false):=by show _=_;rw[HL.out,<-HP.out,VU (by omega)];rfl
 go_wp2;go_ret;exact⟨by rw[HN.out];rfl,HB.out⟩
theorem CO(hD:DatA w rs D br bp bt n1 nr Mr Er (dQ ts) xo xu np Mp vo vu)(hK:aJ oV prog 52 w bK nK (CK out))(x:ER)(hxf:x.e.over.size<=maxLen/\x.e.name.size<=maxLen)(hf:f.fits)(hts:∀t∈ts,t.fits)(htl:ts.length<=1000):
  Calls prog 285 #[.pointer (some ⟨D,0,none⟩),.agg #[.int .i64 x.e.kind,.slice x.adA x.e.allow.length x.capA,.string x.e.over,.string x.e.name,.slice x.adK x.e.kids.length x.capK],.agg #[.string f.a,.string f.b,.string f.r,.string f.c,.string f.d],.map (some bK)] w fun e w'=>e=.returned (.bool (tF ts out x.e.over x.e.name f))/\ag w w':=by
 obtain⟨kl,hkl⟩:=Ez (f.a,f.b,x.e.over) hf.1 hf.2.1 hxf.1;obtain⟨adL,capL,hgd,hsl⟩:=IR hD.dat.told (f.a,f.b,x.e.over);have HL:=aY (KT ts out x.e.over x.e.name f);have hll:=IV ts (f.a,f.b,x.e.over);have HFL:Hid (∀t∈G.lookL (dQ ts) (f.a,f.b,x.e.over),t.fits):=fun t ht=>hts t (IU ht);obtain⟨L,Zm⟩:=eQx (G.lookL (dQ ts) (f.a,f.b,x.e.over));rw[<-Zm]at hgd hsl HL hll HFL;obtain⟨W0,hW0⟩:=eQx ((w.alloc (.cells #[.int .i64 x.e.kind,.slice x.adA x.e.allow.length x.capA,.string x.e.over,.string x.e.name,.slice x.adK x.e.kids.length x.capK] 43)).alloc (.cells #[.string f.a,.string f.b,.string f.r,.string f.c,.string f.d] 52));have HB0:Hid (ag w W0):=by show Below _ _ _;rw[hW0];exact((Vv _ _).alloc (Vu _) _).alloc (by simp) _
 have c0:W0.cell? ⟨w.heap.size+1,0,none⟩=some (.string f.a):=by rw[hW0];simp
 have c1:W0.cell? ⟨w.heap.size+1,1,none⟩=some (.string f.b):=by rw[hW0];simp
 have c2:W0.cell? ⟨w.heap.size+1,2,none⟩=some (.string f.r):=by rw[hW0];simp
 have c3:W0.cell? ⟨w.heap.size+1,3,none⟩=some (.string f.c):=by rw[hW0];simp
 have c4:W0.cell? ⟨w.heap.size+1,4,none⟩=some (.string f.d):=by rw[hW0];simp
 have x2:W0.cell? ⟨w.heap.size,2,none⟩=some (.string x.e.over):=by rw[hW0];simp
 have x3:W0.cell? ⟨w.heap.size,3,none⟩=some (.string x.e.name):=by rw[hW0];simp
 have d3:=HB0.out.cell (p:=⟨D,3,none⟩) hD.dat.lt |>.trans hD.dat.c3;have hlk:∀m,(Instr.lookup 191 (.map (some bp)) (.agg #[.string f.a,.string f.b,.string x.e.over]) false).run prog (W0.drewN m)=.ok (.slice adL L.length capL) (W0.drewN m):=fun m=>by
  have h:=((hD.dat.told.map.below HB0.out).below (below_drewN (Vv _ _) m)).look (t:=191) (e:=25) Tk underlying191 (KE _) (x:=(f.a,f.b,x.e.over)) hkl;rw[hgd]at h;exact h
 have Y4:=aY hsl;have HKN:=aY hK;have HF:=aY hf;have HXF:=aY hxf;have X9:Hid (W0.cell? ⟨w.heap.size+1,3,none⟩=some (.string f.c)/\W0.cell? ⟨w.heap.size+1,4,none⟩=some (.string f.d)/\W0.cell? ⟨w.heap.size,3,none⟩=some (.string x.e.name)/\w.heap.size+1<W0.heap.size):=⟨c3,c4,x3,by rw[hW0];simp⟩;clear hsl hK hf Zm hgd hkl;go_enter func285,ntmps285;go_wp2_with fail;rw[<-hW0];clear hW0;go_quiet (fail);clear c0 c1 c2 c3 c4 d3 x2 x3 hlk;go_wp2;go_loopw[22] (fun i wr=>∃k:Nat,k<=L.length/\i=.int .i64 k/\Hid ((L.drop k).any (wU out x.e.name f)=L.any (wU out x.e.name f))/\Hid (ag w wr)/\Hid (wr.cell? ⟨w.heap.size+1,3,none⟩=some (.string f.c)/\wr.cell? ⟨w.heap.size+1,4,none⟩=some (.string f.d)/\wr.cell? ⟨w.heap.size,3,none⟩=some (.string x.e.name)/\w.heap.size+1<wr.heap.size)) (fun i _=>L.length-(intOf i).toNat);case atStart=>exact⟨0,Vy _,rfl,rfl,below_drewN HB0.out _,X9⟩
 clear X9 HB0;obtain⟨k,hk,rfl,HP,HB,HC⟩:=hrel;by_cases hlt:k<L.length
 ·obtain⟨bT,offT,hadT,⟨a0,a1,a2,a3,a4,a5⟩,hbT⟩:=Sl.at0 (Y4.out.below HB.out) hlt;obtain⟨c3,c4,x3,cl⟩:=HC.out;have cl0:w.heap.size<wr.heap.size:=by omega
  have hi1:=bI k;have hi2:(k:Int)<(L.length:Int):=by omega
  have HTF:=aY (HFL.out _ (Vs hlt));have HD2:Hid (L.any (wU out x.e.name f)=(wU out x.e.name f L[k] || (L.drop (k+1)).any (wU out x.e.name f))):=by show _=_;rw[<-HP.out];exact Ej _ hlt
  obtain⟨t,ht⟩:=eQx (L[k]);rw[<-ht]at a0 a1 a2 a3 a4 a5 HTF HD2;clear ht;obtain⟨W1,hW1⟩:=eQx (wr.alloc (.cells #[.string t.a,.string t.b,.string t.r,.string t.c,.string t.d,.string t.s] 29));have HBr:=qC hW1;have HB1:=aY (HB.out.trans (HBr.out.mono HB.out.size));have Xu:Hid (W1.cell? ⟨w.heap.size+1,3,none⟩=some (.string f.c)/\W1.cell? ⟨w.heap.size+1,4,none⟩=some (.string f.d)/\W1.cell? ⟨w.heap.size,3,none⟩=some (.string x.e.name)/\w.heap.size+1<W1.heap.size):=⟨mK HBr.out cl c3,mK HBr.out cl c4,mK HBr.out cl0 x3,Vt cl HBr.out.size⟩;subst hadT;have HTT:Hid (wU out x.e.name f t=gZ out ⟨t.c,t.d,x.e.name,f.c,f.d⟩):=rfl;go_wp2_with fail;rw[<-hW1];clear hW1;refine(wV bK nK out ⟨t.c,t.d,x.e.name,f.c,f.d⟩ W1 ⟨HTF.out.2.2.2.1,HTF.out.2.2.2.2.1,HXF.out.2,HF.out.2.2.2.1,HF.out.2.2.2.2⟩ (HKN.out.below HB1.out)).mono ?_;rintro e w2 ⟨rfl,hb2⟩;have HB2:=aY (HB1.out.trans (hb2.mono HB1.out.size));have Xk:Hid (w2.cell? ⟨w.heap.size+1,3,none⟩=some (.string f.c)/\w2.cell? ⟨w.heap.size+1,4,none⟩=some (.string f.d)/\w2.cell? ⟨w.heap.size,3,none⟩=some (.string x.e.name)/\w.heap.size+1<w2.heap.size):=⟨mK hb2 Xu.out.2.2.2 Xu.out.1,mK hb2 Xu.out.2.2.2 Xu.out.2.1,mK hb2 (by have:=Xu.out.2.2.2;omega) Xu.out.2.2.1,Vt Xu.out.2.2.2 hb2.size⟩;clear hb2;cases hh:gZ out ⟨t.c,t.d,x.e.name,f.c,f.d⟩;case true=>
   have HN:Hid (tF ts out x.e.over x.e.name f=true):=by show _=_;rw[HL.out,HD2.out,HTT.out,hh];rfl
   go_wp2;go_ret;exact⟨by rw[HN.out];rfl,HB2.out⟩
  have WQ:Hid ((L.drop (k+1)).any (wU out x.e.name f)=L.any (wU out x.e.name f)):=by show _=_;rw[HD2.out,HTT.out,hh];rfl
  go_wp2;go_roundw;case rel=>exact⟨k+1,by omega,by go_num,WQ,HB2,Xk⟩
  simp[intOf]<;>omega
 have HN:Hid (tF ts out x.e.over x.e.name f=false):=by show _=_;rw[HL.out,<-HP.out,VU (by omega)];rfl
 go_wp2;go_ret;exact⟨by rw[HN.out];rfl,HB.out⟩
end
end Go.Proofs.YtojjoblnpldniaaGreat
namespace Go.Proofs.YtojjoblnpldniaaGreat
set_option linter.unusedVariables false
set_option maxRecDepth 100000
open ChangeShapes WideShapes ChangeAt RowKit Maps Go.Shelf
open Pl
attribute [local go_sem] Oper.semAt_some
structure InM(W:World)(D br nr:Nat)(Mr:KL->Option Value)(Er:List (KL×RR))(Yg:Q02)(XN:Nat)(xo:Q0a)(gD gS gU:Nat)(sn:Int)(XH:Q02)(WX:Nat)(us:Q0a):Prop where
 d2:W.cell? ⟨D,2,none⟩=some (.map (some br))
 d4:W.cell? ⟨D,4,none⟩=some (.slice Yg xo.length XN)
 objs:kD W Yg xo
 rel:FJ W br nr Mr Er
 bD:W.cell? ⟨gD,0,none⟩=some (.pointer (some ⟨D,0,none⟩))
 bS:W.cell? ⟨gS,0,none⟩=some (.int .i64 sn)
 bU:W.cell? ⟨gU,0,none⟩=some (.slice XH us.length WX)
 users:kD W XH us
def El(x:Fc):Array Value:=#[.agg #[.string x.a,.string x.b,.string x.r,.string x.c,.string x.d]]
theorem BZ:∀(rs:Q07) (i:Nat) (h:i<rs.length) (j:Nat),j<2->(G.flatG KJ rs)[i*2+j]?=(KJ rs[i])[j]?
 | [],i,h,_,_=>by simp at h
 | r::rs,0,_,j,hj=>by
  simp only[G.flatG,V6,Nat.zero_mul,VW,List.getElem_cons_zero];rw[Wy (by simp[KJ];omega)]
 | r::rs,i+1,h,j,hj=>by
  have ih:=BZ rs i (by simpa using h) j hj;simp only[G.flatG,V6,List.getElem_cons_succ]at ih ⊢;rw[Wx (by simp[KJ];omega)];have:(i+1)*2+j-(KJ r).length=i*2+j:=by simp[KJ];omega
  rw[this];exact ih
theorem Ma{W:af}{br nr:Nat}{Mr:KL->Option Value}{Er:List (KL×RR)}(h:FJ W br nr Mr Er)(k:KL):∃ad cap,(Mr k).getD (.slice none 0 0)=.slice ad (G.lookL Er k).length cap/\(∀i (hi:i<(G.lookL Er k).length),∃g,ad=some ⟨g,0,none⟩/\g<W.heap.size/\W.cell? ⟨g,i*2,none⟩=some (.string (G.lookL Er k)[i].name)/\W.cell? ⟨g,i*2+1,none⟩=some (G.lookL Er k)[i].sl):=by
 have ho:=Ef h k;rcases ho.2 with⟨e,h0⟩|⟨g,cap,cur,e,hbg,hg,hnc,-⟩
 ·exact⟨none,0,by rw[e,h0],fun i hi=>by omega⟩
 refine⟨_,cap,e,fun i hi=>⟨g,rfl,(ho.lt g (by rw[e];rfl)).2,?_,?_⟩⟩
 ·rw[e]at ho;rw[ho.cellAt (i*2) (by omega)];exact BZ _ i hi 0 (by omega)
 rw[e]at ho;rw[ho.cellAt (i*2+1) (by omega)];exact BZ _ i hi 1 (by omega)
def FV(W:World)(g:Nat)(o:Al):Prop:=W.heap[g]?=some (.cells #[.string o.t,.string o.s] 27 (0,0))
def IW(W:World)(g:Nat)(r:RR):Prop:=W.heap[g]?=some (.cells #[.string r.name,r.sl] 39 (0,0))
theorem FV.c{W:af}{g:Nat}{o:Al}(h:FV W g o):W.cell? ⟨g,0,none⟩=some (.string o.t)/\W.cell? ⟨g,1,none⟩=some (.string o.s)/\g<W.heap.size:=by
 have hl:=(VC.1 h).1;unfold FV at h;exact⟨by simp[World.cell?,h],by simp[World.cell?,h],hl⟩
theorem IW.c{W:af}{g:Nat}{r:RR}(h:IW W g r):W.cell? ⟨g,0,none⟩=some (.string r.name)/\W.cell? ⟨g,1,none⟩=some r.sl/\g<W.heap.size:=by
 have hl:=(VC.1 h).1;unfold IW at h;exact⟨by simp[World.cell?,h],by simp[World.cell?,h],hl⟩
theorem FV.kp{W W':af}{g:Nat}{o:Al}(h:FV W g o)(hk:KpI W W'):FV W' g o:=hk.cells g _ _ _ h (.inl rfl)
theorem IW.kp{W W':af}{g:Nat}{r:RR}(h:IW W g r)(hk:KpI W W'):IW W' g r:=hk.cells g _ _ _ h (.inr rfl)
def iQ(rs:Q06)(st:Q00)(us:Q0a)(sn:Int)(xo:Q0a)(q:Nat):List Fc:=(xo.take q).flatMap (xM (ae rs) st us sn)
def kQ(R:Q07)(us:Q0a)(o:Al)(k:Nat):List Fc:=(R.take k).flatMap fun r=>sS o r.name us
theorem SH{rs:Q06}{st:Q00}{us:Q0a}{sn:Int}{xo:Q0a}{q:Nat}(h:q<xo.length):iQ rs st us sn xo (q+1)=iQ rs st us sn xo q++kQ (G.lookL (fC st rs) (xo[q].t,sn)) us xo[q] (G.lookL (fC st rs) (xo[q].t,sn)).length:=by
 unfold iQ kQ;rw[Vx h,WA,VI];congr 1;simp only[V6,List.flatMap_nil,Wt];unfold xM;rw[IP,List.flatMap_map]
theorem SI{R:Q07}{us:Q0a}{o:Al}{k:Nat}(h:k<R.length):kQ R us o (k+1)=kQ R us o k++sS o R[k].name us:=by
 unfold kQ;rw[Vx h,WA];simp
theorem Oi(o:Al)(rel:bi){xu:Q0a}{j:Nat}(h:j<xu.length):sS o rel (xu.take (j+1))=sS o rel (xu.take j)++[⟨o.t,o.s,rel,xu[j].t,xu[j].s⟩]:=by
 unfold sS;rw[Vx h,Wl];rfl
theorem Oj{rs:Q06}{st:Q00}{xo us:Q0a}{sn:Int}{o:Al}{r:RR}{u:Al}(ho:o∈xo)(hr:r∈G.lookL (fC st rs) (o.t,sn))(hu:u∈us):(⟨o.t,o.s,r.name,u.t,u.s⟩:Fc)∈bP (ae rs) st xo us sn:=by
 unfold bP xM;refine VP.2 ⟨o,ho,VP.2 ⟨(o.t,r.name),?_,VE.2 ⟨u,hu,rfl⟩⟩⟩;rw[IP];exact VE.2 ⟨r,hr,rfl⟩
theorem Rb(n:Nat)(hn:1<=n)(D br nr:Nat)(Mr:KL->Option Value)(st:Q00)(rs:Q06)(Yg:Q02)(XN:Nat)(xo:Q0a)(gD gS gU:Nat)(sn:Int)(XH:Q02)(WX:Nat)(us:Q0a)(w0:af)(hs0:0<=sn)(hs1:sn<=1000)(hol:xo.length<=1000)(hul:us.length<=1000)(hrl:∀k,(G.lookL (fC st rs) k).length<=1000)(hof:∀o∈xo,o.t.size<=maxLen):
  EW Fence.wide n prog 269 #[.pointer (some ⟨gD,0,none⟩),.pointer (some ⟨gS,0,none⟩),.pointer (some ⟨gU,0,none⟩)] El (fun _=>KpI) (fun _ W=>InM W D br nr Mr (fC st rs) Yg XN xo gD gS gU sn XH WX us) (fun _ x=>x∈bP (ae rs) st xo us sn) (fun xs=>xs=bP (ae rs) st xo us sn) w0:=by
 intro l J W _ _ _ hJ hT hY h0;have HJ:=aY hJ;have HT:=aY hT;have HY:=aY hY;have H0:=aY h0;have HOF:=aY hof;have hM:=hT _ _ h0;have Zo:=aY hrl;have bD:=hM.bD;have d4:=hM.d4;have lD:=bB bD;have lDD:=bB d4;clear hJ hT hY h0 hof hM hrl;refine callsIn_of_wp func269 rfl trivial ?_ rfl;simp only[ntmps269,List.size_toArray,V8,WE,Nat.reduceAdd,Nat.reduceSub,Array.replicate_succ,Array.replicate_zero,List.push_toArray,List.append_toArray,WK,Wq];gi_wp2;clear bD d4 lD lDD
 gi_loopw [16] (fun i wr=>∃q:Nat,q<=xo.length/\i=.int .i64 q/\Hid (J (iQ rs st us sn xo q) wr)) (fun i _=>xo.length-(intOf i).toNat)
 case atStart=>exact⟨0,Vy _,rfl,H0⟩
 clear H0;obtain⟨q,hq,rfl,HJ1⟩:=hrel;by_cases hlq:q<xo.length
 ·have hM:=HT.out _ _ HJ1.out;obtain⟨bO,XD,hadO,⟨o0,o1⟩,hbO⟩:=kD.at0 hM.objs hlq;have HSQ:=aY (SH (rs:=rs) (st:=st) (us:=us) (sn:=sn) hlq);have HOS:=aY (HOF.out _ (Vs hlq));have HOM:Hid (xo[q]∈xo):=Vs hlq;obtain⟨o,ho⟩:=eQx (xo[q]);rw[<-ho]at o0 o1 HSQ HOS HOM;clear ho;have hq1:=bI q;have hq2:(q:Int)<(xo.length:Int):=by omega
  obtain⟨W1,hW1⟩:=eQx (wr.alloc (.cells #[.string o.t,.string o.s] 27));have HB1:=qC hW1;have HJ2:=aY (nR HJ.out HJ1.out HB1.out);have XL:Hid (FV W1 wr.heap.size o):=by rw[hW1];exact World.alloc_heap_new wr _
  have hM2:=HT.out _ _ HJ2.out;have bD:=hM2.bD;have bS:=hM2.bS;have d2:=hM2.d2;obtain⟨c0,c1,cl⟩:=XL.out.c;obtain⟨adR,capR,hgd,-⟩:=Ma hM2.rel (o.t,sn);obtain⟨kl,hkl⟩:=Lu (o.t,sn) HOS.out hs0 (by show sn<=_;omega);obtain⟨R,hR⟩:=eQx (G.lookL (fC st rs) (o.t,sn));have hRl:R.length<=1000:=by rw[hR];exact Zo.out _
  rw[<-hR]at hgd HSQ;have HRE:=aY hR;have HGD:=aY hgd;have hlk:∀m,(Instr.lookup 190 (.map (some br)) (.agg #[.string o.t,.int .i64 sn]) false).run prog (W1.drewN m)=.ok (.slice adR R.length capR) (W1.drewN m):=fun m=>by
   have h:=(hM2.rel.map.below (below_drewN (Vv _ _) m)).look (t:=190) (e:=34) UM underlying190 (QR _) (x:=(o.t,sn)) hkl;rw[hgd]at h;exact h
  subst hadO;clear hM hM2 hR hgd hkl;gi_wp2;rw[<-hW1];clear hW1;refine wpIn_wide.2 ?_;go_quiet (fail);obtain⟨W2,hW2⟩:=eQx (W1.drewN nq);have HB2:Hid (ag W1 W2):=by show Below _ _ _;rw[hW2];exact below_drewN (Vv _ _) _
  have HJ3:=aY (nR HJ.out HJ2.out HB2.out);have HBX2:=aY (XL.out.kp (KpI.below HB2.out));obtain⟨gO,hgO⟩:∃g,g=wr.heap.size:=⟨_,rfl⟩;rw[<-hgO]at HBX2 ⊢;rw[<-hW2];clear hW2 hgO c0 c1 cl bD bS d2 hlk HB1 HJ2 XL HJ1 o0 o1 hbO;gi_wp2
  gi_loopw [30] (fun i w2=>∃k:Nat,k<=R.length/\i=.int .i64 k/\Hid (J (iQ rs st us sn xo q++kQ R us o k) w2)/\Hid (FV w2 gO o)) (fun i _=>R.length-(intOf i).toNat)
  case atStart=>exact⟨0,Vy _,rfl,by show J (_++[]) _;rw[Wt];exact HJ3.out,HBX2⟩
  clear HJ3 HBX2 HB2;obtain⟨k,hk,rfl,HJ4,XL⟩:=hrel;by_cases hlk:k<R.length
  ·have hM:=HT.out _ _ HJ4.out;obtain⟨adR',capR',hgd',hrows⟩:=Ma hM.rel (o.t,sn);rw[<-HRE.out,HGD.out]at hgd';injection hgd' with ea eb ec;subst ea;clear eb ec;obtain⟨gq,hadR,hgl,r0,r1⟩:=hrows k (by rw[<-HRE.out];exact hlk);have HKS:=aY (SI (us:=us) (o:=o) hlk);have hrr:(G.lookL (fC st rs) (o.t,sn))[k]'(by rw[<-HRE.out];exact hlk)=R[k]:=by simp only[HRE.out]
   rw[hrr]at r0 r1;have Y0:Hid (R[k]∈R):=Vs hlk;obtain⟨r,hr⟩:=eQx (R[k]);rw[<-hr]at r0 r1 HKS Y0;have hk1:=bI k;have hk2:(k:Int)<(R.length:Int):=by omega
   obtain⟨W3,hW3⟩:=eQx (wr.alloc (.cells #[.string r.name,r.sl] 39));have HB3:=qC hW3;have HJ5:=aY (nR HJ.out HJ4.out HB3.out);have XI:=aY (XL.out.kp (KpI.below HB3.out));have HBR:Hid (IW W3 wr.heap.size r):=by rw[hW3];exact World.alloc_heap_new wr _
   have hM3:=HT.out _ _ HJ5.out;have bU:=hM3.bU;have lU:=bB bU;have bU0:=hM.bU;have lU0:=bB bU0;unfold RR.sl at r1 hW3;obtain⟨gR,hgR⟩:∃g,g=wr.heap.size:=⟨_,rfl⟩;subst hadR;clear hM hM3 hr hrr hrows;gi_wp2;rw[<-hW3,<-hgR];rw[<-hgR]at HBR;clear hW3 hgR bU lU bU0 lU0 r0 r1 hgl HB3 HJ4 XL
   gi_loopw [36] (fun i w2=>∃j:Nat,j<=us.length/\i=.int .i64 j/\Hid (J (iQ rs st us sn xo q++kQ R us o k++sS o r.name (us.take j)) w2)/\Hid (FV w2 gO o)/\Hid (IW w2 gR r)) (fun i _=>us.length-(intOf i).toNat)
   case atStart=>exact⟨0,Vy _,rfl,by show J (_++[]) _;rw[Wt];exact HJ5.out,XI,HBR⟩
   clear HJ5 XI HBR;obtain⟨j,hj,rfl,HJ6,XI,HBR⟩:=hrel;by_cases hlj:j<us.length
   ·have hM:=HT.out _ _ HJ6.out;obtain⟨bV,offV,hadU,⟨y0,y1⟩,hbV⟩:=kD.at0 hM.users hlj;have HAS:=aY (Oi o r.name hlj);obtain⟨u,hu⟩:=eQx (us[j]);rw[<-hu]at y0 y1 HAS;have hj1:=bI j;have hj2:(j:Int)<(us.length:Int):=by omega
    obtain⟨W4,Xn⟩:=eQx (wr.alloc (.cells #[.string u.t,.string u.s] 27));have XJ:=qC Xn;have HJ7:=nR HJ.out HJ6.out XJ.out;have HBO2:=aY (XI.out.kp (KpI.below XJ.out));have HBR2:=aY (HBR.out.kp (KpI.below XJ.out));obtain⟨fn,tmps,assign,body,hy,hR⟩:=HY.out _ ⟨o.t,o.s,r.name,u.t,u.s⟩ W4 HJ7 (Oj HOM.out (by rw[<-HRE.out];exact Y0.out) (by rw[hu];exact Vs hlj));obtain⟨c0,c1,cl⟩:=XI.out.c;obtain⟨e0,e1,el⟩:=HBR.out.c;have HRR:=aY hR;unfold El at hy;subst hadU;subst Xn;clear hM hu HJ7 hR;gi_wp2;refine HRR.out.mono ?_;rintro e W5 ⟨rfl,hJ8,hK8⟩;have HJ8:Hid (J (iQ rs st us sn xo q++kQ R us o k++sS o r.name (us.take (j+1))) W5):=by show J _ _;rw[HAS.out,<-VY];exact hJ8
    have HBO3:=aY (HBO2.out.kp hK8);have HBR3:=aY (HBR2.out.kp hK8);clear hJ8 hK8 hy y0 y1 c0 c1 cl e0 e1 el;gi_wp2;go_roundw;case rel=>exact⟨j+1,by omega,by go_num,HJ8,HBO3,HBR3⟩
    simp[intOf]<;>omega
   have HJ7:Hid (J (iQ rs st us sn xo q++kQ R us o (k+1)) wr):=by
    have h1:=HJ6.out;rw[VZ (by omega),VY,<-HKS.out]at h1;exact h1
   gi_wp2;go_roundw;case rel=>exact⟨k+1,by omega,by go_num,HJ7,XI⟩
   simp[intOf]<;>omega
  have HE2:Hid (iQ rs st us sn xo q++kQ R us o k=iQ rs st us sn xo (q+1)):=by show _=_;rw[HSQ.out,show k=R.length by omega]
  have HJ5:Hid (J (iQ rs st us sn xo (q+1)) wr):=by show J _ _;rw[<-HE2.out];exact HJ4.out
  gi_wp2;go_roundw;case rel=>exact⟨q+1,by omega,by go_num,HJ5⟩
  simp[intOf]<;>omega
 have HE:Hid (iQ rs st us sn xo q=bP (ae rs) st xo us sn):=by show _=_;unfold iQ bP;rw[VZ (by omega)]
 have HJ2:Hid (J (bP (ae rs) st xo us sn) wr):=by show J _ _;rw[<-HE.out];exact HJ1.out
 gi_wp2
 go_end0
 exact⟨⟨_,rfl⟩,_,rfl,HJ2.out⟩
end Go.Proofs.YtojjoblnpldniaaGreat
namespace Go.Proofs.YtojjoblnpldniaaGreat
set_option linter.unusedVariables false
set_option maxRecDepth 100000
open ChangeShapes WideShapes ChangeAt RowKit Maps
open Pl
def zl(B:Nat):Value:=.func (Fn.func 282) #[] #[.pointer (some ⟨B,0,none⟩),.pointer (some ⟨B+1,0,none⟩),.pointer (some ⟨B+1+1,0,none⟩),.pointer (some ⟨B+1+1+1,0,none⟩)]
def Je(w:World)(D:Nat)(vE:Value)(f:Fc)(bK:Nat)(x:ER):World :=
 (((((w.alloc (.cells #[.pointer (some ⟨D,0,none⟩)] 92)).alloc (.cells #[vE] 37)).alloc (.cells #[.string f.a,.string f.b,.string f.r,.string f.c,.string f.d] 52)).alloc (.cells #[.map (some bK)] 115)).alloc (.cells #[.int .i64 x.e.kind,.slice x.adA x.e.allow.length x.capA,.string x.e.over,.string x.e.name,.slice x.adK x.e.kids.length x.capK] 43)).alloc (.cells #[zl w.heap.size] 358)
structure NdB(w:World)(B D:Nat)(vE:Value)(f:Fc)(bK:Nat)(x:ER):Prop where
 lt:B+1+1+1+1+1<w.heap.size
 d:w.cell? ⟨B,0,none⟩=some (.pointer (some ⟨D,0,none⟩))
 e:w.cell? ⟨B+1,0,none⟩=some vE
 f0:w.cell? ⟨B+1+1,0,none⟩=some (.string f.a)
 f1:w.cell? ⟨B+1+1,1,none⟩=some (.string f.b)
 f2:w.cell? ⟨B+1+1,2,none⟩=some (.string f.r)
 f3:w.cell? ⟨B+1+1,3,none⟩=some (.string f.c)
 f4:w.cell? ⟨B+1+1,4,none⟩=some (.string f.d)
 k:w.cell? ⟨B+1+1+1,0,none⟩=some (.map (some bK))
 x0:w.cell? ⟨B+1+1+1+1,0,none⟩=some (.int .i64 x.e.kind)
 x1:w.cell? ⟨B+1+1+1+1,1,none⟩=some (.slice x.adA x.e.allow.length x.capA)
 x2:w.cell? ⟨B+1+1+1+1,2,none⟩=some (.string x.e.over)
 x3:w.cell? ⟨B+1+1+1+1,3,none⟩=some (.string x.e.name)
 x4:w.cell? ⟨B+1+1+1+1,4,none⟩=some (.slice x.adK x.e.kids.length x.capK)
 v:w.cell? ⟨B+1+1+1+1+1,0,none⟩=some (zl B)
theorem NdB.below{w w':af}{B D:Nat}{vE:Value}{f:Fc}{bK:Nat}{x:ER}(h:NdB w B D vE f bK x)(hB:ag w w'):NdB w' B D vE f bK x:=by
 have hl:=h.lt;have c:∀i o,i<=5->w'.cell? ⟨B+i,o,none⟩=w.cell? ⟨B+i,o,none⟩:=fun i o hi=>hB.cell (p:=⟨B+i,o,none⟩) (show B+i<_ by omega);have c0:∀o,w'.cell? ⟨B,o,none⟩=w.cell? ⟨B,o,none⟩:=fun o=>hB.cell (p:=⟨B,o,none⟩) (show B<_ by omega);exact⟨Vt hl hB.size,(c0 _).trans h.d,(c 1 _ (by omega)).trans h.e,(c 2 _ (by omega)).trans h.f0,(c 2 _ (by omega)).trans h.f1,(c 2 _ (by omega)).trans h.f2,(c 2 _ (by omega)).trans h.f3,(c 2 _ (by omega)).trans h.f4,(c 3 _ (by omega)).trans h.k,(c 4 _ (by omega)).trans h.x0,(c 4 _ (by omega)).trans h.x1,(c 4 _ (by omega)).trans h.x2,(c 4 _ (by omega)).trans h.x3,(c 4 _ (by omega)).trans h.x4,(c 5 _ (by omega)).trans h.v⟩
theorem ma(w:af)(D:Nat)(vE:Value)(f:Fc)(bK:Nat)(x:ER):ag w (Je w D vE f bK x):=by
 unfold Je;exact((((((Vv _ _).alloc (Vu _) _).alloc (by simp) _).alloc (by simp;omega) _).alloc (by simp;omega) _).alloc (by simp;omega) _).alloc (by simp;omega) _
theorem o6(w:af)(cs:Array Value)(T:TypeId)(o:Nat):(w.alloc (.cells cs T)).cell? ⟨w.heap.size,o,none⟩=cs[o]?:=World.cell?_alloc_mark w cs T (0,0) o
theorem mg(w:af)(D:Nat)(vE:Value)(f:Fc)(bK:Nat)(x:ER):NdB (Je w D vE f bK x) w.heap.size D vE f bK x:=by
 unfold Je;obtain⟨w1,h1⟩:∃u,u=w.alloc (.cells #[.pointer (some ⟨D,0,none⟩)] 92):=⟨_,rfl⟩;have s1:w1.heap.size=w.heap.size+1:=by rw[h1,World.size_alloc]
 have b1:ag w w1:=by rw[h1];exact(Vv _ _).alloc (Vu _) _
 obtain⟨w2,h2⟩:∃u,u=w1.alloc (.cells #[vE] 37):=⟨_,rfl⟩;have s2:w2.heap.size=w.heap.size+1+1:=by rw[h2,World.size_alloc,s1]
 have b2:ag w1 w2:=by rw[h2];exact(Vv _ _).alloc (Vu _) _
 obtain⟨w3,h3⟩:∃u,u=w2.alloc (.cells #[.string f.a,.string f.b,.string f.r,.string f.c,.string f.d] 52):=⟨_,rfl⟩;have s3:w3.heap.size=w.heap.size+1+1+1:=by rw[h3,World.size_alloc,s2]
 have b3:ag w2 w3:=by rw[h3];exact(Vv _ _).alloc (Vu _) _
 obtain⟨w4,h4⟩:∃u,u=w3.alloc (.cells #[.map (some bK)] 115):=⟨_,rfl⟩;have s4:w4.heap.size=w.heap.size+1+1+1+1:=by rw[h4,World.size_alloc,s3]
 have b4:ag w3 w4:=by rw[h4];exact(Vv _ _).alloc (Vu _) _
 obtain⟨w5,h5⟩:∃u,u=w4.alloc (.cells #[.int .i64 x.e.kind,.slice x.adA x.e.allow.length x.capA,.string x.e.over,.string x.e.name,.slice x.adK x.e.kids.length x.capK] 43):=⟨_,rfl⟩;have s5:w5.heap.size=w.heap.size+1+1+1+1+1:=by rw[h5,World.size_alloc,s4]
 have b5:ag w4 w5:=by rw[h5];exact(Vv _ _).alloc (Vu _) _
 obtain⟨w6,h6⟩:∃u,u=w5.alloc (.cells #[zl w.heap.size] 358):=⟨_,rfl⟩;have s6:w6.heap.size=w.heap.size+1+1+1+1+1+1:=by rw[h6,World.size_alloc,s5]
 have b6:ag w5 w6:=by rw[h6];exact(Vv _ _).alloc (Vu _) _
 rw[<-h1,<-h2,<-h3,<-h4,<-h5,<-h6];have c0:∀o,w6.cell? ⟨w.heap.size,o,none⟩=(#[.pointer (some ⟨D,0,none⟩)]:Array Value)[o]?:=fun o=>by
  have e:w1.cell? ⟨w.heap.size,o,none⟩=(#[.pointer (some ⟨D,0,none⟩)]:Array Value)[o]?:=by rw[h1];exact o6 _ _ _ o
  rw[b6.cell (p:=⟨w.heap.size,o,none⟩) (show w.heap.size<_ by omega),b5.cell (p:=⟨w.heap.size,o,none⟩) (show w.heap.size<_ by omega),b4.cell (p:=⟨w.heap.size,o,none⟩) (show w.heap.size<_ by omega),b3.cell (p:=⟨w.heap.size,o,none⟩) (show w.heap.size<_ by omega),b2.cell (p:=⟨w.heap.size,o,none⟩) (show w.heap.size<_ by omega)];exact e
 have c1:∀o,w6.cell? ⟨w.heap.size+1,o,none⟩=(#[vE]:Array Value)[o]?:=fun o=>by
  have e:w2.cell? ⟨w.heap.size+1,o,none⟩=(#[vE]:Array Value)[o]?:=by rw[h2,<-s1];exact o6 _ _ _ o
  rw[b6.cell (p:=⟨w.heap.size+1,o,none⟩) (show w.heap.size+1<_ by omega),b5.cell (p:=⟨w.heap.size+1,o,none⟩) (show w.heap.size+1<_ by omega),b4.cell (p:=⟨w.heap.size+1,o,none⟩) (show w.heap.size+1<_ by omega),b3.cell (p:=⟨w.heap.size+1,o,none⟩) (show w.heap.size+1<_ by omega)];exact e
 have c2:∀o,w6.cell? ⟨w.heap.size+1+1,o,none⟩=(#[.string f.a,.string f.b,.string f.r,.string f.c,.string f.d]:Array Value)[o]?:=fun o=>by
  have e:w3.cell? ⟨w.heap.size+1+1,o,none⟩=(#[.string f.a,.string f.b,.string f.r,.string f.c,.string f.d]:Array Value)[o]?:=by rw[h3,<-s2];exact o6 _ _ _ o
  rw[b6.cell (p:=⟨w.heap.size+1+1,o,none⟩) (show w.heap.size+1+1<_ by omega),b5.cell (p:=⟨w.heap.size+1+1,o,none⟩) (show w.heap.size+1+1<_ by omega),b4.cell (p:=⟨w.heap.size+1+1,o,none⟩) (show w.heap.size+1+1<_ by omega)];exact e
 have c3:∀o,w6.cell? ⟨w.heap.size+1+1+1,o,none⟩=(#[.map (some bK)]:Array Value)[o]?:=fun o=>by
  have e:w4.cell? ⟨w.heap.size+1+1+1,o,none⟩=(#[.map (some bK)]:Array Value)[o]?:=by rw[h4,<-s3];exact o6 _ _ _ o
  rw[b6.cell (p:=⟨w.heap.size+1+1+1,o,none⟩) (show w.heap.size+1+1+1<_ by omega),b5.cell (p:=⟨w.heap.size+1+1+1,o,none⟩) (show w.heap.size+1+1+1<_ by omega)];exact e
 have c4:∀o,w6.cell? ⟨w.heap.size+1+1+1+1,o,none⟩=(#[.int .i64 x.e.kind,.slice x.adA x.e.allow.length x.capA,.string x.e.over,.string x.e.name,.slice x.adK x.e.kids.length x.capK]:Array Value)[o]?:=fun o=>by
  have e:w5.cell? ⟨w.heap.size+1+1+1+1,o,none⟩=(#[.int .i64 x.e.kind,.slice x.adA x.e.allow.length x.capA,.string x.e.over,.string x.e.name,.slice x.adK x.e.kids.length x.capK]:Array Value)[o]?:=by rw[h5,<-s4];exact o6 _ _ _ o
  rw[b6.cell (p:=⟨w.heap.size+1+1+1+1,o,none⟩) (show w.heap.size+1+1+1+1<_ by omega)];exact e
 have c5:∀o,w6.cell? ⟨w.heap.size+1+1+1+1+1,o,none⟩=(#[zl w.heap.size]:Array Value)[o]?:=fun o=>by
  have e:w6.cell? ⟨w.heap.size+1+1+1+1+1,o,none⟩=(#[zl w.heap.size]:Array Value)[o]?:=by rw[h6,<-s5];exact o6 _ _ _ o
  exact e
 exact⟨by omega,c0 0,c1 0,c2 0,c2 1,c2 2,c2 3,c2 4,c3 0,c4 0,c4 1,c4 2,c4 3,c4 4,c5 0⟩
def KY(D:Nat)(vE:Value)(f:Fc)(bK:Nat)(w:World)(i:Int)(b:Bool):Prop:=∀w1:World,ag w w1->Calls prog 232 #[.pointer (some ⟨D,0,none⟩),vE,.int .i64 i,.agg #[.string f.a,.string f.b,.string f.r,.string f.c,.string f.d],.map (some bK)] w1 fun e w'=>e=.returned (.bool b)/\ag w1 w'
theorem qp{w w1:af}{B D:Nat}{vE:Value}{f:Fc}{bK:Nat}{x:ER}{i:Int}{b:Bool}(hK:KY D vE f bK w i b)(hb:ag w w1)(hB:NdB w1 B D vE f bK x):
  Calls prog 282 #[.int .i64 i,.pointer (some ⟨B,0,none⟩),.pointer (some ⟨B+1,0,none⟩),.pointer (some ⟨B+1+1,0,none⟩),.pointer (some ⟨B+1+1+1,0,none⟩)] w1 fun e w'=>e=.returned (.bool b)/\ag w1 w':=by
 have HC:=aY (hK w1 hb);obtain⟨-,d,e,f0,f1,f2,f3,f4,k,-⟩:=hB;clear hK;go_enter func282,ntmps282;go_wp2_with fail;refine HC.out.mono ?_;rintro e w2 ⟨rfl,hb2⟩;have HB:=aY hb2;clear hb2;go_wp2;go_ret;exact⟨rfl,HB.out⟩
theorem wW{w w1:af}{B D:Nat}{vE:Value}{f:Fc}{bK:Nat}{x:ER}{i:Int}{b:Bool}(hK:KY D vE f bK w i b)(hb:ag w w1)(hB:NdB w1 B D vE f bK x):
  Calls prog 283 #[.int .i64 i,.pointer (some ⟨B+1+1+1+1+1,0,none⟩)] w1 fun e w'=>e=.returned (.bool (!b))/\ag w1 w':=by
 have HC:=aY (qp hK hb hB);have hv:=hB.v;unfold zl at hv;clear hK hB;go_enter func283,ntmps283;go_wp2_with fail;refine HC.out.mono ?_;rintro e w2 ⟨rfl,hb2⟩;have HB:=aY hb2;clear hb2;go_wp2;go_ret;exact⟨rfl,HB.out⟩
theorem Uw(xs:Array Value)(u:af):(callFunc 282 xs).run prog u=.ok (.enter 282 xs) u:=by kernel_rfl
theorem Ux(xs:Array Value)(u:af):(callFunc 283 xs).run prog u=.ok (.enter 283 xs) u:=by kernel_rfl
theorem Ol(p:Int->Bool){zs:List Int}{k:Nat}(h:k<zs.length):(zs.drop k).any p=(p zs[k] || (zs.drop (k+1)).any p):=by rw[Wi h];rfl
theorem KZ(FC:Nat)(rc cp:Array Value)(p:Int->Bool)(ad:Q02)(cap:Nat)(xs:List Int)(w:af)(hlen:xs.length<=1048576)(hs:rU w ad xs)
  (hrun:∀(ys:Array Value) (u:World),(callFunc FC ys).run prog u=.ok (.enter FC ys) u) (hp:∀x∈xs,∀w1:World,ag w w1->Calls prog FC (rc.push (.int .i64 x)++cp) w1 fun e w'=>e=.returned (.bool (p x))/\ag w1 w') :
  Calls prog 318 #[.slice ad xs.length cap,.func (Fn.func FC) rc cp] w fun e w'=>(∃r:Int,e=.returned (.int .i64 r)/\decide (0<=r)=xs.any p)/\ag w w':=by
 have HS:=aY hs;have YQ:=aY hrun;have HP:=aY hp;clear hs hrun hp;have HD:Hid (∀k (h:k<xs.length),(xs.drop k).any p=(p xs[k] || (xs.drop (k+1)).any p)):=fun k h=>Ol p h;go_enter func318,ntmps318;go_wp2_with fail;go_loopw[8] (fun i wr=>∃k:Nat,k<=xs.length/\i=.int .i64 k/\Hid ((xs.drop k).any p=xs.any p)/\Hid (ag w wr)) (fun i _=>xs.length-(intOf i).toNat);case atStart=>exact⟨0,Vy _,rfl,rfl,Vv _ _⟩
 obtain⟨k,hk,rfl,HQ,HB⟩:=hrel;by_cases hlt:k<xs.length
 ·obtain⟨b,off,WR,t0,hbl⟩:=rU.at0 (HS.out.below HB.out) hlt;have HM:Hid (xs[k]∈xs):=Vs hlt;have hk1:=bI k;have hk2:(k:Int)<(xs.length:Int):=by omega
  have HD2:=aY (HD.out k hlt);subst WR;go_wp2_with fail;rw[YQ.out,Oper.upon_enter];refine(HP.out _ HM.out _ HB.out).mono ?_;rintro e w1 ⟨rfl,hb1⟩;have HB1:=iX HB hb1;clear hb1 t0;cases he:p xs[k];case true=>
   have HN:Hid (xs.any p=true):=by show _=_;rw[<-HQ.out,HD2.out,he];rfl
   go_wp2;go_ret;exact⟨⟨k,rfl,by rw[HN.out];simp⟩,HB1.out⟩
  have HQ2:Hid ((xs.drop (k+1)).any p=xs.any p):=by show _=_;rw[<-HQ.out,HD2.out,he];rfl
  go_wp2;go_roundw;case rel=>exact⟨k+1,by omega,by go_num,HQ2,HB1⟩
  simp[intOf]<;>omega
 have HN:Hid (xs.any p=false):=by show _=_;rw[<-HQ.out,VU (by omega)];rfl
 go_wp2;go_ret;exact⟨⟨-1,rfl,by rw[HN.out];simp⟩,HB.out⟩
theorem tV(FC:Nat)(rc cp:Array Value)(p:Int->Bool)(ad:Q02)(cap:Nat)(xs:List Int)(w:af)(hlen:xs.length<=1048576)(hs:rU w ad xs)
  (hrun:∀(ys:Array Value) (u:World),(callFunc FC ys).run prog u=.ok (.enter FC ys) u) (hp:∀x∈xs,∀w1:World,ag w w1->Calls prog FC (rc.push (.int .i64 x)++cp) w1 fun e w'=>e=.returned (.bool (p x))/\ag w1 w') :
  Calls prog 286 #[.slice ad xs.length cap,.func (Fn.func FC) rc cp] w fun e w'=>e=.returned (.bool (xs.any p))/\ag w w':=by
 have HC:=aY (KZ FC rc cp p ad cap xs w hlen hs hrun hp);clear hs hrun hp;go_enter func286,ntmps286;go_wp2_with fail;refine HC.out.mono ?_;rintro e w' ⟨⟨r,rfl,hr⟩,hbx⟩;have HR:=aY hr;clear hr;go_wp2;go_ret;exact⟨by rw[<-HR.out];rfl,hbx⟩
section
variable  {w:World}{rs:Q06}{D br bp bt bK nK:Nat}{n1:Int}{nr:Nat}{Mr:KL->Option Value}{Er:List (KL×RR)}{ts:Q05}{xo xu:Q0a}{np:Nat}{Mp:K3->Option Value}{vo vu:Value}{out:Q04}{f:Fc}{WW:Q02}{capE:Nat}{rows:Q08}{n:Nat}
theorem Om(hn:n<rows.length)(hD:DatA w rs D br bp bt n1 nr Mr Er (dQ ts) xo xu np Mp vo vu)(hK:aJ oV prog 52 w bK nK (CK out))(hf:f.fits)(hts:∀t∈ts,t.fits)(htl:ts.length<=1000)(hex:jo w WW rows)(hre:rows.length<=1000)(hk:rows[n].e.kind=1):
  Calls prog 232 #[.pointer (some ⟨D,0,none⟩),.slice WW rows.length capE,.int .i64 (n:Int),.agg #[.string f.a,.string f.b,.string f.r,.string f.c,.string f.d],.map (some bK)] w fun e w'=>e=.returned (.bool (qY ts out f))/\ag w w':=by
 obtain⟨b,off,WR,⟨t0,t1,t2,t3,t4⟩,hbl,hok⟩:=jo.at0 hex hn;obtain⟨W0,hW0⟩:=eQx (Je w D (.slice WW rows.length capE) f bK rows[n]);have HB0:Hid (ag w W0):=by show Below _ _ _;rw[hW0];exact ma _ _ _ _ _ _
 have HN0:Hid (NdB W0 w.heap.size D (.slice WW rows.length capE) f bK rows[n]):=by show NdB _ _ _ _ _ _ _;rw[hW0];exact mg _ _ _ _ _ _
 have hk1:(rows[n].e.kind==1)=true:=by rw[hk];rfl
 have hbl1:b<w.heap.size+1:=by omega
 have hbl2:b<w.heap.size+1+1:=by omega
 have Zy:b<w.heap.size+1+1+1:=by omega
 have hn1:=bI n;have hn2:(n:Int)<(rows.length:Int):=by omega
 unfold Je zl at hW0;have HC:=aY (CL (hD.below HB0.out) (hK.below HB0.out) hf hts htl);clear hD hK hts hex hk hok;subst WR;go_enter func232,ntmps232;go_wp2_with fail;rw[<-hW0];clear hW0 t0 t1 t2 t3 t4;refine(HC.out).mono ?_;rintro e w1 ⟨rfl,hb1⟩;have HB1:=aY (HB0.out.trans (hb1.mono HB0.out.size));clear hb1;go_wp2;go_ret;exact⟨rfl,HB1.out⟩
theorem Rc(hn:n<rows.length)(hK:aJ oV prog 52 w bK nK (CK out))(hf:f.fits)(hnm:rows[n].e.name.size<=maxLen)(hex:jo w WW rows)(hre:rows.length<=1000)(hk:rows[n].e.kind=2):
  Calls prog 232 #[.pointer (some ⟨D,0,none⟩),.slice WW rows.length capE,.int .i64 (n:Int),.agg #[.string f.a,.string f.b,.string f.r,.string f.c,.string f.d],.map (some bK)] w fun e w'=>e=.returned (.bool (gZ out ⟨f.a,f.b,rows[n].e.name,f.c,f.d⟩))/\ag w w':=by
 obtain⟨b,off,WR,⟨t0,t1,t2,t3,t4⟩,hbl,hok⟩:=jo.at0 hex hn;obtain⟨W0,hW0⟩:=eQx (Je w D (.slice WW rows.length capE) f bK rows[n]);have HB0:Hid (ag w W0):=by show Below _ _ _;rw[hW0];exact ma _ _ _ _ _ _
 have HN0:Hid (NdB W0 w.heap.size D (.slice WW rows.length capE) f bK rows[n]):=by show NdB _ _ _ _ _ _ _;rw[hW0];exact mg _ _ _ _ _ _
 have hk1:(rows[n].e.kind==1)=false:=by rw[hk];rfl
 have hk2:(rows[n].e.kind==2)=true:=by rw[hk];rfl
 have hbl1:b<w.heap.size+1:=by omega
 have hbl2:b<w.heap.size+1+1:=by omega
 have Zy:b<w.heap.size+1+1+1:=by omega
 have hn1:=bI n;have hn2:(n:Int)<(rows.length:Int):=by omega
 unfold Je zl at hW0;have HC:=aY (wV bK nK out ⟨f.a,f.b,rows[n].e.name,f.c,f.d⟩ W0 ⟨hf.1,hf.2.1,hnm,hf.2.2.2.1,hf.2.2.2.2⟩ (hK.below HB0.out));clear hK hex hk hok hf;subst WR;go_enter func232,ntmps232;go_wp2_with fail;rw[<-hW0];clear hW0 t0 t1 t2 t3 t4;refine(HC.out).mono ?_;rintro e w1 ⟨rfl,hb1⟩;have HB1:=aY (HB0.out.trans (hb1.mono HB0.out.size));clear hb1;go_wp2;go_ret;exact⟨rfl,HB1.out⟩
theorem Oo(hn:n<rows.length)(hD:DatA w rs D br bp bt n1 nr Mr Er (dQ ts) xo xu np Mp vo vu)(hK:aJ oV prog 52 w bK nK (CK out))(hf:f.fits)(hxf:rows[n].e.over.size<=maxLen/\rows[n].e.name.size<=maxLen)(hts:∀t∈ts,t.fits)(htl:ts.length<=1000)(hex:jo w WW rows)(hre:rows.length<=1000)(hk:rows[n].e.kind=3):
  Calls prog 232 #[.pointer (some ⟨D,0,none⟩),.slice WW rows.length capE,.int .i64 (n:Int),.agg #[.string f.a,.string f.b,.string f.r,.string f.c,.string f.d],.map (some bK)] w fun e w'=>e=.returned (.bool (tF ts out rows[n].e.over rows[n].e.name f))/\ag w w':=by
 obtain⟨b,off,WR,⟨t0,t1,t2,t3,t4⟩,hbl,hok⟩:=jo.at0 hex hn;obtain⟨W0,hW0⟩:=eQx (Je w D (.slice WW rows.length capE) f bK rows[n]);have HB0:Hid (ag w W0):=by show Below _ _ _;rw[hW0];exact ma _ _ _ _ _ _
 have HN0:Hid (NdB W0 w.heap.size D (.slice WW rows.length capE) f bK rows[n]):=by show NdB _ _ _ _ _ _ _;rw[hW0];exact mg _ _ _ _ _ _
 have hk1:(rows[n].e.kind==1)=false:=by rw[hk];rfl
 have hk2:(rows[n].e.kind==2)=false:=by rw[hk];rfl
 have hk3:(rows[n].e.kind==3)=true:=by rw[hk];rfl
 have hbl1:b<w.heap.size+1:=by omega
 have hbl2:b<w.heap.size+1+1:=by omega
 have Zy:b<w.heap.size+1+1+1:=by omega
 have hn1:=bI n;have hn2:(n:Int)<(rows.length:Int):=by omega
 unfold Je zl at hW0;have HC:=aY (CO (hD.below HB0.out) (hK.below HB0.out) rows[n] hxf hf hts htl);clear hD hK hts hex hk hok hxf hf;subst WR;go_enter func232,ntmps232;go_wp2_with fail;rw[<-hW0];clear hW0 t0 t1 t2 t3 t4;refine(HC.out).mono ?_;rintro e w1 ⟨rfl,hb1⟩;have HB1:=aY (HB0.out.trans (hb1.mono HB0.out.size));clear hb1;go_wp2;go_ret;exact⟨rfl,HB1.out⟩
theorem K7(hn:n<rows.length)(H:Int->Bool)(hkl:rows[n].e.kids.length<=1000)(hIH:∀i∈rows[n].e.kids,KY D (.slice WW rows.length capE) f bK w i (H i))(hex:jo w WW rows)(hre:rows.length<=1000)(hk:rows[n].e.kind=4):
  Calls prog 232 #[.pointer (some ⟨D,0,none⟩),.slice WW rows.length capE,.int .i64 (n:Int),.agg #[.string f.a,.string f.b,.string f.r,.string f.c,.string f.d],.map (some bK)] w fun e w'=>e=.returned (.bool (rows[n].e.kids.any H))/\ag w w':=by
 obtain⟨b,off,WR,⟨t0,t1,t2,t3,t4⟩,hbl,hok⟩:=jo.at0 hex hn;obtain⟨W0,hW0⟩:=eQx (Je w D (.slice WW rows.length capE) f bK rows[n]);have HB0:Hid (ag w W0):=by show Below _ _ _;rw[hW0];exact ma _ _ _ _ _ _
 have HN0:Hid (NdB W0 w.heap.size D (.slice WW rows.length capE) f bK rows[n]):=by show NdB _ _ _ _ _ _ _;rw[hW0];exact mg _ _ _ _ _ _
 have hk1:(rows[n].e.kind==1)=false:=by rw[hk];rfl
 have hk2:(rows[n].e.kind==2)=false:=by rw[hk];rfl
 have hk3:(rows[n].e.kind==3)=false:=by rw[hk];rfl
 have hk4:(rows[n].e.kind==4)=true:=by rw[hk];rfl
 have hbl1:b<w.heap.size+1:=by omega
 have hbl2:b<w.heap.size+1+1:=by omega
 have Zy:b<w.heap.size+1+1+1:=by omega
 have hn1:=bI n;have hn2:(n:Int)<(rows.length:Int):=by omega
 unfold Je zl at hW0;have HC:=aY (tV 282 #[] #[.pointer (some ⟨w.heap.size,0,none⟩),.pointer (some ⟨w.heap.size+1,0,none⟩),.pointer (some ⟨w.heap.size+1+1,0,none⟩),.pointer (some ⟨w.heap.size+1+1+1,0,none⟩)] H rows[n].adK rows[n].capK rows[n].e.kids W0 (by omega) (hok.2.below HB0.out) Uw (fun i hi w1 hb=>qp (hIH i hi) (HB0.out.trans (hb.mono HB0.out.size)) (HN0.out.below hb)));clear hIH hex hk hok;subst WR;go_enter func232,ntmps232;go_wp2_with fail;rw[<-hW0];clear hW0 t0 t1 t2 t3 t4;refine(HC.out).mono ?_;rintro e w1 ⟨rfl,hb1⟩;have HB1:=aY (HB0.out.trans (hb1.mono HB0.out.size));clear hb1;go_wp2;go_ret;exact⟨rfl,HB1.out⟩
theorem Oq(hn:n<rows.length)(H:Int->Bool)(hkl:rows[n].e.kids.length<=1000)(hIH:∀i∈rows[n].e.kids,KY D (.slice WW rows.length capE) f bK w i (H i))(hex:jo w WW rows)(hre:rows.length<=1000)(hk:rows[n].e.kind=5):
  Calls prog 232 #[.pointer (some ⟨D,0,none⟩),.slice WW rows.length capE,.int .i64 (n:Int),.agg #[.string f.a,.string f.b,.string f.r,.string f.c,.string f.d],.map (some bK)] w fun e w'=>e=.returned (.bool (rows[n].e.kids.all H))/\ag w w':=by
 obtain⟨b,off,WR,⟨t0,t1,t2,t3,t4⟩,hbl,hok⟩:=jo.at0 hex hn;obtain⟨W0,hW0⟩:=eQx (Je w D (.slice WW rows.length capE) f bK rows[n]);have HB0:Hid (ag w W0):=by show Below _ _ _;rw[hW0];exact ma _ _ _ _ _ _
 have HN0:Hid (NdB W0 w.heap.size D (.slice WW rows.length capE) f bK rows[n]):=by show NdB _ _ _ _ _ _ _;rw[hW0];exact mg _ _ _ _ _ _
 have hk1:(rows[n].e.kind==1)=false:=by rw[hk];rfl
 have hk2:(rows[n].e.kind==2)=false:=by rw[hk];rfl
 have hk3:(rows[n].e.kind==3)=false:=by rw[hk];rfl
 have hk4:(rows[n].e.kind==4)=false:=by rw[hk];rfl
 have hk5:(rows[n].e.kind==5)=true:=by rw[hk];rfl
 have hbl1:b<w.heap.size+1:=by omega
 have hbl2:b<w.heap.size+1+1:=by omega
 have Zy:b<w.heap.size+1+1+1:=by omega
 have hn1:=bI n;have hn2:(n:Int)<(rows.length:Int):=by omega
 unfold Je zl at hW0;have HC:=aY (tV 283 #[] #[.pointer (some ⟨w.heap.size+1+1+1+1+1,0,none⟩)] (fun i=>!H i) rows[n].adK rows[n].capK rows[n].e.kids W0 (by omega) (hok.2.below HB0.out) Ux (fun i hi w1 hb=>wW (hIH i hi) (HB0.out.trans (hb.mono HB0.out.size)) (HN0.out.below hb)));have Xd:Hid ((rows[n].e.kids.any fun i=>!H i)=!rows[n].e.kids.all H):=by show _=_;rw[List.not_all_eq_any_not]
 clear hIH hex hk hok;subst WR;go_enter func232,ntmps232;go_wp2_with fail;rw[<-hW0];clear hW0 t0 t1 t2 t3 t4;refine(HC.out).mono ?_;rintro e w1 ⟨he,hb1⟩;rw[Xd.out]at he;subst he;have HB1:=aY (HB0.out.trans (hb1.mono HB0.out.size));clear hb1;go_wp2;go_ret;exact⟨by simp,HB1.out⟩
end
open Go.Sort
section
variable  {w:World}{rs:Q06}{D br bp bt bK nK:Nat}{n1:Int}{nr:Nat}{Mr:KL->Option Value}{Er:List (KL×RR)}{ts:Q05}{xo xu:Q0a}{np:Nat}{Mp:K3->Option Value}{vo vu:Value}{out:Q04}{f:Fc}{WW:Q02}{capE:Nat}{rows:Q08}{n:Nat}
theorem Re(hn:n<rows.length)(b0 b1:Bool)(hkl:rows[n].e.kids.length<=1000)(hk2l:2<=rows[n].e.kids.length)(hA:KY D (.slice WW rows.length capE) f bK w (rows[n].e.kids.getD 0 0) b0)(hB:KY D (.slice WW rows.length capE) f bK w (rows[n].e.kids.getD 1 0) b1)(hex:jo w WW rows)(hre:rows.length<=1000)(hk:rows[n].e.kind=6):
  Calls prog 232 #[.pointer (some ⟨D,0,none⟩),.slice WW rows.length capE,.int .i64 (n:Int),.agg #[.string f.a,.string f.b,.string f.r,.string f.c,.string f.d],.map (some bK)] w fun e w'=>e=.returned (.bool (b0 && !b1))/\ag w w':=by
 obtain⟨b,off,WR,⟨t0,t1,t2,t3,t4⟩,hbl,hok⟩:=jo.at0 hex hn;obtain⟨W0,hW0⟩:=eQx (Je w D (.slice WW rows.length capE) f bK rows[n]);have HB0:Hid (ag w W0):=by show Below _ _ _;rw[hW0];exact ma _ _ _ _ _ _
 have HN0:Hid (NdB W0 w.heap.size D (.slice WW rows.length capE) f bK rows[n]):=by show NdB _ _ _ _ _ _ _;rw[hW0];exact mg _ _ _ _ _ _
 have hk1:(rows[n].e.kind==1)=false:=by rw[hk];rfl
 have hk2:(rows[n].e.kind==2)=false:=by rw[hk];rfl
 have hk3:(rows[n].e.kind==3)=false:=by rw[hk];rfl
 have hk4:(rows[n].e.kind==4)=false:=by rw[hk];rfl
 have hk5:(rows[n].e.kind==5)=false:=by rw[hk];rfl
 have hbl1:b<w.heap.size+1:=by omega
 have hbl2:b<w.heap.size+1+1:=by omega
 have Zy:b<w.heap.size+1+1+1:=by omega
 have hn1:=bI n;have hn2:(n:Int)<(rows.length:Int):=by omega
 unfold Je zl at hW0;have h0k:0<rows[n].e.kids.length:=by omega
 have h1k:1<rows[n].e.kids.length:=by omega
 obtain⟨bJ,offJ,Yx,z0,hbK⟩:=rU.at0 hok.2 h0k;have z1:w.cell? ⟨bJ,offJ+1,none⟩=some (.int .i64 rows[n].e.kids[1]):=by
  obtain⟨b',off',hadK',z1,-⟩:=rU.at0 hok.2 h1k;rw[Yx]at hadK';injection hadK' with e;injection e with e1 e2;rw[e1,e2];exact z1
 obtain⟨i0,hi0⟩:∃i,i=rows[n].e.kids[0]:=⟨_,rfl⟩;obtain⟨i1,hi1⟩:∃i,i=rows[n].e.kids[1]:=⟨_,rfl⟩;have g0:rows[n].e.kids.getD 0 0=i0:=by rw[hi0,We,VG h0k];rfl
 have g1:rows[n].e.kids.getD 1 0=i1:=by rw[hi1,We,VG h1k];rfl
 rw[g0]at hA;rw[g1]at hB;rw[<-hi0,Nat.add_zero]at z0;rw[<-hi1]at z1;obtain⟨kl,hkl'⟩:∃kl,kl=rows[n].e.kids.length:=⟨_,rfl⟩;obtain⟨cK,hcK⟩:∃c,c=rows[n].capK:=⟨_,rfl⟩;have hl0:(0:Int)<(kl:Int):=by omega
 have hl1:(1:Int)<(kl:Int):=by omega
 have h0k':0<kl:=by omega
 have h1k':1<kl:=by omega
 have HA:Hid (∀w1,ag W0 w1->_):=fun w1 hb=>qp hA (HB0.out.trans (hb.mono HB0.out.size)) (HN0.out.below hb);have HBB:Hid (∀w1,ag W0 w1->_):=fun w1 hb=>wW hB (HB0.out.trans (hb.mono HB0.out.size)) (HN0.out.below hb);have HZ:Hid (W0.cell? ⟨bJ,offJ,none⟩=some (.int .i64 i0)/\W0.cell? ⟨bJ,offJ+1,none⟩=some (.int .i64 i1)/\bJ<W0.heap.size):=⟨(HB0.out.cell (p:=⟨bJ,offJ,none⟩) hbK).trans z0,(HB0.out.cell (p:=⟨bJ,offJ+1,none⟩) hbK).trans z1,Vt hbK HB0.out.size⟩;have HX4:Hid (W0.cell? ⟨w.heap.size+1+1+1+1,4,none⟩=some (.slice (some ⟨bJ,offJ,none⟩) kl cK)):=by show _=_;rw[HN0.out.x4,Yx,<-hkl',<-hcK]
 have HV5:Hid (W0.cell? ⟨w.heap.size+1+1+1+1+1,0,none⟩=some (.func (Fn.func 282) #[] #[.pointer (some ⟨w.heap.size,0,none⟩),.pointer (some ⟨w.heap.size+1,0,none⟩),.pointer (some ⟨w.heap.size+1+1,0,none⟩),.pointer (some ⟨w.heap.size+1+1+1,0,none⟩)])):=HN0.out.v;clear hA hB hex hk hok z0 z1 Yx h0k h1k g0 g1 hi0 hi1;subst WR;go_enter func232,ntmps232;go_wp2_with fail;rw[<-hW0];clear hW0 t0 t1 t2 t3 t4;clear hk1 hk2 hk3 hk4 hk5 hkl' hcK;have HAA:Hid (∀d os,Calls prog 282 #[.int .i64 i0,.pointer (some ⟨w.heap.size,0,none⟩),.pointer (some ⟨w.heap.size+1,0,none⟩),.pointer (some ⟨w.heap.size+1+1,0,none⟩),.pointer (some ⟨w.heap.size+1+1+1,0,none⟩)] (grow (redrawn W0 d) os) fun e w''=>e=.returned (.bool b0)/\∃p:Regrown,w''=grow (redrawn W0 p.d) p.os):=by
  refine fO fun W' hb=>?_;exact HA.out _ hb
 have HBQ:Hid (∀d os,Calls prog 283 #[.int .i64 i1,.pointer (some ⟨w.heap.size+1+1+1+1+1,0,none⟩)] (grow (redrawn W0 d) os) fun e w''=>e=.returned (.bool (!b1))/\∃p:Regrown,w''=grow (redrawn W0 p.d) p.os):=by
  refine fO fun W' hb=>?_;exact HBB.out _ hb
 have x4:=cell_regrown HX4.out;have v5:=cell_regrown HV5.out;have z0:=cell_regrown HZ.out.1;have z1:=cell_regrown HZ.out.2.1;clear HA HBB HN0;cases b0
 case' true =>
  skip
 case' false =>
  skip
 all_goals
  refine wp_region_quiet_below (by kernel_rfl) (by kernel_rfl) ?_
  repeat(go_big_quiet_step (first|exact HAA.out _ _|exact HBQ.out _ _))
  refine wpQuiet_nil ?_;rintro _ ⟨⟨dq,osq⟩,rfl⟩;go_wp2;go_ret;exact⟨rfl,HB0.out.trans ((below_regrown W0 dq osq).mono HB0.out.size)⟩
end
set_option linter.unusedSectionVars false
theorem Ca{e:Ex}(h:av e=true):e.kids.length<=5/\(e.kind=6->2<=e.kids.length):=by
 unfold av at h;by_cases k1:e.kind=1
 ·rw[if_pos k1]at h;simp only[Vw,VH]at h;exact⟨by omega,fun h6=>by omega⟩
 by_cases k2:e.kind=2
 ·rw[if_neg k1,if_pos k2]at h;simp only[Vw,VH]at h;exact⟨by omega,fun h6=>by omega⟩
 by_cases k3:e.kind=3
 ·rw[if_neg k1,if_neg k2,if_pos k3]at h;simp only[Vw,VH]at h;exact⟨by omega,fun h6=>by omega⟩
 by_cases k4:e.kind=4\/e.kind=5
 ·rw[if_neg k1,if_neg k2,if_neg k3,if_pos k4]at h;simp only[Vw,VH]at h;exact⟨by omega,fun h6=>by omega⟩
 by_cases k6:e.kind=6
 ·rw[if_neg k1,if_neg k2,if_neg k3,if_neg k4,if_pos k6]at h;simp only[Vw,VH]at h;exact⟨by omega,fun h6=>by omega⟩
 rw[if_neg k1,if_neg k2,if_neg k3,if_neg k4,if_neg k6]at h;cases h
theorem SK{rows:Q08}(h:aI (ai rows)=true):NodOk rows/\1<=rows.length:=by
 have hl:1<=rows.length/\rows.length<=15:=by
  unfold aI at h;simp only[Vw,VH,ay]at h;exact⟨h.1.1.1.1.1,h.1.1.1.1.2⟩
 have hlow:=Aw h;have hkl:∀q∈rows,q.e.kids.length<=1000:=fun q hq=>by
  have:=(Ca (jI h q.e (VE.2 ⟨q,hq,rfl⟩))).1;omega
 refine⟨⟨by omega,hkl,hlow,fun e he h6=>?_⟩,hl.1⟩;exact(Ca (jI h e he)).2 h6
section
variable  [DecidableEq Fc]
theorem ym(H:List Fc->Fc->Bool)(qs:Q04)(f:Fc)(out:Q04):dN H (qs++[f]) out=fD H (dN H qs out) f:=by rw[Gg];rfl
theorem IX{H:List Fc->Fc->Bool}{out:Q04}{f:Fc}(h:gZ out f=true\/H out f=false):fD H out f=out:=by
 unfold fD;rw[if_pos];rcases h with h|h
 ·exact .inl (bW.1 h)
 exact .inr h
theorem Ot{H:List Fc->Fc->Bool}{out:Q04}{f:Fc}(h1:gZ out f=false)(h2:H out f=true):fD H out f=out++[f]:=by
 unfold fD;rw[if_neg];rintro(h|h)
 ·rw[bW.2 h]at h1;cases h1
 rw[h2]at h;cases h
end
theorem La{e:Ex}(h:av e=true):(e.kind=2->e.name.size<=maxLen)/\(e.kind=3->e.over.size<=maxLen/\e.name.size<=maxLen)/\(e.kind=1\/e.kind=2\/e.kind=3\/e.kind=4\/e.kind=5\/e.kind=6):=by
 unfold av at h;have hle:∀s:ByteArray,aP s=true->s.size<=maxLen:=fun s hs=>by have:=(oz hs).2;unfold maxLen;omega
 by_cases k1:e.kind=1
 ·exact⟨fun h2=>by omega,fun h3=>by omega,.inl k1⟩
 by_cases k2:e.kind=2
 ·rw[if_neg k1,if_pos k2]at h;simp only[Vw]at h;exact⟨fun _=>hle _ h.1.1.1,fun h3=>by omega,.inr (.inl k2)⟩
 by_cases k3:e.kind=3
 ·rw[if_neg k1,if_neg k2,if_pos k3]at h;simp only[Vw]at h;exact⟨fun h2=>by omega,fun _=>⟨hle _ h.1.1.1,hle _ h.1.1.2⟩,.inr (.inr (.inl k3))⟩
 refine⟨fun h2=>absurd h2 k2,fun h3=>absurd h3 k3,?_⟩;by_cases k4:e.kind=4\/e.kind=5
 ·rcases k4 with k4|k4
  ·exact .inr (.inr (.inr (.inl k4)))
  exact .inr (.inr (.inr (.inr (.inl k4))))
 by_cases k6:e.kind=6
 ·exact .inr (.inr (.inr (.inr (.inr k6))))
 rw[if_neg k1,if_neg k2,if_neg k3,if_neg k4,if_neg k6]at h;cases h
section
variable  {rs:Q06}{D br bp bt bK nK:Nat}{n1:Int}{nr:Nat}{Mr:KL->Option Value}{Er:List (KL×RR)}{ts:Q05}{xo xu:Q0a}{np:Nat}{Mp:K3->Option Value}{vo vu:Value}{out:Q04}{f:Fc}{WW:Q02}{capE:Nat}{rows:Q08}
theorem tX(hN:NodOk rows)(hnb:∀e∈ai rows,av e=true)(hf:f.fits)(hts:∀t∈ts,t.fits)(htl:ts.length<=1000):
  ∀(k n:Nat) (w:World),n<k->n<rows.length->DatA w rs D br bp bt n1 nr Mr Er (dQ ts) xo xu np Mp vo vu->aJ oV prog 52 w bK nK (CK out)->jo w WW rows ->
  Calls prog 232 #[.pointer (some ⟨D,0,none⟩),.slice WW rows.length capE,.int .i64 (n:Int),.agg #[.string f.a,.string f.b,.string f.r,.string f.c,.string f.d],.map (some bK)] w fun e w'=>e=.returned (.bool (fJ ts (ai rows) out f k out n))/\ag w w'
 | 0,_,_,h,_,_,_,_=>absurd h (Wm _)
 | k+1,n,w,hk,hn,hD,hK,hex=>by
  have e:(ai rows)[n]?=some rows[n].e:=by simp[ai,hn]
  have Xp:∀i∈rows[n].e.kids,KY D (.slice WW rows.length capE) f bK w i (fJ ts (ai rows) out f k out i.toNat):=fun i hi w1 hb1=>by
   have h1:=hN.kid hn hi;have h2:=tX hN hnb hf hts htl k i.toNat w1 (by omega) (by omega) (hD.below hb1) (hK.below hb1) (hex.below hb1);have e2:((i.toNat:Nat):Int)=i:=by omega
   rw[e2]at h2;exact h2
  have hm:rows[n]∈rows:=Vs hn;have hme:rows[n].e∈ai rows:=VE.2 ⟨_,hm,rfl⟩;obtain⟨hn2,hn3,hkd⟩:=La (hnb _ hme);unfold fJ;rw[e];by_cases k1:rows[n].e.kind=1
  ·simp only[if_pos k1];exact Om hn hD hK hf hts htl hex hN.len k1
  by_cases k2:rows[n].e.kind=2
  ·simp only[if_neg k1,if_pos k2];exact Rc hn hK hf (hn2 k2) hex hN.len k2
  by_cases k3:rows[n].e.kind=3
  ·simp only[if_neg k1,if_neg k2,if_pos k3];exact Oo hn hD hK hf (hn3 k3) hts htl hex hN.len k3
  by_cases k4:rows[n].e.kind=4
  ·simp only[if_neg k1,if_neg k2,if_neg k3,if_pos k4];exact K7 hn (fun i=>fJ ts (ai rows) out f k out i.toNat) (hN.kids _ hm) Xp hex hN.len k4
  by_cases k5:rows[n].e.kind=5
  ·simp only[if_neg k1,if_neg k2,if_neg k3,if_neg k4,if_pos k5];exact Oq hn (fun i=>fJ ts (ai rows) out f k out i.toNat) (hN.kids _ hm) Xp hex hN.len k5
  have k6:rows[n].e.kind=6:=by omega
  simp only[if_neg k1,if_neg k2,if_neg k3,if_neg k4,if_neg k5,if_pos k6];have h2:=hN.two _ hme k6;have hg:∀q,q<2->rows[n].e.kids.getD q 0∈rows[n].e.kids:=fun q hq=>by
   rw[We,VG (by omega)];exact Vs _
  exact Re hn _ _ (hN.kids _ hm) h2 (Xp _ (hg 0 (by omega))) (Xp _ (hg 1 (by omega))) hex hN.len k6
theorem SN{rs:Q06}(h:aZ (ae rs)=true){k:Q01}(hk:k∈au (ae rs)):∃t∈rs,∃q∈t.rows,jY rs k=some q.sl/\ai q.rows=ak (ae rs) k.1 k.2/\aI (ai q.rows)=true:=by
 have hk':=hk;unfold au at hk;obtain⟨T,hT,hk⟩:=VP.1 hk;obtain⟨t,ht,rfl⟩:=VE.1 hT;unfold jZ at hk;obtain⟨r,hr,rfl⟩:=VE.1 hk;obtain⟨q,hq,rfl⟩:=VE.1 hr;have hrel:=qc h ht hq;cases e:jY rs (t.p.name,q.p.name) with
 | none =>
  have h1:=(ry h).no _ e;have h2:dZ (ae rs) t.name q.name=none:=h1;rw[hrel]at h2;cases h2
 | some v =>
  obtain⟨t',ht',q',hq',-,rfl,e1,-⟩:=(ry h).yes _ v e;refine⟨t',ht',q',hq',rfl,?_,((aW h).2.2 t' ht' q' hq').1⟩;unfold ak;rw[e1];rfl
theorem Ou{w:af}{ad:Q02}(hD:DatA w rs D br bp bt n1 nr Mr Er (dQ ts) xo xu np Mp vo vu)(hK:aJ oV prog 52 w bK nK (CK out))(hf:f.fits)(hts:∀t∈ts,t.fits)(htl:ts.length<=1000)(hsh:aZ (ae rs)=true)(hkey:(f.a,f.r)∈au (ae rs))(hs:jK w ad rs):
  Calls prog 203 #[.pointer (some ⟨D,0,none⟩),.agg #[.string f.a,.string f.b,.string f.r,.string f.c,.string f.d],.map (some bK)] w fun e w'=>e=.returned (.bool (dO (ae rs) ts out f))/\ag w w':=by
 obtain⟨t,ZL,q,hq,htab,hrx,hsp⟩:=SN hsh hkey;obtain⟨hN,hr1⟩:=SK hsp;have hnb:=jI hsp;have ZK:qN rs q.ad q.rows:=.inr ⟨t,ZL,q,hq,rfl,rfl⟩;obtain⟨kl,hkl⟩:=jN (f.a,f.r) hf.1 hf.2.2.1;obtain⟨W0,hW0⟩:=eQx (w.alloc (.cells #[.string f.a,.string f.b,.string f.r,.string f.c,.string f.d] 52));have HB0:=qC hW0;have c0:W0.cell? ⟨w.heap.size,0,none⟩=some (.string f.a):=by rw[hW0];simp
 have c1:W0.cell? ⟨w.heap.size,1,none⟩=some (.string f.b):=by rw[hW0];simp
 have c2:W0.cell? ⟨w.heap.size,2,none⟩=some (.string f.r):=by rw[hW0];simp
 have c3:W0.cell? ⟨w.heap.size,3,none⟩=some (.string f.c):=by rw[hW0];simp
 have c4:W0.cell? ⟨w.heap.size,4,none⟩=some (.string f.d):=by rw[hW0];simp
 have d0:=HB0.out.cell (p:=⟨D,0,none⟩) hD.dat.lt |>.trans hD.dat.c0;obtain⟨WW,hadE⟩:∃a,a=q.ad:=⟨_,rfl⟩;obtain⟨capE,hcapE⟩:∃a,a=q.cap:=⟨_,rfl⟩;obtain⟨rows,hrows⟩:∃a,a=q.rows:=⟨_,rfl⟩;have hsl:q.sl=.slice WW rows.length capE:=by rw[hadE,hcapE,hrows];rfl
 rw[<-hrows]at hN hnb hr1 hrx;rw[<-hrows,<-hadE]at ZK;have hlk:∀m,(Instr.lookup 102 (.map (some bt)) (.agg #[.string f.a,.string f.r]) false).run prog (W0.drewN m)=.ok (.slice WW rows.length capE) (W0.drewN m):=fun m=>by
  have h:=((hD.tab.below HB0.out).below (below_drewN (Vv _ _) m)).look (t:=102) (e:=37) iZ underlying102 (oO _) (x:=(f.a,f.r)) hkl;rw[htab,hsl]at h;exact h
 have hr1000:=hN.len;have hwr:IntKind.i64.wrap ((rows.length:Int)-1)=((rows.length-1:Nat):Int):=by rw[IntKind.wrap_i64];omega
 have HC:Hid (∀nq,Calls prog 232 #[.pointer (some ⟨D,0,none⟩),.slice WW rows.length capE,.int .i64 ((rows.length-1:Nat):Int),.agg #[.string f.a,.string f.b,.string f.r,.string f.c,.string f.d],.map (some bK)] (W0.drewN nq) fun e w'=>e=.returned (.bool (dO (ae rs) ts out f))/\Below (W0.drewN nq).heap.size (W0.drewN nq) w'):=fun nq=>by
  have hb:ag w (W0.drewN nq):=below_drewN HB0.out nq;have h:=tX (capE:=capE) hN hnb hf hts htl rows.length (rows.length-1) (W0.drewN nq) (by omega) (by omega) (hD.below hb) (hK.below hb) (ZK.sl (hs.below hb));unfold dO;rw[<-hrx,ay];exact h
 clear hD hK hs hsp hkl htab hsl hN hnb hf hadE hcapE hrows ZK hrx hkey;go_enter func203,ntmps203;go_wp2_with fail;rw[<-hW0];clear hW0;go_quiet (fail);clear d0 hlk;go_wp2_with fail;refine(HC.out _).mono ?_;rintro e w1 ⟨rfl,hb1⟩;have HB1:=aY ((below_drewN HB0.out _).trans (hb1.mono HB0.out.size));clear hb1 c0 c1 c2 c3 c4;go_wp2;go_ret;exact⟨rfl,HB1.out⟩
end
end Go.Proofs.YtojjoblnpldniaaGreat
namespace Go.Proofs.YtojjoblnpldniaaGreat
set_option linter.unusedVariables false
set_option maxRecDepth 100000
open ChangeShapes WideShapes ChangeAt RowKit Maps Go.Shelf
open Pl
attribute [local go_sem] Oper.semAt_some
theorem Lb{n m:Nat}{P:Program}{l:Nat}{f:FuncId}{tmps:Array Value}{assign body:Code}{w:af}{R:Ending->World->Prop}(h:RoundIn Fence.wide n P l f tmps assign body w R):RoundIn Fence.wide m P l f tmps assign body w R :=
 ⟨h.1,fun c cs _=>h.2 c cs (room_wide _)⟩
theorem Cb(D:Nat)(sn:Int)(XH:Q02)(nU WX:Nat)(w:af):
  Calls prog 202 #[.pointer (some ⟨D,0,none⟩),.int .i64 sn,.slice XH nU WX] w fun e w'=>e=.returned (.func (.func 269) #[] #[.pointer (some ⟨w.heap.size,0,none⟩),.pointer (some ⟨w.heap.size+1,0,none⟩),.pointer (some ⟨w.heap.size+1+1,0,none⟩)])/\w'=((w.alloc (.cells #[.pointer (some ⟨D,0,none⟩)] 92)).alloc (.cells #[.int .i64 sn] 2)).alloc (.cells #[.slice XH nU WX] 192):=by
 go_enter func202,ntmps202;go_wp2;go_ret;exact⟨rfl,rfl⟩
theorem FW(D:Nat)(sn:Int)(XH:Q02)(nU WX:Nat)(bK:Nat)(w:af):
  Calls prog 135 #[.pointer (some ⟨D,0,none⟩),.int .i64 sn,.slice XH nU WX,.map (some bK)] w fun e w'=>e=.returned (.func (.func 201) #[] #[.pointer (some ⟨w.heap.size,0,none⟩),.pointer (some ⟨w.heap.size+1,0,none⟩),.pointer (some ⟨w.heap.size+1+1,0,none⟩),.pointer (some ⟨w.heap.size+1+1+1,0,none⟩)])/\w'=(((w.alloc (.cells #[.pointer (some ⟨D,0,none⟩)] 92)).alloc (.cells #[.int .i64 sn] 2)).alloc (.cells #[.slice XH nU WX] 192)).alloc (.cells #[.map (some bK)] 115):=by
 go_enter func135,ntmps135;go_wp2;go_ret;exact⟨rfl,rfl⟩
structure NewM(W:World)(rs:Q06)(Yk:Q02)(D br bp bt:Nat)(n1:Int)(nr:Nat)(Mr:KL->Option Value)(Er:List (KL×RR))(ts:Q05)(xo xu:Q0a)(np:Nat)(Mp:K3->Option Value)(vo vu:Value)(bK:Nat)(out:Q04)(hD hS hU hK:Nat)(sn:Int)(XH:Q02)(WX:Nat)(us:Q0a):Prop where
 dat:DatA W rs D br bp bt n1 nr Mr Er (dQ ts) xo xu np Mp vo vu
 sch:jK W Yk rs
 map:∃nK,aJ oV prog 52 W bK nK (CK out)
 bD:W.cell? ⟨hD,0,none⟩=some (.pointer (some ⟨D,0,none⟩))
 bS:W.cell? ⟨hS,0,none⟩=some (.int .i64 sn)
 bU:W.cell? ⟨hU,0,none⟩=some (.slice XH us.length WX)
 bM:W.cell? ⟨hK,0,none⟩=some (.map (some bK))
 users:kD W XH us
def Uy(l:Nat):Value:=.func (.yield l) #[] #[]
def iw(W:World)(g:Nat)(v:Value)(T:TypeId):Prop:=W.heap[g]?=some (.cells #[v] T (0,0))
theorem iw.c{W:af}{g:Nat}{v:Value}{T:TypeId}(h:iw W g v T):W.cell? ⟨g,0,none⟩=some v:=by
 unfold iw at h;simp[World.cell?,h]
theorem iw.kp{b l:Nat}{W W':af}{g:Nat}{v:Value}{T:TypeId}(h:iw W g v T)(hk:KpO b l W W')(h1:T≠52)(h2:T≠44):iw W' g v T:=hk.cells g _ _ _ h h1 h2
theorem iw.bel{W W':af}{g:Nat}{v:Value}{T:TypeId}(h:iw W g v T)(hb:ag W W'):iw W' g v T:=(hb.block g (VC.1 h).1).trans h
structure NBx(W:World)(B l D:Nat)(sn:Int)(vU:Value):Prop where
 y:iw W B (Uy l) 119
 d:iw W (B+1) (.pointer (some ⟨D,0,none⟩)) 92
 s:iw W (B+1+1) (.int .i64 sn) 2
 u:iw W (B+1+1+1) vU 192
theorem NBx.kp{b l0:Nat}{W W':af}{B l D:Nat}{sn:Int}{vU:Value}(h:NBx W B l D sn vU)(hk:KpO b l0 W W'):NBx W' B l D sn vU :=
 ⟨h.y.kp hk (by decide) (by decide),h.d.kp hk (by decide) (by decide),h.s.kp hk (by decide) (by decide),h.u.kp hk (by decide) (by decide)⟩
theorem NBx.bel{W W':af}{B l D:Nat}{sn:Int}{vU:Value}(h:NBx W B l D sn vU)(hb:ag W W'):NBx W' B l D sn vU:=⟨h.y.bel hb,h.d.bel hb,h.s.bel hb,h.u.bel hb⟩
theorem SQ{β:Type}{B0 B l D:Nat}{sn:Int}{vU:Value}(hB:B+1+1+1<B0):OwnFrom B0 (fun(_:β) W=>NBx W B l D sn vU):=fun s X Y row hs hg hr=>by
 have key:∀g v T,g<B0->iw X g v T->iw Y g v T:=fun g v T hl h=>(hg.block g (VC.1 h).1 fun e=>by have:=(hr g e.symm).1;omega).trans h;exact⟨key _ _ _ (by omega) hs.y,key _ _ _ (by omega) hs.d,key _ _ _ (by omega) hs.s,key _ _ _ (by omega) hs.u⟩
def CP(W:World)(g:Nat)(x:Fc):Prop:=W.heap[g]?=some (.cells #[.string x.a,.string x.b,.string x.r,.string x.c,.string x.d] 52 (0,0))
theorem CP.c{W:af}{g:Nat}{x:Fc}(h:CP W g x):W.cell? ⟨g,0,none⟩=some (.string x.a)/\W.cell? ⟨g,1,none⟩=some (.string x.b)/\W.cell? ⟨g,2,none⟩=some (.string x.r)/\W.cell? ⟨g,3,none⟩=some (.string x.c)/\W.cell? ⟨g,4,none⟩=some (.string x.d)/\g<W.heap.size:=by
 have hl:=(VC.1 h).1;unfold CP at h;exact⟨by simp[World.cell?,h],by simp[World.cell?,h],by simp[World.cell?,h],by simp[World.cell?,h],by simp[World.cell?,h],hl⟩
theorem CP.bel{W W':af}{g:Nat}{x:Fc}(h:CP W g x)(hb:ag W W'):CP W' g x:=(hb.block g (VC.1 h).1).trans h
theorem IY{B0 g:Nat}{x:Fc}:OwnFrom B0 (fun(_:Unit) W=>CP W g x):=fun s X Y row hs hg hr=>by
 refine(hg.block g (VC.1 hs).1 fun e=>?_).trans hs;obtain⟨-,o,ho,hc⟩:=hr g e.symm;rw[show X.heap[g]?=_ from hs]at ho;cases ho;cases hc
theorem Rf{l' m:Nat}{P:Program}{f:FuncId}{args:Array Value}{w:af}{R:Ending->World->Prop}(h:Calls P f args w R):CallsIn (Fence.wide.inRound l') m P f args w R:=(callsIn_wide (n:=m)).2 h
theorem Uz{l' n m:Nat}{P:Program}{l:Nat}{f:FuncId}{tmps:Array Value}{assign body:Code}{w:af}{R:Ending->World->Prop}(h:RoundIn Fence.wide n P l f tmps assign body w R):RoundIn (Fence.wide.inRound l') m P l f tmps assign body w R:=Lb (m:=m) h
theorem yT{B:Nat}{W W':af}(h:ag W W'):KeepsFrom B W W':=⟨h.size,fun k o _ hk _=>(h.block k (VC.1 hk).1).trans hk⟩
theorem Rh{B b l:Nat}{W W':af}(h:KpO b l W W')(hl:l<B)(hb:b<B):KeepsFrom B W W':=⟨h.size,fun k o hB hk hc=>h.other k o hk hc (by omega) (by omega)⟩
theorem IZ{rs:Q06}{st:Q00}{xo us:Q0a}{sn:Int}{x:Fc}(hof:∀o∈xo,o.t.size<=maxLen/\o.s.size<=maxLen)(huf:∀o∈us,o.t.size<=maxLen/\o.s.size<=maxLen)(hrf:∀k∈au (ae rs),k.2.size<=maxLen)(h:x∈bP (ae rs) st xo us sn):(x.a,x.r)∈au (ae rs)/\x.fits:=by
 unfold bP xM at h;obtain⟨o,ho,h⟩:=VP.1 h;obtain⟨k,hk,h⟩:=VP.1 h;obtain⟨u,hu,rfl⟩:=VE.1 h;obtain⟨h1,h2⟩:=Wo.1 hk;rw[Vw,fP]at h2;have e:(o.t,k.2)=k:=Prod.ext h2.1.symm rfl;refine⟨?_,(hof o ho).1,(hof o ho).2,hrf k h1,(huf u hu).1,(huf u hu).2⟩;show(o.t,k.2)∈_;rw[e];exact h1
theorem Ov[DecidableEq Fc](n:Nat)(hn:4<=n)(rs:Q06)(Yk:Q02)(D br bp bt:Nat)(n1:Int)(nr:Nat)(Mr:KL->Option Value)(st:Q00)(ts:Q05)(Yg:Q02)(XN:Nat)(xo xu:Q0a)(np:Nat)(Mp:K3->Option Value)(vu:Value)(bK:Nat)(Yd:Q04)(hD hS hU hK:Nat)(sn:Int)(XH:Q02)(WX:Nat)(us:Q0a)(w0:af)(hs0:0<=sn)(hs1:sn<=1000)(hol:xo.length<=1000)(hul:us.length<=1000)(hrl:∀k,(G.lookL (fC st rs) k).length<=1000)(hsh:aZ (ae rs)=true)(hts:∀t∈ts,t.fits)(htl:ts.length<=1000)(hof:∀o∈xo,o.t.size<=maxLen/\o.s.size<=maxLen)(huf:∀o∈us,o.t.size<=maxLen/\o.s.size<=maxLen)(hrf:∀k∈au (ae rs),k.2.size<=maxLen):
  EW Fence.wide n prog 201 #[.pointer (some ⟨hD,0,none⟩),.pointer (some ⟨hS,0,none⟩),.pointer (some ⟨hU,0,none⟩),.pointer (some ⟨hK,0,none⟩)] El (KpO bK) (fun pre W=>NewM W rs Yk D br bp bt n1 nr Mr (fC st rs) ts xo xu np Mp (.slice Yg xo.length XN) vu bK (Yd++pre) hD hS hU hK sn XH WX us) (fun pre x=>x∈bP (ae rs) st xo us sn/\x ∉ Yd++pre) (fun xs=>dN (dO (ae rs) ts) (bP (ae rs) st xo us sn) Yd=Yd++xs) w0:=by
 intro l J W _ hlW _ hJ hT hY h0;have hM:=hT _ _ h0;obtain⟨nK0,hmap0⟩:=hM.map;have hbK:=hmap0.lt;have bD:=hM.bD;have bS:=hM.bS;have bU:=hM.bU;have lD:=bB bD;have lS:=bB bS;have lU:=bB bU;obtain⟨W1,hW1⟩:=eQx (W.alloc (.cells #[.func (.yield l) #[] #[]] 119));have hB1:ag W W1:=by rw[hW1];exact(Vv _ _).alloc (Vu _) _
 have s1:W1.heap.size=W.heap.size+1:=by rw[hW1,World.size_alloc]
 have y1:iw W1 W.heap.size (Uy l) 119:=by rw[hW1];exact World.alloc_heap_new W _
 have bD1:=jh hB1 lD bD;have bS1:=jh hB1 lS bS;have bU1:=jh hB1 lU bU;clear hM hmap0;refine callsIn_of_wp_marks func201 rfl trivial ?_ rfl;simp only[ntmps201,List.size_toArray,V8,WE,Nat.reduceAdd,Nat.reduceSub,Array.replicate_succ,Array.replicate_zero,List.push_toArray,List.append_toArray,WK,Wq]
 gi_wp2_with fail
 rw[<-hW1];clear hW1;refine⟨trivial,fun _=>by omega,(callsIn_wide.2 (Cb D sn XH us.length WX W1)).mono ?_⟩;rintro e W2 ⟨rfl,hW2⟩;have hB2:ag W1 W2:=by rw[hW2];exact(((Vv _ _).alloc (Vu _) _).alloc (by simp) _).alloc (by simp;omega) _
 have s2:W2.heap.size=W.heap.size+1+1+1+1:=by rw[hW2,World.size_alloc,World.size_alloc,World.size_alloc,s1]
 have NB:NBx W2 W.heap.size l D sn (.slice XH us.length WX):=by
  obtain⟨V1,e1⟩:∃V,V=W1.alloc (.cells #[.pointer (some ⟨D,0,none⟩)] 92):=⟨_,rfl⟩;obtain⟨V2,e2⟩:∃V,V=V1.alloc (.cells #[.int .i64 sn] 2):=⟨_,rfl⟩;rw[<-e1,<-e2]at hW2;have t1:V1.heap.size=W.heap.size+1+1:=by rw[e1,World.size_alloc,s1]
  have t2:V2.heap.size=W.heap.size+1+1+1:=by rw[e2,World.size_alloc,t1]
  have f1:ag W1 V1:=by rw[e1];exact(Vv _ _).alloc (Vu _) _
  have f2:ag V1 V2:=by rw[e2];exact(Vv _ _).alloc (Vu _) _
  have f3:ag V2 W2:=by rw[hW2];exact(Vv _ _).alloc (Vu _) _
  have g1:iw V1 (W.heap.size+1) (.pointer (some ⟨D,0,none⟩)) 92:=by rw[e1,<-s1];exact World.alloc_heap_new W1 _
  have g2:iw V2 (W.heap.size+1+1) (.int .i64 sn) 2:=by rw[e2,<-t1];exact World.alloc_heap_new V1 _
  have g3:iw W2 (W.heap.size+1+1+1) (.slice XH us.length WX) 192:=by rw[hW2,<-t2];exact World.alloc_heap_new V2 _
  exact⟨((y1.bel f1).bel f2).bel f3,(g1.bel f2).bel f3,g2.bel f3,g3⟩
 have hB02:ag W W2:=hB1.trans (hB2.mono hB1.size);have J2:=nR hJ h0 hB02;rw[s1];clear hW2 y1 bD bS bU bD1 bS1 bU1 hB1 hB2 lD lS lU;gi_wp2
 refine qX (α:=Fc) rfl (by omega) (gf:=269) (lb:=#[.pointer (some ⟨W.heap.size+1,0,none⟩),.pointer (some ⟨W.heap.size+1+1,0,none⟩),.pointer (some ⟨W.heap.size+1+1+1,0,none⟩)]) rfl trivial (enters_of func269 (by kernel_rfl) rfl)
  (Rb (n-1) (by omega) D br nr Mr st rs Yg XN xo (W.heap.size+1) (W.heap.size+1+1) (W.heap.size+1+1+1) sn XH WX us W2 hs0 hs1 hol hul hrl (fun o ho=>(hof o ho).1)) (Vv _ _) (fun _=>rfl) (fun h k=>h.trans k) (fun X lx o o' h1 h2=>KpI.put h1 h2)
  (fun pre X=>(∃xs,dN (dO (ae rs) ts) pre Yd=Yd++xs/\J xs X)/\NBx X W.heap.size l D sn (.slice XH us.length WX))
  ?own ?tell ⟨⟨[],by rw[Wt];rfl,J2⟩,NB⟩
  (fun x a' X=>∃Bx,CP X Bx x/\a'={ tmps:=#[.func (.yield l) #[] #[],.pointer (some ⟨hD,0,none⟩),.pointer (some ⟨hS,0,none⟩),.pointer (some ⟨hU,0,none⟩),.pointer (some ⟨hK,0,none⟩),.pointer (some ⟨W.heap.size,0,none⟩),.pointer (some ⟨Bx,0,none⟩),.pointer (some ⟨D,0,none⟩),.int .i64 sn,.slice XH us.length WX,.func (.func 269) #[] #[.pointer (some ⟨W.heap.size+1,0,none⟩),.pointer (some ⟨W.heap.size+1+1,0,none⟩),.pointer (some ⟨W.heap.size+1+1+1,0,none⟩)],.agg #[.string x.a,.string x.b,.string x.r,.string x.c,.string x.d],undef,undef,undef,undef,undef,undef,undef,undef,undef,undef,undef,undef,undef,undef,undef,undef],defers:=[] })
  (fun x a' s X Y row hs hg hr=>by obtain⟨Bx,h,e⟩:=hs;exact⟨Bx,IY (B0:=W2.heap.size) (g:=Bx) (x:=x) () X Y row h hg hr,e⟩) ?assign ?body ?done
 case own =>
  refine OwnFrom.and (fun pre X Y row hs hg hr=>?_) (SQ (by omega));obtain⟨xs,h1,h2⟩:=hs;exact⟨xs,h1,hJ xs X Y row h2 hg fun r e=>⟨by have:=(hr r e).1;have:=hB02.size;omega,(hr r e).2⟩⟩
 case tell =>
  rintro pre X ⟨⟨xs,h1,h2⟩,hb⟩;have hm:=hT _ _ h2;obtain⟨Xe,cap',e,hso⟩:=tO hm.dat.dat.objs;injection e with ea eb ec;exact⟨hm.dat.dat.c2,hm.dat.dat.c4,by rw[ea];exact hso,hm.dat.rel,hb.d.c,hb.s.c,hb.u.c,hm.users⟩
 case assign =>
  rintro l' pre x X K ⟨⟨xs,h1,h2⟩,hb⟩ hKK;unfold El;gi_wp2;have hbl:ag X (X.alloc (.cells #[.string x.a,.string x.b,.string x.r,.string x.c,.string x.d] 52)):=(Vv _ _).alloc (Vu _) _;exact hKK _ _ ((KeepsOthers.alloc _ _).from _) (KpI.below hbl) ⟨⟨xs,h1,nR hJ h2 hbl⟩,hb.bel hbl⟩ ⟨X.heap.size,World.alloc_heap_new X _,rfl⟩
 case body =>
  rintro l' pre x a' X hl hEx ⟨⟨xs,hrun,hJx⟩,NBX⟩ ⟨Bx,bX,rfl⟩;have hm:=hT _ _ hJx;obtain⟨nK,hmap⟩:=hm.map;obtain⟨c0,c1,c2,c3,c4,cl⟩:=bX.c;have bM:=hm.bM;have lM:=bB bM;obtain⟨hkey,hxf⟩:=IZ hof huf hrf hEx
  gi_wp2_with fail
  refine⟨trivial,fun _=>by omega,(Rf (wV bK nK (Yd++xs) x X hxf hmap)).mono ?_⟩;rintro e X2 ⟨rfl,hb2⟩;have J2':=nR hJ hJx hb2;have NB2:=NBX.bel hb2;cases hh:gZ (Yd++xs) x;case true=>
   have hr2:dN (dO (ae rs) ts) (pre++[x]) Yd=Yd++xs:=by rw[ym,hrun,IX (.inl hh)]
   clear c0 c1 c2 c3 c4 cl bM lM hm;gi_wp2;refine⟨trivial,?_⟩;gi_wp2;refine⟨fun f h=>(by cases h),?_⟩;gi_wp2;exact⟨yT hb2,KpI.below hb2,⟨xs,hr2,J2'⟩,NB2⟩
  have bX2:=bX.bel hb2;have hm2:=hT _ _ J2';obtain⟨nK2,hmap2⟩:=hm2.map;have bM2:=hm2.bM;have bD2:=hm2.bD;obtain⟨d0,d1,d2,d3,d4,dl⟩:=bX2.c;clear c0 c1 c2 c3 c4 cl bM lM hm
  gi_wp2_with fail
  refine⟨trivial,fun _=>by omega,(Rf (Ou hm2.dat hmap2 hxf hts htl hsh hkey hm2.sch)).mono ?_⟩;rintro e X3 ⟨rfl,hb3⟩;have hb23:ag X X3:=hb2.trans (hb3.mono hb2.size);have J3':=nR hJ J2' hb3;have NB3:=NB2.bel hb3;clear hm2;cases hv:dO (ae rs) ts (Yd++xs) x;case false=>
   have hr2:dN (dO (ae rs) ts) (pre++[x]) Yd=Yd++xs:=by rw[ym,hrun,IX (.inr hv)]
   clear d0 d1 d2 d3 d4 dl bM2 bD2;gi_wp2;refine⟨fun f h=>(by cases h),?_⟩;gi_wp2;exact⟨yT hb23,KpI.below hb23,⟨xs,hr2,J3'⟩,NB3⟩
  have hr2:dN (dO (ae rs) ts) (pre++[x]) Yd=Yd++(xs++[x]):=by rw[ym,hrun,Ot hh hv,VY]
  obtain⟨fn,tmps,assign,body,hy,hR⟩:=hY xs x X3 J3' ⟨hEx,fun hm=>by rw[bW.2 hm]at hh;cases hh⟩;unfold El at hy;obtain⟨f0,f1,f2,f3,f4,fl⟩:=(bX2.bel hb3).c;have yc:=NB3.y.c;have yl:=bB yc;unfold Uy at yc;clear d0 d1 d2 d3 d4 dl bM2 bD2;gi_wp2;refine⟨fun _=>by omega,(Uz hR).mono ?_⟩;rintro e X4 ⟨rfl,hJ4,hK4⟩;have hk24:KpO bK l X X4:=(KpO.below hb23).trans hK4;have NB4:=NB3.kp hK4;clear f0 f1 f2 f3 f4 fl yc yl hy;gi_wp2;exact⟨Rh hk24 (by omega) (by omega),hk24.toI,⟨xs++[x],hr2,hJ4⟩,NB4⟩
 case done =>
  rintro Dd ys X hDd hS ⟨⟨xs,h1,h2⟩,-⟩ hKd;rw[hS]at h1;gi_wp2;refine⟨by simp,.inl ⟨_,_,rfl,run_takeDeferred hKd,?_⟩⟩;exact⟨_,results_none rfl _ _ _,⟨_,rfl⟩,xs,h1,hJ.putObj _ h2 (by have:=hB02.size;omega) hKd rfl⟩
end Go.Proofs.YtojjoblnpldniaaGreat
namespace Go.Proofs.YtojjoblnpldniaaGreat
set_option linter.unusedVariables false
set_option maxRecDepth 100000
open ChangeShapes WideShapes ChangeAt RowKit Maps
open Pl
def SS(u:Al)(g:Fc):Bool:=UR g.c g.d u.t u.s
theorem Ow(p:Fc->Bool){zs:Q04}{k:Nat}(h:k<zs.length):(zs.drop k).any p=(p zs[k] || (zs.drop (k+1)).any p):=by rw[Wi h];rfl
theorem E5.at0{w:af}{ad:Q02}{fs:Q04}(h:E5 w ad fs){k:Nat}(hk:k<fs.length):∃b off,ad=some ⟨b,off,none⟩/\PO w b (off+k*5) fs[k]/\b<w.heap.size:=by
 rcases h with h|⟨b',off',e,hb,hr⟩
 ·rw[h]at hk;simp at hk
 exact⟨b',off',e,hr k hk,hb⟩
theorem SV(g:Nat)(u:Al)(f:Fc)(w:af)(hg:g<w.heap.size)(h0:w.cell? ⟨g,0,none⟩=some (.string u.t))(h1:w.cell? ⟨g,1,none⟩=some (.string u.s)):
  Calls prog 205 #[.agg #[.string f.a,.string f.b,.string f.r,.string f.c,.string f.d],.pointer (some ⟨g,0,none⟩)] w fun e w'=>e=.returned (.bool (SS u f))/\ag w w':=by
 have HB:Hid (ag w (w.alloc (.cells #[.string f.a,.string f.b,.string f.r,.string f.c,.string f.d] 52))):=(Vv _ _).alloc (Vu _) _;have heq:=Az f.c f.d u.t u.s rfl;go_enter func205,ntmps205;go_wp2;go_ret;exact⟨rfl,HB.out⟩
theorem UA(xs:Array Value)(u:af):(callFunc 205 xs).run prog u=.ok (.enter 205 xs) u:=by kernel_rfl
theorem I1(FC:Nat)(rc cp:Array Value)(p:Fc->Bool)(ad:Q02)(cap:Nat)(xs:Q04)(w:af)(hlen:xs.length<=1048576)(hs:E5 w ad xs)
  (hrun:∀(ys:Array Value) (u:World),(callFunc FC ys).run prog u=.ok (.enter FC ys) u) (hp:∀x∈xs,∀w1:World,ag w w1->Calls prog FC (rc.push (.agg #[.string x.a,.string x.b,.string x.r,.string x.c,.string x.d])++cp) w1 fun e w'=>e=.returned (.bool (p x))/\ag w1 w') :
  Calls prog 270 #[.slice ad xs.length cap,.func (Fn.func FC) rc cp] w fun e w'=>(∃r:Int,e=.returned (.int .i64 r)/\decide (0<=r)=xs.any p)/\ag w w':=by
 have HS:=aY hs;have YQ:=aY hrun;have HP:=aY hp;clear hs hrun hp;have HD:Hid (∀k (h:k<xs.length),(xs.drop k).any p=(p xs[k] || (xs.drop (k+1)).any p)):=fun k h=>Ow p h;go_enter func270,ntmps270;go_wp2_with fail;go_loopw[8] (fun i wr=>∃k:Nat,k<=xs.length/\i=.int .i64 k/\Hid ((xs.drop k).any p=xs.any p)/\Hid (ag w wr)) (fun i _=>xs.length-(intOf i).toNat);case atStart=>exact⟨0,Vy _,rfl,rfl,Vv _ _⟩
 obtain⟨k,hk,rfl,HQ,HB⟩:=hrel;by_cases hlt:k<xs.length
 ·obtain⟨b,off,WR,⟨t0,t1,t2,t3,t4⟩,hbl⟩:=E5.at0 (HS.out.below HB.out) hlt;have HM:Hid (xs[k]∈xs):=Vs hlt;have hk1:=bI k;have hk2:(k:Int)<(xs.length:Int):=by omega
  have HD2:=aY (HD.out k hlt);subst WR;go_wp2_with fail;rw[YQ.out,Oper.upon_enter];refine(HP.out _ HM.out _ HB.out).mono ?_;rintro e w1 ⟨rfl,hb1⟩;have HB1:=iX HB hb1;clear hb1 t0 t1 t2 t3 t4;cases he:p xs[k];case true=>
   have HN:Hid (xs.any p=true):=by show _=_;rw[<-HQ.out,HD2.out,he];rfl
   go_wp2;go_ret;exact⟨⟨k,rfl,by rw[HN.out];simp⟩,HB1.out⟩
  have HQ2:Hid ((xs.drop (k+1)).any p=xs.any p):=by show _=_;rw[<-HQ.out,HD2.out,he];rfl
  go_wp2;go_roundw;case rel=>exact⟨k+1,by omega,by go_num,HQ2,HB1⟩
  simp[intOf]<;>omega
 have HN:Hid (xs.any p=false):=by show _=_;rw[<-HQ.out,VU (by omega)];rfl
 go_wp2;go_ret;exact⟨⟨-1,rfl,by rw[HN.out];simp⟩,HB.out⟩
theorem Cc(FC:Nat)(rc cp:Array Value)(p:Fc->Bool)(ad:Q02)(cap:Nat)(xs:Q04)(w:af)(hlen:xs.length<=1048576)(hs:E5 w ad xs)
  (hrun:∀(ys:Array Value) (u:World),(callFunc FC ys).run prog u=.ok (.enter FC ys) u) (hp:∀x∈xs,∀w1:World,ag w w1->Calls prog FC (rc.push (.agg #[.string x.a,.string x.b,.string x.r,.string x.c,.string x.d])++cp) w1 fun e w'=>e=.returned (.bool (p x))/\ag w1 w') :
  Calls prog 204 #[.slice ad xs.length cap,.func (Fn.func FC) rc cp] w fun e w'=>e=.returned (.bool (xs.any p))/\ag w w':=by
 have HC:=aY (I1 FC rc cp p ad cap xs w hlen hs hrun hp);clear hs hrun hp;go_enter func204,ntmps204;go_wp2_with fail;refine HC.out.mono ?_;rintro e w' ⟨⟨r,rfl,hr⟩,hbx⟩;have HR:=aY hr;clear hr;go_wp2;go_ret;exact⟨by rw[<-HR.out];rfl,hbx⟩
theorem Lc{us:Q0a}{new:Q04}{k:Nat}(h:k<us.length):fG (us.take (k+1)) new=fG (us.take k) new++(if new.any (SS us[k]) then [us[k]] else []):=by
 unfold fG;rw[Vx h,WF];congr 1;rw[WM];rfl
theorem Em(us:Q0a)(new:Q04):(fG us new).length<=us.length:=List.length_filter_le _ _
theorem rP(XH:Q02)(WX:Nat)(us:Q0a)(adF:Q02)(Yl:Nat)(new:Q04)(w:af)(hul:us.length<=1000)(hnl:new.length<=1048576)(hu:kD w XH us)(hf:E5 w adF new):
  Calls prog 136 #[.slice XH us.length WX,.slice adF new.length Yl] w fun e w'=>(∃v,e=.returned v/\w'.ownsRow w.heap.size 27 2 v (fG us new).length (pairs (fG us new)))/\ag w w':=by
 obtain⟨iO,h0,h1,h2,h3⟩:=H6;have HIO:=aV (And.intro h0 (And.intro h1 (And.intro h2 h3)));have HU:=aV hu;have HF:=aV hf;have YN:Hid (w.ownsRow w.heap.size 27 2 (.slice none 0 0) (fG (us.take 0) new).length (pairs (fG (us.take 0) new))):=World.ownsRow_nil _ _ _ _;clear hu hf h0 h1 h2 h3;go_enter func136,ntmps136;go_wp2_with fail;go_loopw[5,10] (fun v i wr=>∃k:Nat,k<=us.length/\i=.int .i64 k/\Hid (wr.ownsRow w.heap.size 27 2 v (fG (us.take k) new).length (pairs (fG (us.take k) new)))/\Hid (ag w wr)) (fun _ i _=>us.length-(intOf i).toNat);case atStart=>exact⟨0,Vy _,rfl,YN,Vv _ _⟩
 clear YN;obtain⟨k,hk,rfl,HO,HB⟩:=hrel;by_cases hlt:k<us.length
 ·obtain⟨b,off,WR,⟨t0,t1⟩,hbl⟩:=kD.at0 (HU.out.below HB.out) hlt;have hi1:=bI k;have hi2:(k:Int)<(us.length:Int):=by omega
  have HKT:=aV (Lc (new:=new) hlt);have hkl:=Em (us.take k) new;rw[V9]at hkl;obtain⟨u,hu⟩:=eQx (us[k]);rw[<-hu]at t0 t1 HKT;clear hu;obtain⟨W1,hW1⟩:=eQx (wr.alloc (.cells #[.string u.t,.string u.s] 27));have HBr:=qC hW1;have HB1:=aV (HB.out.trans (HBr.out.mono HB.out.size));have d0:W1.cell? ⟨wr.heap.size,0,none⟩=some (.string u.t):=by rw[hW1];simp
  have d1:W1.cell? ⟨wr.heap.size,1,none⟩=some (.string u.s):=by rw[hW1];simp
  have dl:wr.heap.size<W1.heap.size:=bB d0;have Xf:=aV (fQ HO.out HBr.out);obtain⟨ys,hys⟩:=eQx (fG (us.take k) new);rw[<-hys]at Xf HKT hkl;obtain⟨adV,capV,rfl,-⟩:=tO Xf.out;have Xy:=aV (Cc 205 #[] #[.pointer (some ⟨wr.heap.size,0,none⟩)] (SS u) adF Yl new W1 hnl (HF.out.below HB1.out) UA (fun x hx w1 hb=>SV wr.heap.size u x w1 (Vt dl hb.size) (jh hb dl d0) (jh hb dl d1)));subst WR;clear hys HO;go_wp2_with fail;rw[<-hW1];clear hW1 t0 t1;refine Xy.out.mono ?_;rintro e w2 ⟨rfl,hb2⟩;have HB2:=aV (HB1.out.trans (hb2.mono HB1.out.size));have WY:=aV (fQ Xf.out hb2);replace d0:=jh hb2 dl d0;replace d1:=jh hb2 dl d1;replace dl:=Vt dl hb2.size;clear hb2 Xy Xf HBr;cases hh:new.any (SS u);case false=>
   have HR:Hid (w2.ownsRow w.heap.size 27 2 (.slice adV ys.length capV) (fG (us.take (k+1)) new).length (pairs (fG (us.take (k+1)) new))):=by
    show World.ownsRow _ _ _ _ _ _ _;rw[HKT.out,hh];simp only[Bool.false_eq_true,if_false,Wt];exact WY.out
   go_wp2;go_roundw;case rel=>exact⟨k+1,by omega,by go_num,HR,HB2⟩
   simp[intOf]<;>omega
  have HWE:Hid (fG (us.take (k+1)) new=ys++[u]):=by show _=_;rw[HKT.out,hh];rfl
  obtain⟨W4,Xn⟩:=eQx (w2.alloc (.cells #[.string u.t,.string u.s] 27));have Xr:Hid (W4.ownsRow w.heap.size 27 2 (.slice adV ys.length capV) ys.length (pairs ys)):=by show World.ownsRow _ _ _ _ _ _ _;rw[Xn];exact WY.out.alloc _
  have HN4:Hid (∀j x,[Value.string u.t,.string u.s][j]?=some x->W4.cell? ((⟨w2.heap.size,0,none⟩:Addr).add j)=some x):=by rw[Xn];exact Va w2 u
  have HBW4:Hid (ag w W4):=by show Below _ _ _;rw[Xn];exact HB2.out.alloc HB2.out.size _
  have hsz4:w.heap.size<=W4.heap.size:=HBW4.out.size;clear hh;go_wp2_with(at_builtin;rw[<-Xn];clear Xn;refine wpList_append_own_at _ rfl _ _ 192 rfl w.heap.size 27 iO (.agg #[.string ⟨#[]⟩,.string ⟨#[]⟩]) 2 32 underlying192 HIO.out.1 HIO.out.2.1 HIO.out.2.2.1 HIO.out.2.2.2 rfl (by decide) _ ys.length (pairs ys) rfl Xr.out ⟨w2.heap.size,0,none⟩ 1 1 [.string u.t,.string u.s] rfl rfl HN4.out (by simp[Value.oneCell']) (by unfold maxLen;omega) (by omega) hsz4 ?_);intro v' w5 hown hgr _ _;have HR:Hid (w5.ownsRow w.heap.size 27 2 v' (fG (us.take (k+1)) new).length (pairs (fG (us.take (k+1)) new))):=by
   show World.ownsRow _ _ _ _ _ _ _;rw[HWE.out,VD];have:pairs (ys++[u])=pairs ys++[.string u.t,.string u.s]:=by simp[pairs]
   rw[this];exact hown
  have HBR:Hid (ag w w5):=HBW4.out.grown hgr HBW4.out.size (fun g hg=>(Xr.out.lt g hg).1);clear hown hgr d0 d1 dl;go_wp2;go_roundw;case rel=>exact⟨k+1,by omega,by go_num,HR,HBR⟩
  simp[intOf]<;>omega
 have HE:Hid (wr.ownsRow w.heap.size 27 2 u5 (fG us new).length (pairs (fG us new))):=by
  have h:=HO.out;rw[VZ (by omega)]at h;exact h
 clear HO;go_wp2;go_ret;exact⟨⟨_,rfl,HE.out⟩,HB.out⟩
open Go.Shelf
theorem zm{K:Type}{enc:K->Value}{P:Program}{F:Fence}{nF:Nat}(w:af){ops:Array Oper}{rest:List Oper}{o:Oper}{a:Act}{Q:Exit->Act->World->Prop}[DecidableEq K](hg:o.guard=none)(m x v:Operand)(t:TypeId)(hop:o.op=Op.mapUpdate t m x v)(k e:TypeId)(L:Keyed P k)(hinj:∀x y,enc x=enc y->x=y)(ht:P.underlying t=some (.map k e))(b n:Nat)(M:K->Option Value)
  (hm:a.eval m=.map (some b)) (hV:aJ enc P k w b n M) (hn:n<maxLen) (y:K) (kl:Lit) (hx:a.eval x=enc y) (hkey:keyOf P k (enc y)=some kl) (u:Value) (hv:a.eval v=u)
  (hK:∀w',aJ enc P k w' b (n+1) (lI M y (some u))->w.grownBy w' (some b)->wpListIn F nF P ops Q rest (a.put o.dst undef) w'):wpListIn F nF P ops Q (o::rest) a w:=by
 refine wpListIn_plain hg fun K' hK'=>?_;obtain⟨w',hrun,r1,r2⟩:=hV.store L hinj ht hn hkey u;unfold Oper.wpIn;refine⟨by simp[Oper.about,hop],?_⟩;rw[Oper.semAt_plain F _ _ (by rw[hop];intro c hc';cases hc')];simp[execOp,hop,hm,hx,hv,hrun,Result.andThen];exact hK' _ _ (hK w' r1 r2)
theorem SX[DecidableEq Fc](out:Q04)(f:Fc):lI (CK out) f (some (.agg #[]))=CK (out++[f]):=by
 funext y
 by_cases e:y=f
 ·subst e;rw[eQ];unfold CK;rw[if_pos (bW.2 (by simp))]
 rw[bZ e];unfold CK;have:gZ (out++[f]) y=gZ out y:=by
  rw[VR,bW,bW];simp[e]
 rw[this]
def marks(rl:List Nat):List Deferred:=rl.map fun r=>{ target:=.collected r,args:=#[] }
def jm(W:World)(rl:List Nat):Prop:=rl.Nodup/\∀r∈rl,W.heap[r]?=some (.deferred (some []))
theorem jm.kp{b l:Nat}{W W':af}{rl:List Nat}(h:jm W rl)(hk:KpO b l W W')(hl:l ∉ rl)(hb:b ∉ rl):jm W' rl :=
 ⟨h.1,fun r hr=>hk.other r _ (h.2 r hr) rfl (fun e=>hl (e ▸ hr)) (fun e=>hb (e ▸ hr))⟩
theorem jm.bel{W W':af}{rl:List Nat}(h:jm W rl)(hb:ag W W'):jm W' rl :=
 ⟨h.1,fun r hr=>(hb.block r (VC.1 (h.2 r hr)).1).trans (h.2 r hr)⟩
theorem jm.lt{W:af}{rl:List Nat}(h:jm W rl){r:Nat}(hr:r∈rl):r<W.heap.size:=(VC.1 (h.2 r hr)).1
theorem wX{n:Nat}{P:Program}{fn:Func}{tmps:Array Value}{R:Ending->World->Prop}(B:Nat)(Inv:World->Prop)(hinv:∀W r,B<r->Inv W->W.heap[r]?=some (.deferred (some []))->Inv (W.putObj r (.deferred none)))(hend:∀W,Inv W->LeavesIn Fence.wide n P fn tmps R [] .returning W):∀(rl:List Nat) (W:af),jm W rl->(∀r∈rl,B<r)->Inv W->LeavesInM Fence.wide n P fn tmps R (marks rl) .returning W
 | [],W,_,_,hI=>hend W hI
 | r::rl,W,hm,hB,hI=>by
  have hr:=hm.2 r (by simp);obtain⟨h1,h2⟩:=List.nodup_cons.1 hm.1;refine⟨by simp,.inl ⟨r,_,rfl,run_takeDeferred hr,wX B Inv hinv hend rl _ ⟨h2,fun q hq=>?_⟩ (fun q hq=>hB q (by simp[hq])) (hinv W r (hB r (by simp)) hI hr)⟩⟩;have hne:q≠r:=fun e=>h1 (e ▸ hq);rw[oU hne];exact hm.2 q (by simp[hq])
theorem Mc{b l:Nat}{W W':af}{base size n:Nat}{T:TypeId}{v:Value}{xs:Q03}(h:W.ownsRow base T size v n xs)(hk:KpO b l W W')(h1:T≠52)(h2:T≠44):W'.ownsRow base T size v n xs :=
 eX h fun g hg=>by
  obtain⟨cur,e⟩:=jS h hg;rw[hk.cells g _ _ _ e h1 h2,e]
structure FBx(W:World)(B D:Nat)(sn:Int)(vU:Value)(bK:Nat):Prop where
 d:iw W B (.pointer (some ⟨D,0,none⟩)) 92
 s:iw W (B+1) (.int .i64 sn) 2
 u:iw W (B+1+1) vU 192
 k:iw W (B+1+1+1) (.map (some bK)) 115
theorem FBx.kp{b l0:Nat}{W W':af}{B D:Nat}{sn:Int}{vU:Value}{bK:Nat}(h:FBx W B D sn vU bK)(hk:KpO b l0 W W'):FBx W' B D sn vU bK :=
 ⟨h.d.kp hk (by decide) (by decide),h.s.kp hk (by decide) (by decide),h.u.kp hk (by decide) (by decide),h.k.kp hk (by decide) (by decide)⟩
theorem SY(w:af)(D:Nat)(sn:Int)(vU:Value)(bK:Nat){W:af}(hW:W=(((w.alloc (.cells #[.pointer (some ⟨D,0,none⟩)] 92)).alloc (.cells #[.int .i64 sn] 2)).alloc (.cells #[vU] 192)).alloc (.cells #[.map (some bK)] 115)):FBx W w.heap.size D sn vU bK/\ag w W/\W.heap.size=w.heap.size+1+1+1+1:=by
 obtain⟨V1,e1⟩:∃V,V=w.alloc (.cells #[.pointer (some ⟨D,0,none⟩)] 92):=⟨_,rfl⟩;obtain⟨V2,e2⟩:∃V,V=V1.alloc (.cells #[.int .i64 sn] 2):=⟨_,rfl⟩;obtain⟨V3,e3⟩:∃V,V=V2.alloc (.cells #[vU] 192):=⟨_,rfl⟩;rw[<-e1,<-e2,<-e3]at hW;have t1:V1.heap.size=w.heap.size+1:=by rw[e1,World.size_alloc]
 have t2:V2.heap.size=w.heap.size+1+1:=by rw[e2,World.size_alloc,t1]
 have t3:V3.heap.size=w.heap.size+1+1+1:=by rw[e3,World.size_alloc,t2]
 have f1:ag w V1:=by rw[e1];exact(Vv _ _).alloc (Vu _) _
 have f2:ag V1 V2:=by rw[e2];exact(Vv _ _).alloc (Vu _) _
 have f3:ag V2 V3:=by rw[e3];exact(Vv _ _).alloc (Vu _) _
 have f4:ag V3 W:=by rw[hW];exact(Vv _ _).alloc (Vu _) _
 have g1:iw V1 w.heap.size (.pointer (some ⟨D,0,none⟩)) 92:=by rw[e1];exact World.alloc_heap_new w _
 have g2:iw V2 (w.heap.size+1) (.int .i64 sn) 2:=by rw[e2,<-t1];exact World.alloc_heap_new V1 _
 have g3:iw V3 (w.heap.size+1+1) vU 192:=by rw[e3,<-t2];exact World.alloc_heap_new V2 _
 have g4:iw W (w.heap.size+1+1+1) (.map (some bK)) 115:=by rw[hW,<-t3];exact World.alloc_heap_new V3 _
 have f12:=f1.trans (f2.mono f1.size);have f13:=f12.trans (f3.mono f12.size);exact⟨⟨((g1.bel f2).bel f3).bel f4,(g2.bel f3).bel f4,g3.bel f4,g4⟩,f13.trans (f4.mono f13.size),by rw[hW,World.size_alloc,t3]⟩
theorem S9{β:Type}{b l:Nat}{X:af}:OwnFrom X.heap.size (fun(_:β) Y=>KpO b l X Y):=fun s Y Z row hs hg hr=>by
 have key:∀ (g:Nat) (o:Obj),X.heap[g]?=some o->Y.heap[g]?=some o->Z.heap[g]?=some o:=fun g o h1 h2=>(hg.block g (VC.1 h2).1 fun e=>by
  have h3:=(hr g e.symm).1;have h4:=(VC.1 h1).1;omega).trans h2
 exact⟨Vz hs.size hg.size,fun g cs T m h h1 h2=>key g _ h (hs.cells g cs T m h h1 h2),fun g o h hc n1 n2=>key g _ h (hs.other g o h hc n1 n2)⟩
structure FoW(w X:World)(v:Value)(out:Q04):Prop where
 bel:ag w X
 box:iw X w.heap.size v 44
 row:X.ownsRow (w.heap.size+1) 52 5 v out.length (iC out)
 map:aJ oV prog 52 X (w.heap.size+1) out.length (CK out)
theorem FoW.below{w X X':af}{v:Value}{out:Q04}(h:FoW w X v out)(hb:ag X X'):FoW w X' v out :=
 ⟨h.bel.trans (hb.mono h.bel.size),h.box.bel hb,fQ h.row hb,h.map.below hb⟩
theorem FoW.kept{w X X':af}{v:Value}{out:Q04}(h:FoW w X v out){row:Option Nat}(hg:X.grownBy X' row)(hr:∀r,row=some r->w.heap.size+1<r/\(∃o,X.heap[r]?=some o/\o.isCells=false)):FoW w X' v out where
 bel:=h.bel.grown hg h.bel.size (fun g e=>by have:=(hr g e).1;omega)
 box:=(hg.block _ (VC.1 h.box).1 fun e=>by have:=(hr _ e.symm).1;omega).trans h.box
 row:=eX h.row fun g hg2=>hg.block g (h.row.lt g hg2).2 fun e=>by
  obtain⟨-,o,ho,hc⟩:=hr g e.symm;obtain⟨cur,e2⟩:=jS h.row hg2;rw[e2]at ho;cases ho;cases hc
 map:=h.map.kept hg (fun e=>by have:=(hr _ e.symm).1;omega)
theorem FoW.step{w X Y V:af}{v v':Value}{out:Q04}{f:Fc}[DecidableEq Fc](h:FoW w X v out)(hM:aJ oV prog 52 Y (w.heap.size+1) (out.length+1) (lI (CK out) f (some (.agg #[]))))(hg1:X.grownBy Y (some (w.heap.size+1)))
  {Y':World} (hY':ag Y Y') (hown:V.ownsRow (w.heap.size+1) 52 5 v' (out.length+1) (iC out++f.row)) (hg2:Y'.grownBy V v.ownBlock) (hat:v'.ownBlock=v.ownBlock\/v'.ownBlock=some Y'.heap.size) (l:Nat) :
  FoW w (V.setCell ⟨w.heap.size,0,none⟩ v') v' (out++[f])/\KpO (w.heap.size+1) l X (V.setCell ⟨w.heap.size,0,none⟩ v')/\KeepsFrom (w.heap.size+1+1) X (V.setCell ⟨w.heap.size,0,none⟩ v'):=by
 obtain⟨es,c,hmb⟩:=qj h.map;have hlB:w.heap.size<X.heap.size:=(VC.1 h.box).1;have hvB:v.ownBlock≠some w.heap.size:=fun e=>by have:=(h.row.lt _ e).1;omega
 have hvM:v.ownBlock≠some (w.heap.size+1):=fun e=>FD h.row e hmb;have key:∀(g:Nat) (o:Obj),X.heap[g]?=some o->g≠w.heap.size+1->g≠w.heap.size->v.ownBlock≠some g->(V.setCell ⟨w.heap.size,0,none⟩ v').heap[g]?=some o:=fun g o hg n1 n2 n3=>by
  have hl:=(VC.1 hg).1;have y1:Y.heap[g]?=some o:=(hg1.block g hl (fun e=>n1 (by injection e))).trans hg;have hl1:=(VC.1 y1).1;have y2:Y'.heap[g]?=some o:=(hY'.block g hl1).trans y1;have hl2:=(VC.1 y2).1;have y3:V.heap[g]?=some o:=(hg2.block g hl2 (fun e=>n3 e.symm)).trans y2;exact(heap_setCell_other V ⟨w.heap.size,0,none⟩ g v' n2).trans y3
 have hVB:V.heap[w.heap.size]?=some (.cells #[v] 44 (0,0)):=by
  have y1:Y.heap[w.heap.size]?=_:=(hg1.block _ hlB (fun e=>by injection e with e;omega)).trans h.box;have y2:Y'.heap[w.heap.size]?=_:=(hY'.block _ (VC.1 y1).1).trans y1;exact(hg2.block _ (VC.1 y2).1 (fun e=>hvB e.symm)).trans y2
 have b1:ag w Y:=h.bel.grown hg1 h.bel.size (fun g e=>by injection e with e;omega);have b2:ag w Y':=b1.trans (hY'.mono b1.size);have b3:ag w V:=b2.grown hg2 b2.size (fun g e=>by have:=(h.row.lt g e).1;omega);have sz:X.heap.size<=(V.setCell ⟨w.heap.size,0,none⟩ v').heap.size:=by
  have e1:=hg1.size;have e2:=hY'.size;have e3:=hg2.size;simp;omega
 refine⟨⟨b3.setCell (Vu _) _,?_,?_,?_⟩,⟨sz,fun g cs T m hg h1 h2=>?_,fun g o hg hc n1 n2=>?_⟩,⟨sz,fun g o hB hg hc=>?_⟩⟩
 ·have:=heap_setCell_same V w.heap.size 0 #[v] _ v' hVB;unfold iw;simpa using this
 ·rw[Kz,VD];exact eX hown fun g hg=>heap_setCell_other V ⟨w.heap.size,0,none⟩ g v' (fun(e:g=w.heap.size)=>by have:=(hown.lt g hg).1;omega)
 ·rw[VD,<-SX];exact((hM.below hY').kept hg2 (fun e=>hvM e.symm)).setCell (by show w.heap.size+1≠w.heap.size;omega) _
 ·refine key g _ hg (fun e=>?_) (fun e=>?_) (fun e=>?_)
  ·rw[e,hmb]at hg;cases hg
  ·rw[e,h.box]at hg;injection hg with hg;injection hg with _ hT;exact h2 hT.symm
  obtain⟨cur,e2⟩:=jS h.row e;rw[e2]at hg;injection hg with hg;injection hg with _ hT;exact h1 hT.symm
 ·refine key g _ hg n2 (fun e=>?_) (fun e=>?_)
  ·rw[e,h.box]at hg;injection hg with hg;subst hg;cases hc
  obtain⟨cur,e2⟩:=jS h.row e;rw[e2]at hg;injection hg with hg;subst hg;cases hc
 refine key g _ hg (by omega) (by omega) (fun e=>?_);obtain⟨cur,e2⟩:=jS h.row e;rw[e2]at hg;injection hg with hg;subst hg;cases hc
theorem E5.dropF{w:af}{ad:Q02}{fs:Q04}(h:E5 w ad fs)(k:Nat):E5 w (Option.map (fun x=>Addr.add x (k*5)) ad) (fs.drop k):=by
 rcases h with h|⟨b,off,e,hb,hr⟩
 ·exact .inl (by rw[h];simp)
 have ea:Option.map (fun x=>Addr.add x (k*5)) ad=some ⟨b,off+k*5,none⟩:=by
  rw[e];simp[Addr.add]
 refine .inr ⟨b,off+k*5,ea,hb,fun i hi=>?_⟩;have hi2:k+i<fs.length:=by rw[WG]at hi;omega
 have h1:=hr (k+i) hi2;have e2:(fs.drop k)[i]=fs[k+i]:=by simp
 rw[e2];have e3:off+k*5+i*5=off+(k+i)*5:=by omega
 rw[e3];exact h1
theorem Ta{w:af}{base size n cap:Nat}{T:TypeId}{ad:Q02}{xs:Q03}(h:w.ownsRow base T size (.slice ad n cap) n xs):n<=cap:=by
 rcases h.2 with⟨e,h0⟩|⟨g,cap',cur,e,h1,h2,h3,h4,h5,-⟩
 ·omega
 injection e with _ _ e3;omega
theorem Ri{Y Y1 Y2 V:af}{B:Nat}{v:Value}{T:TypeId}(h:iw Y B v T)(hg1:Y.grownBy Y1 (some (B+1)))(hY2:ag Y1 Y2)(hg2:Y2.grownBy V v.ownBlock)(hv:v.ownBlock≠some B):iw V B v T:=by
 have y1:Y1.heap[B]?=_:=(hg1.block _ (VC.1 h).1 (fun e=>by injection e with e;omega)).trans h;have y2:Y2.heap[B]?=_:=(hY2.block _ (VC.1 y1).1).trans y1;exact(hg2.block _ (VC.1 y2).1 (fun e=>hv e.symm)).trans y2
theorem Rj{B B':Nat}{W W':af}(h:KeepsFrom B W W')(hB:B<=B'):KeepsFrom B' W W':=⟨h.size,fun k o hk h1 h2=>h.same k o (Vz hB hk) h1 h2⟩
theorem KpO.after{b l l':Nat}{X Y Z:af}(h:KpO b l X Y)(k:KpO b l' Y Z)(hl:X.heap.size<=l'):KpO b l X Z :=
 ⟨Vz h.size k.size,fun g cs T m hg h1 h2=>k.cells g cs T m (h.cells g cs T m hg h1 h2) h1 h2,fun g o hg hc h1 h2=>k.other g o (h.other g o hg hc h1 h2) hc (fun e=>by have:=(VC.1 hg).1;omega) h2⟩
set_option linter.unusedSectionVars false
theorem Ce{rs:Q06}(h:aZ (ae rs)=true){k:Q01}(hk:k∈au (ae rs)):∃es,dZ (ae rs) k.1 k.2=some es/\aI es=true:=by
 unfold au at hk;obtain⟨T,hT,hk⟩:=VP.1 hk;obtain⟨t,ht,rfl⟩:=VE.1 hT;unfold jZ at hk;obtain⟨r,hr,rfl⟩:=VE.1 hk;obtain⟨q,hq,rfl⟩:=VE.1 hr;exact⟨ai q.rows,qc h ht hq,((aW h).2.2 t ht q hq).1⟩
def Ld[DecidableEq Fc](st:Q00)(rs:Q06)(ts:Q05):List Fc:=iG (ae rs) ts st (fF ts) (di ts) ((au (ae rs)).length+1)
section
variable  [DecidableEq Fc]
theorem ny(st:Q00)(rs:Q06)(ts:Q05)(xo xu:Q0a):∀N,GoodO (ae rs) xo xu (iG (ae rs) ts st xo xu N)
 | 0=>⟨List.nodup_nil,fun g hg=>by cases hg⟩
 | N+1=>by
  refine⟨Dv _ _ _ _ _ _,fun g hg=>?_⟩;rw[jD]at hg;obtain⟨new,e,hn⟩:=xw (H:=dO (ae rs) ts) (bP (ae rs) st xo xu (N:Int)) (mq (bP (ae rs) st xo xu (N:Int)) (iG (ae rs) ts st xo xu N)+1) (iG (ae rs) ts st xo xu N);unfold mr at hg;rw[e]at hg;rcases VJ.1 hg with hg|hg
  ·exact(ny st rs ts xo xu N).sub g hg
  exact Oh (hn g hg)
end
end Go.Proofs.YtojjoblnpldniaaGreat
namespace Go.Proofs.YtojjoblnpldniaaGreat
set_option linter.unusedVariables false
set_option maxRecDepth 100000
open ChangeShapes WideShapes ChangeAt RowKit Maps Go.Shelf
open Pl
attribute [local go_sem] Oper.semAt_some
def FX(X:World)(B:Nat):Nat:=match X.cell? ⟨B,0,none⟩ with
 | some x=>U4 x
 | none=>0
theorem FY{X:af}{B n c:Nat}{ad:Q02}{T:TypeId}(h:iw X B (.slice ad n c) T):FX X B=n:=by
 unfold FX;rw[h.c];rfl
section
variable  [DecidableEq Fc]
theorem Ox(w:af)(rs:Q06)(Yk:Q02)(D br bp bt:Nat)(N:Nat)(nr:Nat)(Mr:KL->Option Value)(st:Q00)(ts:Q05)(xo xu:Q0a)(np:Nat)(Mp:K3->Option Value)(vo vu:Value)(hD:DatA w rs D br bp bt (N:Int) nr Mr (fC st rs) (dQ ts) xo xu np Mp vo vu)(hs:jK w Yk rs)(hN:N<=1000)(hol:xo.length<=80)(hul:xu.length<=40)(hE:(au (ae rs)).length<=36)(hrl:∀k,(G.lookL (fC st rs) k).length<=1000)(hsh:aZ (ae rs)=true)(hts:∀t∈ts,t.fits)(htl:ts.length<=1000)(hof:∀o∈xo,o.t.size<=maxLen/\o.s.size<=maxLen)(huf:∀o∈xu,o.t.size<=maxLen/\o.s.size<=maxLen)(hrf:∀k∈au (ae rs),k.2.size<=maxLen):
  Calls prog 56 #[.pointer (some ⟨D,0,none⟩)] w fun e w'=>(∃v,e=.returned v/\w'.ownsRow w.heap.size 52 5 v (iG (ae rs) ts st xo xu N).length (iC (iG (ae rs) ts st xo xu N)))/\ag w w':=by
 obtain⟨iF,z0,z1,z2,z3⟩:=Sk;obtain⟨W0,hW0⟩:=eQx (((w.alloc (.cells #[.slice none 0 0] 44)).alloc (.map #[] 0)).alloc (.cells #[.map (some (w.heap.size+1))] 115));obtain⟨Yg,XN,rfl,-⟩:=tO hD.dat.objs;have hlD:=hD.dat.lt;have d1:=hD.dat.c1;have h00:FoW w W0 (.slice none 0 0) []/\iw W0 (w.heap.size+1+1) (.map (some (w.heap.size+1))) 115:=by
  obtain⟨V1,e1⟩:∃V,V=w.alloc (.cells #[.slice none 0 0] 44):=⟨_,rfl⟩;obtain⟨V2,e2⟩:∃V,V=V1.alloc (.map #[] 0):=⟨_,rfl⟩;rw[<-e1,<-e2]at hW0;have t1:V1.heap.size=w.heap.size+1:=by rw[e1,World.size_alloc]
  have t2:V2.heap.size=w.heap.size+1+1:=by rw[e2,World.size_alloc,t1]
  have f1:ag w V1:=by rw[e1];exact(Vv _ _).alloc (Vu _) _
  have f2:ag V1 V2:=by rw[e2];exact(Vv _ _).alloc (Vu _) _
  have f3:ag V2 W0:=by rw[hW0];exact(Vv _ _).alloc (Vu _) _
  have f12:ag w V2:=f1.trans (f2.mono f1.size);have g1:iw V1 w.heap.size (.slice none 0 0) 44:=by rw[e1];exact World.alloc_heap_new w _
  have g2:aJ oV prog 52 V2 (w.heap.size+1) 0 (fun _=>none):=by
   have:=oq oV prog 52 V1;rw[<-e2,t1]at this;exact this
  have g3:iw W0 (w.heap.size+1+1) (.map (some (w.heap.size+1))) 115:=by rw[hW0,<-t2];exact World.alloc_heap_new V2 _
  have ek:CK []=fun _=>none:=rfl;exact⟨⟨f12.trans (f3.mono f12.size),(g1.bel f2).bel f3,World.ownsRow_nil _ _ _ _,by rw[ek];exact g2.below f3⟩,g3⟩
 have hmm:=@run_makeMap prog;have hl1:D<w.heap.size+1:=by omega
 have hl2:D<w.heap.size+1+1:=by omega
 refine(callsIn_wide (n:=12)).1 ?_;refine callsIn_of_wp_marks func56 rfl trivial ?_ rfl;simp only[ntmps56,List.size_toArray,V8,WE,Nat.reduceAdd,Nat.reduceSub,Array.replicate_succ,Array.replicate_zero,List.push_toArray,List.append_toArray,WK,Wq];gi_wp2;rw[<-hW0];clear hW0 hmm;obtain⟨H,hH⟩:=eQx (dO (ae rs) ts);obtain⟨A,hA⟩:∃A:Nat->List Fc,A=iG (ae rs) ts st xo xu:=⟨_,rfl⟩;obtain⟨Q,hQ⟩:∃Q:Nat->List Fc,Q=fun(n:Nat)=>bP (ae rs) st xo xu (n:Int):=⟨_,rfl⟩;have hA1:∀n,A (n+1)=mr H (Q n) (A n):=fun n=>by rw[hA,hH,hQ];exact jD _ _ _ _ _ _
 have hAG:∀n,GoodO (ae rs) xo xu (A n):=fun n=>by rw[hA];exact ny _ _ _ _ _ n
 have hA0:A 0=[]:=by rw[hA];rfl
 have hAN:iG (ae rs) ts st xo xu N=A N:=by rw[hA]
 refine wpIn_loop (fun a' X=>∃(q:Nat) (rl:List Nat) (v:Value) (u5 u6 u7 u8 u15 u16 u17 u18 u19 u20 u21 u22 u23 u24 u25 u26 u27 u28 u29 u30 u31 u32 u33 u34 u35 u36 u37 u38 u39 u40 u41 u42 u43 u44:Value),a'={ tmps:=List.toArray (.pointer (some ⟨D,0,none⟩)::undef::.slice none 0 0::.pointer (some ⟨w.heap.size,0,none⟩)::.pointer (some ⟨w.heap.size+1+1,0,none⟩)::u5::u6::u7::u8::.map (some (w.heap.size+1))::.pointer (some ⟨D,0,none⟩)::.pointer (some ⟨D,0,none⟩)::.pointer (some ⟨D,1,none⟩)::.int .i64 (N:Int)::.int .i64 (q:Int)::u15::u16::u17::u18::u19::u20::u21::u22::u23::u24::u25::u26::u27::u28::u29::u30::u31::u32::u33::u34::u35::u36::u37::u38::u39::u40::u41::u42::u43::u44::undef::[]),defers:=marks rl }/\q<=N/\FoW w X v (A q)/\iw X (w.heap.size+1+1) (.map (some (w.heap.size+1))) 115/\jm X rl/\(∀r∈rl,w.heap.size+1+1<r)) (fun a' _=>N-(intOf (a'.tmps.getD 14 undef)).toNat) ⟨0,[],.slice none 0 0,_,_,_,_,_,_,_,_,_,_,_,_,_,_,_,_,_,_,_,_,_,_,_,_,_,_,_,_,_,_,_,_,_,_,rfl,Vy _,by rw[hA0];exact h00.1,h00.2,⟨List.nodup_nil,fun r hr=>by cases hr⟩,fun r hr=>by cases hr⟩ ?_;rintro a1 X ⟨q,rl,v,u5,u6,u7,u8,u15,u16,u17,u18,u19,u20,u21,u22,u23,u24,u25,u26,u27,u28,u29,u30,u31,u32,u33,u34,u35,u36,u37,u38,u39,u40,u41,u42,u43,u44,rfl,hq,hF,hB,hMk,hMn⟩;clear h00;by_cases hlq:q<N
 ·have hDX:=hD.below hF.bel;have d5:=hDX.dat.c5;have d5l:=hDX.dat.lt;obtain⟨adV,capV,rfl,-⟩:=tO hDX.dat.users;gi_wp2;refine wpIn_loop (fun a' X=>∃(us:Q0a) (XH:Q02) (WX:Nat) (out:Q04) (rl:List Nat) (v:Value) (base:Nat) (u7 u8 u21 u22 u23 u24 u25 u26 u27 u28 u29 u30 u31 u32 u33 u34 u35 u36 u37 u38 u39 u40 u41 u42 u43 u44:Value),a'={ tmps:=List.toArray (.pointer (some ⟨D,0,none⟩)::undef::.slice none 0 0::.pointer (some ⟨w.heap.size,0,none⟩)::.pointer (some ⟨w.heap.size+1+1,0,none⟩)::.int .i64 (q:Int)::.slice XH us.length WX::u7::u8::.map (some (w.heap.size+1))::.pointer (some ⟨D,0,none⟩)::.pointer (some ⟨D,0,none⟩)::.pointer (some ⟨D,1,none⟩)::.int .i64 (N:Int)::.int .i64 (q:Int)::.bool true::.int .i64 (q:Int)::.pointer (some ⟨D,0,none⟩)::.pointer (some ⟨D,0,none⟩)::.pointer (some ⟨D,5,none⟩)::.slice adV xu.length capV::u21::u22::u23::u24::u25::u26::u27::u28::u29::u30::u31::u32::u33::u34::u35::u36::u37::u38::u39::u40::u41::u42::u43::u44::undef::[]),defers:=marks rl }/\FewA (ae rs) ts st xo xu (q:Int) us out/\mr H (Q q) out=A (q+1)/\GoodO (ae rs) xo xu out/\FoW w X v out/\iw X (w.heap.size+1+1) (.map (some (w.heap.size+1))) 115/\jm X rl/\(∀r∈rl,w.heap.size+1+1<r)/\X.ownsRow base 27 2 (.slice XH us.length WX) us.length (pairs us)/\us.length<=40/\∀o∈us,o.t.size<=maxLen/\o.s.size<=maxLen) (fun a' Y=>2*(200000-FX Y w.heap.size)+min 1 (U4 (a'.tmps.getD 6 undef))) ⟨xu,adV,capV,A q,rl,v,bp+1,_,_,_,_,_,_,_,_,_,_,_,_,_,_,_,_,_,_,_,_,_,_,_,_,_,_,rfl,FewA.start _,(hA1 q).symm,hAG q,hF,hB,hMk,hMn,hDX.dat.users,hul,huf⟩ ?_;clear hDX d5 d5l hF hB hMk hMn;rintro a2 X2 ⟨us,XH,WX,out,rl2,v2,base,u7,u8,u21,u22,u23,u24,u25,u26,u27,u28,u29,u30,u31,u32,u33,u34,u35,u36,u37,u38,u39,u40,u41,u42,u43,u44,rfl,hFew,hLim,hG,hF2,hB2,hMk2,hMn2,hU,hul2,huf2⟩;obtain⟨adF,Yl,rfl,-⟩:=BC hF2.row;have hmu:=FY hF2.box;have hout:=hG.len hol hE hul;by_cases hne:us=[]
  ·subst hne;have hAq:A (q+1)=out:=by rw[<-hLim,hH,hQ];exact hFew.done
   have Yn:FoW w X2 (.slice adF out.length Yl) (A (q+1)):=by rw[hAq];exact hF2
   gi_wp2;exact⟨⟨q+1,rl2,_,_,_,_,_,_,_,_,_,_,_,_,_,_,_,_,_,_,_,_,_,_,_,_,_,_,_,_,_,_,_,_,_,_,_,rfl,by omega,Yn,hB2,hMk2,hMn2⟩,by simp[intOf];omega⟩
  have hpos:0<us.length:=by cases us with|nil=>exact absurd rfl hne|cons a l=>simp
  have hposI:(0:Int)<(us.length:Int):=by omega
  have bc:=hF2.box.c;have kc:=hB2.c
  gi_wp2_with fail
  refine⟨trivial,(callsIn_wide.2 (FW D (q:Int) XH us.length WX (w.heap.size+1) X2)).mono ?_⟩;rintro e X3 ⟨rfl,hX3⟩;obtain⟨hBX,hb23,hs3⟩:=SY X2 D (q:Int) (.slice XH us.length WX) (w.heap.size+1) hX3;have Yn:=hF2.below hb23;have hU3:=fQ hU hb23;have hB3:=hB2.bel hb23;have hMk3:=hMk2.bel hb23;have hsB:w.heap.size+1+1<X2.heap.size:=(VC.1 hB2).1;clear hX3 bc kc;gi_wp2
  refine qX (α:=Fc) rfl (by omega) (gf:=201) (lb:=#[.pointer (some ⟨X2.heap.size,0,none⟩),.pointer (some ⟨X2.heap.size+1,0,none⟩),.pointer (some ⟨X2.heap.size+1+1,0,none⟩),.pointer (some ⟨X2.heap.size+1+1+1,0,none⟩)]) rfl trivial (enters_of func201 (by kernel_rfl) rfl)
   (Ov 11 (by omega) rs Yk D br bp bt (N:Int) nr Mr st ts Yg XN xo xu np Mp (.slice adV xu.length capV) (w.heap.size+1) out X2.heap.size (X2.heap.size+1) (X2.heap.size+1+1) (X2.heap.size+1+1+1) (q:Int) XH WX us X3 (by omega) (by omega) (by omega) (by omega) hrl hsh hts htl hof huf2 hrf) (Vv _ _) (fun _=>rfl) (fun h k=>h.trans k) (fun Y lx o o' h1 h2=>KpO.put h1 h2)
   (fun pre Y=>∃v',FoW w Y v' (out++pre)/\KpO (w.heap.size+1) X3.heap.size X3 Y/\GoodO (ae rs) xo xu (out++pre))
   ?own ?tell ⟨_,by rw[Wt];exact Yn,KpO.below (Vv _ _),by rw[Wt];exact hG⟩
   (fun x a' Y=>∃Bx,CP Y Bx x/\a'={ tmps:=List.toArray (.pointer (some ⟨D,0,none⟩)::undef::.slice none 0 0::.pointer (some ⟨w.heap.size,0,none⟩)::.pointer (some ⟨w.heap.size+1+1,0,none⟩)::.int .i64 (q:Int)::.slice XH us.length WX::.int .i64 (out.length:Int)::.pointer (some ⟨Bx,0,none⟩)::.map (some (w.heap.size+1))::.pointer (some ⟨D,0,none⟩)::.pointer (some ⟨D,0,none⟩)::.pointer (some ⟨D,1,none⟩)::.int .i64 (N:Int)::.int .i64 (q:Int)::.bool true::.int .i64 (q:Int)::.pointer (some ⟨D,0,none⟩)::.pointer (some ⟨D,0,none⟩)::.pointer (some ⟨D,5,none⟩)::.slice adV xu.length capV::.slice XH us.length WX::.int .i64 (us.length:Int)::.bool true::.slice adF out.length Yl::.int .i64 (out.length:Int)::.pointer (some ⟨D,0,none⟩)::.int .i64 (q:Int)::.slice XH us.length WX::.map (some (w.heap.size+1))::.func (.func 201) #[] #[.pointer (some ⟨X2.heap.size,0,none⟩),.pointer (some ⟨X2.heap.size+1,0,none⟩),.pointer (some ⟨X2.heap.size+1+1,0,none⟩),.pointer (some ⟨X2.heap.size+1+1+1,0,none⟩)]::.agg #[.string x.a,.string x.b,.string x.r,.string x.c,.string x.d]::u32::u33::u34::u35::u36::u37::u38::u39::u40::u41::u42::u43::u44::undef::[]),defers:=[] })
   (fun x a' s Y Z row hs hg hr=>by obtain⟨Bx,h,e⟩:=hs;exact⟨Bx,IY (B0:=X3.heap.size) (g:=Bx) (x:=x) () Y Z row h hg hr,e⟩) ?assign ?body ?done
  case own =>
   intro pre Y Z row hs hg hr;obtain⟨v',h1,h2,h3⟩:=hs;exact⟨v',h1.kept hg fun r e=>⟨by have:=(hr r e).1;omega,(hr r e).2⟩,S9 (β:=Unit) () Y Z row h2 hg hr,h3⟩
  case tell =>
   rintro pre Y ⟨v',h1,h2,h3⟩;have hb:=hBX.kp h2;obtain⟨ZP,cap2,e,hsa⟩:=tO (Mc hU3 h2 (by decide) (by decide));injection e with ea eb ec;exact⟨hD.below h1.bel,hs.below h1.bel,⟨_,h1.map⟩,hb.d.c,hb.s.c,hb.u.c,hb.k.c,by rw[ea];exact hsa⟩
  case assign =>
   rintro l' pre x Y K ⟨v',h1,h2,h3⟩ hKK;unfold El;gi_wp2;have hbl:ag Y (Y.alloc (.cells #[.string x.a,.string x.b,.string x.r,.string x.c,.string x.d] 52)):=(Vv _ _).alloc (Vu _) _;exact hKK _ _ ((KeepsOthers.alloc _ _).from _) (KpO.below hbl) ⟨v',h1.below hbl,h2.trans (KpO.below hbl),h3⟩ ⟨Y.heap.size,World.alloc_heap_new Y _,rfl⟩
  case body =>
   rintro l' pre x a' Y hl ⟨hEx,hnew⟩ ⟨v',hFY,hKY,hGY⟩ ⟨Bx,bX,rfl⟩;obtain⟨hkey,hxf⟩:=IZ hof huf2 hrf hEx;obtain⟨kl,hkl⟩:=H8 x hxf;obtain⟨c0,c1,c2,c3,c4,cl⟩:=bX.c;have hGX:GoodO (ae rs) xo xu (out++(pre++[x])):=by
    refine⟨?_,fun g hg=>?_⟩
    ·rw[<-VY];exact List.nodup_append.2 ⟨hGY.once,by simp,fun a ha b hb e=>by
      rw[VO]at hb;rw[<-hb,<-e]at hnew;exact hnew ha⟩
    rw[<-VY]at hg;rcases VJ.1 hg with hg|hg
    ·exact hGY.sub g hg
    rw[VO]at hg;subst hg;unfold bP xM at hEx;obtain⟨o,ho,h1⟩:=VP.1 hEx;obtain⟨k,hk,h1⟩:=VP.1 h1;obtain⟨u,hu,e⟩:=VE.1 h1;have hux:u∈xu:=by rw[hFew.sub]at hu;exact(Wo.1 hu).1
    exact VP.2 ⟨o,ho,VP.2 ⟨k,(Wo.1 hk).1,VE.2 ⟨u,hux,e⟩⟩⟩
   have hlen:=hGX.len hol hE hul;rw[<-VY,VD,VT]at hlen;obtain⟨os,hos⟩:=eQx (out++pre);rw[<-hos]at hFY hlen;have HOS:=aY hos;clear hos;have kc:=(hB3.kp hKY (by decide) (by decide)).c;have kl2:=bB kc;obtain⟨adY,capY,rfl,-⟩:=BC hFY.row;have hmap:=hFY.map;have bcY:=hFY.box.c;have hbxl:=bB bcY;have hblk:=hFY.box;obtain⟨es,cc,hmb⟩:=qj hFY.map;have hne1:Bx≠w.heap.size+1:=fun e=>by
    have h:=bX;unfold CP at h;rw[e,hmb]at h;cases h
   have hrow:=hFY.row;have hvB:(Value.slice adY os.length capY).ownBlock≠some w.heap.size:=fun e=>by have:=(hrow.lt _ e).1;omega
   have hvM:(Value.slice adY os.length capY).ownBlock≠some (w.heap.size+1):=fun e=>FD hrow e hmb;have hbYs:=hFY.bel.size
   gi_wp2_with (first
    | (gi_at_mapUpdate;refine zm _ rfl _ _ _ 115 rfl 52 107 Qw Qu underlying115 (w.heap.size+1) _ _ rfl hmap (by unfold maxLen;omega) x kl rfl hkl (.agg #[]) rfl ?_;intro Y1 hM1 hg1;have q0:=(kU hg1 ⟨cl,hne1⟩ 0).trans c0;have q1:=(kU hg1 ⟨cl,hne1⟩ 1).trans c1;have q2:=(kU hg1 ⟨cl,hne1⟩ 2).trans c2;have q3:=(kU hg1 ⟨cl,hne1⟩ 3).trans c3;have q4:=(kU hg1 ⟨cl,hne1⟩ 4).trans c4;have qb:=(kU hg1 ⟨hbxl,Nat.ne_of_lt (WL _)⟩ 0).trans bcY;have ql:=bB q0;have qbl:=bB qb;have hrow1:=hrow.kept hg1 (.inr hvM);have hYs1:=hg1.size)
    | (gi_at_builtin;refine wpListIn_append_own_at _ rfl _ _ 44 rfl (w.heap.size+1) 52 iF (.agg #[.string ⟨#[]⟩,.string ⟨#[]⟩,.string ⟨#[]⟩,.string ⟨#[]⟩,.string ⟨#[]⟩]) 5 80 underlying44 z0 z1 z2 z3 rfl (by decide) _ os.length (iC os) rfl (hrow1.alloc _) ⟨Y1.heap.size,0,none⟩ 1 1 x.row rfl rfl (U3 Y1 x) (by simp[Fc.row,Value.oneCell']) (by unfold maxLen;omega) (by omega) (by simp;omega) ?_;intro v2 V hown hgr _ hat;obtain⟨g2,cap2,rfl⟩:=ownsRow_succ hown;have HAT:=aY hat;clear hat;have hY2:ag Y1 (Y1.alloc (.cells #[.string x.a,.string x.b,.string x.r,.string x.c,.string x.d] 52)):=(Vv _ _).alloc (Vu _) _;have hVb:=Ri hblk hg1 hY2 hgr hvB;have vc:=hVb.c;have vf:=lq hVb 0;have vl:=bB vc)
    | gi_in)
   obtain⟨r1,r2,r3⟩:=FoW.step hFY hM1 hg1 hY2 hown hgr HAT.out l';have eos:out++(pre++[x])=os++[x]:=by rw[HOS.out,VY]
   exact⟨Rj r3 (by omega),r2,_,by rw[eos];exact r1,hKY.after r2 hl,hGX⟩
  case done =>
   rintro Dd xs X5 hDd hS ⟨v5,hF5,hK5,hG5⟩ hKd;have hl5:=hG5.len hol hE hul;have hlx:(out++xs).length=out.length+xs.length:=VD;have hxs:(out++xs).drop out.length=xs:=List.drop_left;obtain⟨o5,ho5⟩:=eQx (out++xs);rw[<-ho5]at hF5 hG5 hl5 hlx hxs;have Xa:=aY ho5;have YC:=aY hxs;have hFew5:=hFew.next (by rw[<-hH]at hS ⊢;exact hS);have hLim5:mr H (Q q) o5=A (q+1):=by
    rw[<-hLim,<-Mm (H:=H) (Q q) out];congr 1;rw[ho5,<-hS,<-hH,hQ,hH];exact hFew.round
   rw[<-ho5]at hFew5;obtain⟨adP,capP,rfl,hsF5⟩:=BC hF5.row;have bc5:=hF5.box.c;have bl5:=bB bc5;have i1:(0:Int)<=(out.length:Int):=by omega
   have i2:(out.length:Int)<=(o5.length:Int):=by omega
   have hcap5:o5.length<=capP:=Ta hF5.row;have hU5:=Mc hU3 hK5 (by decide) (by decide);obtain⟨ZP,cap2,eU,hsU5⟩:=tO hU5;injection eU with ea eb ec;rw[<-ea]at hsU5;have hMk5:jm X5 (Dd::rl2):=by
    have h1:=hMk3.kp hK5 (fun hm=>by have:=hMk3.lt hm;omega) (fun hm=>by have:=hMn2 _ hm;omega);refine⟨List.nodup_cons.2 ⟨fun hm=>by have:=hMk3.lt hm;omega,h1.1⟩,fun r hr=>?_⟩;rcases VL.1 hr with rfl|hr
    ·exact hKd
    exact h1.2 r hr
   have hMn5:∀r∈Dd::rl2,w.heap.size+1+1<r:=fun r hr=>by
    rcases VL.1 hr with rfl|hr
    ·omega
    exact hMn2 r hr
   have hkl:(fG us xs).length<=us.length:=Em us xs;have hkz:xs.length=0->(fG us xs).length=0:=fun h=>by rw[VM.1 h,KV];rfl
   have hsx:∀ad3,ad3=Option.map (fun x=>Addr.add x (out.length*5)) adP->E5 X5 ad3 xs:=fun ad3 e=>by
    rw[e,<-YC.out];exact E5.dropF hsF5 out.length
   clear ho5 hxs ea eb ec hS
   gi_wp2_with fail
   ·refine⟨trivial,(callsIn_wide.2 (rP XH WX us adP 0 xs X5 (by omega) (by omega) hsU5 (.inl (VM.1 (by omega))))).mono ?_⟩;rintro e X6 ⟨⟨v6,rfl,hO6⟩,hb6⟩;have Xh:FX X6 w.heap.size=o5.length:=FY (hF5.below hb6).box;have hF6:=hF5.below hb6;have hB6:=(hB3.kp hK5 (by decide) (by decide)).bel hb6;obtain⟨ad6,cap6,rfl,-⟩:=tO hO6;gi_wp2;exact⟨⟨fG us xs,ad6,cap6,o5,Dd::rl2,_,X5.heap.size,_,_,_,_,_,_,_,_,_,_,_,_,_,_,_,_,_,_,_,_,_,_,_,_,_,_,rfl,hFew5,hLim5,hG5,hF6,hB6,hMk5.bel hb6,hMn5,hO6,by omega,fun o ho=>huf2 o (Wo.1 ho).1⟩,by
     show 2*(200000-FX X6 w.heap.size)+min 1 (fG us xs).length<2*(200000-FX X2 w.heap.size)+min 1 us.length;rw[Xh,hmu];omega⟩
   refine⟨trivial,(callsIn_wide.2 (rP XH WX us _ _ xs X5 (by omega) (by omega) hsU5 (hsx _ rfl))).mono ?_⟩;rintro e X6 ⟨⟨v6,rfl,hO6⟩,hb6⟩;have Xh:FX X6 w.heap.size=o5.length:=FY (hF5.below hb6).box;have hF6:=hF5.below hb6;have hB6:=(hB3.kp hK5 (by decide) (by decide)).bel hb6;obtain⟨ad6,cap6,rfl,-⟩:=tO hO6;gi_wp2;exact⟨⟨fG us xs,ad6,cap6,o5,Dd::rl2,_,X5.heap.size,_,_,_,_,_,_,_,_,_,_,_,_,_,_,_,_,_,_,_,_,_,_,_,_,_,_,rfl,hFew5,hLim5,hG5,hF6,hB6,hMk5.bel hb6,hMn5,hO6,by omega,fun o ho=>huf2 o (Wo.1 ho).1⟩,by
    show 2*(200000-FX X6 w.heap.size)+min 1 (fG us xs).length<2*(200000-FX X2 w.heap.size)+min 1 us.length;rw[Xh,hmu];omega⟩
 have hqN:q=N:=by omega
 subst hqN;obtain⟨adF,Yl,rfl,-⟩:=BC hF.row;have bc:=hF.box.c;have hR:X.ownsRow (w.heap.size+1) 52 5 (.slice adF (A q).length Yl) (iG (ae rs) ts st xo xu q).length (iC (iG (ae rs) ts st xo xu q)):=by rw[hAN];exact hF.row
 have hBl:=hF.bel;have hsz:w.heap.size<X.heap.size:=bB bc;clear hF hB hD;gi_wp2;refine wX (w.heap.size+1+1) (fun Y=>Y.ownsRow w.heap.size 52 5 (.slice adF (A q).length Yl) (iG (ae rs) ts st xo xu q).length (iC (iG (ae rs) ts st xo xu q))/\ag w Y) (fun Y r hr hY hd=>⟨eX hY.1 fun g hg=>oU fun e=>?_,?_⟩) (fun Y hY=>⟨_,results_tmp rfl _ _ _,⟨_,rfl,hY.1⟩,hY.2⟩) rl X hMk hMn ⟨fI hR (Nat.le_succ _),hBl⟩
 ·obtain⟨cur,e2⟩:=jS hY.1 hg;rw[e,hd]at e2;cases e2
 exact hY.2.grown (grownBy_putObj' Y r _) hY.2.size (fun g e=>by injection e with e;omega)
end
end Go.Proofs.YtojjoblnpldniaaGreat
namespace Go.Proofs.YtojjoblnpldniaaGreat
set_option linter.unusedVariables false
open Pl
def Vh(K:Fc->Bool)(f:Fc)(t:Tp):Bool:=if t.s.toList.isEmpty then t.c.toList==f.c.toList&&t.d.toList==f.d.toList else K ⟨t.c,t.d,t.s,f.c,f.d⟩
abbrev Ru:=(Fc->Bool)->Bool
def Vi(l:Q05)(f:Fc):Ru:=fun K=>l.any fun t=>(t.a.toList==f.a.toList&&t.b.toList==f.b.toList&&t.r.toList==f.r.toList)&&Vh K f t
def Vj(l:Q05)(over name:ByteArray)(f:Fc):Ru:=fun K=>l.any fun t=>(t.a.toList==f.a.toList&&t.b.toList==f.b.toList&&t.r.toList==over.toList)&&K ⟨t.c,t.d,name,f.c,f.d⟩
def gN(l:Q05)(es:Q09)(truth:Q04)(f:Fc):Nat->Nat->Ru
 | 0,_=>fun _=>false
 | k+1,n=>match es[n]? with
  | none=>fun _=>false
  | some x =>
   if x.kind=1 then Vi l f
   else if x.kind=2 then fun K=>K ⟨f.a,f.b,x.name,f.c,f.d⟩
   else if x.kind=3 then Vj l x.over x.name f
   else if x.kind=4 then fun K=>x.kids.any fun i=>gN l es truth f k i.toNat K
   else if x.kind=5 then fun K=>x.kids.all fun i=>gN l es truth f k i.toNat K
   else if x.kind=6 then if fJ l es truth f k truth (x.kids.getD 1 0).toNat then fun _=>false else gN l es truth f k (x.kids.getD 0 0).toNat
   else fun _=>false
set_option linter.unusedSectionVars false
section
variable  {φ:Type}[DecidableEq φ]{rk:φ->Int}{H:List φ->φ->Bool}{qs:Nat->List φ}
def I4(H:List φ->φ->Bool)(out:List φ):Prop:=∀(i:Nat) (h:i<out.length),H (out.take i) out[i]=true
theorem Rk:I4 H []:=fun i h=>absurd h (Wm _)
theorem Oy{out:List φ}(h:I4 H out)(f:φ):I4 H (fD H out f):=by
 unfold fD;split
 ·exact h
 rename_i hn;have hH:H out f=true:=by
  cases e:H out f;case true=>rfl
  exact absurd (.inr e) hn
 intro i hi;rw[VD,VT]at hi;by_cases e:i<out.length
 ·rw[Wd e,List.take_append_of_le_length (by omega)];exact h i e
 have e2:i=out.length:=by omega
 subst e2;rw[Wz (Vu _),List.take_append_of_le_length (Vu _),VI];simpa using hH
theorem I5:∀(q:List φ) {out:List φ},I4 H out->I4 H (dN H q out)
 | [],_,h=>h
 | f::q,out,h=>I5 q (Oy h f)
theorem En(q:List φ):∀(k:Nat) {out:List φ},I4 H out->I4 H (je H q k out)
 | 0,_,h=>h
 | k+1,out,h=>by
  unfold je;split
  ·exact h
  exact En q k (I5 q h)
theorem Md:∀N,I4 H (rW H qs N)
 | 0=>Rk
 | N+1=>En (qs N) _ (Md N)
theorem Eo(hq:∀n,∀f∈qs n,rk f=(n:Int)):∀N,(rW H qs N).Pairwise fun a b=>rk a<=rk b
 | 0=>List.Pairwise.nil
 | N+1=>by
  obtain⟨new,e,hn⟩:=qV (H:=H) (qs N) (rW H qs N);rw[rW,e];refine List.pairwise_append.2 ⟨Eo hq N,?_,fun a ha b hb=>?_⟩
  ·rw[List.pairwise_iff_getElem];intro i j hi hj _;rw[hq N _ (hn _ (Vs hi)),hq N _ (hn _ (Vs hj))];exact Int.le_refl _
  have h1:=Ao hq N a ha;have h2:=hq N b (hn b hb);omega
theorem Oz{L:List φ}(hs:L.Pairwise fun a b=>rk a<=rk b){i:Nat}(hi:i<L.length){g:φ}(hg:rk g<rk L[i]):g∈L↔g∈L.take i:=by
 refine⟨fun h=>?_,fun h=>List.mem_of_mem_take h⟩;obtain⟨j,hj,rfl⟩:=V4 h;have hji:j<i:=by
  rcases Nat.lt_trichotomy j i with h1|h1|h1
  ·exact h1
  ·subst h1;exact absurd hg (Int.lt_irrefl _)
  have:=List.pairwise_iff_getElem.1 hs i j hi hj h1;omega
 exact List.mem_take_iff_getElem.2 ⟨j,by omega,rfl⟩
end
section
variable  [DecidableEq Fc]
theorem Me(ts:Q0b)(l:Q05)(st:Q00)(xo xu:Q0a):∀N,iG ts l st xo xu N=rW (dO ts l) (fun n=>bP ts st xo xu (n:Int)) N
 | 0=>rfl
 | N+1=>by rw[jD,Me ts l st xo xu N];rfl
theorem I6{ts:Q0b}{l:Q05}{st:Q00}{xo xu:Q0a}(hS:Sol ts st)(hsh:aZ ts=true)(hrf:gI ts=true)(hfit:∀t∈l,H5 ts t=true)(hen:∀k∈au ts,hasB ts k.1 k.2=true)(N:Nat){i:Nat}(hi:i<(iG ts l st xo xu N).length):
  fJ l (ak ts (iG ts l st xo xu N)[i].a (iG ts l st xo xu N)[i].r) (iG ts l st xo xu N) (iG ts l st xo xu N)[i] (ak ts (iG ts l st xo xu N)[i].a (iG ts l st xo xu N)[i].r).length ((iG ts l st xo xu N).take i) ((ak ts (iG ts l st xo xu N)[i].a (iG ts l st xo xu N)[i].r).length-1)=true:=by
 have e:=Me ts l st xo xu N;have hq:∀n:Nat,∀f∈bP ts st xo xu (n:Int),Kv ts st f=(n:Int):=fun n f hf=>BB hen hf;have h1:=Md (H:=dO ts l) (qs:=fun n=>bP ts st xo xu (n:Int)) N;have h2:=Eo (H:=dO ts l) (qs:=fun n=>bP ts st xo xu (n:Int)) hq N;rw[<-e]at h1 h2;obtain⟨L,hL⟩:=eQx (iG ts l st xo xu N);simp only[<-hL]at h1 h2 hi⊢;have hh:=h1 i hi;unfold dO at hh;obtain⟨f,hf⟩:=eQx (L[i]);rw[<-hf]at hh⊢;by_cases he:ak ts f.a f.r=[]
 ·rw[he]at hh;cases hh
 have hpos:(ak ts f.a f.r).length-1<(ak ts f.a f.r).length:=by
  have:(ak ts f.a f.r).length≠0:=fun e=>he (VM.1 e);omega
 refine(BA hS hsh hrf hfit he).more (fun g hg=>?_) _ _ _ _ (fun g _ h=>h) hpos hh;rw[hf]at hg;exact(Oz h2 hi hg).symm
end
end Go.Proofs.YtojjoblnpldniaaGreat
