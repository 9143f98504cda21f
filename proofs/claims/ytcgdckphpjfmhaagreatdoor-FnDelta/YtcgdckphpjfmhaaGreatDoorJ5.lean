/- Contracts of the document's functions that look a type, a relation, and whom it allows up in a schema. -/
import Derived.Test.YtcgdckphpjfmhaaGreatDoorSq
import Derived.Test.YtcgdckphpjfmhaaGreatDoorJ1
import Derived.Deep.AppendLies
open Go.Proofs.Tryz
set_option maxHeartbeats 80000000
namespace Go.Proofs.YtcgdckphpjfmhaaGreatDoor
open ChangeShapes WideShapes ChangeAt RowKit
open Pl
def jS:List Rl->ByteArray->Option (List Ex)
 | [],_=>none
 | r::rs,n=>if r.name.toList==n.toList then some r.expr else jS rs n
def gu:List Ty->ByteArray->ByteArray->Option (List Ex)
 | [],_,_=>none
 | t::ts,ty,n=>if t.name.toList==ty.toList then (jS t.rels n).or (gu ts ty n) else gu ts ty n
def lW:List Ty->ByteArray->Bool
 | [],_=>false
 | t::ts,ty=>(t.name.toList==ty.toList) || lW ts ty
theorem oJ(rs:Q06)(k:Nat)(h:k<rs.length):ag (rs.drop k)=⟨rs[k].name,eG rs[k].rows⟩::ag (rs.drop (k+1)):=by
 rw[WC h];rfl
theorem Gj(rs:Q07)(k:Nat)(h:k<rs.length):eG (rs.drop k)=⟨rs[k].name,aj rs[k].rows⟩::eG (rs.drop (k+1)):=by
 rw[WC h];rfl
theorem Ji(ad:Q02)(cap:Nat)(rs:Q06)(typ:bZ)(w:ae)(hlen:rs.length<=1048576)(hs:lc w ad rs):
  Calls prog 195 #[.slice ad rs.length cap,.string typ] w fun e w'=>e=.returned (.bool (lW (ag rs) typ))/\w'=w:=by
 go_enter func195,ntmps195;go_wp2;go_loopw[5] (fun i wr=>∃k:Nat,k<=rs.length/\i=.int .i64 k/\Hid (lW (ag (rs.drop k)) typ=lW (ag rs) typ)/\wr=w) (fun i _=>rs.length-(intOf i).toNat);case atStart=>exact⟨0,Wd _,rfl,rfl,rfl⟩
 obtain⟨k,hk,rfl,HP,rfl⟩:=hrel;by_cases hlt:k<rs.length
 ·rcases hs with rfl|⟨b,off,rfl,hb,hr,hok⟩
  ·simp at hlt
  obtain⟨t0,t1⟩:=hr k hlt;have hk1:=bC k;have hk2:(k:Int)<(rs.length:Int):=by omega
  clear hr hok;cases hq:(rs[k].name.toList==typ.toList);case true=>
   have HN:Hid (lW (ag rs) typ=true):=by show _=_;rw[<-HP.out,oJ _ _ hlt];simp[lW,hq]
   go_wp2;go_ret;exact⟨by rw[HN.out];rfl,rfl⟩
  have XA:Hid (lW (ag (rs.drop (k+1))) typ=lW (ag rs) typ):=by show _=_;rw[<-HP.out,oJ _ _ hlt];simp[lW,hq]
  go_wp2;go_roundw;case rel=>exact⟨k+1,by omega,by go_num,XA,by first|rfl|trivial⟩
  simp[intOf]<;>omega
 have HN:Hid (lW (ag rs) typ=false):=by show _=_;rw[<-HP.out,Ww (by omega)];rfl
 go_wp2;go_ret;exact⟨by rw[HN.out];rfl,rfl⟩
def qB(rs:Q06)(ad:Q02)(rows:Q08):Prop:=rows=[] \/ ∃t∈rs,∃q∈t.rows,rows=q.rows/\ad=q.ad
theorem Oz.mem{w:ae}{ad:Q02}{rs:Q07}(h:Oz w ad rs){q:RR}(hq:q∈rs):q.ok w:=by
 rcases h with rfl|⟨b,off,e,hb,hr,hk⟩
 ·cases hq
 exact hk q hq
theorem lc.mem{w:ae}{ad:Q02}{rs:Q06}(h:lc w ad rs){q:TR}(hq:q∈rs):q.ok w:=by
 rcases h with rfl|⟨b,off,e,hb,hr,hk⟩
 ·cases hq
 exact hk q hq
theorem qB.sl{rs:Q06}{ad ad0:Q02}{rows:Q08}{w:ae}(h:qB rs ad rows)(hs:lc w ad0 rs):jv w ad rows:=by
 rcases h with rfl|⟨t,ht,q,hq,rfl,rfl⟩
 ·exact .inl rfl
 exact Oz.mem (hs.mem ht) hq
theorem ji(ad:Q02)(cap:Nat)(rs:Q06)(typ rel:bZ)(w:ae)(hlen:rs.length<=1048576)(hs:lc w ad rs)(hl:∀r∈rs,r.light):
  Calls prog 118 #[.slice ad rs.length cap,.string typ,.string rel] w fun e w'=>(∃(rows:Q08) (XB:Q02) (cap':Nat),e=.returned (.slice XB rows.length cap')/\aj rows=(gu (ag rs) typ rel).getD []/\jv w XB rows/\qB rs XB rows)/\w'=w:=by
 have HS:=aC hs;have HL:=aC hl;clear hs hl;go_enter func118,ntmps118;go_wp2;go_loopw[7] (fun i wr=>∃k:Nat,k<=rs.length/\i=.int .i64 k/\Hid (gu (ag (rs.drop k)) typ rel=gu (ag rs) typ rel)/\wr=w) (fun i _=>rs.length-(intOf i).toNat);case atStart=>exact⟨0,Wd _,rfl,rfl,rfl⟩
 obtain⟨k,hk,rfl,HP,rfl⟩:=hrel;by_cases hlt:k<rs.length
 ·rcases HS.out with rfl|⟨b,off,rfl,hb,hr,hok⟩
  ·simp at hlt
  obtain⟨t0,t1⟩:=hr k hlt;have ok:=hok rs[k] (VZ hlt);have lg:=(HL.out rs[k] (VZ hlt)).1;have Yk:=aC ok;have hk1:=bC k;have hk2:(k:Int)<(rs.length:Int):=by omega
  clear hr hok ok;cases hq:(rs[k].name.toList==typ.toList);case false=>
   have XA:Hid (gu (ag (rs.drop (k+1))) typ rel=gu (ag rs) typ rel):=by show _=_;rw[<-HP.out,oJ _ _ hlt];simp[gu,hq]
   go_wp2_with fail;go_loopw[8] (fun i w2=>i=.int .i64 0/\w2=wr) (fun i _=>(intOf i).toNat);case atStart=>exact⟨rfl,rfl⟩
   obtain⟨rfl,rfl⟩:=hrel;go_wp2;go_roundw;case rel=>exact⟨k+1,by omega,by go_num,XA,by first|rfl|trivial⟩
   simp[intOf]<;>omega
  go_wp2_with fail;go_loopw[8] (fun i w2=>∃j:Nat,j<=rs[k].rows.length/\i=.int .i64 j/\Hid (jS (eG (rs[k].rows.drop j)) rel=jS (eG rs[k].rows) rel)/\w2=wr) (fun i _=>rs[k].rows.length-(intOf i).toNat);case atStart=>exact⟨0,Wd _,rfl,rfl,rfl⟩
  obtain⟨j,hj,rfl,HI,rfl⟩:=hrel;by_cases hjl:j<rs[k].rows.length
  ·rcases Yk.out with hnil|⟨b2,XR,had,hb2,hr2,hok2⟩
   ·rw[hnil]at hjl;simp at hjl
   have t1':=t1;rw[had]at t1';obtain⟨q0,q1⟩:=hr2 j hjl;have HOQ:Hid (rs[k].rows[j].ok _):=hok2 rs[k].rows[j] (VZ hjl);have hj1:=bC j;have hj2:(j:Int)<(rs[k].rows.length:Int):=by omega
   clear hr2 hok2 had t1;cases hn:(rs[k].rows[j].name.toList==rel.toList);case true=>
    have HN:Hid (aj rs[k].rows[j].rows=(gu (ag rs) typ rel).getD []):=by
     have h1:jS (eG rs[k].rows) rel=some (aj rs[k].rows[j].rows):=by rw[<-HI.out,Gj _ _ hjl];simp[jS,hn]
     show _=_;rw[<-HP.out,oJ _ _ hlt];simp[gu,hq,h1]
    have HFS:Hid (qB rs rs[k].rows[j].ad rs[k].rows[j].rows):=.inr ⟨rs[k],VZ hlt,rs[k].rows[j],VZ hjl,rfl,rfl⟩;go_wp2;go_ret;exact⟨⟨rs[k].rows[j].rows,_,_,rfl,HN.out,HOQ.out,HFS.out⟩,rfl⟩
   have HI2:Hid (jS (eG (rs[k].rows.drop (j+1))) rel=jS (eG rs[k].rows) rel):=by show _=_;rw[<-HI.out,Gj _ _ hjl];simp[jS,hn]
   go_wp2;go_roundw;case rel=>exact⟨j+1,by omega,by go_num,HI2,by first|rfl|trivial⟩
   simp[intOf]<;>omega
  have XA:Hid (gu (ag (rs.drop (k+1))) typ rel=gu (ag rs) typ rel):=by
   have h1:jS (eG rs[k].rows) rel=none:=by rw[<-HI.out,Ww (by omega)];rfl
   show _=_;rw[<-HP.out,oJ _ _ hlt];simp[gu,hq,h1]
  go_wp2;go_roundw;case rel=>exact⟨k+1,by omega,by go_num,XA,by first|rfl|trivial⟩
  simp[intOf]<;>omega
 have HN:Hid (aj []=(gu (ag rs) typ rel).getD []):=by show _=_;rw[<-HP.out,Ww (by omega)];rfl
 go_wp2;go_ret;exact⟨⟨[],none,0,rfl,HN.out,.inl rfl,.inl rfl⟩,rfl⟩
def aW:List Ex->List Al
 | []=>[]
 | e::es=>if e.kind=1 then e.allow else aW es
theorem gM(rs:Q08)(k:Nat)(h:k<rs.length):aj (rs.drop k)=rs[k].e::aj (rs.drop (k+1)):=by
 rw[WC h];rfl
def Pe(rs:Q08)(ad:Q02)(xs:Q0a):Prop:=xs=[] \/ ∃r∈rs,xs=r.e.allow/\ad=r.adA
theorem jv.mem{w:ae}{ad:Q02}{rs:Q08}(h:jv w ad rs){q:ER}(hq:q∈rs):q.ok w:=by
 rcases h with rfl|⟨b,off,e,hb,hr,hk⟩
 ·cases hq
 exact hk q hq
theorem Pe.sl{rs:Q08}{ad ad0:Q02}{xs:Q0a}{w:ae}(h:Pe rs ad xs)(hs:jv w ad0 rs):lK w ad xs:=by
 rcases h with rfl|⟨r,hr,rfl,rfl⟩
 ·exact .inl rfl
 exact(hs.mem hr).1
theorem xZ(ad:Q02)(cap:Nat)(rs:Q08)(w:ae)(hlen:rs.length<=1048576)(hs:jv w ad rs):
  Calls prog 165 #[.slice ad rs.length cap] w fun e w'=>(∃(XB:Q02) (cap':Nat),e=.returned (.slice XB (aW (aj rs)).length cap')/\lK w XB (aW (aj rs))/\Pe rs XB (aW (aj rs)))/\w'=w:=by
 have HS:=aC hs;clear hs;go_enter func165,ntmps165;go_wp2;go_loopw[3] (fun i wr=>∃k:Nat,k<=rs.length/\i=.int .i64 k/\Hid (aW (aj (rs.drop k))=aW (aj rs))/\wr=w) (fun i _=>rs.length-(intOf i).toNat);case atStart=>exact⟨0,Wd _,rfl,rfl,rfl⟩
 obtain⟨k,hk,rfl,HP,rfl⟩:=hrel;by_cases hlt:k<rs.length
 ·rcases HS.out with rfl|⟨b,off,rfl,hb,hr,hok⟩
  ·simp at hlt
  obtain⟨t0,t1,t2,t3,t4⟩:=hr k hlt;have Yk:Hid (rs[k].ok _):=hok rs[k] (VZ hlt);have hk1:=bC k;have hk2:(k:Int)<(rs.length:Int):=by omega
  clear hr hok;by_cases hq:rs[k].e.kind=1
  ·have HN:Hid (aW (aj rs)=rs[k].e.allow):=by show _=_;rw[<-HP.out,gM _ _ hlt];simp[aW,hq]
   go_wp2;go_ret;exact⟨⟨rs[k].adA,rs[k].capA,by rw[HN.out];rfl,by rw[HN.out];exact Yk.out.1,.inr ⟨rs[k],VZ hlt,HN.out,rfl⟩⟩,rfl⟩
  have XA:Hid (aW (aj (rs.drop (k+1)))=aW (aj rs)):=by show _=_;rw[<-HP.out,gM _ _ hlt];simp[aW,hq]
  have hqb:(rs[k].e.kind==1)=false:=by simpa using hq
  go_wp2;go_roundw;case rel=>exact⟨k+1,by omega,by go_num,XA,by first|rfl|trivial⟩
  simp[intOf]<;>omega
 have HN:Hid (aW (aj rs)=[]):=by show _=_;rw[<-HP.out,Ww (by omega)];rfl
 go_wp2;go_ret;exact⟨⟨none,0,by rw[HN.out];rfl,by rw[HN.out];exact .inl rfl,.inl HN.out⟩,rfl⟩
def bP:List Ex->Bool
 | [e]=>decide (e.kind=1)&&e.allow.all fun a=>a.s.toList.isEmpty
 | _=>false
def Aj(xs:Q0a)(k:Nat):Bool:=(xs.take k).all fun a=>a.s.toList.isEmpty
theorem Jj(xs:Q0a)(k:Nat)(h:k<xs.length):Aj xs (k+1)=(Aj xs k&&xs[k].s.toList.isEmpty):=by
 unfold Aj;rw[V8 h,Xj];simp
theorem Ml(xs:Q0a)(k:Nat)(h:k<xs.length)(hb:xs[k].s.toList.isEmpty=false):(xs.all fun a=>a.s.toList.isEmpty)=false:=by
 rw[Bool.eq_false_iff];intro h2;rw[Wq]at h2;have:=h2 xs[k] (VZ h);rw[hb]at this;cases this
theorem EO(ad:Q02)(cap:Nat)(rs:Q08)(w:ae)(hlen:rs.length<=1048576)(hs:jv w ad rs)(hl:∀r∈rs,r.e.light):
  Calls prog 196 #[.slice ad rs.length cap] w fun e w'=>e=.returned (.bool (bP (aj rs)))/\w'=w:=by
 by_cases h1:rs.length=1
 ·obtain⟨r,rfl⟩:∃r,rs=[r]:=List.length_eq_one_iff.1 h1;rcases hs with h|⟨b,off,rfl,hb,hr,hok⟩
  ·cases h
  obtain⟨t0,t1,t2,t3,t4⟩:=hr 0 (by simp);simp only[Nat.zero_mul,Nat.add_zero,List.getElem_cons_zero]at t0 t1 t2 t3 t4;have Yk:Hid (r.ok w):=hok r (by simp);obtain⟨lg,-⟩:=hl r (by simp);clear hr hok h1;simp only[WH,Xh,WB];by_cases hq:r.e.kind=1
  ·have HD:Hid (bP (aj [r])=r.e.allow.all fun a=>a.s.toList.isEmpty):=by show _=_;simp[bP,aj,hq]
   go_enter func196,ntmps196;go_wp2;go_loopw[3] (fun i wr=>∃k:Nat,k<=r.e.allow.length/\i=.int .i64 k/\Hid (Aj r.e.allow k=true)/\wr=w) (fun i _=>r.e.allow.length-(intOf i).toNat);case atStart=>exact⟨0,Wd _,rfl,(by show _=_;simp[Aj]),rfl⟩
   obtain⟨k,hk,rfl,HP,rfl⟩:=hrel;by_cases hlt:k<r.e.allow.length
   ·rcases Yk.out.1 with hnil|⟨ba,Zf,Zg,hba,hra⟩
    ·rw[hnil]at hlt;simp at hlt
    have t1':=t1;rw[Zg]at t1';obtain⟨q0,q1⟩:=hra k hlt;have hk1:=bC k;have hk2:(k:Int)<(r.e.allow.length:Int):=by omega
    clear hra Zg t1;cases he:r.e.allow[k].s.toList.isEmpty;case true=>
     have XA:Hid (Aj r.e.allow (k+1)=true):=by show _=_;rw[Jj _ _ hlt,HP.out,he];rfl
     go_wp2;go_roundw;case rel=>exact⟨k+1,by omega,by go_num,XA,by first|rfl|trivial⟩
     simp[intOf]<;>omega
    have HN:Hid (bP (aj [r])=false):=by show _=_;rw[HD.out];exact Ml _ k hlt he
    go_wp2;go_ret;exact⟨by rw[HN.out];rfl,rfl⟩
   have HN:Hid (bP (aj [r])=true):=by
    show _=_;rw[HD.out];have:=HP.out;unfold Aj at this;rwa [WL (by omega)]at this
   go_wp2;go_ret;exact⟨by rw[HN.out];rfl,rfl⟩
  have HN:Hid (bP (aj [r])=false):=by show _=_;simp[bP,aj,hq]
  have hqb:(r.e.kind != 1)=true:=by simpa using hq
  go_enter func196,ntmps196;go_wp2;go_ret;exact⟨by rw[HN.out];rfl,rfl⟩
 have HN:Hid (bP (aj rs)=false):=by
  show _=_
  match rs,h1 with
  | [],_=>rfl
  | [r],h=>exact absurd rfl h
  | a::b::r,_=>rfl
 have h1':((rs.length:Int) != 1)=true:=by simp;omega
 go_enter func196,ntmps196;go_wp2;go_ret;exact⟨by rw[HN.out];rfl,rfl⟩
def aM(ts:Q0b)(ty n:ByteArray):List Ex:=(gu ts ty n).getD []
def gl(ts:Q0b)(rel:ByteArray):List Al->List ByteArray
 | []=>[]
 | a::xs=>if (aM ts a.t rel).isEmpty then gl ts rel xs else a.t::gl ts rel xs
def iq(ts:Q0b)(ty over rel:ByteArray):List ByteArray:=gl ts rel (aW (aM ts ty over))
theorem Dj(ts:Q0b)(rel:bZ)(xs ys:Q0a):gl ts rel (xs++ys)=gl ts rel xs++gl ts rel ys:=by
 induction xs with
 | nil=>rfl
 | cons a xs ih=>simp only[WU,gl,ih];split<;>simp
theorem TB(ts:Q0b)(rel:bZ)(xs:Q0a)(k:Nat)(h:k<xs.length)(he:aM ts xs[k].t rel=[]):gl ts rel (xs.take (k+1))=gl ts rel (xs.take k):=by
 rw[V8 h,Dj];simp[gl,he]
theorem Pf(ts:Q0b)(rel:bZ)(xs:Q0a)(k:Nat)(h:k<xs.length)(he:aM ts xs[k].t rel≠[]):gl ts rel (xs.take (k+1))=gl ts rel (xs.take k)++[xs[k].t]:=by
 rw[V8 h,Dj];simp[gl,he]
theorem Jk(ts:Q0b)(rel:bZ)(xs:Q0a):(gl ts rel xs).length<=xs.length:=by
 induction xs with
 | nil=>simp[gl]
 | cons a xs ih=>simp only[gl];split<;>simp<;>omega
theorem Mm:(prog.info? 9).map (fun i=>(i.zero,i.size,i.bytes))=some (some (.string ⟨#[]⟩),1,16):=by kernel_rfl
def qU(xs:List ByteArray):List Value:=xs.map Value.string
def Ul(w:World)(ad:Q02)(xs:List ByteArray):Prop:=xs=[] \/ ∃b off,ad=some ⟨b,off,none⟩/\b<w.heap.size/\∀(i:Nat) (h:i<xs.length),w.cell? ⟨b,off+i,none⟩=some (.string xs[i])
theorem Ul.below{w w':ae}{ad:Q02}{xs:List ByteArray}(h:Ul w ad xs)(hB:af w w'):Ul w' ad xs:=by
 rcases h with h|⟨b,off,e,hb,hr⟩
 ·exact .inl h
 exact .inr ⟨b,off,e,VY hb hB.size,fun i hi=>(hB.cell (p:=⟨b,off+i,none⟩) hb).trans (hr i hi)⟩
theorem Pg{w:ae}{base k:Nat}{v:Value}{xs:List ByteArray}(h:w.ownsRow base 9 1 v k (qU xs)):∃ad cp,v=.slice ad xs.length cp/\Ul w ad xs/\∀p,ad=some p->base<=p.block:=by
 have hl:xs.length=k:=by have:=h.1;simpa[qU] using this
 have h2:=h;rcases h.2 with⟨rfl,h0⟩|⟨g,cp,cur,rfl,hbg,hg,hnc,-⟩
 ·refine⟨none,0,?_,.inl (Wu.1 (by omega)),fun p hp=>by cases hp⟩;rw[hl,h0]
 have hlt:=h2.lt g rfl;refine⟨_,cp,by rw[hl],.inr ⟨g,0,rfl,hlt.2,fun j hj=>?_⟩,fun p hp=>by injection hp with hp;rw[<-hp];exact hlt.1⟩;have:=h2.cells (g:=g) rfl j (.string xs[j]) (by simp[qU,hj]);rw[WB];have e:(⟨g,0,none⟩:Addr).add j=⟨g,j,none⟩:=by
  unfold Addr.add;by_cases hj:j=0
  ·subst hj;simp
  simp[hj]
 rwa [e]at this
theorem qB.light{rs:Q06}{ad:Q02}{rows:Q08}(h:qB rs ad rows)(hl:∀r∈rs,r.light):rows.length<=1048576/\∀q∈rows,q.e.light:=by
 rcases h with rfl|⟨t,ht,q,hq,rfl,-⟩
 ·exact⟨by simp,by simp⟩
 exact(hl t ht).2 q hq
theorem Ak(rows:Q08)(hl:∀q∈rows,q.e.light):(aW (aj rows)).length<=1048576:=by
 induction rows with
 | nil=>simp[aj,aW]
 | cons r rows ih =>
  have e:aj (r::rows)=r.e::aj rows:=rfl;rw[e];simp only[aW];split
  ·exact(hl r (by simp)).1
  exact ih fun q hq=>hl q (by simp[hq])
set_option maxRecDepth 100000 in
theorem yf(ad:Q02)(cap:Nat)(rs:Q06)(typ over rel:bZ)(w:ae)(hlen:rs.length<=1048576)(hs:lc w ad rs)(hl:∀r∈rs,r.light):
  Calls prog 197 #[.slice ad rs.length cap,.string typ,.string over,.string rel] w fun e w'=>(∃(XB:Q02) (cap':Nat),e=.returned (.slice XB (iq (ag rs) typ over rel).length cap')/\Ul w' XB (iq (ag rs) typ over rel)/\∀p,XB=some p->w.heap.size<=p.block)/\af w w':=by
 have HS:=aC hs;have HL:=aC hl;clear hs hl;obtain⟨i0,hi,hz0,hz1,hz2⟩:=info_parts Mm;go_enter func197,ntmps197;go_wp2_with fail;have hbA:af w (w.alloc (.cells #[] 9)):=(V5 _ _).alloc (V4 _) _;have hown1:(w.alloc (.cells #[] 9)).ownsRow w.heap.size 9 1 (.slice (some ⟨w.heap.size,0,none⟩) 0 0) 0 []:=World.ownsRow_made w #[] 0 (V4 _) (by decide) rfl;refine(ji ad cap rs typ over _ hlen (HS.out.below hbA) HL.out).mono ?_;rintro e w1 ⟨⟨rows,ad1,cap1,rfl,hx1,hs1,hf1⟩,rfl⟩;have hl1:=hf1.light HL.out;have hal:=Ak rows hl1.2;go_wp2_with fail;refine(xZ ad1 cap1 rows _ hl1.1 hs1).mono ?_;rintro e w1 ⟨⟨ad2,cap2,rfl,-,hf2⟩,rfl⟩;have HG:Hid (iq (ag rs) typ over rel=gl (ag rs) rel (aW (aj rows))):=by show _=_;rw[hx1];rfl
 have HA:Hid (lK w ad2 (aW (aj rows))):=hf2.sl (hf1.sl HS.out);generalize aW (aj rows)=xs at *
 clear hs1 hx1 hf1 hl1 hf2;have HBA:=aC hbA;have XD:=aC hown1;clear hbA hown1;obtain⟨wA,hwA⟩:∃wA,wA=w.alloc (.cells #[] 9):=⟨_,rfl⟩;rw[<-hwA]at HBA XD ⊢;clear hwA;go_wp2_with fail;go_loopw[9,11] (fun v i wr=>∃k:Nat,k<=xs.length/\i=.int .i64 k/\wr.ownsRow w.heap.size 9 1 v (gl (ag rs) rel (xs.take k)).length (qU (gl (ag rs) rel (xs.take k)))/\af w wr) (fun _ i _=>xs.length-(intOf i).toNat);case atStart=>exact⟨0,Wd _,rfl,by simpa[qU,gl] using XD.out,HBA.out⟩
 obtain⟨k,hk,rfl,hown,hB⟩:=hrel;by_cases hlt:k<xs.length
 ·have HST:Hid (lc _ ad rs):=HS.out.below hB;rcases HA.out.below hB with rfl|⟨b,off,rfl,hb,hr⟩
  ·simp at hlt
  obtain⟨t0,t1⟩:=hr k hlt;have hBs:=hB.size;have hgl:=Jk (ag rs) rel (xs.take k);rw[WK]at hgl;have HBH:=aC hB;have HOW:Hid (wr.ownsRow w.heap.size 9 1 _ _ _):=hown;clear hr hB hown;go_wp2_with fail;refine(ji ad cap rs xs[k].t rel _ hlen HST.out HL.out).mono ?_;rintro e w1 ⟨⟨Yx,ad3,cap3,rfl,hx3,-,-⟩,rfl⟩;by_cases hz:Yx.length=0
  ·have HE:Hid (gl (ag rs) rel (xs.take (k+1))=gl (ag rs) rel (xs.take k)):=by
    refine TB _ _ _ _ hlt ?_;show _=_;unfold aM;rw[<-hx3,Wu.1 hz];rfl
   rw[hz];clear hx3;go_wp2;go_roundw;case rel=>exact⟨k+1,by omega,by go_num,by rw[HE.out];exact HOW.out,HBH.out⟩
   simp[intOf]<;>omega
  have HX:Hid (gl (ag rs) rel (xs.take (k+1))=gl (ag rs) rel (xs.take k)++[xs[k].t]):=by
   refine Pf _ _ _ _ hlt ?_;show ¬_=_;unfold aM;rw[<-hx3];intro h2;apply hz;rw[<-bf,h2];rfl
  have hzz:(0:Int)<(Yx.length:Int):=by omega
  clear hx3;go_wp2_with(at_builtin;refine wpList_append_own _ rfl _ _ 169 rfl w.heap.size 9 i0 (.string ⟨#[]⟩) 1 16 underlying169 hi hz0 hz1 hz2 rfl (by decide) _ _ _ rfl (HOW.out.alloc _) ⟨w1.heap.size,0,none⟩ 1 1 [.string xs[k].t] rfl rfl (cell_one_new _ _ _) (by intro u hu;simp at hu;subst hu;rfl) (by unfold maxLen;omega) (by omega) (by simp;omega) ?_);intro v' w3 hown3 hgrow _;have hb3:af w w3:=(HBH.out.alloc HBH.out.size _).grown hgrow (by simp;omega) (fun i hi=>(HOW.out.lt i hi).1);have XG:Hid (w3.ownsRow w.heap.size 9 1 v' (gl (ag rs) rel (xs.take (k+1))).length (qU (gl (ag rs) rel (xs.take (k+1))))):=by
   show World.ownsRow _ _ _ _ _ _ _;rw[HX.out];simpa[qU] using hown3
  clear hown3 hgrow HOW;go_wp2;go_roundw;case rel=>exact⟨k+1,by omega,by go_num,XG.out,hb3⟩
  simp[intOf]<;>omega
 obtain rfl:k=xs.length:=by omega
 have HE:Hid (xs.take xs.length=xs):=by show _=_;rw[Wo]
 rw[HE.out,<-HG.out]at hown;obtain⟨XB,cp,rfl,hsl,hnew⟩:=Pg hown;have YZ:Hid (∀p,XB=some p->w.heap.size<=p.block):=hnew;have ZZ:Hid (Ul _ XB (iq (ag rs) typ over rel)):=hsl;have HBH:Hid (af w _):=hB;clear hsl hB hown hnew;go_wp2;go_ret;exact⟨⟨XB,cp,rfl,ZZ.out,YZ.out⟩,HBH.out⟩
def qC(ts:Q0b)(a:Al):Bool:=lW ts a.t&&(a.s.toList.isEmpty || !(aM ts a.t a.s).isEmpty)
def qV(ts:Q0b)(xs:Q0a):Bool:=xs.all (qC ts)
def om(ts:Q0b)(typ:ByteArray)(e:Ex):Bool :=
 if e.kind=2 then !(aM ts typ e.name).isEmpty
 else if e.kind=3 then bP (aM ts typ e.over) && !(iq ts typ e.over e.name).isEmpty
 else true
def aV(ts:Q0b)(typ:ByteArray):List Ex->Bool
 | []=>true
 | e::es=>if qV ts e.allow&&om ts typ e then aV ts typ es else false
def oK(ts:Q0b)(xs:Q0a)(k:Nat):Bool:=qV ts (xs.take k)
theorem Am(ts:Q0b)(xs:Q0a):oK ts xs 0=true:=by simp[oK,qV]
theorem pW(ts:Q0b)(xs:Q0a)(k:Nat)(h:k<xs.length):oK ts xs (k+1)=(oK ts xs k&&qC ts xs[k]):=by
 unfold oK qV;rw[V8 h,Xj];simp
theorem vH(ts:Q0b)(xs:Q0a)(k:Nat)(h:k<xs.length)(hb:qC ts xs[k]=false):qV ts xs=false:=by
 unfold qV;rw[Bool.eq_false_iff];intro h2;rw[Wq]at h2;have:=h2 xs[k] (VZ h);rw[hb]at this;cases this
theorem aJ{w w':ae}{g o:Nat}{v:Value}(hB:af w w')(hg:g<w.heap.size)(h:w.cell? ⟨g,o,none⟩=some v):w'.cell? ⟨g,o,none⟩=some v:=(hB.cell (p:=⟨g,o,none⟩) hg).trans h
set_option maxRecDepth 8000 in
theorem Jl(ad Xw:Q02)(cap capE:Nat)(rs:Q06)(typ:bZ)(rows:Q08)(w:ae)(hlen:rs.length<=1048576)(hs:lc w ad rs)(hl:∀r∈rs,r.light)(hle:rows.length<=1048576)(hse:jv w Xw rows)(hlE:∀q∈rows,q.e.light):
  Calls prog 153 #[.slice ad rs.length cap,.string typ,.slice Xw rows.length capE] w fun e w'=>e=.returned (.bool (aV (ag rs) typ (aj rows)))/\af w w':=by
 have HS:=aC hs;have HL:=aC hl;have HE:=aC hse;have Yv:=aC hlE;clear hs hl hse hlE;go_enter func153,ntmps153;go_wp2_with fail;go_loopw[7] (fun i wr=>∃k:Nat,k<=rows.length/\i=.int .i64 k/\Hid (aV (ag rs) typ (aj (rows.drop k))=aV (ag rs) typ (aj rows))/\Hid (af w wr)) (fun i _=>rows.length-(intOf i).toNat);case atStart=>exact⟨0,Wd _,rfl,rfl,V5 _ _⟩
 obtain⟨k,hk,rfl,HP,HB⟩:=hrel;by_cases hlt:k<rows.length
 ·have HS1:Hid (lc _ ad rs):=HS.out.below HB.out;rcases HE.out.below HB.out with rfl|⟨b,off,rfl,hb,hr,hok⟩
  ·simp at hlt
  obtain⟨t0,t1,t2,t3,t4⟩:=hr k hlt;have Yk:Hid (rows[k].ok wr):=hok rows[k] (VZ hlt);have lg:=(Yv.out rows[k] (VZ hlt)).1;have hk1:=bC k;have hk2:(k:Int)<(rows.length:Int):=by omega
  clear hr hok;obtain⟨W1,hW1⟩:∃W1,W1=wr.alloc (.cells #[.int .i64 rows[k].e.kind,.slice rows[k].adA rows[k].e.allow.length rows[k].capA,.string rows[k].e.over,.string rows[k].e.name,.slice rows[k].adK rows[k].e.kids.length rows[k].capK] 188):=⟨_,rfl⟩;have hal:af wr W1:=by rw[hW1];exact(V5 _ _).alloc (V4 _) _
  have XJ:=aC hal;have Xz:=kv HB hal;have hgl:wr.heap.size<W1.heap.size:=by rw[hW1];simp
  have g0:W1.cell? ⟨wr.heap.size,0,none⟩=some (.int .i64 rows[k].e.kind):=by rw[hW1];simp
  have g1:W1.cell? ⟨wr.heap.size,1,none⟩=some (.slice rows[k].adA rows[k].e.allow.length rows[k].capA):=by rw[hW1];simp
  have g2:W1.cell? ⟨wr.heap.size,2,none⟩=some (.string rows[k].e.over):=by rw[hW1];simp
  have g3:W1.cell? ⟨wr.heap.size,3,none⟩=some (.string rows[k].e.name):=by rw[hW1];simp
  clear hal;go_wp2_with fail;rw[<-hW1];clear hW1;go_loopw[9] (fun i w2=>∃j:Nat,j<=rows[k].e.allow.length/\i=.int .i64 j/\Hid (oK (ag rs) rows[k].e.allow j=true)/\Hid (af W1 w2)) (fun i _=>rows[k].e.allow.length-(intOf i).toNat);case atStart=>exact⟨0,Wd _,rfl,Am _ _,V5 _ _⟩
  obtain⟨j,hj,rfl,HJ,HB2⟩:=hrel;have d0:=aJ HB2.out hgl g0;have d1:=aJ HB2.out hgl g1;have d2:=aJ HB2.out hgl g2;have d3:=aJ HB2.out hgl g3;clear g0 g1 g2 g3 t0 t1 t2 t3 t4;have HBO:Hid (af w _):=Xz.out.trans (HB2.out.mono Xz.out.size);have HS2:Hid (lc _ ad rs):=HS.out.below HBO.out;by_cases hjl:j<rows[k].e.allow.length
  ·have hA2:lK _ rows[k].adA rows[k].e.allow:=((Yk.out.1).below XJ.out).below HB2.out;rcases hA2 with hnil|⟨ba,Zf,Zg,hba,hra⟩
   ·rw[hnil]at hjl;simp at hjl
   rw[Zg]at d1;obtain⟨q0,q1⟩:=hra j hjl;have hj1:=bC j;have hj2:(j:Int)<(rows[k].e.allow.length:Int):=by omega
   clear hra Zg;go_wp2_with fail;refine(Ji ad cap rs _ _ hlen (HS2.out.below ((V5 _ _).alloc (V4 _) _))).mono ?_;rintro e w3 ⟨rfl,rfl⟩;cases hty:lW (ag rs) rows[k].e.allow[j].t;case false=>
    have HN:Hid (aV (ag rs) typ (aj rows)=false):=by
     show _=_;rw[<-HP.out,gM _ _ hlt];simp[aV,vH (ag rs) _ j hjl (by simp[qC,hty])]
    go_wp2;go_ret;exact⟨by rw[HN.out];rfl,HBO.out.alloc HBO.out.size _⟩
   cases he:rows[k].e.allow[j].s.toList.isEmpty;case true=>
    have HJ2:Hid (oK (ag rs) rows[k].e.allow (j+1)=true):=by show _=_;rw[pW _ _ _ hjl,HJ.out];simp[qC,hty,he]
    go_wp2;go_roundw;case rel=>exact⟨j+1,by omega,by go_num,HJ2,HB2.out.alloc HB2.out.size _⟩
    simp[intOf]<;>omega
   go_wp2_with fail;refine(ji ad cap rs _ _ _ hlen (HS2.out.below ((V5 _ _).alloc (V4 _) _)) HL.out).mono ?_;rintro e w3 ⟨⟨Yx,ad3,cap3,rfl,hx3,-,-⟩,rfl⟩;by_cases hz:Yx.length=0
   ·have HN:Hid (aV (ag rs) typ (aj rows)=false):=by
     have h1:aM (ag rs) rows[k].e.allow[j].t rows[k].e.allow[j].s=[]:=by unfold aM;rw[<-hx3,Wu.1 hz];rfl
     show _=_;rw[<-HP.out,gM _ _ hlt];simp[aV,vH (ag rs) _ j hjl (by simp[qC,he,h1])]
    rw[hz];clear hx3;go_wp2;go_ret;exact⟨by rw[HN.out];rfl,HBO.out.alloc HBO.out.size _⟩
   have HJ2:Hid (oK (ag rs) rows[k].e.allow (j+1)=true):=by
    have h1:aM (ag rs) rows[k].e.allow[j].t rows[k].e.allow[j].s≠[]:=by
     unfold aM;rw[<-hx3];intro h2;apply hz;rw[<-bf,h2];rfl
    show _=_;rw[pW _ _ _ hjl,HJ.out];simp[qC,hty,h1]
   have hzb:((Yx.length:Int)==0)=false:=by simp;intro h;apply hz;rw[h];rfl
   clear hx3;go_wp2;go_roundw;case rel=>exact⟨j+1,by omega,by go_num,HJ2,HB2.out.alloc HB2.out.size _⟩
   simp[intOf]<;>omega
  have Z0:Hid (qV (ag rs) rows[k].e.allow=true):=by
   have:=HJ.out;unfold oK at this;rwa [WL (by omega)]at this
  by_cases h2:rows[k].e.kind=2
  ·go_wp2_with fail;refine(ji ad cap rs _ _ _ hlen HS2.out HL.out).mono ?_;rintro e w3 ⟨⟨Yx,ad3,cap3,rfl,hx3,-,-⟩,rfl⟩;by_cases hz:Yx.length=0
   ·have HN:Hid (aV (ag rs) typ (aj rows)=false):=by
     have h1:aM (ag rs) typ rows[k].e.name=[]:=by unfold aM;rw[<-hx3,Wu.1 hz];rfl
     show _=_;rw[<-HP.out,gM _ _ hlt];simp[aV,om,h2,h1]
    rw[hz];clear hx3;go_wp2;go_ret;exact⟨by rw[HN.out];rfl,HBO.out⟩
   have XA:Hid (aV (ag rs) typ (aj (rows.drop (k+1)))=aV (ag rs) typ (aj rows)):=by
    have h1:aM (ag rs) typ rows[k].e.name≠[]:=by
     unfold aM;rw[<-hx3];intro h2;apply hz;rw[<-bf,h2];rfl
    show _=_;rw[<-HP.out,gM _ _ hlt];simp[aV,om,h2,h1,Z0.out]
   have hzb:((Yx.length:Int)==0)=false:=by simp;intro h;apply hz;rw[h];rfl
   clear hx3;go_wp2;go_roundw;case rel=>exact⟨k+1,by omega,by go_num,XA,HBO⟩
   simp[intOf]<;>omega
  by_cases h3:rows[k].e.kind=3
  ·go_wp2_with fail;refine(ji ad cap rs _ _ _ hlen HS2.out HL.out).mono ?_;rintro e w3 ⟨⟨Yx,ad3,cap3,rfl,hx3,hs3,hf3⟩,rfl⟩;have hl3:=hf3.light HL.out;go_wp2_with fail;refine(EO ad3 cap3 Yx _ hl3.1 hs3 hl3.2).mono ?_;rintro e w3 ⟨rfl,rfl⟩;have HX:Hid (aj Yx=aM (ag rs) typ rows[k].e.over):=hx3;clear hx3 hs3 hf3 hl3;rw[HX.out];cases hd:bP (aM (ag rs) typ rows[k].e.over);case false=>
    have HN:Hid (aV (ag rs) typ (aj rows)=false):=by
     show _=_;rw[<-HP.out,gM _ _ hlt];simp[aV,om,h3,hd]
    go_wp2;go_ret;exact⟨by rw[HN.out];rfl,HBO.out⟩
   go_wp2_with fail;refine(yf ad cap rs _ _ _ _ hlen HS2.out HL.out).mono ?_;rintro e w4 ⟨⟨ad4,cap4,rfl,-⟩,hb4⟩;have XM:=kv HBO hb4;clear hb4;by_cases hz:(iq (ag rs) typ rows[k].e.over rows[k].e.name).length=0
   ·have HN:Hid (aV (ag rs) typ (aj rows)=false):=by
     show _=_;rw[<-HP.out,gM _ _ hlt];simp[aV,om,h3,Wu.1 hz]
    rw[hz];go_wp2;go_ret;exact⟨by rw[HN.out];rfl,XM.out⟩
   have XA:Hid (aV (ag rs) typ (aj (rows.drop (k+1)))=aV (ag rs) typ (aj rows)):=by
    have h1:iq (ag rs) typ rows[k].e.over rows[k].e.name≠[]:=by intro h;apply hz;rw[h];rfl
    show _=_;rw[<-HP.out,gM _ _ hlt];simp[aV,om,h3,h1,hd,Z0.out]
   have hzb:(((iq (ag rs) typ rows[k].e.over rows[k].e.name).length:Int)==0)=false:=by simp;intro h;apply hz;rw[h];rfl
   go_wp2;go_roundw;case rel=>exact⟨k+1,by omega,by go_num,XA,XM⟩
   simp[intOf]<;>omega
  have XA:Hid (aV (ag rs) typ (aj (rows.drop (k+1)))=aV (ag rs) typ (aj rows)):=by
   show _=_;rw[<-HP.out,gM _ _ hlt];simp[aV,om,h2,h3,Z0.out]
  have hb2:(rows[k].e.kind==2)=false:=by simpa using h2
  have hb3:(rows[k].e.kind==3)=false:=by simpa using h3
  go_wp2;go_roundw;case rel=>exact⟨k+1,by omega,by go_num,XA,HBO⟩
  simp[intOf]<;>omega
 have HN:Hid (aV (ag rs) typ (aj rows)=true):=by show _=_;rw[<-HP.out,Ww (by omega)];rfl
 go_wp2;go_ret;exact⟨by rw[HN.out];rfl,HB.out⟩
open Go.Sort
def cZ(i:Nat)(kind:Int):List Int->Nat->List Bool->List Bool
 | [],_,out=>out
 | x::xs,k,out=>cZ i kind xs (k+1) (out.set x.toNat (out.getD i false || (kind==6&&k==1)))
def iG(es:Q09):Nat->List Bool->List Bool
 | 0,out=>out
 | i+1,out=>iG es i (match es[i]? with|none=>out|some e=>cZ i e.kind e.kids 0 out)
def fE(es:Q09):List Bool:=iG es es.length (List.replicate es.length false)
theorem Gl(i:Nat)(kind:Int)(xs:List Int)(k:Nat)(out:List Bool):(cZ i kind xs k out).length=out.length:=by
 induction xs generalizing k out with
 | nil=>rfl
 | cons x xs ih=>simp[cZ,ih]
def bools(xs:List Bool):List Value:=xs.map Value.bool
theorem Fil.set{w wr:ae}{g n o:Nat}{xs:Q03}(h:Fil w wr g n xs)(v:Value)(ho:o<xs.length)(hn:o<n):Fil w (wr.setCell ⟨g,o,none⟩ v) g n (xs.set o v) where
 below:=h.below.setCell (p:=⟨g,o,none⟩) h.ge v
 ge:=h.ge
 lt:=by simpa using h.lt
 done j hj:=by
  by_cases e:j=o
  ·subst e;obtain⟨u,hu⟩:=Option.isSome_iff_exists.mp (h.there j hn);rw[zF hu];simp
  have hj':j<xs.length:=by simpa using hj
  rw[qI (Ne.symm e),h.done j hj',List.getElem_set_ne (Ne.symm e)]
 there j hj:=by
  by_cases e:j=o
  ·subst e;obtain⟨u,hu⟩:=Option.isSome_iff_exists.mp (h.there j hn);rw[zF hu];rfl
  rw[qI (Ne.symm e)];exact h.there j hj
 free j:=by simpa using h.free j
theorem Fil.drew{w wr:ae}{g n:Nat}{xs:Q03}(h:Fil w wr g n xs):Fil w wr.drew g n xs:=⟨h.below.drew,h.ge,h.lt,h.done,h.there,h.free⟩
theorem Dk{w w0:ae}{n:Nat}{base:Nat}{e:TypeId}{v:Value}(h:w0.ownsRow base e 1 (.slice (some ⟨w.heap.size,0,none⟩) n n) n (madeCells #[v] (n*1)).toList)(hg:w.grownBy w0 none):Fil w w0 w.heap.size n (List.replicate n v) where
 below:=(V5 _ _).grown hg (V4 _) (fun k hk=>by cases hk)
 ge:=V4 _
 lt:=(h.lt w.heap.size rfl).2
 done j hj:=by
  have hj':j<n:=by simpa using hj
  rw[h.cellAt j (by omega),toList_madeCells_one];simp[hj']
 there j hj:=by
  rw[h.cellAt j (by omega),Wm (by rw[h.1];omega)];rfl
 free j:=h.frozenAt j
theorem Ao:(prog.info? 4).map (fun i=>(i.zero,i.size,i.bytes))=some (some (.bool false),1,1):=by kernel_rfl
theorem Ap(es:Q09)(m:Nat)(out:List Bool)(h:m<es.length):iG es (m+1) out=iG es m (cZ m es[m].kind es[m].kids 0 out):=by
 simp[iG,h]
theorem jE(i:Nat)(kind:Int)(ks:List Int)(j:Nat)(out:List Bool)(h:j<ks.length):cZ i kind (ks.drop j) j out=cZ i kind (ks.drop (j+1)) (j+1) (out.set ks[j].toNat (out.getD i false || (kind==6&&j==1))):=by
 rw[WC h];rfl
theorem oL(out:List Bool)(o:Nat)(v:Bool):bools (out.set o v)=(bools out).set o (.bool v):=by simp[bools,List.map_set]
def eH(n:Nat)(ks:List Int):Prop:=∀x∈ks,0<=x/\x<(n:Int)
theorem Mo(ad:Q02)(cap:Nat)(rs:Q08)(w:ae)(hlen:rs.length<=1048576)(hs:jv w ad rs)(hl:∀r∈rs,r.e.light)(hk:∀r∈rs,eH rs.length r.e.kids):
  Calls prog 207 #[.slice ad rs.length cap] w fun e w'=>e=.returned (.slice (some ⟨w.heap.size,0,none⟩) rs.length rs.length)/\Fil w w' w.heap.size rs.length (bools (fE (aj rs))):=by
 have HS:=aC hs;have HL:=aC hl;have HK:=aC hk;clear hs hl hk;obtain⟨inf,hi,hz0,hz1,hz2⟩:=info_parts Ao;go_enter func207,ntmps207;go_wp2_with(at_make;refine wpList_make_full _ rfl _ _ 279 rfl w.heap.size 4 inf (.bool false) 1 underlying279 hi hz0 hz1 .i64 .i64 _ _ rs.length rfl rfl rfl rfl (by rw[hz2];omega) (by unfold maxLen;omega) (V4 _) ?_;intro w0 hown0 Zh);have HF0:Hid (Fil w w0 w.heap.size rs.length (bools (List.replicate rs.length false))):=by
  have:=Dk (v:=.bool false) hown0 Zh;show Fil _ _ _ _ _;simpa[bools] using this
 clear hown0 Zh hi hz0 hz1 hz2;go_loopw[4] (fun i wr=>∃(m:Nat) (out:List Bool),m<=rs.length/\i=.int .i64 ((m:Int)-1)/\out.length=rs.length/\Hid (iG (aj rs) m out=fE (aj rs))/\Hid (Fil w wr w.heap.size rs.length (bools out))) (fun i _=>(intOf i+1).toNat);case atStart=>exact⟨rs.length,List.replicate rs.length false,V4 _,by go_num,by simp,(by show _=_;unfold fE;rw[bf]),HF0⟩
 obtain⟨m,out,hm,rfl,hol,HN,HF⟩:=hrel;by_cases hm0:0<m
 ·obtain⟨m,rfl⟩:∃m',m=m'+1:=⟨m-1,by omega⟩;have hmi:(((m+1:Nat):Int)-1)=(m:Int):=by omega
  rw[hmi];have hlt:m<rs.length:=by omega
  rcases HS.out.below HF.out.below with rfl|⟨b,off,rfl,hb,hr,hok⟩
  ·simp at hlt
  obtain⟨t0,t1,t2,t3,t4⟩:=hr m hlt;have Yk:Hid (rs[m].ok _):=hok rs[m] (VZ hlt);have lg:=(HL.out rs[m] (VZ hlt)).2;have HKI:Hid (eH rs.length rs[m].e.kids):=HK.out rs[m] (VZ hlt);have hk1:=bC m;have hk2:(m:Int)<(rs.length:Int):=by omega
  have hbw:b<w.heap.size:=by
   rcases HS.out with h|⟨b',off',h1,h2,-⟩
   ·rw[h]at hlt;simp at hlt
   injection h1 with h1;injection h1 with h1;omega
  have HR:Hid (yQ wr b (off+m*5) rs[m]):=hr m hlt;have HNX:Hid (iG (aj rs) m (cZ m rs[m].e.kind rs[m].e.kids 0 out)=fE (aj rs)):=by
   show _=_;rw[<-HN.out,Ap _ _ _ (by rw[bf];exact hlt)];simp[aj]
  clear hr hok t0 t1 t2 t3 t4;go_wp2_with fail;go_loopw[5] (fun i w2=>∃(j:Nat) (Xy:List Bool),j<=rs[m].e.kids.length/\i=.int .i64 j/\Xy.length=rs.length/\Hid (cZ m rs[m].e.kind (rs[m].e.kids.drop j) j Xy=cZ m rs[m].e.kind rs[m].e.kids 0 out)/\Hid (Fil w w2 w.heap.size rs.length (bools Xy))) (fun i _=>rs[m].e.kids.length-(intOf i).toNat);case atStart=>exact⟨0,out,Wd _,rfl,hol,rfl,HF⟩
  obtain⟨j,Xy,hj,rfl,ho2,HJ,Yd⟩:=hrel;have hE2:jv wr _ rs:=HS.out.below Yd.out.below;have ht:yQ wr b (off+m*5) rs[m]:=by
   rcases hE2 with h|⟨b',off',h1,h2,h3,-⟩
   ·exact absurd hlt (by rw[h];simp)
   injection h1 with h1;injection h1 with h1 h1';subst h1;subst h1';exact h3 m hlt
  obtain⟨t0,t1,t2,t3,t4⟩:=ht;by_cases hjl:j<rs[m].e.kids.length
  ·have hK2:wS wr rs[m].adK rs[m].e.kids:=(hE2.mem (VZ hlt)).2;rcases hK2 with hnil|⟨ba,Zf,XZ,hba,hra⟩
   ·rw[hnil]at hjl;simp at hjl
   rw[XZ]at t4;have q0:=hra j hjl;have hj1:=bC j;have hj2:(j:Int)<(rs[m].e.kids.length:Int):=by omega
   obtain⟨x0,x1⟩:=HKI.out _ (VZ hjl);obtain⟨x,hx⟩:∃x:Nat,rs[m].e.kids[j]=(x:Int):=⟨rs[m].e.kids[j].toNat,by omega⟩;rw[hx]at q0 x0 x1;have c0:=Yd.out.done m (by simp[bools];omega);have fz:=Yd.out.free;obtain⟨v0,u0⟩:=Option.isSome_iff_exists.mp (Yd.out.there x (by omega));have hbr:b<wr.heap.size:=VY hbw Yd.out.below.size;obtain⟨bo,hbo⟩:∃bo,bo=(bools Xy)[m]'(by simp[bools];omega):=⟨_,rfl⟩;rw[<-hbo]at c0;clear hra XZ hE2 t1 t2 t3;have hm2:m<Xy.length:=by omega
   have hbo1:bo=.bool Xy[m]:=by rw[hbo];simp[bools]
   have hbo':Xy[m]?.getD false=Xy[m]:=by simp[hm2]
   rw[hbo1]at c0;clear hbo hbo1;have HJ3:Hid (∀bv,(Xy[m] || (rs[m].e.kind==6&&j==1))=bv->cZ m rs[m].e.kind (rs[m].e.kids.drop (j+1)) (j+1) (Xy.set x bv)=cZ m rs[m].e.kind rs[m].e.kids 0 out):=by
    rintro _ rfl;rw[<-HJ.out,jE _ _ _ _ _ hjl,hx];simp[hbo']
   have Zd:Hid (∀bv d os,Fil w ((grow (redrawn wr d) os).setCell ⟨w.heap.size,x,none⟩ (.bool bv)) w.heap.size rs.length (bools (Xy.set x bv))):=by
    intro bv d os;rw[oL];exact(Yd.out.later (below_regrown wr d os)).set _ (by simp[bools];omega) (by omega)
   go_wp2_with fail;replace fz:=fun d os=>(Yd.out.later (below_regrown wr d os)).free;replace t0:=cell_regrown t0;replace t4:=cell_regrown t4;replace q0:=cell_regrown q0;replace c0:=cell_regrown c0;replace u0:=cell_regrown u0;clear hbo';cases hb0:Xy[m]<;>cases hkb:(rs[m].e.kind==6)<;>cases hjb:((j:Int)==1)
   all_goals
    have hjn:(j==1)=_:=(by rw[Wy];simp;omega:(j==1)=((j:Int)==1)).trans hjb;rw[hb0]at c0;have HJ4:=ol (HJ3.out _ (by rw[hb0,hkb,hjn]));refine qE 26 1 (by kernel_rfl) (by rfl) (by kernel_rfl) ?_;simp only[List.take_succ_cons,List.take_zero]
    repeat(go_big_quiet_step (fail))
    refine wpQuiet_nil ?_;rintro _ ⟨⟨dq,osq⟩,rfl⟩;refine wpOp_step rfl (fun K hK=>?_);replace hK:=ol hK;go_simp;refine hK.out _ _ ?_;clear hK;unfold oG;go_wp2;go_roundw;case rel=>exact⟨j+1,_,by omega,by go_num,by simp[ho2],HJ4,Zd.out _ _ _⟩
    simp[intOf]<;>omega
  have Zr:Hid (iG (aj rs) m Xy=fE (aj rs)):=by
   show _=_;rw[<-HNX.out,<-HJ.out,Ww (by omega)];rfl
  go_wp2;go_roundw;case rel=>exact⟨m,Xy,by omega,by go_num,ho2,Zr,Yd⟩
  simp[intOf]<;>omega
 obtain rfl:m=0:=by omega
 have ZC:Hid (Fil w wr w.heap.size rs.length (bools (fE (aj rs)))):=by
  show Fil _ _ _ _ _;rw[<-HN.out];exact HF.out
 go_wp2;go_ret;exact⟨rfl,ZC.out⟩
structure St where
 typ:ByteArray
 rel:ByteArray
 n:Int
def U7(w:World)(b off:Nat)(s:St):Prop:=w.cell? ⟨b,off,none⟩=some (.string s.typ)/\w.cell? ⟨b,off+1,none⟩=some (.string s.rel)/\w.cell? ⟨b,off+2,none⟩=some (.int .i64 s.n)
def Jm(w:World)(ad:Q02)(xs:List St):Prop:=xs=[] \/ ∃b off,ad=some ⟨b,off,none⟩/\b<w.heap.size/\∀(i:Nat) (h:i<xs.length),U7 w b (off+i*3) xs[i]
theorem Jm.below{w w':ae}{ad:Q02}{xs:List St}(h:Jm w ad xs)(hB:af w w'):Jm w' ad xs:=by
 rcases h with h|⟨b,off,e,hb,hr⟩
 ·exact .inl h
 refine .inr ⟨b,off,e,VY hb hB.size,fun i hi=>?_⟩;obtain⟨h0,h1,h2⟩:=hr i hi;exact⟨aJ hB hb h0,aJ hB hb h1,aJ hB hb h2⟩
def Aq(s:St)(typ rel:ByteArray):Bool:=(s.typ.toList==typ.toList)&&(s.rel.toList==rel.toList)
def gY(typ rel:ByteArray):List St->Nat->Int
 | [],_=>-1
 | s::xs,k=>if Aq s typ rel then (k:Int) else gY typ rel xs (k+1)
theorem qW(typ rel:bZ)(xs:List St)(k:Nat)(h:k<xs.length):gY typ rel (xs.drop k) k=if Aq xs[k] typ rel then (k:Int) else gY typ rel (xs.drop (k+1)) (k+1):=by
 rw[WC h];rfl
theorem Ph(ad:Q02)(cap:Nat)(xs:List St)(typ rel:bZ)(w:ae)(hlen:xs.length<=1048576)(hs:Jm w ad xs):
  Calls prog 169 #[.slice ad xs.length cap,.string typ,.string rel] w fun e w'=>e=.returned (.int .i64 (gY typ rel xs 0))/\w'=w:=by
 go_enter func169,ntmps169;go_wp2;go_loopw[7] (fun i wr=>∃k:Nat,k<=xs.length/\i=.int .i64 k/\Hid (gY typ rel (xs.drop k) k=gY typ rel xs 0)/\wr=w) (fun i _=>xs.length-(intOf i).toNat);case atStart=>exact⟨0,Wd _,rfl,rfl,rfl⟩
 obtain⟨k,hk,rfl,HP,rfl⟩:=hrel;by_cases hlt:k<xs.length
 ·rcases hs with rfl|⟨b,off,rfl,hb,hr⟩
  ·simp at hlt
  obtain⟨t0,t1,t2⟩:=hr k hlt;have hk1:=bC k;have hk2:(k:Int)<(xs.length:Int):=by omega
  clear hr;cases hq:(xs[k].typ.toList==typ.toList);case true=>
   cases hp:(xs[k].rel.toList==rel.toList);case true=>
    have HN:Hid (gY typ rel xs 0=(k:Int)):=by show _=_;rw[<-HP.out,qW _ _ _ _ hlt];simp[Aq,hq,hp]
    go_wp2;go_ret;exact⟨by rw[HN.out];rfl,rfl⟩
   have XA:Hid (gY typ rel (xs.drop (k+1)) (k+1)=gY typ rel xs 0):=by show _=_;rw[<-HP.out,qW _ _ _ _ hlt];simp[Aq,hq,hp]
   go_wp2;go_roundw;case rel=>exact⟨k+1,by omega,by go_num,XA,by first|rfl|trivial⟩
   simp[intOf]<;>omega
  have XA:Hid (gY typ rel (xs.drop (k+1)) (k+1)=gY typ rel xs 0):=by show _=_;rw[<-HP.out,qW _ _ _ _ hlt];simp[Aq,hq]
  go_wp2;go_roundw;case rel=>exact⟨k+1,by omega,by go_num,XA,by first|rfl|trivial⟩
  simp[intOf]<;>omega
 have HN:Hid (gY typ rel xs 0=-1):=by show _=_;rw[<-HP.out,Ww (by omega)];rfl
 go_wp2;go_ret;exact⟨by rw[HN.out];rfl,rfl⟩
structure Dp where
 typ:ByteArray
 rel:ByteArray
 neg:Bool
def Dp.cells(d:Dp):List Value:=[.string d.typ,.string d.rel,.bool d.neg]
def eu:List Dp->List Value
 | []=>[]
 | d::ds=>d.cells++eu ds
theorem EP(xs ys:List Dp):eu (xs++ys)=eu xs++eu ys:=by
 induction xs with
 | nil=>rfl
 | cons d ds ih=>simp[eu,ih]
theorem uC(xs:List Dp)(d:Dp):eu (xs++[d])=eu xs++d.cells:=by rw[EP];simp[eu]
def df(neg:Bool):List Al->List Dp
 | []=>[]
 | a::xs=>if a.s.toList.isEmpty then df neg xs else ⟨a.t,a.s,neg⟩::df neg xs
def oM(ts:Q0b)(typ:ByteArray)(neg:Bool)(e:Ex):List Dp :=
 if e.kind=2 then [⟨typ,e.name,neg⟩] else if e.kind=3 then (iq ts typ e.over e.name).map fun g=>⟨g,e.name,neg⟩ else []
def lq(ts:Q0b)(typ:ByteArray)(es:Q09)(k:Nat):List Dp :=
 match es[k]? with
 | none=>[]
 | some e=>df ((fE es).getD k false) e.allow++oM ts typ ((fE es).getD k false) e
def aS(ts:Q0b)(typ:ByteArray)(es:Q09):Nat->List Dp
 | 0=>[]
 | k+1=>aS ts typ es k++lq ts typ es k
def qX(ts:Q0b)(typ:ByteArray)(es:Q09):List Dp:=aS ts typ es es.length
theorem vI(neg:Bool)(xs ys:Q0a):df neg (xs++ys)=df neg xs++df neg ys:=by
 induction xs with
 | nil=>rfl
 | cons a xs ih=>simp only[WU,df,ih];split<;>simp
theorem Pi(neg:Bool)(xs:Q0a)(k:Nat)(h:k<xs.length)(he:xs[k].s.toList.isEmpty=true):df neg (xs.take (k+1))=df neg (xs.take k):=by
 rw[V8 h,vI];simp[df]at he ⊢;simp[he]
theorem Mq(neg:Bool)(xs:Q0a)(k:Nat)(h:k<xs.length)(he:xs[k].s.toList.isEmpty=false):df neg (xs.take (k+1))=df neg (xs.take k)++[⟨xs[k].t,xs[k].s,neg⟩]:=by
 rw[V8 h,vI];simp[df,he]
theorem Dl(neg:Bool)(xs:Q0a):(df neg xs).length<=xs.length:=by
 induction xs with
 | nil=>simp[df]
 | cons a xs ih=>simp only[df];split<;>simp<;>omega
theorem Pj:(prog.info? 266).map (fun i=>(i.zero,i.size,i.bytes))=some (some (.agg #[.string ⟨#[]⟩,.string ⟨#[]⟩,.bool false]),3,40):=by kernel_rfl
theorem wZ{a b:ByteArray}(h:a.toList=b.toList):a=b:=by
 rw[Go.ByteArray.toList_eq,Go.ByteArray.toList_eq]at h;cases a with|mk x=>cases b with|mk y =>
 congr;exact Array.ext' h
theorem fw{a b:ByteArray}:(a.toList==b.toList)=true↔a=b:=⟨fun h=>wZ (by simpa using h),fun h=>by simp[h]⟩
def jT(t:Ty):List (ByteArray×ByteArray):=t.rels.map fun r=>(t.name,r.name)
def au(ts:Q0b):List (ByteArray×ByteArray):=ts.flatMap jT
def stepOf(d:Dp):Int:=if d.neg then 1 else 0
def iw(ts:Q0b)(k:Q01):List Dp:=qX ts k.1 (aM ts k.1 k.2)
structure Sol(ts:Q0b)(f:Q00):Prop where
 pos:∀k,0<=f k
 up:∀k∈au ts,∀d∈iw ts k,f (d.typ,d.rel)+stepOf d<=f k
def Found(ts:Q0b):Prop:=∀k∈au ts,∀d∈iw ts k,(d.typ,d.rel)∈au ts
theorem yg(vs:List Int)(x y:Int)(h:x<=y):vs.countP (fun v=>decide (v<x))<=vs.countP (fun v=>decide (v<y)) :=
 List.countP_mono_left fun v _ hv=>by simp at hv⊢;omega
theorem Ms(vs:List Int)(x y:Int)(h:x+1<=y)(hx:x∈vs):vs.countP (fun v=>decide (v<x))+1<=vs.countP (fun v=>decide (v<y)):=by
 induction vs with
 | nil=>cases hx
 | cons v vs ih =>
  simp only[List.countP_cons];rcases Ws.1 hx with rfl|hm
  ·have:=yg vs x y (by omega);have h1:decide (x<x)=false:=by simp
   have h2:decide (x<y)=true:=by simp;omega
   simp only[h1,h2];simp;omega
  have:=ih hm;by_cases h1:v<x
  ·have h2:v<y:=by omega
   simp[h1,h2];omega
  simp only[h1];simp;omega
theorem Jn(vs:List Int)(x:Int)(hx:x∈vs):vs.countP (fun v=>decide (v<x))+1<=vs.length:=by
 induction vs with
 | nil=>cases hx
 | cons v vs ih =>
  simp only[List.countP_cons,WH];rcases Ws.1 hx with rfl|hm
  ·have:=List.countP_le_length (p:=fun v=>decide (v<x)) (l:=vs);have h1:decide (x<x)=false:=by simp
   simp only[h1];simp;omega
  have:=ih hm;split<;>omega
theorem Sol.few{ts:Q0b}{f:Q00}(h:Sol ts f)(hF:Found ts):∃g,Sol ts g/\∀k∈au ts,g k+1<=(au ts).length:=by
 refine⟨fun k=>((((au ts).map f).countP (fun v=>decide (v<f k)):Nat):Int),⟨fun k=>by omega,fun k hk d hd=>?_⟩,fun k hk=>?_⟩
 ·have h1:=h.up k hk d hd;have h2:f (d.typ,d.rel)∈(au ts).map f:=WG (hF k hk d hd);unfold stepOf at h1⊢;split at h1
  ·rename_i hn;have:=Ms ((au ts).map f) _ _ h1 h2;simp only[hn,if_true];omega
  rename_i hn;have:=yg ((au ts).map f) _ _ (show f (d.typ,d.rel)<=f k by omega);have e0:(if d.neg=true then (1:Int) else 0)=0:=if_neg hn;rw[e0];omega
 have:=Jn ((au ts).map f) (f k) (WG hk);simp at this⊢;omega
def qY(ts:Q0b)(k:Q01)(n:Int):Prop:=∀f,Sol ts f->n<=f k
theorem Pk{ts:Q0b}(hF:Found ts){k:Q01}(hk:k∈au ts){n:Int}(hl:qY ts k n)(hn:((au ts).length:Int)<=n):¬ ∃f,Sol ts f:=by
 rintro⟨f,hf⟩;obtain⟨g,hg,hb⟩:=hf.few hF;have:=hl g hg;have:=hb k hk;omega
theorem qY.step{ts:Q0b}{k:Q01}(hk:k∈au ts){d:Dp}(hd:d∈iw ts k){n:Int}(hl:qY ts (d.typ,d.rel) n):qY ts k (n+stepOf d):=fun f hf=>by
 have h1:=hl f hf;have h2:=hf.up k hk d hd;omega
theorem qY.zero(ts:Q0b)(k:Q01):qY ts k 0:=fun _ hf=>hf.pos k
structure Least(ts:Q0b)(f:Q00):Prop where
 sol:Sol ts f
 low:∀k∈au ts,qY ts k (f k)
theorem Least.same{ts:Q0b}{f g:Q00}(hf:Least ts f)(hg:Least ts g)(k:Q01)(hk:k∈au ts):f k=g k:=by
 have h1:=hf.low k hk g hg.sol;have h2:=hg.low k hk f hf.sol;omega
def St.key(s:St):ByteArray×ByteArray:=(s.typ,s.rel)
def iK(out:List St):List (ByteArray×ByteArray):=out.map St.key
theorem qZ{s:St}{k:Q01}:Aq s k.1 k.2=true↔s.key=k:=by
 unfold Aq St.key;rw[V9,fw,fw];constructor
 ·rintro⟨h1,h2⟩;rw[h1,h2]
 rintro rfl;exact⟨rfl,rfl⟩
def fO(out:List St)(k:Q01):Int :=
 match out with
 | []=>0
 | s::xs=>if Aq s k.1 k.2 then s.n else fO xs k
theorem pX{k:Q01}:∀(out:List St) (j:Nat),k∈iK out->∃i:Nat,∃h:i<out.length,gY k.1 k.2 out j=((j+i:Nat):Int)/\out[i].key=k/\out[i].n=fO out k
 | [],_,h=>by cases h
 | s::xs,j,h=>by
  by_cases hs:Aq s k.1 k.2=true
  ·exact⟨0,by simp,by simp[gY,hs],qZ.1 hs,by simp[fO,hs]⟩
  have hm:k∈iK xs:=by
   rcases Ws.1 h with e|hm
   ·exact absurd (qZ.2 e.symm) hs
   exact hm
  obtain⟨i,hi,h1,h2,h3⟩:=pX xs (j+1) hm;refine⟨i+1,by simp;omega,?_,by simpa using h2,by simpa[fO,hs] using h3⟩;simp only[gY,hs];simp only[Bool.false_eq_true,if_false];rw[h1];congr 1;omega
theorem Dm{k:Q01}(out:List St)(h:k∈iK out):∃s∈out,s.key=k/\s.n=fO out k:=by
 obtain⟨i,hi,-,h2,h3⟩:=pX out 0 h;exact⟨out[i],VZ hi,h2,h3⟩
theorem Pm{k:Q01}(out:List St)(h:k ∉ iK out):fO out k=0:=by
 induction out with
 | nil=>rfl
 | cons s xs ih =>
  have h1:¬Aq s k.1 k.2=true:=fun e=>h (by rw[qZ]at e;simp[iK,e]);simp only[fO,h1];simp only[Bool.false_eq_true,if_false];exact ih fun hm=>h (by simp only[iK,Xp,Ws];exact .inr hm)
def nD:List St->Int
 | []=>0
 | s::xs=>s.n+nD xs
theorem Pn(out:List St)(i:Nat)(h:i<out.length)(n:Int):nD (out.set i ⟨out[i].typ,out[i].rel,n⟩)=nD out-out[i].n+n:=by
 induction out generalizing i with
 | nil=>simp at h
 | cons s xs ih =>
  cases i with
  | zero=>simp[nD];omega
  | succ i=>simp only[List.set_cons_succ,nD,List.getElem_cons_succ];rw[ih i (by simpa using h)];omega
theorem Mt(out:List St)(i:Nat)(h:i<out.length)(n:Int):iK (out.set i ⟨out[i].typ,out[i].rel,n⟩)=iK out:=by
 unfold iK;rw[List.map_set];show(List.map St.key out).set i (out[i].key)=_;have:out[i].key=(List.map St.key out)[i]'(by simpa using h):=by simp
 rw[this,List.set_getElem_self]
structure Round(ts:Q0b)(out:List St):Prop where
 keys:iK out=au ts
 pos:∀s∈out,0<=s.n
 low:∀s∈out,qY ts s.key s.n
def RV(ts:Q0b)(out:List St)(s:St)(k:Nat):Prop:=∀d∈(iw ts s.key).take k,fO out (d.typ,d.rel)+stepOf d<=s.n
theorem Round.mem{ts:Q0b}{out:List St}(h:Round ts out){s:St}(hs:s∈out):s.key∈au ts:=by rw[<-h.keys];exact WG hs
theorem Round.at{ts:Q0b}{out:List St}(h:Round ts out){k:Q01}(hk:k∈au ts):0<=fO out k/\qY ts k (fO out k):=by
 obtain⟨s,hs,e,en⟩:=Dm out (by rw[h.keys];exact hk);rw[<-en,<-e];exact⟨h.pos s hs,h.low s hs⟩
theorem Round.set{ts:Q0b}{out:List St}(h:Round ts out)(hF:Found ts){i:Nat}(hi:i<out.length){d:Dp}(hd:d∈iw ts out[i].key):Round ts (out.set i ⟨out[i].typ,out[i].rel,fO out (d.typ,d.rel)+stepOf d⟩):=by
 have hk:out[i].key∈au ts:=h.mem (VZ hi);have hdk:=hF _ hk d hd;obtain⟨h0,hl⟩:=h.at hdk;have hs0:0<=stepOf d:=by unfold stepOf;split<;>omega
 refine⟨(Mt out i hi _).trans h.keys,fun s hs=>?_,fun s hs=>?_⟩
 ·rcases List.mem_or_eq_of_mem_set hs with hs|rfl
  ·exact h.pos s hs
  show 0<=fO out (d.typ,d.rel)+stepOf d;omega
 rcases List.mem_or_eq_of_mem_set hs with hs|rfl
 ·exact h.low s hs
 exact hl.step hk hd
theorem Round.done{ts:Q0b}{out:List St}(h:Round ts out)(hs:∀s∈out,RV ts out s (iw ts s.key).length):Least ts (fO out) where
 sol:=⟨fun k=>by
   by_cases hk:k∈au ts
   ·exact(h.at hk).1
   ·rw[Pm out (by rw[h.keys];exact hk)];exact Int.le_refl _,fun k hk d hd=>by
   obtain⟨s,hm,e,en⟩:=Dm out (by rw[h.keys];exact hk);have:=hs s hm d (by rw[Wo,e];exact hd);rw[<-en];exact this⟩
 low k hk:=(h.at hk).2
def jk(a b:ByteArray):Bool:=Op.bytesLess a.toList b.toList
def mP(rs:List Rl)(j:Nat):Bool :=
 match rs[j]? with
 | none=>true
 | some r=>aR r.name&&(match j with|0=>true|i+1=>(rs[i]?.map fun p=>jk p.name r.name).getD true)&&aP r.expr
def dE(rs:List Rl):Nat->Bool
 | 0=>true
 | k+1=>dE rs k&&mP rs k
def kP(ts:Q0b)(j:Nat):Bool :=
 match ts[j]? with
 | none=>true
 | some t=>aR t.name&&(match j with|0=>true|i+1=>(ts[i]?.map fun p=>jk p.name t.name).getD true)&&decide (t.rels.length<=6)&&dE t.rels t.rels.length
def iN(ts:Q0b):Nat->Bool
 | 0=>true
 | k+1=>iN ts k&&kP ts k
theorem uD(rs:List Rl)(k:Nat)(hb:mP rs k=false):∀n,k<n->dE rs n=false
 | 0,hn=>by omega
 | n+1,hn=>by
  by_cases e:n=k
  ·subst e;simp[dE,hb]
  simp[dE,uD rs k hb n (by omega)]
theorem uE(ts:Q0b)(k:Nat)(hb:kP ts k=false):∀n,k<n->iN ts n=false
 | 0,hn=>by omega
 | n+1,hn=>by
  by_cases e:n=k
  ·subst e;simp[iN,hb]
  simp[iN,uE ts k hb n (by omega)]
theorem pY{rs:List Rl}:∀{n:Nat},dE rs n=true->∀j,j<n->mP rs j=true
 | 0,_,j,hj=>by omega
 | n+1,h,j,hj=>by
  simp only[dE,V9]at h;by_cases e:j=n
  ·subst e;exact h.2
  exact pY h.1 j (by omega)
theorem p8{ts:Q0b}:∀{n:Nat},iN ts n=true->∀j,j<n->kP ts j=true
 | 0,_,j,hj=>by omega
 | n+1,h,j,hj=>by
  simp only[iN,V9]at h;by_cases e:j=n
  ·subst e;exact h.2
  exact p8 h.1 j (by omega)
def bF(ts:Q0b):Bool:=decide (ts.length<=6)&&iN ts ts.length
def rf(ts:Q0b)(t:Ty):Bool:=t.rels.all fun r=>aV ts t.name r.expr
def kC(ts:Q0b):Bool:=ts.all (rf ts)
def bQ(ts:Q0b):Prop:=bF ts=true/\kC ts=true/\∃f,Sol ts f
theorem Mv{rs:List Rl}{n:ByteArray}{es:Q09}(h:jS rs n=some es):∃r∈rs,r.name=n/\r.expr=es:=by
 induction rs with
 | nil=>simp[jS]at h
 | cons r rs ih =>
  simp only[jS]at h;split at h
  ·rename_i hn;injection h with h;exact⟨r,by simp,fw.1 hn,h⟩
  obtain⟨q,hq,e⟩:=ih h;exact⟨q,by simp[hq],e⟩
theorem Ar{ts:Q0b}{ty n:ByteArray}{es:Q09}(h:gu ts ty n=some es):∃t∈ts,∃r∈t.rels,t.name=ty/\r.name=n/\r.expr=es:=by
 induction ts with
 | nil=>simp[gu]at h
 | cons t ts ih =>
  simp only[gu]at h;split at h
  ·rename_i hn;rcases Option.or_eq_some_iff.1 h with h|⟨-,h⟩
   ·obtain⟨r,hr,e⟩:=Mv h;exact⟨t,by simp,r,hr,fw.1 hn,e⟩
   obtain⟨t',ht,e⟩:=ih h;exact⟨t',by simp[ht],e⟩
  obtain⟨t',ht,e⟩:=ih h;exact⟨t',by simp[ht],e⟩
theorem rq{ts:Q0b}{k:Q01}:k∈au ts ↔ ∃t∈ts,∃r∈t.rels,k=(t.name,r.name):=by
 simp only[au,jT,Wx,Wp];constructor
 ·rintro⟨t,ht,r,hr,e⟩;exact⟨t,ht,r,hr,e.symm⟩
 rintro⟨t,ht,r,hr,e⟩;exact⟨t,ht,r,hr,e.symm⟩
theorem xe{ts:Q0b}{ty n:ByteArray}(h:(aM ts ty n).isEmpty=false):(ty,n)∈au ts:=by
 unfold aM at h;cases e:gu ts ty n with
 | none=>rw[e]at h;simp at h
 | some es =>
  obtain⟨t,ht,r,hr,h1,h2,-⟩:=Ar e;exact rq.2 ⟨t,ht,r,hr,by rw[h1,h2]⟩
theorem Um{ts:Q0b}{rel:ByteArray}{xs:Q0a}{g:ByteArray}(h:g∈gl ts rel xs):(aM ts g rel).isEmpty=false:=by
 induction xs with
 | nil=>simp[gl]at h
 | cons a xs ih =>
  simp only[gl]at h;split at h
  ·exact ih h
  rename_i hn;rcases Ws.1 h with rfl|h
  ·simpa using hn
  exact ih h
theorem Mw{neg:Bool}{xs:Q0a}{d:Dp}(h:d∈df neg xs):∃a∈xs,a.s.toList.isEmpty=false/\d.typ=a.t/\d.rel=a.s:=by
 induction xs with
 | nil=>simp[df]at h
 | cons a xs ih =>
  simp only[df]at h;split at h
  ·obtain⟨b,hb,e⟩:=ih h;exact⟨b,by simp[hb],e⟩
  rename_i hn;rcases Ws.1 h with rfl|h
  ·exact⟨a,by simp,by simpa using hn,rfl,rfl⟩
  obtain⟨b,hb,e⟩:=ih h;exact⟨b,by simp[hb],e⟩
theorem uF{ts:Q0b}{typ:ByteArray}{es:Q09}{d:Dp}:∀{k:Nat},d∈aS ts typ es k->∃i,i<k/\d∈lq ts typ es i
 | 0,h=>by simp[aS]at h
 | k+1,h=>by
  simp only[aS]at h;rcases Wj.1 h with h|h
  ·obtain⟨i,hi,e⟩:=uF h;exact⟨i,by omega,e⟩
  exact⟨k,by omega,h⟩
theorem Dn{ts:Q0b}{typ:ByteArray}{es:Q09}(h:aV ts typ es=true):∀e∈es,qV ts e.allow=true/\om ts typ e=true:=by
 induction es with
 | nil=>intro e he;cases he
 | cons e es ih =>
  simp only[aV]at h;split at h
  ·rename_i hn;rw[V9]at hn;intro q hq;rcases Ws.1 hq with rfl|hq
   ·exact hn
   exact ih h q hq
  cases h
theorem mQ{ts:Q0b}(h:kC ts=true):Found ts:=by
 intro k hk d hd;unfold iw qX at hd;have hne:(aM ts k.1 k.2).length≠0:=by
  intro e;rw[e]at hd;simp[aS]at hd
 obtain⟨es,hes⟩:∃es,gu ts k.1 k.2=some es:=by
  cases e:gu ts k.1 k.2 with
  | none=>unfold aM at hne;rw[e]at hne;simp at hne
  | some es=>exact⟨es,rfl⟩
 have ero:aM ts k.1 k.2=es:=by unfold aM;rw[hes];rfl
 rw[ero]at hd;obtain⟨t,ht,r,hr,h1,h2,h3⟩:=Ar hes;have hr1:aV ts k.1 es=true:=by
  unfold kC at h;rw[Wq]at h;have:=h t ht;unfold rf at this;rw[Wq]at this;have:=this r hr;rw[h1,h3]at this;exact this
 obtain⟨i,hi,hdi⟩:=uF hd;unfold lq at hdi;split at hdi
 ·cases hdi
 rename_i e he;obtain⟨ra,rn⟩:=Dn hr1 e (Xk he);rcases Wj.1 hdi with hdi|hdi
 ·obtain⟨a,ha,hs,e1,e2⟩:=Mw hdi;unfold qV at ra;rw[Wq]at ra;have:=ra a ha;unfold qC at this;rw[hs,Bool.false_or,V9]at this;rw[e1,e2];exact xe (by simpa using this.2)
 unfold oM at hdi;unfold om at rn;split at hdi
 ·rename_i h2;rw[if_pos h2]at rn;simp at hdi;subst hdi;exact xe (by simpa using rn)
 split at hdi
 ·obtain⟨g,hg,rfl⟩:=Wp.1 hdi;exact xe (Um hg)
 cases hdi
theorem oN{es:Q09}(h:aP es=true):1<=es.length/\es.length<=15:=by
 simp only[aP,V9,Wn]at h;exact⟨h.1.1.1.1.1,h.1.1.1.1.2⟩
theorem Mx{es:Q09}(h:aP es=true)(i:Nat)(hi:i<es.length):eH es.length es[i].kids:=by
 simp only[aP,V9,Wn]at h;have h1:=h.1.1.2;unfold je at h1;rw[Wq]at h1;have h2:=h1 i (by simpa using hi);unfold lh mr at h2;rw[Wm hi]at h2;simp only[Option.map_some,WO,Wq,V9,Wn]at h2;intro x hx;have:=h2 x hx;omega
theorem bR{rs:Q06}(h:bF (ag rs)=true):rs.length<=6/\(∀r∈rs,r.rows.length<=6)/\∀r∈rs,∀q∈r.rows,aP (aj q.rows)=true/\q.rows.length<=15/\∀e∈q.rows,eH q.rows.length e.e.kids:=by
 simp only[bF,V9,Wn]at h;rw[lN]at h;have hT:∀r∈rs,r.rows.length<=6/\dE (eG r.rows) r.rows.length=true:=by
  intro r hr;obtain⟨j,hj,rfl⟩:=WN.1 hr;have h1:=p8 h.2 j hj;unfold kP at h1;have e:(ag rs)[j]?=some rs[j].p:=by simp[ag,hj]
  rw[e]at h1;simp only[V9,Wn]at h1;have e2:rs[j].p.rels.length=rs[j].rows.length:=by simp[TR.p,eG]
  rw[e2]at h1;exact⟨h1.1.2,h1.2⟩
 refine⟨h.1,fun r hr=>(hT r hr).1,fun r hr q hq=>?_⟩;obtain⟨j,hj,rfl⟩:=WN.1 hq;have h1:=pY (hT r hr).2 j hj;unfold mP at h1;have e:(eG r.rows)[j]?=some r.rows[j].p:=by simp[eG,hj]
 rw[e]at h1;simp only[V9]at h1;have h2:aP (aj r.rows[j].rows)=true:=h1.2;have h3:=oN h2;rw[bf]at h3;refine⟨h2,h3.2,fun e he=>?_⟩;obtain⟨i,hi,rfl⟩:=WN.1 he;have:=Mx h2 i (by rw[bf];exact hi);have e1:(aj r.rows[j].rows)[i]'(by rw[bf];exact hi)=r.rows[j].rows[i].e:=by simp[aj]
 rw[e1]at this;simpa[aj] using this
def assigns(n:Nat):List (ByteArray×ByteArray)->List (ByteArray×ByteArray->Int)
 | []=>[fun _=>0]
 | k::ks=>(assigns n ks).flatMap fun f=>(List.range n).map fun v=>fun y=>if y=k then ((v:Nat):Int) else f y
theorem yh{n:Nat}:∀{ks:List (ByteArray×ByteArray)} {f:Q00},f∈assigns n ks->∀k,0<=f k
 | [],f,h,k=>by simp only[assigns,Wl]at h;rw[h];exact Int.le_refl _
 | x::ks,f,h,k=>by
  simp only[assigns,Wx,Wp]at h;obtain⟨g,hg,v,-,rfl⟩:=h;show 0<=(if k=x then ((v:Nat):Int) else g k);split
  ·omega
  exact yh hg k
theorem yj{n:Nat}(g:Q00):∀(ks:List (ByteArray×ByteArray)),(∀k∈ks,0<=g k/\g k<n)->∃f∈assigns n ks,∀k∈ks,f k=g k
 | [],_=>⟨fun _=>0,by simp[assigns],fun k hk=>by cases hk⟩
 | x::ks,h=>by
  obtain⟨f,hf,hfg⟩:=yj g ks fun k hk=>h k (WT _ hk);obtain⟨h0,h1⟩:=h x (Xf ..);refine⟨fun y=>if y=x then (((g x).toNat:Nat):Int) else f y,?_,fun k hk=>?_⟩
  ·simp only[assigns,Wx,Wp];exact⟨f,hf,(g x).toNat,List.mem_range.2 (by omega),rfl⟩
  show(if k=x then (((g x).toNat:Nat):Int) else f k)=g k;by_cases e:k=x
  ·rw[if_pos e,e];omega
  rw[if_neg e];rcases Ws.1 hk with h2|h2
  ·exact absurd h2 e
  exact hfg k h2
def Un(ts:Q0b)(f:Q00):Bool:=(au ts).all fun k=>(iw ts k).all fun d=>decide (f (d.typ,d.rel)+stepOf d<=f k)
theorem Ll{ts:Q0b}{f:Q00}:Un ts f=true ↔ ∀k∈au ts,∀d∈iw ts k,f (d.typ,d.rel)+stepOf d<=f k:=by
 unfold Un;simp only[Wq,Wn]
def Au(ts:Q0b):List (ByteArray×ByteArray->Int):=(assigns (au ts).length (au ts)).filter (Un ts)
theorem MB{ts:Q0b}{f:Q00}(h:f∈Au ts):Sol ts f:=by
 unfold Au at h;rw[WW]at h;exact⟨yh h.1,Ll.1 h.2⟩
theorem Po{ts:Q0b}{g:Q00}(hF:Found ts)(h:Sol ts g)(hb:∀k∈au ts,g k+1<=(au ts).length):∃f∈Au ts,∀k∈au ts,f k=g k:=by
 obtain⟨f,hf,hfg⟩:=yj (n:=(au ts).length) g (au ts) fun k hk=>⟨h.pos k,by have:=hb k hk;omega⟩;refine⟨f,?_,hfg⟩;unfold Au;rw[WW];refine⟨hf,Ll.2 fun k hk d hd=>?_⟩;rw[hfg k hk,hfg _ (hF k hk d hd)];exact h.up k hk d hd
def aD(ts:Q0b):Bool:=bF ts&&kC ts && !(Au ts).isEmpty
theorem bG{ts:Q0b}:aD ts=true↔bQ ts:=by
 unfold aD bQ;simp only[V9,Bool.not_eq_true'];constructor
 ·rintro⟨⟨h1,h2⟩,h3⟩;refine⟨h1,h2,?_⟩;cases e:Au ts with
  | nil=>rw[e]at h3;cases h3
  | cons f fs=>exact⟨f,MB (by rw[e];exact Xf ..)⟩
 rintro⟨h1,h2,f,hf⟩;refine⟨⟨h1,h2⟩,?_⟩;obtain⟨g,hg,hb⟩:=hf.few (mQ h2);obtain⟨f2,hf2,-⟩:=Po (mQ h2) hg hb;cases e:Au ts with
 | nil=>rw[e]at hf2;cases hf2
 | cons f fs=>rfl
theorem Gm{ts:Q0b}(h:bQ ts):aD ts=true:=bG.2 h
theorem eB{ts:Q0b}(h:¬bQ ts):aD ts=false:=by
 cases e:aD ts;case false=>rfl
 exact absurd (bG.1 e) h
theorem own_below{w w':ae}{base:Nat}{e:TypeId}{size:Nat}{v:Value}{n:Nat}{xs:Q03}(h:w.ownsRow base e size v n xs)(hB:af w w'):w'.ownsRow base e size v n xs:=by
 have hg:w.grownBy w' none:=⟨hB.os,hB.tape,hB.output,hB.size,fun k hk _=>hB.block k hk⟩;cases ho:v.ownBlock with
 | none=>exact h.kept hg (.inl ho)
 | some g=>exact h.kept hg (.inr (by rw[ho];simp))
theorem ru{w w':ae}{v v':Value}{g o:Nat}{u:Value}(h:Aside w v w' v')(hg:g<w.heap.size)(hv:v.ownBlock≠some g)(hc:w.cell? ⟨g,o,none⟩=some u):w'.cell? ⟨g,o,none⟩=some u:=(h.cell (p:=⟨g,o,none⟩) hg hv).trans hc
theorem Gn(es:Q09)(m:Nat)(out:List Bool):(iG es m out).length=out.length:=by
 induction m generalizing out with
 | zero=>rfl
 | succ m ih =>
  simp only[iG];rw[ih];split
  ·rfl
  exact Gl _ _ _ _ _
theorem Gp(es:Q09):(fE es).length=es.length:=by unfold fE;rw[Gn];simp
theorem Gq(ts:Q0b)(typ:bZ)(rows:Q08)(k:Nat)(h:k<rows.length)(ng:Bool)(hn:ng=(fE (aj rows)).getD k false):aS ts typ (aj rows) (k+1)=(aS ts typ (aj rows) k++df ng rows[k].e.allow)++oM ts typ ng rows[k].e:=by
 have e:(aj rows)[k]?=some rows[k].e:=by simp[aj,h]
 show aS ts typ (aj rows) k++lq ts typ (aj rows) k=_;unfold lq;rw[e,hn,WE]
set_option maxRecDepth 100000 in
theorem Jo(ad Xw:Q02)(cap capE:Nat)(rs:Q06)(typ:bZ)(rows:Q08)(w:ae)(hlen:rs.length<=1048576)(hs:lc w ad rs)(hl:∀r∈rs,r.light)(hle:rows.length<=15)(hse:jv w Xw rows)(hlE:∀q∈rows,q.e.light)(hkE:∀q∈rows,eH rows.length q.e.kids)
    (hsm:∀k,(aS (ag rs) typ (aj rows) k).length<=100000000) :
    Calls prog 168 #[.slice ad rs.length cap,.string typ,.slice Xw rows.length capE] w fun e w'=>(∃v,e=.returned v/\w'.ownsRow w.heap.size 266 3 v (qX (ag rs) typ (aj rows)).length (eu (qX (ag rs) typ (aj rows))))/\af w w':=by
  have HS:=aC hs;have HL:=aC hl;have HE:=aC hse;have Yv:=aC hlE;have HKE:=aC hkE;have HSM:Hid (∀k,(aS (ag rs) typ (aj rows) k).length<=100000000):=hsm;clear hs hl hse hlE hkE hsm;obtain⟨i0,hi,hz0,hz1,hz2⟩:=info_parts Pj;go_enter func168,ntmps168;go_wp2_with fail;have hbA:af w (w.alloc (.cells #[] 266)):=(V5 _ _).alloc (V4 _) _;have hown1:(w.alloc (.cells #[] 266)).ownsRow w.heap.size 266 3 (.slice (some ⟨w.heap.size,0,none⟩) 0 0) 0 []:=World.ownsRow_made w #[] 0 (V4 _) (by decide) rfl;refine(Mo Xw capE rows _ (by omega) (HE.out.below hbA) Yv.out HKE.out).mono ?_;rintro e w1 ⟨rfl,hF⟩;have XD:Hid (w1.ownsRow w.heap.size 266 3 (.slice (some ⟨w.heap.size,0,none⟩) 0 0) 0 []):=own_below hown1 hF.below;have HB1:Hid (af w w1):=hbA.trans (hF.below.mono (by simp));have hgN:(w.alloc (.cells #[] 266)).heap.size=w.heap.size+1:=by simp
  rw[hgN]at hF ⊢;have hgl:=hF.lt;have HNG:Hid (∀(j:Nat) (h:j<rows.length),w1.cell? ⟨w.heap.size+1,j,none⟩=some (.bool ((fE (aj rows)).getD j false))):=by
    intro j hj;have hn:j<(fE (aj rows)).length:=by rw[Gp,bf];exact hj
    have:=hF.done j (by simpa[bools] using hn);rw[this];simp[bools,hn]
  clear hF hown1 hbA hgN;obtain⟨gN,hgN⟩:∃gN,gN=w.heap.size+1:=⟨_,rfl⟩;rw[<-hgN]at hgl HNG ⊢;have hgne:w.heap.size<gN:=by omega
  clear hgN;go_wp2_with fail;go_loopw[7,9] (fun v i wr=>∃k:Nat,k<=rows.length/\i=.int .i64 k/\Hid (wr.ownsRow w.heap.size 266 3 v (aS (ag rs) typ (aj rows) k).length (eu (aS (ag rs) typ (aj rows) k)))/\Hid (af w wr)/\Hid (Aside w1 (.slice (some ⟨w.heap.size,0,none⟩) 0 0) wr v)) (fun _ i _=>rows.length-(intOf i).toNat);case atStart=>exact⟨0,Wd _,rfl,XD,HB1,Aside.refl _ _⟩
  obtain⟨k,hk,rfl,HOW,HB,HAS⟩:=hrel;by_cases hlt:k<rows.length
  · rcases HE.out.below HB.out with rfl|⟨b,off,rfl,hb,hr,hok⟩
    · simp at hlt
    obtain⟨t0,t1,t2,t3,t4⟩:=hr k hlt;have Yk:Hid (rows[k].ok w):=HE.out.mem (VZ hlt);have lg:=(Yv.out rows[k] (VZ hlt)).1;have hk1:=bC k;have hk2:(k:Int)<(rows.length:Int):=by omega
    have c0:wr.cell? ⟨gN,k,none⟩=some (.bool ((fE (aj rows)).getD k false)):=(HAS.out.cell (p:=⟨gN,k,none⟩) hgl (by simp[Value.ownBlock];omega)).trans (HNG.out k hlt);clear hr hok;obtain⟨ng,hng⟩:∃ng,ng=(fE (aj rows)).getD k false:=⟨_,rfl⟩;rw[<-hng]at c0;have HNK:Hid (ng=(fE (aj rows)).getD k false):=hng;clear hng;obtain⟨W1,hW1⟩:∃W1,W1=wr.alloc (.cells #[.int .i64 rows[k].e.kind,.slice rows[k].adA rows[k].e.allow.length rows[k].capA,.string rows[k].e.over,.string rows[k].e.name,.slice rows[k].adK rows[k].e.kids.length rows[k].capK] 188):=⟨_,rfl⟩;have hal:af wr W1:=by rw[hW1];exact(V5 _ _).alloc (V4 _) _
    have XJ:=aC hal;have Xz:=kv HB hal;have Zi:wr.heap.size<W1.heap.size:=by rw[hW1];simp
    have g0:W1.cell? ⟨wr.heap.size,0,none⟩=some (.int .i64 rows[k].e.kind):=by rw[hW1];simp
    have g1:W1.cell? ⟨wr.heap.size,1,none⟩=some (.slice rows[k].adA rows[k].e.allow.length rows[k].capA):=by rw[hW1];simp
    have g2:W1.cell? ⟨wr.heap.size,2,none⟩=some (.string rows[k].e.over):=by rw[hW1];simp
    have g3:W1.cell? ⟨wr.heap.size,3,none⟩=some (.string rows[k].e.name):=by rw[hW1];simp
    have hgr:gN<wr.heap.size:=VY hgl HAS.out.size;have gn:=aJ hal hgr c0;have Zt:Hid (W1.ownsRow w.heap.size 266 3 u7 (aS (ag rs) typ (aj rows) k).length (eu (aS (ag rs) typ (aj rows) k))):=own_below HOW.out hal;have HV1:Hid (u7.ownBlock≠some gN):=HAS.out.apart hgl (by simp[Value.ownBlock];omega);have HV2:Hid (u7.ownBlock≠some wr.heap.size):=fun e=>by have:=(HOW.out.lt _ e).2;omega
    clear hal c0;go_wp2_with fail;rw[<-hW1];clear hW1 t0 t1 t2 t3 t4;obtain⟨wo,hwo⟩:∃wo,wo=wr:=⟨_,rfl⟩;subst hwo;go_loopw[7,11] (fun v i w2=>∃j:Nat,j<=rows[k].e.allow.length/\i=.int .i64 j/\Hid (w2.ownsRow w.heap.size 266 3 v ((aS (ag rs) typ (aj rows) k).length+(df ng (rows[k].e.allow.take j)).length) (eu (aS (ag rs) typ (aj rows) k++df ng (rows[k].e.allow.take j))))/\Hid (af w w2)/\Hid (Aside W1 u7 w2 v)) (fun _ i _=>rows[k].e.allow.length-(intOf i).toNat);case atStart=>exact⟨0,Wd _,rfl,(by simpa[df,Hid] using Zt),Xz,Aside.refl _ _⟩
    obtain⟨j,hj,rfl,Xv,HB2,HA2⟩:=hrel;have d0:=ru HA2.out Zi HV2.out g0;have d1:=ru HA2.out Zi HV2.out g1;have d2:=ru HA2.out Zi HV2.out g2;have d3:=ru HA2.out Zi HV2.out g3;have dn:=ru HA2.out (Nat.lt_trans hgr Zi) HV1.out gn;clear g0 g1 g2 g3 gn;by_cases hjl:j<rows[k].e.allow.length
    · have hA3:=(Yk.out.1).below HB2.out;have hA4:=Yk.out.1;rcases hA4 with hnil|⟨ba,Zf,Zg,hba,-⟩
      · rw[hnil]at hjl;simp at hjl
      rcases hA3 with hnil|⟨ba',offa',hadA',-,hra⟩
      · rw[hnil]at hjl;simp at hjl
      rw[Zg]at hadA' d1;injection hadA' with hadA';injection hadA' with e1 e2;subst e1;subst e2;obtain⟨q0,q1⟩:=hra j hjl;have hj1:=bC j;have hj2:(j:Int)<(rows[k].e.allow.length:Int):=by omega
      clear hra Zg;cases he:rows[k].e.allow[j].s.toList.isEmpty;case true=>
        have HE2:Hid (df ng (rows[k].e.allow.take (j+1))=df ng (rows[k].e.allow.take j)):=Pi _ _ _ hjl he;go_wp2;go_roundw;case rel=>exact⟨j+1,by omega,by go_num,by rw[HE2.out];exact Xv,HB2,HA2⟩
        simp[intOf]<;>omega
      have HE2:Hid (df ng (rows[k].e.allow.take (j+1))=df ng (rows[k].e.allow.take j)++[⟨rows[k].e.allow[j].t,rows[k].e.allow[j].s,ng⟩]):=Mq _ _ _ hjl he;have a1:u7.ownBlock≠some wo.heap.size:=HA2.out.apart Zi HV2.out;have a2:u7.ownBlock≠some gN:=HA2.out.apart (Nat.lt_trans hgr Zi) HV1.out;have a3:u7.ownBlock≠some ba:=fun e=>by have:=(Xv.out.lt _ e).1;omega
      have l1:wo.heap.size<wr.heap.size:=VY Zi HA2.out.size;have l2:gN<wr.heap.size:=Nat.lt_trans hgr l1;have l3:ba<wr.heap.size:=VY hba HB2.out.size;have l4:w.heap.size<=wr.heap.size:=HB2.out.size;obtain⟨xs,hxs⟩:∃xs,xs=eu (aS (ag rs) typ (aj rows) k++df ng (rows[k].e.allow.take j)):=⟨_,rfl⟩;obtain⟨n,hn⟩:∃n,n=(aS (ag rs) typ (aj rows) k).length+(df ng (rows[k].e.allow.take j)).length:=⟨_,rfl⟩;have hnl:n<=101048576:=by
        have h1:=HSM.out k;have h2:=Dl ng (rows[k].e.allow.take j);rw[WK]at h2;omega
      have hown:=Xv.out;rw[<-hxs,<-hn]at hown;have HXS:Hid (eu (aS (ag rs) typ (aj rows) k++df ng (rows[k].e.allow.take (j+1)))=xs++[.string rows[k].e.allow[j].t,.string rows[k].e.allow[j].s,.bool ng]):=by
        show _=_;rw[HE2.out,<-WE,uC,<-hxs];rfl
      have Zu:Hid ((aS (ag rs) typ (aj rows) k).length+(df ng (rows[k].e.allow.take (j+1))).length=n+1):=by
        show _=_;rw[HE2.out,hn];simp;omega
      clear Xv hxs hn;go_wp2_with fail
      go_region_held3 (fun w'=>w'.cell? ⟨wo.heap.size,1,none⟩=some (.slice (some ⟨ba,Zf,none⟩) rows[k].e.allow.length rows[k].capA)/\w'.cell? ⟨ba,Zf+j*2,none⟩=some (.string rows[k].e.allow[j].t) /\
          w'.cell? ⟨ba,Zf+j*2+1,none⟩=some (.string rows[k].e.allow[j].s)/\w'.cell? ⟨gN,k,none⟩=some (.bool ng))
        (first
          | go_keep
          | (go_split_ands
             refine⟨?_,?_,?_,?_⟩
             · (rw[hgrow.cell_far _ (by simp;omega) (Ne.symm a1)];assumption)
             · (rw[hgrow.cell_far _ (by simp;omega) (Ne.symm a3)];assumption)
             · (rw[hgrow.cell_far _ (by simp;omega) (Ne.symm a3)];assumption)
             · (rw[hgrow.cell_far _ (by simp;omega) (Ne.symm a2)];assumption)))
        ((refine step_append_lies _ (by rfl) _ _ _ (by rfl) w.heap.size 266 i0 _ 3 40 underlying262 hi hz0 hz1 hz2 rfl (by omega) u7 n xs (by rfl) ((hown.alloc _).drew)
            ⟨wr.heap.size,0,none⟩ 1 1 [.string rows[k].e.allow[j].t,.string rows[k].e.allow[j].s,.bool ng] (by rfl) (by rfl) (World.news_of_block (cs:=#[.string rows[k].e.allow[j].t,.string rows[k].e.allow[j].s,.bool ng]) (t:=266) (fr:=(0,0)) (heap_alloc_new wr _)) (by simp[Value.oneCell'])
            (by omega) (by unfold maxLen;omega) (by omega) (by simp;omega) (wr.heap.size+1) (by simp) ?_;intro gg cp w5 hown5 hgrow hat hlt5))
      have hb5:Hid (af w w5):=((HB2.out.alloc HB2.out.size _).drew).grown hgrow (by simp;omega) (fun i hi=>(hown.lt i hi).1);have hAx:Aside wr u7 w5 (.slice (some ⟨gg,0,none⟩) (n+1) cp):=(Aside.below (((V5 _ _).alloc (V4 _) _).drew)).trans (Aside.app hgrow (by
        rcases hat with e|e
        · left;rw[e];rfl
        · right;rw[e];simp[Value.ownBlock]))
      have HA5:=HA2.out.trans hAx;have HA5':Hid (Aside W1 _ w5 (.slice (some ⟨gg,0,none⟩) (n+1) cp)):=HA5;have XH:Hid (w5.ownsRow w.heap.size 266 3 (.slice (some ⟨gg,0,none⟩) (n+1) cp) ((aS (ag rs) typ (aj rows) k).length+(df ng (rows[k].e.allow.take (j+1))).length) (eu (aS (ag rs) typ (aj rows) k++df ng (rows[k].e.allow.take (j+1))))):=by
        show World.ownsRow _ _ _ _ _ _ _;rw[HXS.out,Zu.out];exact hown5
      clear hown5 hgrow hat hAx HA5 hown;go_wp2;go_roundw;case rel=>exact⟨j+1,by omega,by go_num,XH,hb5,HA5'⟩
      simp[intOf]<;>omega
    · obtain rfl:j=rows[k].e.allow.length:=by omega
      have a1:u7.ownBlock≠some wo.heap.size:=HA2.out.apart Zi HV2.out;have a2:u7.ownBlock≠some gN:=HA2.out.apart (Nat.lt_trans hgr Zi) HV1.out;have l1:wo.heap.size<wr.heap.size:=VY Zi HA2.out.size;have l2:gN<wr.heap.size:=Nat.lt_trans hgr l1;have l4:w.heap.size<=wr.heap.size:=HB2.out.size;have HUS:=Gq (ag rs) typ rows k hlt ng HNK.out;obtain⟨D,hD⟩:∃D,D=aS (ag rs) typ (aj rows) k++df ng rows[k].e.allow:=⟨_,rfl⟩;have hown:wr.ownsRow w.heap.size 266 3 u7 D.length (eu D):=by
        have:=Xv.out;rw[Wo,<-hD,<-Wi,<-hD]at this;exact this
      rw[<-hD]at HUS;have hnl:D.length<=100000000:=by
        have h1:=HSM.out (k+1);rw[HUS,Wi]at h1;omega
      have HUP:Hid (aS (ag rs) typ (aj rows) (k+1)=D++oM (ag rs) typ ng rows[k].e):=HUS;have HAW:Hid (Aside w1 (.slice (some ⟨w.heap.size,0,none⟩) 0 0) wr u7):=(HAS.out.trans (Aside.below XJ.out)).trans HA2.out;clear Xv HUS hD;by_cases h2:rows[k].e.kind=2
      · have HXS:Hid (aS (ag rs) typ (aj rows) (k+1)=D++[⟨typ,rows[k].e.name,ng⟩]):=by show _=_;rw[HUP.out];simp[oM,h2]
        obtain⟨xs,hxs⟩:∃xs,xs=eu D:=⟨_,rfl⟩;obtain⟨n,hn⟩:∃n,n=D.length:=⟨_,rfl⟩;rw[<-hxs,<-hn]at hown;rw[<-hn]at hnl;have HFX:Hid (eu (aS (ag rs) typ (aj rows) (k+1))=xs++[.string typ,.string rows[k].e.name,.bool ng]):=by
          show _=_;rw[HXS.out,uC,<-hxs];rfl
        have Zu:Hid ((aS (ag rs) typ (aj rows) (k+1)).length=n+1):=by show _=_;rw[HXS.out,hn];simp
        clear hxs hn;go_wp2_with fail
        go_region_held3 (fun w'=>w'.cell? ⟨wo.heap.size,3,none⟩=some (.string rows[k].e.name)/\w'.cell? ⟨gN,k,none⟩=some (.bool ng))
          (first
            | go_keep
            | (go_split_ands
               refine⟨?_,?_⟩
               · (rw[hgrow.cell_far _ (by simp;omega) (Ne.symm a1)];assumption)
               · (rw[hgrow.cell_far _ (by simp;omega) (Ne.symm a2)];assumption)))
          ((refine step_append_lies _ (by rfl) _ _ _ (by rfl) w.heap.size 266 i0 _ 3 40 underlying262 hi hz0 hz1 hz2 rfl (by omega) u7 n xs (by rfl) ((hown.alloc _).drew)
              ⟨wr.heap.size,0,none⟩ 1 1 [.string typ,.string rows[k].e.name,.bool ng] (by rfl) (by rfl) (World.news_of_block (cs:=#[.string typ,.string rows[k].e.name,.bool ng]) (t:=266) (fr:=(0,0)) (heap_alloc_new wr _)) (by simp[Value.oneCell'])
              (by omega) (by unfold maxLen;omega) (by omega) (by simp;omega) (wr.heap.size+1) (by simp) ?_;intro gg cp w5 hown5 hgrow hat hlt5))
        have hb5:Hid (af w w5):=((HB2.out.alloc HB2.out.size _).drew).grown hgrow (by simp;omega) (fun i hi=>(hown.lt i hi).1);have hAx:Aside wr u7 w5 (.slice (some ⟨gg,0,none⟩) (n+1) cp):=(Aside.below (((V5 _ _).alloc (V4 _) _).drew)).trans (Aside.app hgrow (by
          rcases hat with e|e
          · left;rw[e];rfl
          · right;rw[e];simp[Value.ownBlock]))
        have f0:=ru hAx l1 a1 d0;have HA5:Hid (Aside w1 (.slice (some ⟨w.heap.size,0,none⟩) 0 0) w5 (.slice (some ⟨gg,0,none⟩) (n+1) cp)):=HAW.out.trans hAx;have XH:Hid (w5.ownsRow w.heap.size 266 3 (.slice (some ⟨gg,0,none⟩) (n+1) cp) (aS (ag rs) typ (aj rows) (k+1)).length (eu (aS (ag rs) typ (aj rows) (k+1)))):=by
          show World.ownsRow _ _ _ _ _ _ _;rw[HFX.out,Zu.out];exact hown5
        clear hown5 hgrow hat hAx hown d0 d1 d2 d3 dn;go_wp2;go_roundw;case rel=>exact⟨k+1,by omega,by go_num,XH,hb5,HA5⟩
        simp[intOf]<;>omega
      by_cases h3:rows[k].e.kind=3
      · go_wp2_with fail;refine(yf ad cap rs _ _ _ _ hlen (HS.out.below HB2.out) HL.out).mono ?_;rintro e w4 ⟨⟨ad4,cap4,rfl,hs4,hn4⟩,hb4⟩;have HXG:Hid (aS (ag rs) typ (aj rows) (k+1)=D++(iq (ag rs) typ rows[k].e.over rows[k].e.name).map fun g=>(⟨g,rows[k].e.name,ng⟩:Dp)):=by show _=_;rw[HUP.out];simp[oM,h3]
        generalize iq (ag rs) typ rows[k].e.over rows[k].e.name=gs at *
        have hgs:D.length+gs.length<=100000000:=by
          have h1:=HSM.out (k+1);rw[HXG.out,Wi,Xc]at h1;exact h1
        have f3:=aJ hb4 l1 d3;have fn:=aJ hb4 l2 dn;have XE:Hid (w4.ownsRow w.heap.size 266 3 u7 D.length (eu D)):=own_below hown hb4;have XM:=kv HB2 hb4;have HA4:Hid (Aside w1 (.slice (some ⟨w.heap.size,0,none⟩) 0 0) w4 u7):=HAW.out.trans (Aside.below hb4);have HSG:=aC hs4;have HVG:Hid (∀p,ad4=some p->u7.ownBlock≠some p.block):=fun p hp e=>by have h1:=(hown.lt _ e).2;have h2:=hn4 p hp;omega
        have m1:wo.heap.size<w4.heap.size:=VY l1 hb4.size;have m2:gN<w4.heap.size:=VY l2 hb4.size;have m4:w.heap.size<=w4.heap.size:=XM.out.size;clear hown hb4 hs4 hn4 d0 d1 d2 d3 dn l1 l2 l4;obtain⟨uo,huo⟩:∃uo,uo=u7:=⟨_,rfl⟩;subst huo;go_wp2_with fail;go_loopw[7,13] (fun v i w6=>∃m:Nat,m<=gs.length/\i=.int .i64 m/\Hid (w6.ownsRow w.heap.size 266 3 v (D.length+m) (eu (D++(gs.take m).map fun g=>(⟨g,rows[k].e.name,ng⟩:Dp))))/\Hid (af w w6)/\Hid (Aside w4 uo w6 v)) (fun _ i _=>gs.length-(intOf i).toNat);case atStart=>exact⟨0,Wd _,rfl,(by simpa[Hid] using XE),XM,Aside.refl _ _⟩
        obtain⟨m,hm,rfl,Yf,YB,HA6⟩:=hrel;have x3:=ru HA6.out m1 a1 f3;have xn:=ru HA6.out m2 a2 fn;by_cases XQ:m<gs.length
        · rcases HSG.out with rfl|⟨bg,offg,rfl,hbg,hrg⟩
          · simp at XQ
          have q0:=ru HA6.out hbg (HVG.out _ rfl) (hrg m XQ);have hm1:=bC m;have hm2:(m:Int)<(gs.length:Int):=by omega
          have b1:u7.ownBlock≠some wo.heap.size:=HA6.out.apart m1 a1;have b2:u7.ownBlock≠some gN:=HA6.out.apart m2 a2;have b3:u7.ownBlock≠some bg:=HA6.out.apart hbg (HVG.out _ rfl);have l1:wo.heap.size<wr.heap.size:=VY m1 HA6.out.size;have l2:gN<wr.heap.size:=VY m2 HA6.out.size;have l3:bg<wr.heap.size:=VY hbg HA6.out.size;have l4:w.heap.size<=wr.heap.size:=YB.out.size;obtain⟨xs,hxs⟩:∃xs,xs=eu (D++(gs.take m).map fun g=>(⟨g,rows[k].e.name,ng⟩:Dp)):=⟨_,rfl⟩;obtain⟨n,hn⟩:∃n,n=D.length+m:=⟨_,rfl⟩;have hown:=Yf.out;rw[<-hxs,<-hn]at hown;have HFX:Hid (eu (D++(gs.take (m+1)).map fun g=>(⟨g,rows[k].e.name,ng⟩:Dp))=xs++[.string gs[m],.string rows[k].e.name,.bool ng]):=by
            show _=_;rw[V8 XQ,Xb,<-WE,List.map_singleton,uC,<-hxs];rfl
          have Zu:Hid (D.length+(m+1)=n+1):=by show _=_;omega
          have hnl2:n<=100000000:=by omega
          have hgb:gs.length<=100000000:=by omega
          clear Yf hxs hn hrg hnl hgs;go_wp2_with fail
          go_region_held3 (fun w'=>w'.cell? ⟨wo.heap.size,3,none⟩=some (.string rows[k].e.name)/\w'.cell? ⟨gN,k,none⟩=some (.bool ng)/\w'.cell? ⟨bg,offg+m,none⟩=some (.string gs[m]))
            (first
              | go_keep
              | (go_split_ands
                 refine⟨?_,?_,?_⟩
                 · (rw[hgrow.cell_far _ (by simp;omega) (Ne.symm b1)];assumption)
                 · (rw[hgrow.cell_far _ (by simp;omega) (Ne.symm b2)];assumption)
                 · (rw[hgrow.cell_far _ (by simp;omega) (Ne.symm b3)];assumption)))
            ((refine step_append_lies _ (by rfl) _ _ _ (by rfl) w.heap.size 266 i0 _ 3 40 underlying262 hi hz0 hz1 hz2 rfl (by omega) u7 n xs (by rfl) ((hown.alloc _).drew)
                ⟨wr.heap.size,0,none⟩ 1 1 [.string gs[m],.string rows[k].e.name,.bool ng] (by rfl) (by rfl) (World.news_of_block (cs:=#[.string gs[m],.string rows[k].e.name,.bool ng]) (t:=266) (fr:=(0,0)) (heap_alloc_new wr _)) (by simp[Value.oneCell'])
                (by omega) (by unfold maxLen;omega) (by omega) (by simp;omega) (wr.heap.size+1) (by simp) ?_;intro gg cp w5 hown5 hgrow hat hlt5))
          have hb5:Hid (af w w5):=((YB.out.alloc YB.out.size _).drew).grown hgrow (by simp;omega) (fun i hi=>(hown.lt i hi).1);have hAx:Aside wr u7 w5 (.slice (some ⟨gg,0,none⟩) (n+1) cp):=(Aside.below (((V5 _ _).alloc (V4 _) _).drew)).trans (Aside.app hgrow (by
            rcases hat with e|e
            · left;rw[e];rfl
            · right;rw[e];simp[Value.ownBlock]))
          have HA5:Hid (Aside w4 uo w5 (.slice (some ⟨gg,0,none⟩) (n+1) cp)):=HA6.out.trans hAx;have XH:Hid (w5.ownsRow w.heap.size 266 3 (.slice (some ⟨gg,0,none⟩) (n+1) cp) (D.length+(m+1)) (eu (D++(gs.take (m+1)).map fun g=>(⟨g,rows[k].e.name,ng⟩:Dp)))):=by
            show World.ownsRow _ _ _ _ _ _ _;rw[HFX.out,Zu.out];exact hown5
          clear hown5 hgrow hat hAx hown;go_wp2;go_roundw;case rel=>exact⟨m+1,by omega,by go_num,XH,hb5,HA5⟩
          simp[intOf]<;>omega
        · obtain rfl:m=gs.length:=by omega
          have XH:Hid (wr.ownsRow w.heap.size 266 3 u7 (aS (ag rs) typ (aj rows) (k+1)).length (eu (aS (ag rs) typ (aj rows) (k+1)))):=by
            have:=Yf.out;show World.ownsRow _ _ _ _ _ _ _;rw[Wo]at this;rw[HXG.out,Wi,Xc];exact this
          have HA5:Hid (Aside w1 (.slice (some ⟨w.heap.size,0,none⟩) 0 0) wr u7):=HA4.out.trans HA6.out;clear Yf;go_wp2;go_roundw;case rel=>exact⟨k+1,by omega,by go_num,XH,YB,HA5⟩
          simp[intOf]<;>omega
      · have HXS:Hid (aS (ag rs) typ (aj rows) (k+1)=D):=by show _=_;rw[HUP.out];simp[oM,h2,h3]
        have hb2:(rows[k].e.kind==2)=false:=by simpa using h2
        have hb3:(rows[k].e.kind==3)=false:=by simpa using h3
        have XH:Hid (wr.ownsRow w.heap.size 266 3 u7 (aS (ag rs) typ (aj rows) (k+1)).length (eu (aS (ag rs) typ (aj rows) (k+1)))):=by
          show World.ownsRow _ _ _ _ _ _ _;rw[HXS.out];exact hown
        clear hown;go_wp2;go_roundw;case rel=>exact⟨k+1,by omega,by go_num,XH,HB2,HAW⟩
        simp[intOf]<;>omega
  · obtain rfl:k=rows.length:=by omega
    have HFI:Hid (wr.ownsRow w.heap.size 266 3 u7 (qX (ag rs) typ (aj rows)).length (eu (qX (ag rs) typ (aj rows)))):=by
      have:=HOW.out;show World.ownsRow _ _ _ _ _ _ _;unfold qX;rw[bf];exact this
    clear HOW;go_wp2;go_ret;exact⟨⟨_,rfl,HFI.out⟩,HB.out⟩
def St.cells(s:St):List Value:=[.string s.typ,.string s.rel,.int .i64 s.n]
def iL:List St->List Value
 | []=>[]
 | s::xs=>s.cells++iL xs
theorem ES(xs ys:List St):iL (xs++ys)=iL xs++iL ys:=by
 induction xs with
 | nil=>rfl
 | cons d ds ih=>simp[iL,ih]
theorem Av(xs:List St)(d:St):iL (xs++[d])=iL xs++d.cells:=by rw[ES];simp[iL]
theorem lY(xs:List St)(i:Nat)(h:i<xs.length)(o:Nat)(ho:o<3):(iL xs)[i*3+o]?=(xs[i].cells)[o]?:=by
 induction xs generalizing i with
 | nil=>simp at h
 | cons s xs ih =>
  cases i with
  | zero =>
   simp only[iL,Nat.zero_mul,WB,List.getElem_cons_zero];rw[Xa (by simp[St.cells];omega)]
  | succ i =>
   simp only[iL,List.getElem_cons_succ];rw[WY (by simp[St.cells];omega)];have e:(i+1)*3+o-s.cells.length=i*3+o:=by simp[St.cells];omega
   rw[e];exact ih i (by simpa using h)
theorem xg(xs:List Dp)(i:Nat)(h:i<xs.length)(o:Nat)(ho:o<3):(eu xs)[i*3+o]?=(xs[i].cells)[o]?:=by
 induction xs generalizing i with
 | nil=>simp at h
 | cons s xs ih =>
  cases i with
  | zero =>
   simp only[eu,Nat.zero_mul,WB,List.getElem_cons_zero];rw[Xa (by simp[Dp.cells];omega)]
  | succ i =>
   simp only[eu,List.getElem_cons_succ];rw[WY (by simp[Dp.cells];omega)];have e:(i+1)*3+o-s.cells.length=i*3+o:=by simp[Dp.cells];omega
   rw[e];exact ih i (by simpa using h)
theorem Gr(g j:Nat):(⟨g,0,none⟩:Addr).add j=⟨g,j,none⟩:=by
 unfold Addr.add;by_cases hj:j=0
 ·subst hj;simp
 simp[hj]
theorem RX{w:ae}{base:Nat}{t:TypeId}{v:Value}{n:Nat}{xs:Q03}(h:w.ownsRow base t 3 v n xs):∃ad cp,v=.slice ad n cp/\(n=0 \/ ∃g,ad=some ⟨g,0,none⟩/\base<=g/\g<w.heap.size/\∀(j:Nat) (u:Value),xs[j]?=some u->w.cell? ⟨g,j,none⟩=some u):=by
 have h2:=h;rcases h.2 with⟨rfl,h0⟩|⟨g,cp,cur,rfl,hbg,hg,hnc,-⟩
 ·exact⟨none,0,by rw[h0],.inl h0⟩
 have hlt:=h2.lt g rfl;refine⟨_,cp,rfl,.inr ⟨g,rfl,hlt.1,hlt.2,fun j u hu=>?_⟩⟩;have:=h2.cells (g:=g) rfl j u hu;rwa [Gr]at this
def AtD(w:World)(b off:Nat)(d:Dp):Prop:=w.cell? ⟨b,off,none⟩=some (.string d.typ)/\w.cell? ⟨b,off+1,none⟩=some (.string d.rel)/\w.cell? ⟨b,off+2,none⟩=some (.bool d.neg)
def TC(w:World)(lo:Nat)(ad:Q02)(xs:List Dp):Prop:=xs=[] \/ ∃b,ad=some ⟨b,0,none⟩/\lo<=b/\b<w.heap.size/\∀(i:Nat) (h:i<xs.length),AtD w b (i*3) xs[i]
theorem Vp{w:ae}{base:Nat}{v:Value}{xs:List Dp}(h:w.ownsRow base 266 3 v xs.length (eu xs)):∃ad cp,v=.slice ad xs.length cp/\TC w base ad xs:=by
 obtain⟨ad,cp,e,h0⟩:=RX h;refine⟨ad,cp,e,?_⟩;rcases h0 with h0|⟨g,e1,hb,hg,hc⟩
 ·exact .inl (Wu.1 h0)
 refine .inr ⟨g,e1,hb,hg,fun i hi=>⟨?_,?_,?_⟩⟩
 ·exact hc _ _ (by have:=xg xs i hi 0 (by omega);simpa[Dp.cells] using this)
 ·exact hc _ _ (by have:=xg xs i hi 1 (by omega);simpa[Dp.cells] using this)
 exact hc _ _ (by have:=xg xs i hi 2 (by omega);simpa[Dp.cells] using this)
def VL(w:World)(g:Nat)(xs:List St):Prop:=∀(i:Nat) (h:i<xs.length),U7 w g (i*3) xs[i]
theorem Vq{w:ae}{base:Nat}{v:Value}{xs:List St}(h:w.ownsRow base 200 3 v xs.length (iL xs)):∃ad cp,v=.slice ad xs.length cp/\(xs.length=0 \/ ∃g,ad=some ⟨g,0,none⟩/\base<=g/\g<w.heap.size/\VL w g xs):=by
 obtain⟨ad,cp,e,h0⟩:=RX h;refine⟨ad,cp,e,?_⟩;rcases h0 with h0|⟨g,e1,hb,hg,hc⟩
 ·exact .inl h0
 refine .inr ⟨g,e1,hb,hg,fun i hi=>⟨?_,?_,?_⟩⟩
 ·exact hc _ _ (by have:=lY xs i hi 0 (by omega);simpa[St.cells] using this)
 ·exact hc _ _ (by have:=lY xs i hi 1 (by omega);simpa[St.cells] using this)
 exact hc _ _ (by have:=lY xs i hi 2 (by omega);simpa[St.cells] using this)
theorem RY:(prog.info? 200).map (fun i=>(i.zero,i.size,i.bytes))=some (some (.agg #[.string ⟨#[]⟩,.string ⟨#[]⟩,.int .i64 0]),3,40):=by kernel_rfl
def Gs(ks:List (ByteArray×ByteArray)):List St:=ks.map fun k=>⟨k.1,k.2,0⟩
theorem ET(ks:List (ByteArray×ByteArray)):(Gs ks).length=ks.length:=by simp[Gs]
theorem Pp(ks:List (ByteArray×ByteArray))(k:Q01):Gs (ks++[k])=Gs ks++[⟨k.1,k.2,0⟩]:=by simp[Gs]
def di(rs:Q06)(k:Nat):List (ByteArray×ByteArray):=au (ag (rs.take k))
def iX(t:TR)(j:Nat):List (ByteArray×ByteArray):=(t.rows.take j).map fun q=>(t.name,q.name)
theorem p9(rs:Q06)(k:Nat)(h:k<rs.length):di rs (k+1)=di rs k++iX rs[k] rs[k].rows.length:=by
 unfold di iX;rw[V8 h,Wo];unfold ag au;rw[Xb,WP,List.map_singleton,List.flatMap_singleton];congr 1;simp[jT,TR.p,eG,RR.p]
theorem uG(t:TR)(j:Nat)(h:j<t.rows.length):iX t (j+1)=iX t j++[(t.name,t.rows[j].name)]:=by
 unfold iX;rw[V8 h,Xb];rfl
theorem Dq(t:TR)(j:Nat):(iX t j).length<=t.rows.length:=by unfold iX;simp;omega
theorem xh(rs:Q06)(hr:∀r∈rs,r.rows.length<=6)(k:Nat):(di rs k).length<=k*6:=by
 induction k with
 | zero=>simp[di,ag,au]
 | succ k ih =>
  by_cases h:k<rs.length
  ·rw[p9 _ _ h,Wi];have h1:=Dq rs[k] rs[k].rows.length;have h2:=hr rs[k] (VZ h);omega
  have e:rs.take (k+1)=rs.take k:=by rw[WL (by omega),WL (by omega)]
  unfold di at ih⊢;rw[e];omega
theorem Aw(d:Dp):0<=stepOf d/\stepOf d<=1:=by unfold stepOf;split<;>omega
structure Mid(ts:Q0b)(n:Nat)(oS:List St)(k j:Nat)(mb:Bool)(out:List St):Prop where
 len:out.length=n
 nn:n=(au ts).length
 round:Round ts out
 le:∀i (h:i<out.length),i≠k->out[i].n<=n
 lek:∀h:k<out.length,out[k].n<=n+1+j
 same:mb=false->out=oS/\(∀i (h:i<out.length),i<k->RV ts out out[i] (iw ts out[i].key).length)/\∀h:k<out.length,RV ts out out[k] j
 grow:nD oS<=nD out/\(mb=true->nD oS<nD out)
theorem Mid.start{ts:Q0b}{n:Nat}{out:List St}(hl:out.length=n)(hn:n=(au ts).length)(hr:Round ts out)(hle:∀s∈out,s.n<=n):Mid ts n out 0 0 false out where
 len:=hl
 nn:=hn
 round:=hr
 le i h _:=hle _ (VZ h)
 lek h:=by have:=hle _ (VZ h);omega
 same _:=⟨rfl,fun i _ hi=>by omega,fun _ d hd=>by simp at hd⟩
 grow:=⟨Int.le_refl _,by simp⟩
theorem Mid.key{ts:Q0b}{n k j:Nat}{oS out:List St}{mb:Bool}(h:Mid ts n oS k j mb out)(hk:k<out.length)(hk2:k<(au ts).length):out[k].key=(au ts)[k]:=by
 have e:=h.round.keys;have:(iK out)[k]'(by simp[iK,hk])=(au ts)[k]:=by simp only[e]
 rw[<-this];simp[iK]
def qc(out:List St)(d:Dp):Int:=fO out (d.typ,d.rel)+stepOf d
theorem Mid.at{ts:Q0b}{n k j:Nat}{oS out:List St}{mb:Bool}(h:Mid ts n oS k j mb out)(key:Q01)(hk:key∈au ts):∃i:Nat,∃hi:i<out.length,gY key.1 key.2 out 0=(i:Int)/\out[i].n=fO out key/\0<=fO out key/\fO out key<=n+1+j:=by
 obtain⟨i,hi,h1,h2,h3⟩:=pX out 0 (k:=key) (by rw[h.round.keys];exact hk);refine⟨i,hi,by rw[h1];congr 1;omega,h3,?_,?_⟩
 ·exact(h.round.at hk).1
 rw[<-h3];by_cases e:i=k
 ·subst e;exact h.lek hi
 have:=h.le i hi e;omega
theorem Mid.no{ts:Q0b}{n k j:Nat}{oS out:List St}{mb:Bool}(h:Mid ts n oS k j mb out)(hk:k<out.length)(d:Dp)(hd:(iw ts out[k].key)[j]?=some d)(hw:qc out d<=out[k].n):Mid ts n oS k (j+1) mb out where
 len:=h.len
 nn:=h.nn
 round:=h.round
 le:=h.le
 lek hh:=by have:=h.lek hh;omega
 same hm:=by
  obtain⟨e,s1,s2⟩:=h.same hm;refine⟨e,s1,fun hh d' hd'=>?_⟩;obtain⟨hj,hd2⟩:=List.getElem?_eq_some_iff.1 hd;rw[V8 hj]at hd';rcases Wj.1 hd' with hd'|hd'
  ·exact s2 hh d' hd'
  rw[hd2]at hd';simp at hd';subst hd';exact hw
 grow:=h.grow
theorem Mid.yes{ts:Q0b}{n k j:Nat}{oS out:List St}{mb:Bool}(h:Mid ts n oS k j mb out)(hF:Found ts)(hk:k<out.length)(d:Dp)(hd:(iw ts out[k].key)[j]?=some d)(hw:out[k].n<qc out d):Mid ts n oS k (j+1) true (out.set k ⟨out[k].typ,out[k].rel,qc out d⟩) where
 len:=by rw[List.length_set];exact h.len
 nn:=h.nn
 round:=h.round.set hF hk (Xk hd)
 le i hi hne:=by
  rw[List.getElem_set_ne (Ne.symm hne)];exact h.le i (by simpa using hi) hne
 lek hh:=by
  rw[List.getElem_set_self];show qc out d<=_;obtain⟨i,hi,-,-,-,h4⟩:=h.at (d.typ,d.rel) (hF _ (h.round.mem (VZ hk)) d (Xk hd));have:=Aw d;unfold qc;push_cast;omega
 same hm:=by cases hm
 grow:=by
  have:=h.grow.1;rw[Pn _ _ hk];exact⟨by omega,fun _=>by omega⟩
theorem Mid.next{ts:Q0b}{n k j:Nat}{oS out:List St}{mb:Bool}(h:Mid ts n oS k j mb out)(hk:k<out.length)(hj:j=(iw ts out[k].key).length)(hle:out[k].n<=n):Mid ts n oS (k+1) 0 mb out where
 len:=h.len
 nn:=h.nn
 round:=h.round
 le i hi _:=by
  by_cases e:i=k
  ·subst e;exact hle
  exact h.le i hi e
 lek hh:=by have:=h.le (k+1) hh (by omega);omega
 same hm:=by
  obtain⟨e,s1,s2⟩:=h.same hm;refine⟨e,fun i hi hik=>?_,fun _ d hd=>by simp at hd⟩;by_cases e2:i=k
  ·subst e2;have:=s2 hi;rw[hj]at this;exact this
  exact s1 i hi (by omega)
 grow:=h.grow
theorem Mid.over{ts:Q0b}{n k j:Nat}{oS out:List St}{mb:Bool}(h:Mid ts n oS k j mb out)(hF:Found ts)(hk:k<out.length)(hn:(n:Int)<out[k].n):¬ ∃f,Sol ts f :=
 Pk hF (h.round.mem (VZ hk)) (h.round.low _ (VZ hk)) (by have:=h.nn;omega)
structure Pass(ts:Q0b)(n:Nat)(mb:Bool)(out:List St):Prop where
 len:out.length=n
 nn:n=(au ts).length
 round:Round ts out
 le:∀s∈out,s.n<=n
 sat:mb=false->∀s∈out,RV ts out s (iw ts s.key).length
theorem Mid.done{ts:Q0b}{n k j:Nat}{oS out:List St}{mb:Bool}(h:Mid ts n oS k j mb out)(hk:k=n):Pass ts n mb out where
 len:=h.len
 nn:=h.nn
 round:=h.round
 le s hs:=by
  obtain⟨i,hi,rfl⟩:=WN.1 hs;exact h.le i hi (by have:=h.len;omega)
 sat hm s hs:=by
  obtain⟨e,s1,s2⟩:=h.same hm;obtain⟨i,hi,rfl⟩:=WN.1 hs;exact s1 i hi (by have:=h.len;omega)
theorem Pass.least{ts:Q0b}{n:Nat}{out:List St}(h:Pass ts n false out):Least ts (fO out):=h.round.done (h.sat rfl)
theorem Pass.zero{ts:Q0b}{n:Nat}(hn:n=(au ts).length):Pass ts n true (Gs (au ts)) where
 len:=by rw[ET,hn]
 nn:=hn
 round:=⟨by unfold iK Gs;rw[List.map_map];exact List.map_id _,fun s hs=>by simp[Gs]at hs;obtain⟨a,b,-,rfl⟩:=hs;exact Int.le_refl _,fun s hs=>by simp[Gs]at hs;obtain⟨a,b,-,rfl⟩:=hs;exact qY.zero _ _⟩
 le s hs:=by simp[Gs]at hs;obtain⟨a,b,-,rfl⟩:=hs;simp
 sat h:=by cases h
theorem RZ(n:Int)(out:List St)(h:∀s∈out,s.n<=n):nD out<=n*out.length:=by
 induction out with
 | nil=>simp[nD]
 | cons s xs ih =>
  have h1:=h s (by simp);have h2:=ih fun q hq=>h q (by simp[hq]);simp only[nD,WH];have:n*((xs.length+1:Nat):Int)=n*xs.length+n:=by push_cast;rw[Int.mul_add];simp
  omega
structure RowS(w wr:World)(ad:Q02)(g:Nat)(out:List St):Prop where
 below:af w wr
 at':out=[]\/(ad=some ⟨g,0,none⟩/\w.heap.size<=g/\g<wr.heap.size/\VL wr g out/\∀j,wr.frozen? ⟨g,j,none⟩=false)
theorem U7.kept{w w':ae}{b off:Nat}{s:St}(h:U7 w b off s)(hb:b<w.heap.size)(hB:af w w'):U7 w' b off s:=⟨aJ hB hb h.1,aJ hB hb h.2.1,aJ hB hb h.2.2⟩
theorem RowS.kept{w wr w2:ae}{ad:Q02}{g:Nat}{out:List St}(h:RowS w wr ad g out)(hb:af wr w2):RowS w w2 ad g out where
 below:=h.below.trans (hb.mono h.below.size)
 at':=by
  rcases h.at' with e|⟨e,h1,h2,h3,h4⟩
  ·exact .inl e
  exact .inr ⟨e,h1,VY h2 hb.size,fun i hi=>(h3 i hi).kept h2 hb,fun j=>by rw[hb.frozen (p:=⟨g,j,none⟩) h2];exact h4 j⟩
theorem RowS.slN{w wr:ae}{ad:Q02}{g:Nat}{out:List St}(h:RowS w wr ad g out):Jm wr ad out:=by
 rcases h.at' with e|⟨e,h1,h2,h3,h4⟩
 ·exact .inl e
 exact .inr ⟨g,0,e,h2,fun i hi=>by rw[WB];exact h3 i hi⟩
theorem RowS.set{w wr:ae}{ad:Q02}{g:Nat}{out:List St}(h:RowS w wr ad g out){k:Nat}(hk:k<out.length)(n:Int):RowS w (wr.setCell ⟨g,k*3+2,none⟩ (.int .i64 n)) ad g (out.set k ⟨out[k].typ,out[k].rel,n⟩):=by
 rcases h.at' with e|⟨e,h1,h2,h3,h4⟩
 ·rw[e]at hk;simp at hk
 refine⟨h.below.setCell (p:=⟨g,k*3+2,none⟩) h1 _,.inr ⟨e,h1,by simpa using h2,fun i hi=>?_,fun j=>by simpa using h4 j⟩⟩;have hi':i<out.length:=by simpa using hi
 obtain⟨c0,c1,c2⟩:=h3 i hi';by_cases ei:i=k
 ·subst ei;rw[List.getElem_set_self];exact⟨by rw[qI (by omega)];exact c0,by rw[qI (by omega)];exact c1,zF c2⟩
 rw[List.getElem_set_ne (Ne.symm ei)];exact⟨by rw[qI (by omega)];exact c0,by rw[qI (by omega)];exact c1,by rw[qI (by omega)];exact c2⟩
def Pq(w:World)(g i:Nat):Int:=match w.cell? ⟨g,i*3+2,none⟩ with|some (.int _ x)=>x|_=>0
def Jp(w:World)(g:Nat):Nat->Int
 | 0=>0
 | n+1=>Jp w g n+Pq w g n
theorem Gt(xs ys:List St):nD (xs++ys)=nD xs+nD ys:=by
 induction xs with
 | nil=>simp[nD]
 | cons s xs ih=>simp only[WU,nD,ih];omega
theorem VL.sum{w:ae}{g:Nat}{out:List St}(h:VL w g out):∀k,k<=out.length->Jp w g k=nD (out.take k)
 | 0,_=>by simp[Jp,nD]
 | k+1,hk=>by
  have hlt:k<out.length:=by omega
  rw[V8 hlt,Gt];simp only[Jp,h.sum k (by omega),nD];have:Pq w g k=out[k].n:=by unfold Pq;rw[(h k hlt).2.2]
  omega
theorem RowS.sum{w wr:ae}{ad:Q02}{g:Nat}{out:List St}(h:RowS w wr ad g out):Jp wr g out.length=nD out:=by
 rcases h.at' with e|⟨e,h1,h2,h3,h4⟩
 ·rw[e];simp[Jp,nD]
 rw[h3.sum _ (V4 _),Wo]
def Ps:Value->Int
 | .bool true=>1
 | _=>0
def Dr(w:World)(g n:Nat)(m:Value):Nat:=(2*((n:Int)*n-Jp w g n)+Ps m).toNat
theorem Jq{ts:Q0b}{w wr w2:ae}{ad:Q02}{g n:Nat}{oS out:List St}{mb:Bool}(hS:RowS w wr ad g oS)(hO:RowS w w2 ad g out)(h:Mid ts n oS n 0 mb out)(hl:oS.length=n):Dr w2 g n (.bool mb)<Dr wr g n (.bool true):=by
 have e1:=hS.sum;have e2:=hO.sum;have h3:=RZ n out fun s hs=>(h.done rfl).le s hs;have h2:=h.len;have h4:=h.grow;rw[hl]at e1;rw[h2]at e2 h3;unfold Dr;rw[e1,e2];cases mb;case false=>simp only[Ps];omega
 have:=h4.2 rfl;simp only[Ps];omega
theorem R3{w wr:ae}{v:Value}{out:List St}(hB:af w wr)(h:wr.ownsRow w.heap.size 200 3 v out.length (iL out)):∃ad cp g,v=.slice ad out.length cp/\RowS w wr ad g out:=by
 rcases h.2 with⟨rfl,h0⟩|⟨g,cp,cur,rfl,hbg,hg,hnc,-⟩
 ·exact⟨none,0,0,by rw[h0],hB,.inl (Wu.1 h0)⟩
 obtain⟨ad,cp',e,h0⟩:=Vq h;injection e with e1 e2 e3;refine⟨some ⟨g,0,none⟩,cp,g,rfl,hB,?_⟩;rcases h0 with h0|⟨g',e4,h1,h2,h3⟩
 ·exact .inl (Wu.1 h0)
 rw[<-e1]at e4;injection e4 with e4;injection e4 with e4;subst e4;exact .inr ⟨rfl,h1,h2,h3,fun j=>by simp[World.frozen?,hg]⟩
theorem Uo(ad:Q02)(cap n:Nat)(xs:List St)(key:Q01)(w:ae)(hn:xs.length=n)(hlen:n<=1048576)(hs:Jm w ad xs)(i:Nat)(hat:gY key.1 key.2 xs 0=(i:Int)):
  Calls prog 169 #[.slice ad n cap,.string key.1,.string key.2] w fun e w'=>e=.returned (.int .i64 (i:Int))/\w'=w:=by
 subst hn;rw[<-hat];exact Ph ad cap xs key.1 key.2 w hlen hs
theorem AtD.set{w:ae}{b off g o:Nat}{d:Dp}{v:Value}(h:AtD w b off d)(hn:g≠b):AtD (w.setCell ⟨g,o,none⟩ v) b off d:=⟨by rw[xW hn];exact h.1,by rw[xW hn];exact h.2.1,by rw[xW hn];exact h.2.2⟩
theorem TC.set{w:ae}{lo g o:Nat}{ad:Q02}{xs:List Dp}{v:Value}(h:TC w lo ad xs)(hg:g<lo):TC (w.setCell ⟨g,o,none⟩ v) lo ad xs:=by
 rcases h with h|⟨b,e,h1,h2,h3⟩
 ·exact .inl h
 exact .inr ⟨b,e,h1,by simpa using h2,fun i hi=>(h3 i hi).set (by omega)⟩
theorem keepD{wr W w':ae}{g o1 o2:Nat}{x y:Value}(h:W.cell? ⟨g,o1,none⟩=some x/\W.cell? ⟨g,o2,none⟩=some y/\g<W.heap.size/\af wr W)(hb:af W w'):
  w'.cell? ⟨g,o1,none⟩=some x/\w'.cell? ⟨g,o2,none⟩=some y/\g<w'.heap.size/\af wr w' :=
 ⟨aJ hb h.2.2.1 h.1,aJ hb h.2.2.1 h.2.1,VY h.2.2.1 hb.size,h.2.2.2.trans (hb.mono h.2.2.2.size)⟩
theorem qB.small{rs:Q06}{ad:Q02}{rows:Q08}(h:qB rs ad rows)(hl:∀r∈rs,∀q∈r.rows,q.rows.length<=15/\∀e∈q.rows,eH q.rows.length e.e.kids):rows.length<=15/\∀e∈rows,eH rows.length e.e.kids:=by
 rcases h with rfl|⟨t,ht,q,hq,rfl,-⟩
 ·exact⟨by simp,by simp⟩
 exact hl t ht q hq
theorem Ay(ts:Q0b)(ty over rel:bZ):(iq ts ty over rel).length<=(aW (aM ts ty over)).length:=Jk _ _ _
theorem Jr(ts:Q0b)(typ:bZ)(es:Q09)(A G:Nat)(hA:∀e∈es,e.allow.length<=A)(hG:∀over rel,(iq ts typ over rel).length<=G)(k:Nat):(aS ts typ es k).length<=k*(A+G+1):=by
 induction k with
 | zero=>simp[aS]
 | succ k ih =>
  simp only[aS,Wi];have:(lq ts typ es k).length<=A+G+1:=by
   unfold lq;split
   ·simp
   rename_i e he;have h1:=hA e (Xk he);have h2:=Dl ((fE es).getD k false) e.allow;have h3:(oM ts typ ((fE es).getD k false) e).length<=G+1:=by
    unfold oM;split
    ·simp
    split
    ·have:=hG e.over e.name;simp;omega
    simp
   rw[Wi];omega
  have e:(k+1)*(A+G+1)=k*(A+G+1)+(A+G+1):=Nat.succ_mul _ _;omega
theorem Cq(ts:Q0b)(typ:bZ)(es:Q09)(k:Nat)(h:es.length<=k):lq ts typ es k=[]:=by
 unfold lq;rw[List.getElem?_eq_none h]
theorem Js(ts:Q0b)(typ:bZ)(es:Q09)(B:Nat)(hB:∀k,k<=es.length->(aS ts typ es k).length<=B)(k:Nat):(aS ts typ es k).length<=B:=by
 induction k with
 | zero=>exact hB 0 (Wd _)
 | succ k ih =>
  by_cases h:k+1<=es.length
  ·exact hB _ h
  simp only[aS];rw[Cq _ _ _ _ (by omega),WS];exact ih
theorem Gu(rs:Q07)(n:bZ)(es:Q09)(h:jS (eG rs) n=some es):∃q∈rs,es=aj q.rows:=by
 induction rs with
 | nil=>simp[eG,jS]at h
 | cons r rs ih =>
  simp only[eG,Xp,jS]at h;split at h
  ·injection h with h;exact⟨r,by simp,h.symm⟩
  obtain⟨q,hq,e⟩:=ih h;exact⟨q,by simp[hq],e⟩
theorem Jt(ts:Q06)(ty n:bZ)(es:Q09)(h:gu (ag ts) ty n=some es):∃t∈ts,∃q∈t.rows,es=aj q.rows:=by
 induction ts with
 | nil=>simp[ag,gu]at h
 | cons t ts ih =>
  simp only[ag,Xp,gu]at h;split at h
  ·rcases Option.or_eq_some_iff.1 h with h|⟨-,h⟩
   ·obtain⟨q,hq,e⟩:=Gu _ _ _ h;exact⟨t,by simp,q,hq,e⟩
   obtain⟨t',ht,q,hq,e⟩:=ih h;exact⟨t',by simp[ht],q,hq,e⟩
  obtain⟨t',ht,q,hq,e⟩:=ih h;exact⟨t',by simp[ht],q,hq,e⟩
theorem ym(rs:Q06)(hl:∀r∈rs,r.light)(typ over rel:bZ):(iq (ag rs) typ over rel).length<=1048576:=by
 refine Wh (Ay _ _ _ _) ?_;unfold aM;cases h:gu (ag rs) typ over with
 | none=>simp[aW]
 | some es =>
  obtain⟨t,ht,q,hq,rfl⟩:=Jt _ _ _ _ h;exact Ak q.rows ((hl t ht).2 q hq).2
theorem Az(rs:Q06)(hl:∀r∈rs,r.light)(typ:bZ)(rows:Q08)(hle:rows.length<=15)(hlE:∀q∈rows,q.e.light)(k:Nat):(aS (ag rs) typ (aj rows) k).length<=100000000:=by
 refine Js _ _ _ _ (fun k hk=>?_) k;refine Wh (Jr _ _ _ 1048576 1048576 (fun e he=>?_) (ym rs hl typ) k) ?_
 ·obtain⟨q,hq,rfl⟩:=Wp.1 he;exact(hlE q hq).1
 rw[bf]at hk;omega
end Go.Proofs.YtcgdckphpjfmhaaGreatDoor
