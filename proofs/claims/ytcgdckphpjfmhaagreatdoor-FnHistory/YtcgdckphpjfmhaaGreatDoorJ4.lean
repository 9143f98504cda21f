/- Contracts of the document's functions that look a type, a relation, and whom it allows up in a schema. -/
import Derived.Test.YtcgdckphpjfmhaaGreatDoorSq
import Derived.Test.YtcgdckphpjfmhaaGreatDoorJ1
import Derived.OwnWalk
import Derived.Maps.AppendAt
open Go.Proofs.Tryz
set_option maxHeartbeats 80000000
namespace Go.Proofs.YtcgdckphpjfmhaaGreatDoor
open ChangeShapes WideShapes ChangeAt RowKit
open Pl
def jM:List Rl->ByteArray->Option (List Ex)
 | [],_=>none
 | r::rs,n=>if r.name.toList==n.toList then some r.expr else jM rs n
def gm:List Ty->ByteArray->ByteArray->Option (List Ex)
 | [],_,_=>none
 | t::ts,ty,n=>if t.name.toList==ty.toList then (jM t.rels n).or (gm ts ty n) else gm ts ty n
def lF:List Ty->ByteArray->Bool
 | [],_=>false
 | t::ts,ty=>(t.name.toList==ty.toList) || lF ts ty
theorem nX(rs:Q06)(k:Nat)(h:k<rs.length):ag (rs.drop k)=⟨rs[k].name,eu rs[k].rows⟩::ag (rs.drop (k+1)):=by
 rw[V5 h];rfl
theorem FV(rs:Q07)(k:Nat)(h:k<rs.length):eu (rs.drop k)=⟨rs[k].name,aj rs[k].rows⟩::eu (rs.drop (k+1)):=by
 rw[V5 h];rfl
theorem IL(ad:Q02)(cap:Nat)(rs:Q06)(typ:bW)(w:ae)(hlen:rs.length<=1048576)(hs:jP w ad rs):
  Calls prog 195 #[.slice ad rs.length cap,.string typ] w fun e w'=>e=.returned (.bool (lF (ag rs) typ))/\w'=w:=by
 go_enter func195,ntmps195;go_wp2;go_loopw[5] (fun i wr=>∃k:Nat,k<=rs.length/\i=.int .i64 k/\Hid (lF (ag (rs.drop k)) typ=lF (ag rs) typ)/\wr=w) (fun i _=>rs.length-(intOf i).toNat);case atStart=>exact⟨0,VG _,rfl,rfl,rfl⟩
 obtain⟨k,hk,rfl,HP,rfl⟩:=hrel;by_cases hlt:k<rs.length
 ·rcases hs with rfl|⟨b,off,rfl,hb,hr,hok⟩
  ·simp at hlt
  obtain⟨t0,t1⟩:=hr k hlt;have hk1:=bq k;have hk2:(k:Int)<(rs.length:Int):=by omega
  clear hr hok;cases hq:(rs[k].name.toList==typ.toList);case true=>
   have HN:Hid (lF (ag rs) typ=true):=by show _=_;rw[<-HP.out,nX _ _ hlt];simp[lF,hq]
   go_wp2;go_ret;exact⟨by rw[HN.out];rfl,rfl⟩
  have Xa:Hid (lF (ag (rs.drop (k+1))) typ=lF (ag rs) typ):=by show _=_;rw[<-HP.out,nX _ _ hlt];simp[lF,hq]
  go_wp2;go_roundw;case rel=>exact⟨k+1,by omega,by go_num,Xa,by first|rfl|trivial⟩
  simp[intOf]<;>omega
 have HN:Hid (lF (ag rs) typ=false):=by show _=_;rw[<-HP.out,VW (by omega)];rfl
 go_wp2;go_ret;exact⟨by rw[HN.out];rfl,rfl⟩
def pX(rs:Q06)(ad:Q02)(rows:Q08):Prop:=rows=[] \/ ∃t∈rs,∃q∈t.rows,rows=q.rows/\ad=q.ad
theorem NK.mem{w:ae}{ad:Q02}{rs:Q07}(h:NK w ad rs){q:RR}(hq:q∈rs):q.ok w:=by
 rcases h with rfl|⟨b,off,e,hb,hr,hk⟩
 ·cases hq
 exact hk q hq
theorem jP.mem{w:ae}{ad:Q02}{rs:Q06}(h:jP w ad rs){q:TR}(hq:q∈rs):q.ok w:=by
 rcases h with rfl|⟨b,off,e,hb,hr,hk⟩
 ·cases hq
 exact hk q hq
theorem pX.sl{rs:Q06}{ad ad0:Q02}{rows:Q08}{w:ae}(h:pX rs ad rows)(hs:jP w ad0 rs):jq w ad rows:=by
 rcases h with rfl|⟨t,ht,q,hq,rfl,rfl⟩
 ·exact .inl rfl
 exact NK.mem (hs.mem ht) hq
theorem jf(ad:Q02)(cap:Nat)(rs:Q06)(typ rel:bW)(w:ae)(hlen:rs.length<=1048576)(hs:jP w ad rs)(hl:∀r∈rs,r.light):
  Calls prog 118 #[.slice ad rs.length cap,.string typ,.string rel] w fun e w'=>(∃(rows:Q08) (WY:Q02) (cap':Nat),e=.returned (.slice WY rows.length cap')/\aj rows=(gm (ag rs) typ rel).getD []/\jq w WY rows/\pX rs WY rows)/\w'=w:=by
 have HS:=aC hs;have HL:=aC hl;clear hs hl;go_enter func118,ntmps118;go_wp2;go_loopw[7] (fun i wr=>∃k:Nat,k<=rs.length/\i=.int .i64 k/\Hid (gm (ag (rs.drop k)) typ rel=gm (ag rs) typ rel)/\wr=w) (fun i _=>rs.length-(intOf i).toNat);case atStart=>exact⟨0,VG _,rfl,rfl,rfl⟩
 obtain⟨k,hk,rfl,HP,rfl⟩:=hrel;by_cases hlt:k<rs.length
 ·rcases HS.out with rfl|⟨b,off,rfl,hb,hr,hok⟩
  ·simp at hlt
  obtain⟨t0,t1⟩:=hr k hlt;have ok:=hok rs[k] (Vz hlt);have lg:=(HL.out rs[k] (Vz hlt)).1;have XK:=aC ok;have hk1:=bq k;have hk2:(k:Int)<(rs.length:Int):=by omega
  clear hr hok ok;cases hq:(rs[k].name.toList==typ.toList);case false=>
   have Xa:Hid (gm (ag (rs.drop (k+1))) typ rel=gm (ag rs) typ rel):=by show _=_;rw[<-HP.out,nX _ _ hlt];simp[gm,hq]
   go_wp2_with fail;go_loopw[8] (fun i w2=>i=.int .i64 0/\w2=wr) (fun i _=>(intOf i).toNat);case atStart=>exact⟨rfl,rfl⟩
   obtain⟨rfl,rfl⟩:=hrel;go_wp2;go_roundw;case rel=>exact⟨k+1,by omega,by go_num,Xa,by first|rfl|trivial⟩
   simp[intOf]<;>omega
  go_wp2_with fail;go_loopw[8] (fun i w2=>∃j:Nat,j<=rs[k].rows.length/\i=.int .i64 j/\Hid (jM (eu (rs[k].rows.drop j)) rel=jM (eu rs[k].rows) rel)/\w2=wr) (fun i _=>rs[k].rows.length-(intOf i).toNat);case atStart=>exact⟨0,VG _,rfl,rfl,rfl⟩
  obtain⟨j,hj,rfl,HI,rfl⟩:=hrel;by_cases hjl:j<rs[k].rows.length
  ·rcases XK.out with hnil|⟨b2,Xr,had,hb2,hr2,hok2⟩
   ·rw[hnil]at hjl;simp at hjl
   have t1':=t1;rw[had]at t1';obtain⟨q0,q1⟩:=hr2 j hjl;have HOQ:Hid (rs[k].rows[j].ok _):=hok2 rs[k].rows[j] (Vz hjl);have hj1:=bq j;have hj2:(j:Int)<(rs[k].rows.length:Int):=by omega
   clear hr2 hok2 had t1;cases hn:(rs[k].rows[j].name.toList==rel.toList);case true=>
    have HN:Hid (aj rs[k].rows[j].rows=(gm (ag rs) typ rel).getD []):=by
     have h1:jM (eu rs[k].rows) rel=some (aj rs[k].rows[j].rows):=by rw[<-HI.out,FV _ _ hjl];simp[jM,hn]
     show _=_;rw[<-HP.out,nX _ _ hlt];simp[gm,hq,h1]
    have HFS:Hid (pX rs rs[k].rows[j].ad rs[k].rows[j].rows):=.inr ⟨rs[k],Vz hlt,rs[k].rows[j],Vz hjl,rfl,rfl⟩;go_wp2;go_ret;exact⟨⟨rs[k].rows[j].rows,_,_,rfl,HN.out,HOQ.out,HFS.out⟩,rfl⟩
   have HI2:Hid (jM (eu (rs[k].rows.drop (j+1))) rel=jM (eu rs[k].rows) rel):=by show _=_;rw[<-HI.out,FV _ _ hjl];simp[jM,hn]
   go_wp2;go_roundw;case rel=>exact⟨j+1,by omega,by go_num,HI2,by first|rfl|trivial⟩
   simp[intOf]<;>omega
  have Xa:Hid (gm (ag (rs.drop (k+1))) typ rel=gm (ag rs) typ rel):=by
   have h1:jM (eu rs[k].rows) rel=none:=by rw[<-HI.out,VW (by omega)];rfl
   show _=_;rw[<-HP.out,nX _ _ hlt];simp[gm,hq,h1]
  go_wp2;go_roundw;case rel=>exact⟨k+1,by omega,by go_num,Xa,by first|rfl|trivial⟩
  simp[intOf]<;>omega
 have HN:Hid (aj []=(gm (ag rs) typ rel).getD []):=by show _=_;rw[<-HP.out,VW (by omega)];rfl
 go_wp2;go_ret;exact⟨⟨[],none,0,rfl,HN.out,.inl rfl,.inl rfl⟩,rfl⟩
def aV:List Ex->List Al
 | []=>[]
 | e::es=>if e.kind=1 then e.allow else aV es
theorem gH(rs:Q08)(k:Nat)(h:k<rs.length):aj (rs.drop k)=rs[k].e::aj (rs.drop (k+1)):=by
 rw[V5 h];rfl
def Ox(rs:Q08)(ad:Q02)(xs:Q0a):Prop:=xs=[] \/ ∃r∈rs,xs=r.e.allow/\ad=r.adA
theorem jq.mem{w:ae}{ad:Q02}{rs:Q08}(h:jq w ad rs){q:ER}(hq:q∈rs):q.ok w:=by
 rcases h with rfl|⟨b,off,e,hb,hr,hk⟩
 ·cases hq
 exact hk q hq
theorem Ox.sl{rs:Q08}{ad ad0:Q02}{xs:Q0a}{w:ae}(h:Ox rs ad xs)(hs:jq w ad0 rs):ll w ad xs:=by
 rcases h with rfl|⟨r,hr,rfl,rfl⟩
 ·exact .inl rfl
 exact(hs.mem hr).1
theorem xK(ad:Q02)(cap:Nat)(rs:Q08)(w:ae)(hlen:rs.length<=1048576)(hs:jq w ad rs):
  Calls prog 165 #[.slice ad rs.length cap] w fun e w'=>(∃(WY:Q02) (cap':Nat),e=.returned (.slice WY (aV (aj rs)).length cap')/\ll w WY (aV (aj rs))/\Ox rs WY (aV (aj rs)))/\w'=w:=by
 have HS:=aC hs;clear hs;go_enter func165,ntmps165;go_wp2;go_loopw[3] (fun i wr=>∃k:Nat,k<=rs.length/\i=.int .i64 k/\Hid (aV (aj (rs.drop k))=aV (aj rs))/\wr=w) (fun i _=>rs.length-(intOf i).toNat);case atStart=>exact⟨0,VG _,rfl,rfl,rfl⟩
 obtain⟨k,hk,rfl,HP,rfl⟩:=hrel;by_cases hlt:k<rs.length
 ·rcases HS.out with rfl|⟨b,off,rfl,hb,hr,hok⟩
  ·simp at hlt
  obtain⟨t0,t1,t2,t3,t4⟩:=hr k hlt;have XK:Hid (rs[k].ok _):=hok rs[k] (Vz hlt);have hk1:=bq k;have hk2:(k:Int)<(rs.length:Int):=by omega
  clear hr hok;by_cases hq:rs[k].e.kind=1
  ·have HN:Hid (aV (aj rs)=rs[k].e.allow):=by show _=_;rw[<-HP.out,gH _ _ hlt];simp[aV,hq]
   go_wp2;go_ret;exact⟨⟨rs[k].adA,rs[k].capA,by rw[HN.out];rfl,by rw[HN.out];exact XK.out.1,.inr ⟨rs[k],Vz hlt,HN.out,rfl⟩⟩,rfl⟩
  have Xa:Hid (aV (aj (rs.drop (k+1)))=aV (aj rs)):=by show _=_;rw[<-HP.out,gH _ _ hlt];simp[aV,hq]
  have hqb:(rs[k].e.kind==1)=false:=by simpa using hq
  go_wp2;go_roundw;case rel=>exact⟨k+1,by omega,by go_num,Xa,by first|rfl|trivial⟩
  simp[intOf]<;>omega
 have HN:Hid (aV (aj rs)=[]):=by show _=_;rw[<-HP.out,VW (by omega)];rfl
 go_wp2;go_ret;exact⟨⟨none,0,by rw[HN.out];rfl,by rw[HN.out];exact .inl rfl,.inl HN.out⟩,rfl⟩
def bH:List Ex->Bool
 | [e]=>decide (e.kind=1)&&e.allow.all fun a=>a.s.toList.isEmpty
 | _=>false
def zQ(xs:Q0a)(k:Nat):Bool:=(xs.take k).all fun a=>a.s.toList.isEmpty
theorem IM(xs:Q0a)(k:Nat)(h:k<xs.length):zQ xs (k+1)=(zQ xs k&&xs[k].s.toList.isEmpty):=by
 unfold zQ;rw[VE h,WK];simp
theorem Lx(xs:Q0a)(k:Nat)(h:k<xs.length)(hb:xs[k].s.toList.isEmpty=false):(xs.all fun a=>a.s.toList.isEmpty)=false:=by
 rw[Bool.eq_false_iff];intro h2;rw[VN]at h2;have:=h2 xs[k] (Vz h);rw[hb]at this;cases this
theorem Ei(ad:Q02)(cap:Nat)(rs:Q08)(w:ae)(hlen:rs.length<=1048576)(hs:jq w ad rs)(hl:∀r∈rs,r.e.light):
  Calls prog 196 #[.slice ad rs.length cap] w fun e w'=>e=.returned (.bool (bH (aj rs)))/\w'=w:=by
 by_cases h1:rs.length=1
 ·obtain⟨r,rfl⟩:∃r,rs=[r]:=List.length_eq_one_iff.1 h1;rcases hs with h|⟨b,off,rfl,hb,hr,hok⟩
  ·cases h
  obtain⟨t0,t1,t2,t3,t4⟩:=hr 0 (by simp);simp only[Nat.zero_mul,Nat.add_zero,List.getElem_cons_zero]at t0 t1 t2 t3 t4;have XK:Hid (r.ok w):=hok r (by simp);obtain⟨lg,-⟩:=hl r (by simp);clear hr hok h1;simp only[We,WH,V4];by_cases hq:r.e.kind=1
  ·have HD:Hid (bH (aj [r])=r.e.allow.all fun a=>a.s.toList.isEmpty):=by show _=_;simp[bH,aj,hq]
   go_enter func196,ntmps196;go_wp2;go_loopw[3] (fun i wr=>∃k:Nat,k<=r.e.allow.length/\i=.int .i64 k/\Hid (zQ r.e.allow k=true)/\wr=w) (fun i _=>r.e.allow.length-(intOf i).toNat);case atStart=>exact⟨0,VG _,rfl,(by show _=_;simp[zQ]),rfl⟩
   obtain⟨k,hk,rfl,HP,rfl⟩:=hrel;by_cases hlt:k<r.e.allow.length
   ·rcases XK.out.1 with hnil|⟨ba,YO,YP,Z7,hra⟩
    ·rw[hnil]at hlt;simp at hlt
    have t1':=t1;rw[YP]at t1';obtain⟨q0,q1⟩:=hra k hlt;have hk1:=bq k;have hk2:(k:Int)<(r.e.allow.length:Int):=by omega
    clear hra YP t1;cases he:r.e.allow[k].s.toList.isEmpty;case true=>
     have Xa:Hid (zQ r.e.allow (k+1)=true):=by show _=_;rw[IM _ _ hlt,HP.out,he];rfl
     go_wp2;go_roundw;case rel=>exact⟨k+1,by omega,by go_num,Xa,by first|rfl|trivial⟩
     simp[intOf]<;>omega
    have HN:Hid (bH (aj [r])=false):=by show _=_;rw[HD.out];exact Lx _ k hlt he
    go_wp2;go_ret;exact⟨by rw[HN.out];rfl,rfl⟩
   have HN:Hid (bH (aj [r])=true):=by
    show _=_;rw[HD.out];have:=HP.out;unfold zQ at this;rwa [Wl (by omega)]at this
   go_wp2;go_ret;exact⟨by rw[HN.out];rfl,rfl⟩
  have HN:Hid (bH (aj [r])=false):=by show _=_;simp[bH,aj,hq]
  have hqb:(r.e.kind != 1)=true:=by simpa using hq
  go_enter func196,ntmps196;go_wp2;go_ret;exact⟨by rw[HN.out];rfl,rfl⟩
 have HN:Hid (bH (aj rs)=false):=by
  show _=_
  match rs,h1 with
  | [],_=>rfl
  | [r],h=>exact absurd rfl h
  | a::b::r,_=>rfl
 have h1':((rs.length:Int) != 1)=true:=by simp;omega
 go_enter func196,ntmps196;go_wp2;go_ret;exact⟨by rw[HN.out];rfl,rfl⟩
def aK(ts:Q0b)(ty n:ByteArray):List Ex:=(gm ts ty n).getD []
def gl(ts:Q0b)(rel:ByteArray):List Al->List ByteArray
 | []=>[]
 | a::xs=>if (aK ts a.t rel).isEmpty then gl ts rel xs else a.t::gl ts rel xs
def ig(ts:Q0b)(ty over rel:ByteArray):List ByteArray:=gl ts rel (aV (aK ts ty over))
theorem CG(ts:Q0b)(rel:bW)(xs ys:Q0a):gl ts rel (xs++ys)=gl ts rel xs++gl ts rel ys:=by
 induction xs with
 | nil=>rfl
 | cons a xs ih=>simp only[Wp,gl,ih];split<;>simp
theorem SI(ts:Q0b)(rel:bW)(xs:Q0a)(k:Nat)(h:k<xs.length)(he:aK ts xs[k].t rel=[]):gl ts rel (xs.take (k+1))=gl ts rel (xs.take k):=by
 rw[VE h,CG];simp[gl,he]
theorem Oy(ts:Q0b)(rel:bW)(xs:Q0a)(k:Nat)(h:k<xs.length)(he:aK ts xs[k].t rel≠[]):gl ts rel (xs.take (k+1))=gl ts rel (xs.take k)++[xs[k].t]:=by
 rw[VE h,CG];simp[gl,he]
theorem IP(ts:Q0b)(rel:bW)(xs:Q0a):(gl ts rel xs).length<=xs.length:=by
 induction xs with
 | nil=>simp[gl]
 | cons a xs ih=>simp only[gl];split<;>simp<;>omega
theorem LA:(prog.info? 9).map (fun i=>(i.zero,i.size,i.bytes))=some (some (.string ⟨#[]⟩),1,16):=by kernel_rfl
def qE(xs:List ByteArray):List Value:=xs.map Value.string
def TH(w:World)(ad:Q02)(xs:List ByteArray):Prop:=xs=[] \/ ∃b off,ad=some ⟨b,off,none⟩/\b<w.heap.size/\∀(i:Nat) (h:i<xs.length),w.cell? ⟨b,off+i,none⟩=some (.string xs[i])
theorem TH.below{w w':ae}{ad:Q02}{xs:List ByteArray}(h:TH w ad xs)(hB:af w w'):TH w' ad xs:=by
 rcases h with h|⟨b,off,e,hb,hr⟩
 ·exact .inl h
 exact .inr ⟨b,off,e,Vy hb hB.size,fun i hi=>(hB.cell (p:=⟨b,off+i,none⟩) hb).trans (hr i hi)⟩
theorem Oz{w:ae}{base k:Nat}{v:Value}{xs:List ByteArray}(h:w.ownsRow base 9 1 v k (qE xs)):∃ad cp,v=.slice ad xs.length cp/\TH w ad xs/\∀p,ad=some p->base<=p.block:=by
 have hl:xs.length=k:=by have:=h.1;simpa[qE] using this
 have h2:=h;rcases h.2 with⟨rfl,h0⟩|⟨g,cp,cur,rfl,hbg,hg,hnc,-⟩
 ·refine⟨none,0,?_,.inl (VS.1 (by omega)),fun p hp=>by cases hp⟩;rw[hl,h0]
 have hlt:=h2.lt g rfl;refine⟨_,cp,by rw[hl],.inr ⟨g,0,rfl,hlt.2,fun j hj=>?_⟩,fun p hp=>by injection hp with hp;rw[<-hp];exact hlt.1⟩;have:=h2.cells (g:=g) rfl j (.string xs[j]) (by simp[qE,hj]);rw[V4];have e:(⟨g,0,none⟩:Addr).add j=⟨g,j,none⟩:=by
  unfold Addr.add;by_cases hj:j=0
  ·subst hj;simp
  simp[hj]
 rwa [e]at this
theorem pX.light{rs:Q06}{ad:Q02}{rows:Q08}(h:pX rs ad rows)(hl:∀r∈rs,r.light):rows.length<=1048576/\∀q∈rows,q.e.light:=by
 rcases h with rfl|⟨t,ht,q,hq,rfl,-⟩
 ·exact⟨by simp,by simp⟩
 exact(hl t ht).2 q hq
theorem zR(rows:Q08)(hl:∀q∈rows,q.e.light):(aV (aj rows)).length<=1048576:=by
 induction rows with
 | nil=>simp[aj,aV]
 | cons r rows ih =>
  have e:aj (r::rows)=r.e::aj rows:=rfl;rw[e];simp only[aV];split
  ·exact(hl r (by simp)).1
  exact ih fun q hq=>hl q (by simp[hq])
set_option maxRecDepth 100000 in
theorem xL(ad:Q02)(cap:Nat)(rs:Q06)(typ over rel:bW)(w:ae)(hlen:rs.length<=1048576)(hs:jP w ad rs)(hl:∀r∈rs,r.light):
  Calls prog 197 #[.slice ad rs.length cap,.string typ,.string over,.string rel] w fun e w'=>(∃(WY:Q02) (cap':Nat),e=.returned (.slice WY (ig (ag rs) typ over rel).length cap')/\TH w' WY (ig (ag rs) typ over rel)/\∀p,WY=some p->w.heap.size<=p.block)/\af w w':=by
 have HS:=aC hs;have HL:=aC hl;clear hs hl;obtain⟨i0,hi,hz0,hz1,hz2⟩:=info_parts LA;go_enter func197,ntmps197;go_wp2_with fail;have hbA:af w (w.alloc (.cells #[] 9)):=(VD _ _).alloc (VC _) _;have hown1:(w.alloc (.cells #[] 9)).ownsRow w.heap.size 9 1 (.slice (some ⟨w.heap.size,0,none⟩) 0 0) 0 []:=World.ownsRow_made w #[] 0 (VC _) (by decide) rfl;refine(jf ad cap rs typ over _ hlen (HS.out.below hbA) HL.out).mono ?_;rintro e w1 ⟨⟨rows,ad1,cap1,rfl,hx1,hs1,hf1⟩,rfl⟩;have hl1:=hf1.light HL.out;have hal:=zR rows hl1.2;go_wp2_with fail;refine(xK ad1 cap1 rows _ hl1.1 hs1).mono ?_;rintro e w1 ⟨⟨ad2,cap2,rfl,-,hf2⟩,rfl⟩;have HG:Hid (ig (ag rs) typ over rel=gl (ag rs) rel (aV (aj rows))):=by show _=_;rw[hx1];rfl
 have HA:Hid (ll w ad2 (aV (aj rows))):=hf2.sl (hf1.sl HS.out);generalize aV (aj rows)=xs at *
 clear hs1 hx1 hf1 hl1 hf2;have HBA:=aC hbA;have Xj:=aC hown1;clear hbA hown1;obtain⟨wA,hwA⟩:∃wA,wA=w.alloc (.cells #[] 9):=⟨_,rfl⟩;rw[<-hwA]at HBA Xj ⊢;clear hwA;go_wp2_with fail;go_loopw[9,11] (fun v i wr=>∃k:Nat,k<=xs.length/\i=.int .i64 k/\wr.ownsRow w.heap.size 9 1 v (gl (ag rs) rel (xs.take k)).length (qE (gl (ag rs) rel (xs.take k)))/\af w wr) (fun _ i _=>xs.length-(intOf i).toNat);case atStart=>exact⟨0,VG _,rfl,by simpa[qE,gl] using Xj.out,HBA.out⟩
 obtain⟨k,hk,rfl,hown,hB⟩:=hrel;by_cases hlt:k<xs.length
 ·have HST:Hid (jP _ ad rs):=HS.out.below hB;rcases HA.out.below hB with rfl|⟨b,off,rfl,hb,hr⟩
  ·simp at hlt
  obtain⟨t0,t1⟩:=hr k hlt;have hBs:=hB.size;have hgl:=IP (ag rs) rel (xs.take k);rw[V9]at hgl;have HBH:=aC hB;have HOW:Hid (wr.ownsRow w.heap.size 9 1 _ _ _):=hown;clear hr hB hown;go_wp2_with fail;refine(jf ad cap rs xs[k].t rel _ hlen HST.out HL.out).mono ?_;rintro e w1 ⟨⟨XQ,ad3,cap3,rfl,hx3,-,-⟩,rfl⟩;by_cases hz:XQ.length=0
  ·have HE:Hid (gl (ag rs) rel (xs.take (k+1))=gl (ag rs) rel (xs.take k)):=by
    refine SI _ _ _ _ hlt ?_;show _=_;unfold aK;rw[<-hx3,VS.1 hz];rfl
   rw[hz];clear hx3;go_wp2;go_roundw;case rel=>exact⟨k+1,by omega,by go_num,by rw[HE.out];exact HOW.out,HBH.out⟩
   simp[intOf]<;>omega
  have HX:Hid (gl (ag rs) rel (xs.take (k+1))=gl (ag rs) rel (xs.take k)++[xs[k].t]):=by
   refine Oy _ _ _ _ hlt ?_;show ¬_=_;unfold aK;rw[<-hx3];intro h2;apply hz;rw[<-aZ,h2];rfl
  have hzz:(0:Int)<(XQ.length:Int):=by omega
  clear hx3;go_wp2_with(at_builtin;refine wpList_append_own _ rfl _ _ 169 rfl w.heap.size 9 i0 (.string ⟨#[]⟩) 1 16 underlying169 hi hz0 hz1 hz2 rfl (by decide) _ _ _ rfl (HOW.out.alloc _) ⟨w1.heap.size,0,none⟩ 1 1 [.string xs[k].t] rfl rfl (cell_one_new _ _ _) (by intro u hu;simp at hu;subst hu;rfl) (by unfold maxLen;omega) (by omega) (by simp;omega) ?_);intro v' w3 hown3 hgrow _;have hb3:af w w3:=(HBH.out.alloc HBH.out.size _).grown hgrow (by simp;omega) (fun i hi=>(HOW.out.lt i hi).1);have Xm:Hid (w3.ownsRow w.heap.size 9 1 v' (gl (ag rs) rel (xs.take (k+1))).length (qE (gl (ag rs) rel (xs.take (k+1))))):=by
   show World.ownsRow _ _ _ _ _ _ _;rw[HX.out];simpa[qE] using hown3
  clear hown3 hgrow HOW;go_wp2;go_roundw;case rel=>exact⟨k+1,by omega,by go_num,Xm.out,hb3⟩
  simp[intOf]<;>omega
 obtain rfl:k=xs.length:=by omega
 have HE:Hid (xs.take xs.length=xs):=by show _=_;rw[VP]
 rw[HE.out,<-HG.out]at hown;obtain⟨WY,cp,rfl,hsl,hnew⟩:=Oz hown;have Ze:Hid (∀p,WY=some p->w.heap.size<=p.block):=hnew;have Z8:Hid (TH _ WY (ig (ag rs) typ over rel)):=hsl;have HBH:Hid (af w _):=hB;clear hsl hB hown hnew;go_wp2;go_ret;exact⟨⟨WY,cp,rfl,Z8.out,Ze.out⟩,HBH.out⟩
def pY(ts:Q0b)(a:Al):Bool:=lF ts a.t&&(a.s.toList.isEmpty || !(aK ts a.t a.s).isEmpty)
def qF(ts:Q0b)(xs:Q0a):Bool:=xs.all (pY ts)
def nJ(ts:Q0b)(typ:ByteArray)(e:Ex):Bool :=
 if e.kind=2 then !(aK ts typ e.name).isEmpty
 else if e.kind=3 then bH (aK ts typ e.over) && !(ig ts typ e.over e.name).isEmpty
 else true
def aU(ts:Q0b)(typ:ByteArray):List Ex->Bool
 | []=>true
 | e::es=>if qF ts e.allow&&nJ ts typ e then aU ts typ es else false
def nY(ts:Q0b)(xs:Q0a)(k:Nat):Bool:=qF ts (xs.take k)
theorem zS(ts:Q0b)(xs:Q0a):nY ts xs 0=true:=by simp[nY,qF]
theorem o9(ts:Q0b)(xs:Q0a)(k:Nat)(h:k<xs.length):nY ts xs (k+1)=(nY ts xs k&&pY ts xs[k]):=by
 unfold nY qF;rw[VE h,WK];simp
theorem uU(ts:Q0b)(xs:Q0a)(k:Nat)(h:k<xs.length)(hb:pY ts xs[k]=false):qF ts xs=false:=by
 unfold qF;rw[Bool.eq_false_iff];intro h2;rw[VN]at h2;have:=h2 xs[k] (Vz h);rw[hb]at this;cases this
theorem aI{w w':ae}{g o:Nat}{v:Value}(hB:af w w')(hg:g<w.heap.size)(h:w.cell? ⟨g,o,none⟩=some v):w'.cell? ⟨g,o,none⟩=some v:=(hB.cell (p:=⟨g,o,none⟩) hg).trans h
set_option maxRecDepth 8000 in
theorem IQ(ad WW:Q02)(cap capE:Nat)(rs:Q06)(typ:bW)(rows:Q08)(w:ae)(hlen:rs.length<=1048576)(hs:jP w ad rs)(hl:∀r∈rs,r.light)(hle:rows.length<=1048576)(hse:jq w WW rows)(hlE:∀q∈rows,q.e.light):
  Calls prog 153 #[.slice ad rs.length cap,.string typ,.slice WW rows.length capE] w fun e w'=>e=.returned (.bool (aU (ag rs) typ (aj rows)))/\af w w':=by
 have HS:=aC hs;have HL:=aC hl;have HE:=aC hse;have XM:=aC hlE;clear hs hl hse hlE;go_enter func153,ntmps153;go_wp2_with fail;go_loopw[7] (fun i wr=>∃k:Nat,k<=rows.length/\i=.int .i64 k/\Hid (aU (ag rs) typ (aj (rows.drop k))=aU (ag rs) typ (aj rows))/\Hid (af w wr)) (fun i _=>rows.length-(intOf i).toNat);case atStart=>exact⟨0,VG _,rfl,rfl,VD _ _⟩
 obtain⟨k,hk,rfl,HP,HB⟩:=hrel;by_cases hlt:k<rows.length
 ·have HS1:Hid (jP _ ad rs):=HS.out.below HB.out;rcases HE.out.below HB.out with rfl|⟨b,off,rfl,hb,hr,hok⟩
  ·simp at hlt
  obtain⟨t0,t1,t2,t3,t4⟩:=hr k hlt;have XK:Hid (rows[k].ok wr):=hok rows[k] (Vz hlt);have lg:=(XM.out rows[k] (Vz hlt)).1;have hk1:=bq k;have hk2:(k:Int)<(rows.length:Int):=by omega
  clear hr hok;obtain⟨W1,hW1⟩:∃W1,W1=wr.alloc (.cells #[.int .i64 rows[k].e.kind,.slice rows[k].adA rows[k].e.allow.length rows[k].capA,.string rows[k].e.over,.string rows[k].e.name,.slice rows[k].adK rows[k].e.kids.length rows[k].capK] 188):=⟨_,rfl⟩;have hal:af wr W1:=by rw[hW1];exact(VD _ _).alloc (VC _) _
  have Xl:=aC hal;have WZ:=kL HB hal;have hgl:wr.heap.size<W1.heap.size:=by rw[hW1];simp
  have g0:W1.cell? ⟨wr.heap.size,0,none⟩=some (.int .i64 rows[k].e.kind):=by rw[hW1];simp
  have g1:W1.cell? ⟨wr.heap.size,1,none⟩=some (.slice rows[k].adA rows[k].e.allow.length rows[k].capA):=by rw[hW1];simp
  have g2:W1.cell? ⟨wr.heap.size,2,none⟩=some (.string rows[k].e.over):=by rw[hW1];simp
  have g3:W1.cell? ⟨wr.heap.size,3,none⟩=some (.string rows[k].e.name):=by rw[hW1];simp
  clear hal;go_wp2_with fail;rw[<-hW1];clear hW1;go_loopw[9] (fun i w2=>∃j:Nat,j<=rows[k].e.allow.length/\i=.int .i64 j/\Hid (nY (ag rs) rows[k].e.allow j=true)/\Hid (af W1 w2)) (fun i _=>rows[k].e.allow.length-(intOf i).toNat);case atStart=>exact⟨0,VG _,rfl,zS _ _,VD _ _⟩
  obtain⟨j,hj,rfl,HJ,HB2⟩:=hrel;have d0:=aI HB2.out hgl g0;have d1:=aI HB2.out hgl g1;have d2:=aI HB2.out hgl g2;have d3:=aI HB2.out hgl g3;clear g0 g1 g2 g3 t0 t1 t2 t3 t4;have ZG:Hid (af w _):=WZ.out.trans (HB2.out.mono WZ.out.size);have HS2:Hid (jP _ ad rs):=HS.out.below ZG.out;by_cases hjl:j<rows[k].e.allow.length
  ·have hA2:ll _ rows[k].adA rows[k].e.allow:=((XK.out.1).below Xl.out).below HB2.out;rcases hA2 with hnil|⟨ba,YO,YP,Z7,hra⟩
   ·rw[hnil]at hjl;simp at hjl
   rw[YP]at d1;obtain⟨q0,q1⟩:=hra j hjl;have hj1:=bq j;have hj2:(j:Int)<(rows[k].e.allow.length:Int):=by omega
   clear hra YP;go_wp2_with fail;refine(IL ad cap rs _ _ hlen (HS2.out.below ((VD _ _).alloc (VC _) _))).mono ?_;rintro e w3 ⟨rfl,rfl⟩;cases hty:lF (ag rs) rows[k].e.allow[j].t;case false=>
    have HN:Hid (aU (ag rs) typ (aj rows)=false):=by
     show _=_;rw[<-HP.out,gH _ _ hlt];simp[aU,uU (ag rs) _ j hjl (by simp[pY,hty])]
    go_wp2;go_ret;exact⟨by rw[HN.out];rfl,ZG.out.alloc ZG.out.size _⟩
   cases he:rows[k].e.allow[j].s.toList.isEmpty;case true=>
    have HJ2:Hid (nY (ag rs) rows[k].e.allow (j+1)=true):=by show _=_;rw[o9 _ _ _ hjl,HJ.out];simp[pY,hty,he]
    go_wp2;go_roundw;case rel=>exact⟨j+1,by omega,by go_num,HJ2,HB2.out.alloc HB2.out.size _⟩
    simp[intOf]<;>omega
   go_wp2_with fail;refine(jf ad cap rs _ _ _ hlen (HS2.out.below ((VD _ _).alloc (VC _) _)) HL.out).mono ?_;rintro e w3 ⟨⟨XQ,ad3,cap3,rfl,hx3,-,-⟩,rfl⟩;by_cases hz:XQ.length=0
   ·have HN:Hid (aU (ag rs) typ (aj rows)=false):=by
     have h1:aK (ag rs) rows[k].e.allow[j].t rows[k].e.allow[j].s=[]:=by unfold aK;rw[<-hx3,VS.1 hz];rfl
     show _=_;rw[<-HP.out,gH _ _ hlt];simp[aU,uU (ag rs) _ j hjl (by simp[pY,he,h1])]
    rw[hz];clear hx3;go_wp2;go_ret;exact⟨by rw[HN.out];rfl,ZG.out.alloc ZG.out.size _⟩
   have HJ2:Hid (nY (ag rs) rows[k].e.allow (j+1)=true):=by
    have h1:aK (ag rs) rows[k].e.allow[j].t rows[k].e.allow[j].s≠[]:=by
     unfold aK;rw[<-hx3];intro h2;apply hz;rw[<-aZ,h2];rfl
    show _=_;rw[o9 _ _ _ hjl,HJ.out];simp[pY,hty,h1]
   have hzb:((XQ.length:Int)==0)=false:=by simp;intro h;apply hz;rw[h];rfl
   clear hx3;go_wp2;go_roundw;case rel=>exact⟨j+1,by omega,by go_num,HJ2,HB2.out.alloc HB2.out.size _⟩
   simp[intOf]<;>omega
  have Zx:Hid (qF (ag rs) rows[k].e.allow=true):=by
   have:=HJ.out;unfold nY at this;rwa [Wl (by omega)]at this
  by_cases h2:rows[k].e.kind=2
  ·go_wp2_with fail;refine(jf ad cap rs _ _ _ hlen HS2.out HL.out).mono ?_;rintro e w3 ⟨⟨XQ,ad3,cap3,rfl,hx3,-,-⟩,rfl⟩;by_cases hz:XQ.length=0
   ·have HN:Hid (aU (ag rs) typ (aj rows)=false):=by
     have h1:aK (ag rs) typ rows[k].e.name=[]:=by unfold aK;rw[<-hx3,VS.1 hz];rfl
     show _=_;rw[<-HP.out,gH _ _ hlt];simp[aU,nJ,h2,h1]
    rw[hz];clear hx3;go_wp2;go_ret;exact⟨by rw[HN.out];rfl,ZG.out⟩
   have Xa:Hid (aU (ag rs) typ (aj (rows.drop (k+1)))=aU (ag rs) typ (aj rows)):=by
    have h1:aK (ag rs) typ rows[k].e.name≠[]:=by
     unfold aK;rw[<-hx3];intro h2;apply hz;rw[<-aZ,h2];rfl
    show _=_;rw[<-HP.out,gH _ _ hlt];simp[aU,nJ,h2,h1,Zx.out]
   have hzb:((XQ.length:Int)==0)=false:=by simp;intro h;apply hz;rw[h];rfl
   clear hx3;go_wp2;go_roundw;case rel=>exact⟨k+1,by omega,by go_num,Xa,ZG⟩
   simp[intOf]<;>omega
  by_cases h3:rows[k].e.kind=3
  ·go_wp2_with fail;refine(jf ad cap rs _ _ _ hlen HS2.out HL.out).mono ?_;rintro e w3 ⟨⟨XQ,ad3,cap3,rfl,hx3,hs3,hf3⟩,rfl⟩;have hl3:=hf3.light HL.out;go_wp2_with fail;refine(Ei ad3 cap3 XQ _ hl3.1 hs3 hl3.2).mono ?_;rintro e w3 ⟨rfl,rfl⟩;have HX:Hid (aj XQ=aK (ag rs) typ rows[k].e.over):=hx3;clear hx3 hs3 hf3 hl3;rw[HX.out];cases hd:bH (aK (ag rs) typ rows[k].e.over);case false=>
    have HN:Hid (aU (ag rs) typ (aj rows)=false):=by
     show _=_;rw[<-HP.out,gH _ _ hlt];simp[aU,nJ,h3,hd]
    go_wp2;go_ret;exact⟨by rw[HN.out];rfl,ZG.out⟩
   go_wp2_with fail;refine(xL ad cap rs _ _ _ _ hlen HS2.out HL.out).mono ?_;rintro e w4 ⟨⟨ad4,cap4,rfl,-⟩,hb4⟩;have XR:=kL ZG hb4;clear hb4;by_cases hz:(ig (ag rs) typ rows[k].e.over rows[k].e.name).length=0
   ·have HN:Hid (aU (ag rs) typ (aj rows)=false):=by
     show _=_;rw[<-HP.out,gH _ _ hlt];simp[aU,nJ,h3,VS.1 hz]
    rw[hz];go_wp2;go_ret;exact⟨by rw[HN.out];rfl,XR.out⟩
   have Xa:Hid (aU (ag rs) typ (aj (rows.drop (k+1)))=aU (ag rs) typ (aj rows)):=by
    have h1:ig (ag rs) typ rows[k].e.over rows[k].e.name≠[]:=by intro h;apply hz;rw[h];rfl
    show _=_;rw[<-HP.out,gH _ _ hlt];simp[aU,nJ,h3,h1,hd,Zx.out]
   have hzb:(((ig (ag rs) typ rows[k].e.over rows[k].e.name).length:Int)==0)=false:=by simp;intro h;apply hz;rw[h];rfl
   go_wp2;go_roundw;case rel=>exact⟨k+1,by omega,by go_num,Xa,XR⟩
   simp[intOf]<;>omega
  have Xa:Hid (aU (ag rs) typ (aj (rows.drop (k+1)))=aU (ag rs) typ (aj rows)):=by
   show _=_;rw[<-HP.out,gH _ _ hlt];simp[aU,nJ,h2,h3,Zx.out]
  have hb2:(rows[k].e.kind==2)=false:=by simpa using h2
  have hb3:(rows[k].e.kind==3)=false:=by simpa using h3
  go_wp2;go_roundw;case rel=>exact⟨k+1,by omega,by go_num,Xa,ZG⟩
  simp[intOf]<;>omega
 have HN:Hid (aU (ag rs) typ (aj rows)=true):=by show _=_;rw[<-HP.out,VW (by omega)];rfl
 go_wp2;go_ret;exact⟨by rw[HN.out];rfl,HB.out⟩
theorem uV(c:UInt8)(w:ae):
  Calls prog 234 #[.int .u8 c.toNat] w fun e w'=>e=.returned (.bool (yR c))/\w'=w:=by
 by_cases hl:eF c=true
 ·go_enter func234,ntmps234;go_wp2_with(go_at_call 209;refine(lh _ _).mono ?_;rintro e w' ⟨rfl,rfl⟩);go_ret;exact⟨ah (by simp[yR,hl]),rfl⟩
 have hf:eF c=false:=by simpa using hl
 clear hl;go_enter func234,ntmps234;go_wp2_with(go_at_call 209;refine(lh _ _).mono ?_;rintro e w' ⟨rfl,rfl⟩)
 all_goals go_ret
 all_goals refine⟨ah ?_,rfl⟩
 all_goals(rw[VV];simp[yR,hf];omega)
theorem IR(s:bW)(w:ae)(hs:s.size<=maxLen):
  Calls prog 206 #[.string s] w fun e w'=>e=.returned (.bool (pV s))/\w'=w:=by
 unfold maxLen at hs;by_cases h1:1<=s.size/\s.size<=12
 ·obtain⟨ha,hb⟩:=h1;go_enter func206,ntmps206;go_wp2
  go_loop [3] (fun i=>∃k:Nat,k<=s.size/\i=.int .i64 k/\Hid (Iw yR s k=true)) (fun i=>s.size-(intOf i).toNat)
  case atStart=>exact⟨0,VG _,rfl,uF _ _⟩
  obtain⟨k,hk,rfl,hu⟩:=hrel;by_cases hlt:k<s.size
  ·by_cases hc:yR s[k]=true
   ·have hd:(97<=s[k].toNat/\s[k].toNat<=122)\/(48<=s[k].toNat/\s[k].toNat<=57)\/s[k].toNat=95:=by simp[yR,eF]at hc;omega
    have HU:Hid (Iw yR s (k+1)=true):=by show _=_;rw[uG _ _ _ hlt,hc,hu.out];rfl
    clear hc;rcases hd with⟨hd1,hd2⟩|⟨hd1,hd2⟩|hd1
    all_goals
     go_wp2;go_round;case rel=>exact⟨k+1,by omega,by go_num,HU⟩
     simp[intOf];omega
   have hc':yR s[k]=false:=by simpa using hc
   have HB:Hid (sD yR s=false):=yU _ _ _ hlt hc';have hd:s[k].toNat<48\/(57<s[k].toNat/\s[k].toNat<95)\/(95<s[k].toNat/\s[k].toNat<97)\/122<s[k].toNat:=by simp[yR,eF]at hc';omega
   clear hc hc';rcases hd with hd|⟨hd,hd2⟩|⟨hd,hd2⟩|hd
   all_goals
    have h95:((s[k].toNat:Int) != 95)=true:=by simp;omega
    go_wp2;go_ret;exact⟨ah (by simp[pV,dI,HB.out]),rfl⟩
  go_wp2;go_ret;refine⟨ah ?_,rfl⟩;have hall:sD yR s=true:=by rw[<-yT yR s k (by omega)];exact hu.out
  have hl:nP s=true:=by simp[nP];omega
  simp[pV,dI,hall,hl]
 have hn:nP s=false:=by simp[nP];omega
 have HN:Hid (pV s=false):=by show _=_;simp[pV,dI,hn]
 clear hn;by_cases ha:1<=s.size
 ·have hb:12<s.size:=by omega
  clear h1;go_enter func206,ntmps206;go_wp2;go_ret;exact⟨ah HN.out.symm,rfl⟩
 have ha':s.size<1:=by omega
 clear h1;go_enter func206,ntmps206;go_wp2;go_ret;exact⟨ah HN.out.symm,rfl⟩
theorem zT(s:bW)(w:ae)(hs:s.size<=maxLen):
  Calls prog 208 #[.string s,.func (Fn.func 234) #[] #[]] w fun e w'=>e=.returned (.bool (dI yR s))/\w'=w:=by
 unfold maxLen at hs;by_cases h1:1<=s.size/\s.size<=12
 ·obtain⟨ha,hb⟩:=h1;go_enter func208,ntmps208;go_wp2
  go_loop [16] (fun i=>∃k:Nat,k<=s.size/\i=.int .i64 k/\Hid (Iw yR s k=true)) (fun i=>s.size-(intOf i).toNat)
  case atStart=>exact⟨0,VG _,rfl,uF _ _⟩
  obtain⟨k,hk,rfl,hu⟩:=hrel;by_cases hlt:k<s.size
  ·by_cases hc:yR s[k]=true
   ·have HU:Hid (Iw yR s (k+1)=true):=by show _=_;rw[uG _ _ _ hlt,hc,hu.out];rfl
    go_wp2_with(go_at_call 234;refine(uV _ _).mono ?_;rintro e w' ⟨rfl,rfl⟩);go_round;case rel=>exact⟨k+1,by omega,by go_num,HU⟩
    simp[intOf];omega
   have hc':yR s[k]=false:=by simpa using hc
   have HB:Hid (sD yR s=false):=yU _ _ _ hlt hc';clear hc;go_wp2_with(go_at_call 234;refine(uV _ _).mono ?_;rintro e w' ⟨rfl,rfl⟩);go_ret;exact⟨ah (by simp[dI,HB.out]),rfl⟩
  go_wp2;go_ret;refine⟨ah ?_,rfl⟩;have hall:sD yR s=true:=by rw[<-yT yR s k (by omega)];exact hu.out
  have hl:nP s=true:=by simp[nP];omega
  simp[dI,hall,hl]
 have hn:nP s=false:=by simp[nP];omega
 have HN:Hid (dI yR s=false):=by show _=_;simp[dI,hn]
 clear hn;by_cases ha:1<=s.size
 ·have hb:12<s.size:=by omega
  clear h1;go_enter func208,ntmps208;go_wp2;go_ret;exact⟨ah HN.out.symm,rfl⟩
 have ha':s.size<1:=by omega
 clear h1;go_enter func208,ntmps208;go_wp2;go_ret;exact⟨ah HN.out.symm,rfl⟩
theorem zU(s:bW)(w:ae)(hs:s.size<=maxLen):
  Calls prog 214 #[.string s] w fun e w'=>e=.returned (.bool (pV s))/\w'=w:=by
 go_enter func214,ntmps214;go_wp2_with(go_at_call 208;refine(zT _ _ hs).mono ?_;rintro e w' ⟨rfl,rfl⟩);go_ret;exact⟨rfl,rfl⟩
theorem jN{W w1:ae}(hb:af W w1):(∀b o,b<W.heap.size->w1.cell? ⟨b,o,none⟩=W.cell? ⟨b,o,none⟩)/\(∀b o,b<W.heap.size->w1.frozen? ⟨b,o,none⟩=W.frozen? ⟨b,o,none⟩) :=
 ⟨fun b o h=>hb.cell (p:=⟨b,o,none⟩) h,fun b o h=>hb.frozen (p:=⟨b,o,none⟩) h⟩
theorem fU(t i:bW)(w:ae)(ht:t.size<=maxLen)(hi:i.size<=maxLen):
  Calls prog 166 #[.agg #[.string t,.string i]] w fun e w'=>e=.returned (.bool (fH t i))/\af w w':=by
 by_cases hn:aS t=true
 all_goals
  go_enter func166,ntmps166;go_wp2_with(first|(go_at_call 151;refine(aT _ _ ht).mono ?_;rintro e w' ⟨rfl,rfl⟩)|(go_at_call 206;refine(IR _ _ hi).mono ?_;rintro e w' ⟨rfl,rfl⟩));go_ret;exact⟨ah (by simp[fH,hn]),(VD _ _).alloc (VC _) _⟩
theorem fV(t i:bW)(w:ae)(ht:t.size<=maxLen)(hi:i.size<=maxLen):
  Calls prog 178 #[.agg #[.string t,.string i]] w fun e w'=>e=.returned (.bool (fH t i))/\af w w':=by
 by_cases hn:aS t=true
 all_goals
  go_enter func178,ntmps178;go_wp2_with(first|(go_at_call 170;refine(aL _ _ ht).mono ?_;rintro e w' ⟨rfl,rfl⟩)|(go_at_call 214;refine(zU _ _ hi).mono ?_;rintro e w' ⟨rfl,rfl⟩));go_ret;exact⟨ah (by simp[fH,hn]),(VD _ _).alloc (VC _) _⟩
end Go.Proofs.YtcgdckphpjfmhaaGreatDoor
