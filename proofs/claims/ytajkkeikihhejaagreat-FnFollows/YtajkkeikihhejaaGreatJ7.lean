/- Contracts of the document's functions that look a type, a relation, and whom it allows up in a schema. -/
import Derived.Test.YtajkkeikihhejaaGreatSq
import Derived.Test.YtajkkeikihhejaaGreatJ3
import Derived.OwnWalk
import Derived.Maps.AppendAt
open Go.Proofs.Tryz
set_option maxHeartbeats 80000000
namespace Go.Proofs.YtajkkeikihhejaaGreat
open ChangeShapes WideShapes ChangeAt RowKit
open Pl
def jT:List Rl->ByteArray->Option (List Ex)
 | [],_=>none
 | r::rs,n=>if r.name.toList==n.toList then some r.expr else jT rs n
def eG:List Ty->ByteArray->ByteArray->Option (List Ex)
 | [],_,_=>none
 | t::ts,ty,n=>if t.name.toList==ty.toList then (jT t.rels n).or (eG ts ty n) else eG ts ty n
def lH:List Ty->ByteArray->Bool
 | [],_=>false
 | t::ts,ty=>(t.name.toList==ty.toList) || lH ts ty
theorem nP(rs:Q06)(k:Nat)(h:k<rs.length):ag (rs.drop k)=⟨rs[k].name,eZ rs[k].rows⟩::ag (rs.drop (k+1)):=by
 rw[Vl h];rfl
theorem Gd(rs:Q07)(k:Nat)(h:k<rs.length):eZ (rs.drop k)=⟨rs[k].name,ak rs[k].rows⟩::eZ (rs.drop (k+1)):=by
 rw[Vl h];rfl
theorem IV(ad:Q02)(cap:Nat)(rs:Q06)(typ:bQ)(w:af)(hlen:rs.length<=1048576)(hs:kU w ad rs):
  Calls prog 192 #[.slice ad rs.length cap,.string typ] w fun e w'=>e=.returned (.bool (lH (ag rs) typ))/\w'=w:=by
 go_enter func192,ntmps192;go_wp2;go_loopw[5] (fun i wr=>∃k:Nat,k<=rs.length/\i=.int .i64 k/\Hid (lH (ag (rs.drop k)) typ=lH (ag rs) typ)/\wr=w) (fun i _=>rs.length-(intOf i).toNat);case atStart=>exact⟨0,UY _,rfl,rfl,rfl⟩
 obtain⟨k,hk,rfl,HP,rfl⟩:=hrel;by_cases hlt:k<rs.length
 ·rcases hs with rfl|⟨b,off,rfl,hb,hr,hok⟩
  ·simp at hlt
  obtain⟨t0,t1⟩:=hr k hlt;have hk1:=bG k;have hk2:(k:Int)<(rs.length:Int):=by omega
  clear hr hok;cases hq:(rs[k].name.toList==typ.toList);case true=>
   have HN:Hid (lH (ag rs) typ=true):=by show _=_;rw[<-HP.out,nP _ _ hlt];simp[lH,hq]
   go_wp2;go_ret;exact⟨by rw[HN.out];rfl,rfl⟩
  have Wj:Hid (lH (ag (rs.drop (k+1))) typ=lH (ag rs) typ):=by show _=_;rw[<-HP.out,nP _ _ hlt];simp[lH,hq]
  go_wp2;go_roundw;case rel=>exact⟨k+1,by omega,by go_num,Wj,by first|rfl|trivial⟩
  simp[intOf]<;>omega
 have HN:Hid (lH (ag rs) typ=false):=by show _=_;rw[<-HP.out,Vf (by omega)];rfl
 go_wp2;go_ret;exact⟨by rw[HN.out];rfl,rfl⟩
def nQ(rs:Q06)(ad:Q02)(rows:Q08):Prop:=rows=[] \/ ∃t∈rs,∃q∈t.rows,rows=q.rows/\ad=q.ad
theorem NW.mem{w:af}{ad:Q02}{rs:Q07}(h:NW w ad rs){q:RR}(hq:q∈rs):q.ok w:=by
 rcases h with rfl|⟨b,off,e,hb,hr,hk⟩
 ·cases hq
 exact hk q hq
theorem kU.mem{w:af}{ad:Q02}{rs:Q06}(h:kU w ad rs){q:TR}(hq:q∈rs):q.ok w:=by
 rcases h with rfl|⟨b,off,e,hb,hr,hk⟩
 ·cases hq
 exact hk q hq
theorem nQ.sl{rs:Q06}{ad ad0:Q02}{rows:Q08}{w:af}(h:nQ rs ad rows)(hs:kU w ad0 rs):gZ w ad rows:=by
 rcases h with rfl|⟨t,ht,q,hq,rfl,rfl⟩
 ·exact .inl rfl
 exact NW.mem (hs.mem ht) hq
theorem iK(ad:Q02)(cap:Nat)(rs:Q06)(typ rel:bQ)(w:af)(hlen:rs.length<=1048576)(hs:kU w ad rs)(hl:∀r∈rs,r.light):
  Calls prog 97 #[.slice ad rs.length cap,.string typ,.string rel] w fun e w'=>(∃(rows:Q08) (We:Q02) (cap':Nat),e=.returned (.slice We rows.length cap')/\ak rows=(eG (ag rs) typ rel).getD []/\gZ w We rows/\nQ rs We rows)/\w'=w:=by
 have HS:=aC hs;have HL:=aC hl;clear hs hl;go_enter func97,ntmps97;go_wp2;go_loopw[7] (fun i wr=>∃k:Nat,k<=rs.length/\i=.int .i64 k/\Hid (eG (ag (rs.drop k)) typ rel=eG (ag rs) typ rel)/\wr=w) (fun i _=>rs.length-(intOf i).toNat);case atStart=>exact⟨0,UY _,rfl,rfl,rfl⟩
 obtain⟨k,hk,rfl,HP,rfl⟩:=hrel;by_cases hlt:k<rs.length
 ·rcases HS.out with rfl|⟨b,off,rfl,hb,hr,hok⟩
  ·simp at hlt
  obtain⟨t0,t1⟩:=hr k hlt;have ok:=hok rs[k] (UR hlt);have lg:=(HL.out rs[k] (UR hlt)).1;have XE:=aC ok;have hk1:=bG k;have hk2:(k:Int)<(rs.length:Int):=by omega
  clear hr hok ok;cases hq:(rs[k].name.toList==typ.toList);case false=>
   have Wj:Hid (eG (ag (rs.drop (k+1))) typ rel=eG (ag rs) typ rel):=by show _=_;rw[<-HP.out,nP _ _ hlt];simp[eG,hq]
   go_wp2_with fail;go_loopw[8] (fun i w2=>i=.int .i64 0/\w2=wr) (fun i _=>(intOf i).toNat);case atStart=>exact⟨rfl,rfl⟩
   obtain⟨rfl,rfl⟩:=hrel;go_wp2;go_roundw;case rel=>exact⟨k+1,by omega,by go_num,Wj,by first|rfl|trivial⟩
   simp[intOf]<;>omega
  go_wp2_with fail;go_loopw[8] (fun i w2=>∃j:Nat,j<=rs[k].rows.length/\i=.int .i64 j/\Hid (jT (eZ (rs[k].rows.drop j)) rel=jT (eZ rs[k].rows) rel)/\w2=wr) (fun i _=>rs[k].rows.length-(intOf i).toNat);case atStart=>exact⟨0,UY _,rfl,rfl,rfl⟩
  obtain⟨j,hj,rfl,HI,rfl⟩:=hrel;by_cases hjl:j<rs[k].rows.length
  ·rcases XE.out with hnil|⟨b2,Wz,had,hb2,hr2,hok2⟩
   ·rw[hnil]at hjl;simp at hjl
   have t1':=t1;rw[had]at t1';obtain⟨q0,q1⟩:=hr2 j hjl;have HOQ:Hid (rs[k].rows[j].ok _):=hok2 rs[k].rows[j] (UR hjl);have hj1:=bG j;have hj2:(j:Int)<(rs[k].rows.length:Int):=by omega
   clear hr2 hok2 had t1;cases hn:(rs[k].rows[j].name.toList==rel.toList);case true=>
    have HN:Hid (ak rs[k].rows[j].rows=(eG (ag rs) typ rel).getD []):=by
     have h1:jT (eZ rs[k].rows) rel=some (ak rs[k].rows[j].rows):=by rw[<-HI.out,Gd _ _ hjl];simp[jT,hn]
     show _=_;rw[<-HP.out,nP _ _ hlt];simp[eG,hq,h1]
    have HFS:Hid (nQ rs rs[k].rows[j].ad rs[k].rows[j].rows):=.inr ⟨rs[k],UR hlt,rs[k].rows[j],UR hjl,rfl,rfl⟩;go_wp2;go_ret;exact⟨⟨rs[k].rows[j].rows,_,_,rfl,HN.out,HOQ.out,HFS.out⟩,rfl⟩
   have HI2:Hid (jT (eZ (rs[k].rows.drop (j+1))) rel=jT (eZ rs[k].rows) rel):=by show _=_;rw[<-HI.out,Gd _ _ hjl];simp[jT,hn]
   go_wp2;go_roundw;case rel=>exact⟨j+1,by omega,by go_num,HI2,by first|rfl|trivial⟩
   simp[intOf]<;>omega
  have Wj:Hid (eG (ag (rs.drop (k+1))) typ rel=eG (ag rs) typ rel):=by
   have h1:jT (eZ rs[k].rows) rel=none:=by rw[<-HI.out,Vf (by omega)];rfl
   show _=_;rw[<-HP.out,nP _ _ hlt];simp[eG,hq,h1]
  go_wp2;go_roundw;case rel=>exact⟨k+1,by omega,by go_num,Wj,by first|rfl|trivial⟩
  simp[intOf]<;>omega
 have HN:Hid (ak []=(eG (ag rs) typ rel).getD []):=by show _=_;rw[<-HP.out,Vf (by omega)];rfl
 go_wp2;go_ret;exact⟨⟨[],none,0,rfl,HN.out,.inl rfl,.inl rfl⟩,rfl⟩
def aX:List Ex->List Al
 | []=>[]
 | e::es=>if e.kind=1 then e.allow else aX es
theorem gV(rs:Q08)(k:Nat)(h:k<rs.length):ak (rs.drop k)=rs[k].e::ak (rs.drop (k+1)):=by
 rw[Vl h];rfl
def OH(rs:Q08)(ad:Q02)(xs:Q0a):Prop:=xs=[] \/ ∃r∈rs,xs=r.e.allow/\ad=r.adA
theorem gZ.mem{w:af}{ad:Q02}{rs:Q08}(h:gZ w ad rs){q:ER}(hq:q∈rs):q.ok w:=by
 rcases h with rfl|⟨b,off,e,hb,hr,hk⟩
 ·cases hq
 exact hk q hq
theorem OH.sl{rs:Q08}{ad ad0:Q02}{xs:Q0a}{w:af}(h:OH rs ad xs)(hs:gZ w ad0 rs):lq w ad xs:=by
 rcases h with rfl|⟨r,hr,rfl,rfl⟩
 ·exact .inl rfl
 exact(hs.mem hr).1
theorem xY(ad:Q02)(cap:Nat)(rs:Q08)(w:af)(hlen:rs.length<=1048576)(hs:gZ w ad rs):
  Calls prog 138 #[.slice ad rs.length cap] w fun e w'=>(∃(We:Q02) (cap':Nat),e=.returned (.slice We (aX (ak rs)).length cap')/\lq w We (aX (ak rs))/\OH rs We (aX (ak rs)))/\w'=w:=by
 have HS:=aC hs;clear hs;go_enter func138,ntmps138;go_wp2;go_loopw[3] (fun i wr=>∃k:Nat,k<=rs.length/\i=.int .i64 k/\Hid (aX (ak (rs.drop k))=aX (ak rs))/\wr=w) (fun i _=>rs.length-(intOf i).toNat);case atStart=>exact⟨0,UY _,rfl,rfl,rfl⟩
 obtain⟨k,hk,rfl,HP,rfl⟩:=hrel;by_cases hlt:k<rs.length
 ·rcases HS.out with rfl|⟨b,off,rfl,hb,hr,hok⟩
  ·simp at hlt
  obtain⟨t0,t1,t2,t3,t4⟩:=hr k hlt;have XE:Hid (rs[k].ok _):=hok rs[k] (UR hlt);have hk1:=bG k;have hk2:(k:Int)<(rs.length:Int):=by omega
  clear hr hok;by_cases hq:rs[k].e.kind=1
  ·have HN:Hid (aX (ak rs)=rs[k].e.allow):=by show _=_;rw[<-HP.out,gV _ _ hlt];simp[aX,hq]
   go_wp2;go_ret;exact⟨⟨rs[k].adA,rs[k].capA,by rw[HN.out];rfl,by rw[HN.out];exact XE.out.1,.inr ⟨rs[k],UR hlt,HN.out,rfl⟩⟩,rfl⟩
  have Wj:Hid (aX (ak (rs.drop (k+1)))=aX (ak rs)):=by show _=_;rw[<-HP.out,gV _ _ hlt];simp[aX,hq]
  have hqb:(rs[k].e.kind==1)=false:=by simpa using hq
  go_wp2;go_roundw;case rel=>exact⟨k+1,by omega,by go_num,Wj,by first|rfl|trivial⟩
  simp[intOf]<;>omega
 have HN:Hid (aX (ak rs)=[]):=by show _=_;rw[<-HP.out,Vf (by omega)];rfl
 go_wp2;go_ret;exact⟨⟨none,0,by rw[HN.out];rfl,by rw[HN.out];exact .inl rfl,.inl HN.out⟩,rfl⟩
def bH:List Ex->Bool
 | [e]=>decide (e.kind=1)&&e.allow.all fun a=>a.s.toList.isEmpty
 | _=>false
def zX(xs:Q0a)(k:Nat):Bool:=(xs.take k).all fun a=>a.s.toList.isEmpty
theorem IW(xs:Q0a)(k:Nat)(h:k<xs.length):zX xs (k+1)=(zX xs k&&xs[k].s.toList.isEmpty):=by
 unfold zX;rw[UX h,VV];simp
theorem LQ(xs:Q0a)(k:Nat)(h:k<xs.length)(hb:xs[k].s.toList.isEmpty=false):(xs.all fun a=>a.s.toList.isEmpty)=false:=by
 rw[Bool.eq_false_iff];intro h2;rw[U5]at h2;have:=h2 xs[k] (UR h);rw[hb]at this;cases this
theorem Ez(ad:Q02)(cap:Nat)(rs:Q08)(w:af)(hlen:rs.length<=1048576)(hs:gZ w ad rs)(hl:∀r∈rs,r.e.light):
  Calls prog 193 #[.slice ad rs.length cap] w fun e w'=>e=.returned (.bool (bH (ak rs)))/\w'=w:=by
 by_cases h1:rs.length=1
 ·obtain⟨r,rfl⟩:∃r,rs=[r]:=List.length_eq_one_iff.1 h1;rcases hs with h|⟨b,off,rfl,hb,hr,hok⟩
  ·cases h
  obtain⟨t0,t1,t2,t3,t4⟩:=hr 0 (by simp);simp only[Nat.zero_mul,Nat.add_zero,List.getElem_cons_zero]at t0 t1 t2 t3 t4;have XE:Hid (r.ok w):=hok r (by simp);obtain⟨lg,-⟩:=hl r (by simp);clear hr hok h1;simp only[Vq,VT,Vj];by_cases hq:r.e.kind=1
  ·have HD:Hid (bH (ak [r])=r.e.allow.all fun a=>a.s.toList.isEmpty):=by show _=_;simp[bH,ak,hq]
   go_enter func193,ntmps193;go_wp2;go_loopw[3] (fun i wr=>∃k:Nat,k<=r.e.allow.length/\i=.int .i64 k/\Hid (zX r.e.allow k=true)/\wr=w) (fun i _=>r.e.allow.length-(intOf i).toNat);case atStart=>exact⟨0,UY _,rfl,(by show _=_;simp[zX]),rfl⟩
   obtain⟨k,hk,rfl,HP,rfl⟩:=hrel;by_cases hlt:k<r.e.allow.length
   ·rcases XE.out.1 with hnil|⟨ba,Yi,Yj,ZK,hra⟩
    ·rw[hnil]at hlt;simp at hlt
    have t1':=t1;rw[Yj]at t1';obtain⟨q0,q1⟩:=hra k hlt;have hk1:=bG k;have hk2:(k:Int)<(r.e.allow.length:Int):=by omega
    clear hra Yj t1;cases he:r.e.allow[k].s.toList.isEmpty;case true=>
     have Wj:Hid (zX r.e.allow (k+1)=true):=by show _=_;rw[IW _ _ hlt,HP.out,he];rfl
     go_wp2;go_roundw;case rel=>exact⟨k+1,by omega,by go_num,Wj,by first|rfl|trivial⟩
     simp[intOf]<;>omega
    have HN:Hid (bH (ak [r])=false):=by show _=_;rw[HD.out];exact LQ _ k hlt he
    go_wp2;go_ret;exact⟨by rw[HN.out];rfl,rfl⟩
   have HN:Hid (bH (ak [r])=true):=by
    show _=_;rw[HD.out];have:=HP.out;unfold zX at this;rwa [Vs (by omega)]at this
   go_wp2;go_ret;exact⟨by rw[HN.out];rfl,rfl⟩
  have HN:Hid (bH (ak [r])=false):=by show _=_;simp[bH,ak,hq]
  have hqb:(r.e.kind != 1)=true:=by simpa using hq
  go_enter func193,ntmps193;go_wp2;go_ret;exact⟨by rw[HN.out];rfl,rfl⟩
 have HN:Hid (bH (ak rs)=false):=by
  show _=_
  match rs,h1 with
  | [],_=>rfl
  | [r],h=>exact absurd rfl h
  | a::b::r,_=>rfl
 have h1':((rs.length:Int) != 1)=true:=by simp;omega
 go_enter func193,ntmps193;go_wp2;go_ret;exact⟨by rw[HN.out];rfl,rfl⟩
def aB(ts:Q0b)(ty n:ByteArray):List Ex:=(eG ts ty n).getD []
def gl(ts:Q0b)(rel:ByteArray):List Al->List ByteArray
 | []=>[]
 | a::xs=>if (aB ts a.t rel).isEmpty then gl ts rel xs else a.t::gl ts rel xs
def iw(ts:Q0b)(ty over rel:ByteArray):List ByteArray:=gl ts rel (aX (aB ts ty over))
theorem CY(ts:Q0b)(rel:bQ)(xs ys:Q0a):gl ts rel (xs++ys)=gl ts rel xs++gl ts rel ys:=by
 induction xs with
 | nil=>rfl
 | cons a xs ih=>simp only[VC,gl,ih];split<;>simp
theorem Sy(ts:Q0b)(rel:bQ)(xs:Q0a)(k:Nat)(h:k<xs.length)(he:aB ts xs[k].t rel=[]):gl ts rel (xs.take (k+1))=gl ts rel (xs.take k):=by
 rw[UX h,CY];simp[gl,he]
theorem OI(ts:Q0b)(rel:bQ)(xs:Q0a)(k:Nat)(h:k<xs.length)(he:aB ts xs[k].t rel≠[]):gl ts rel (xs.take (k+1))=gl ts rel (xs.take k)++[xs[k].t]:=by
 rw[UX h,CY];simp[gl,he]
theorem IX(ts:Q0b)(rel:bQ)(xs:Q0a):(gl ts rel xs).length<=xs.length:=by
 induction xs with
 | nil=>simp[gl]
 | cons a xs ih=>simp only[gl];split<;>simp<;>omega
theorem LU:(prog.info? 9).map (fun i=>(i.zero,i.size,i.bytes))=some (some (.string ⟨#[]⟩),1,16):=by kernel_rfl
def qB(xs:List ByteArray):List Value:=xs.map Value.string
def Tk(w:World)(ad:Q02)(xs:List ByteArray):Prop:=xs=[] \/ ∃b off,ad=some ⟨b,off,none⟩/\b<w.heap.size/\∀(i:Nat) (h:i<xs.length),w.cell? ⟨b,off+i,none⟩=some (.string xs[i])
theorem Tk.below{w w':af}{ad:Q02}{xs:List ByteArray}(h:Tk w ad xs)(hB:ae w w'):Tk w' ad xs:=by
 rcases h with h|⟨b,off,e,hb,hr⟩
 ·exact .inl h
 exact .inr ⟨b,off,e,UT hb hB.size,fun i hi=>(hB.cell (p:=⟨b,off+i,none⟩) hb).trans (hr i hi)⟩
theorem OJ{w:af}{base k:Nat}{v:Value}{xs:List ByteArray}(h:w.ownsRow base 9 1 v k (qB xs)):∃ad cp,v=.slice ad xs.length cp/\Tk w ad xs/\∀p,ad=some p->base<=p.block:=by
 have hl:xs.length=k:=by have:=h.1;simpa[qB] using this
 have h2:=h;rcases h.2 with⟨rfl,h0⟩|⟨g,cp,cur,rfl,hbg,hg,hnc,-⟩
 ·refine⟨none,0,?_,.inl (Vb.1 (by omega)),fun p hp=>by cases hp⟩;rw[hl,h0]
 have hlt:=h2.lt g rfl;refine⟨_,cp,by rw[hl],.inr ⟨g,0,rfl,hlt.2,fun j hj=>?_⟩,fun p hp=>by injection hp with hp;rw[<-hp];exact hlt.1⟩;have:=h2.cells (g:=g) rfl j (.string xs[j]) (by simp[qB,hj]);rw[Vj];have e:(⟨g,0,none⟩:Addr).add j=⟨g,j,none⟩:=by
  unfold Addr.add;by_cases hj:j=0
  ·subst hj;simp
  simp[hj]
 rwa [e]at this
theorem nQ.light{rs:Q06}{ad:Q02}{rows:Q08}(h:nQ rs ad rows)(hl:∀r∈rs,r.light):rows.length<=1048576/\∀q∈rows,q.e.light:=by
 rcases h with rfl|⟨t,ht,q,hq,rfl,-⟩
 ·exact⟨by simp,by simp⟩
 exact(hl t ht).2 q hq
theorem zY(rows:Q08)(hl:∀q∈rows,q.e.light):(aX (ak rows)).length<=1048576:=by
 induction rows with
 | nil=>simp[ak,aX]
 | cons r rows ih =>
  have e:ak (r::rows)=r.e::ak rows:=rfl;rw[e];simp only[aX];split
  ·exact(hl r (by simp)).1
  exact ih fun q hq=>hl q (by simp[hq])
set_option maxRecDepth 100000 in
theorem xZ(ad:Q02)(cap:Nat)(rs:Q06)(typ over rel:bQ)(w:af)(hlen:rs.length<=1048576)(hs:kU w ad rs)(hl:∀r∈rs,r.light):
  Calls prog 194 #[.slice ad rs.length cap,.string typ,.string over,.string rel] w fun e w'=>(∃(We:Q02) (cap':Nat),e=.returned (.slice We (iw (ag rs) typ over rel).length cap')/\Tk w' We (iw (ag rs) typ over rel)/\∀p,We=some p->w.heap.size<=p.block)/\ae w w':=by
 have HS:=aC hs;have HL:=aC hl;clear hs hl;obtain⟨i0,hi,hz0,hz1,hz2⟩:=info_parts LU;go_enter func194,ntmps194;go_wp2_with fail;have hbA:ae w (w.alloc (.cells #[] 9)):=(UV _ _).alloc (UU _) _;have hown1:(w.alloc (.cells #[] 9)).ownsRow w.heap.size 9 1 (.slice (some ⟨w.heap.size,0,none⟩) 0 0) 0 []:=World.ownsRow_made w #[] 0 (UU _) (by decide) rfl;refine(iK ad cap rs typ over _ hlen (HS.out.below hbA) HL.out).mono ?_;rintro e w1 ⟨⟨rows,ad1,cap1,rfl,hx1,hs1,hf1⟩,rfl⟩;have hl1:=hf1.light HL.out;have hal:=zY rows hl1.2;go_wp2_with fail;refine(xY ad1 cap1 rows _ hl1.1 hs1).mono ?_;rintro e w1 ⟨⟨ad2,cap2,rfl,-,hf2⟩,rfl⟩;have HG:Hid (iw (ag rs) typ over rel=gl (ag rs) rel (aX (ak rows))):=by show _=_;rw[hx1];rfl
 have HA:Hid (lq w ad2 (aX (ak rows))):=hf2.sl (hf1.sl HS.out);generalize aX (ak rows)=xs at *
 clear hs1 hx1 hf1 hl1 hf2;have HBA:=aC hbA;have Wp:=aC hown1;clear hbA hown1;obtain⟨wA,hwA⟩:∃wA,wA=w.alloc (.cells #[] 9):=⟨_,rfl⟩;rw[<-hwA]at HBA Wp ⊢;clear hwA;go_wp2_with fail;go_loopw[9,11] (fun v i wr=>∃k:Nat,k<=xs.length/\i=.int .i64 k/\wr.ownsRow w.heap.size 9 1 v (gl (ag rs) rel (xs.take k)).length (qB (gl (ag rs) rel (xs.take k)))/\ae w wr) (fun _ i _=>xs.length-(intOf i).toNat);case atStart=>exact⟨0,UY _,rfl,by simpa[qB,gl] using Wp.out,HBA.out⟩
 obtain⟨k,hk,rfl,hown,hB⟩:=hrel;by_cases hlt:k<xs.length
 ·have HST:Hid (kU _ ad rs):=HS.out.below hB;rcases HA.out.below hB with rfl|⟨b,off,rfl,hb,hr⟩
  ·simp at hlt
  obtain⟨t0,t1⟩:=hr k hlt;have hBs:=hB.size;have hgl:=IX (ag rs) rel (xs.take k);rw[Vy]at hgl;have HBH:=aC hB;have HOW:Hid (wr.ownsRow w.heap.size 9 1 _ _ _):=hown;clear hr hB hown;go_wp2_with fail;refine(iK ad cap rs xs[k].t rel _ hlen HST.out HL.out).mono ?_;rintro e w1 ⟨⟨Xm,ad3,cap3,rfl,hx3,-,-⟩,rfl⟩;by_cases hz:Xm.length=0
  ·have HE:Hid (gl (ag rs) rel (xs.take (k+1))=gl (ag rs) rel (xs.take k)):=by
    refine Sy _ _ _ _ hlt ?_;show _=_;unfold aB;rw[<-hx3,Vb.1 hz];rfl
   rw[hz];clear hx3;go_wp2;go_roundw;case rel=>exact⟨k+1,by omega,by go_num,by rw[HE.out];exact HOW.out,HBH.out⟩
   simp[intOf]<;>omega
  have HX:Hid (gl (ag rs) rel (xs.take (k+1))=gl (ag rs) rel (xs.take k)++[xs[k].t]):=by
   refine OI _ _ _ _ hlt ?_;show ¬_=_;unfold aB;rw[<-hx3];intro h2;apply hz;rw[<-aQ,h2];rfl
  have hzz:(0:Int)<(Xm.length:Int):=by omega
  clear hx3;go_wp2_with(at_builtin;refine wpList_append_own _ rfl _ _ 142 rfl w.heap.size 9 i0 (.string ⟨#[]⟩) 1 16 underlying142 hi hz0 hz1 hz2 rfl (by decide) _ _ _ rfl (HOW.out.alloc _) ⟨w1.heap.size,0,none⟩ 1 1 [.string xs[k].t] rfl rfl (cell_one_new _ _ _) (by intro u hu;simp at hu;subst hu;rfl) (by unfold maxLen;omega) (by omega) (by simp;omega) ?_);intro v' w3 hown3 hgrow _;have hb3:ae w w3:=(HBH.out.alloc HBH.out.size _).grown hgrow (by simp;omega) (fun i hi=>(HOW.out.lt i hi).1);have Ww:Hid (w3.ownsRow w.heap.size 9 1 v' (gl (ag rs) rel (xs.take (k+1))).length (qB (gl (ag rs) rel (xs.take (k+1))))):=by
   show World.ownsRow _ _ _ _ _ _ _;rw[HX.out];simpa[qB] using hown3
  clear hown3 hgrow HOW;go_wp2;go_roundw;case rel=>exact⟨k+1,by omega,by go_num,Ww.out,hb3⟩
  simp[intOf]<;>omega
 obtain rfl:k=xs.length:=by omega
 have HE:Hid (xs.take xs.length=xs):=by show _=_;rw[Va]
 rw[HE.out,<-HG.out]at hown;obtain⟨We,cp,rfl,hsl,hnew⟩:=OJ hown;have Ye:Hid (∀p,We=some p->w.heap.size<=p.block):=hnew;have Yu:Hid (Tk _ We (iw (ag rs) typ over rel)):=hsl;have HBH:Hid (ae w _):=hB;clear hsl hB hown hnew;go_wp2;go_ret;exact⟨⟨We,cp,rfl,Yu.out,Ye.out⟩,HBH.out⟩
end Go.Proofs.YtajkkeikihhejaaGreat
