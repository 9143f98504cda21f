/- Contracts of the document's functions that look a type, a relation, and whom it allows up in a schema. -/
import Derived.Test.YtajkkeikihhejaaGreatSq
import Derived.Test.YtajkkeikihhejaaGreatSchemas
import Derived.OwnWalk
import Derived.Maps.AppendAt
open Go.Proofs.Tryz
set_option maxHeartbeats 80000000
namespace Go.Proofs.YtajkkeikihhejaaGreat
open Go.ChangeShapes Go.WideShapes Go.ChangeAt Go.RowKit
open Pl
def jO:List Rl->ByteArray->Option (List Ex)
 | [],_=>none
 | r::rs,n=>if r.name.toList==n.toList then some r.expr else jO rs n
def fH:List Ty->ByteArray->ByteArray->Option (List Ex)
 | [],_,_=>none
 | t::ts,ty,n=>if t.name.toList==ty.toList then (jO t.rels n).or (fH ts ty n) else fH ts ty n
def lh:List Ty->ByteArray->Bool
 | [],_=>false
 | t::ts,ty=>(t.name.toList==ty.toList) || lh ts ty
theorem nV (rs:List TR)(k:Nat)(h:k<rs.length):ae (rs.drop k)=⟨rs[k].name,eF rs[k].rows⟩::ae (rs.drop (k+1)):=by
 rw [UB h];rfl
theorem FP (rs:List RR)(k:Nat)(h:k<rs.length):eF (rs.drop k)=⟨rs[k].name,aj rs[k].rows⟩::eF (rs.drop (k+1)):=by
 rw [UB h];rfl
theorem Ip (ad:Option Addr)(cap:Nat)(rs:List TR)(typ:bI)(w:af)(hlen:rs.length<=1048576)(hs:kX w ad rs) :
  Calls prog 192 #[.slice ad rs.length cap,.string typ] w fun e w'=>e=.returned (.bool (lh (ae rs) typ))/\w'=w:=by
 go_enter func192,ntmps192;go_wp2;go_loopw [5] (fun i wr=>∃ k:Nat,k<=rs.length/\i=.int .i64 k/\Hid (lh (ae (rs.drop k)) typ=lh (ae rs) typ)/\wr=w) (fun i _=>rs.length-(intOf i).toNat);case atStart=>exact ⟨0,Ui _,rfl,rfl,rfl⟩
 obtain ⟨k,hk,rfl,HP,rfl⟩:=hrel;by_cases hlt:k<rs.length
 ·rcases hs with rfl|⟨b,off,rfl,hb,hr,hok⟩
  ·simp at hlt
  obtain ⟨t0,t1⟩:=hr k hlt;have hk1:=bF k;have hk2:(k:Int)<(rs.length:Int):=by omega
  clear hr hok;cases hq:(rs[k].name.toList==typ.toList);case true=>
   have HN:Hid (lh (ae rs) typ=true):=by show _=_;rw [<-HP.out,nV _ _ hlt];simp [lh,hq]
   go_wp2;go_ret;exact ⟨by rw [HN.out];rfl,rfl⟩
  have UW:Hid (lh (ae (rs.drop (k+1))) typ=lh (ae rs) typ):=by show _=_;rw [<-HP.out,nV _ _ hlt];simp [lh,hq]
  go_wp2;go_roundw;case rel=>exact ⟨k+1,by omega,by go_num,UW,by first|rfl|trivial⟩
  simp [intOf] <;> omega
 have HN:Hid (lh (ae rs) typ=false):=by show _=_;rw [<-HP.out,List.drop_of_length_le (by omega)];rfl
 go_wp2;go_ret;exact ⟨by rw [HN.out];rfl,rfl⟩
def pV (rs:List TR)(ad:Option Addr)(rows:List ER):Prop:=rows=[] \/ ∃ t∈rs,∃ q∈t.rows,rows=q.rows/\ad=q.ad
theorem Ni.mem {w:af}{ad:Option Addr}{rs:List RR}(h:Ni w ad rs){q:RR}(hq:q∈rs):q.ok w:=by
 rcases h with rfl|⟨b,off,e,hb,hr,hk⟩
 ·cases hq
 exact hk q hq
theorem kX.mem {w:af}{ad:Option Addr}{rs:List TR}(h:kX w ad rs){q:TR}(hq:q∈rs):q.ok w:=by
 rcases h with rfl|⟨b,off,e,hb,hr,hk⟩
 ·cases hq
 exact hk q hq
theorem pV.sl {rs:List TR}{ad ad0:Option Addr}{rows:List ER}{w:af}(h:pV rs ad rows)(hs:kX w ad0 rs):iC w ad rows:=by
 rcases h with rfl|⟨t,ht,q,hq,rfl,rfl⟩
 ·exact .inl rfl
 exact Ni.mem (hs.mem ht) hq
theorem je (ad:Option Addr)(cap:Nat)(rs:List TR)(typ rel:bI)(w:af)(hlen:rs.length<=1048576)(hs:kX w ad rs)(hl:∀ r∈rs,r.light) :
  Calls prog 97 #[.slice ad rs.length cap,.string typ,.string rel] w fun e w'=>(∃ (rows:List ER) (UX:Option Addr) (cap':Nat),e=.returned (.slice UX rows.length cap')/\aj rows=(fH (ae rs) typ rel).getD []/\iC w UX rows/\pV rs UX rows)/\w'=w:=by
 have HS:=aA hs;have HL:=aA hl;clear hs hl;go_enter func97,ntmps97;go_wp2;go_loopw [7] (fun i wr=>∃ k:Nat,k<=rs.length/\i=.int .i64 k/\Hid (fH (ae (rs.drop k)) typ rel=fH (ae rs) typ rel)/\wr=w) (fun i _=>rs.length-(intOf i).toNat);case atStart=>exact ⟨0,Ui _,rfl,rfl,rfl⟩
 obtain ⟨k,hk,rfl,HP,rfl⟩:=hrel;by_cases hlt:k<rs.length
 ·rcases HS.out with rfl|⟨b,off,rfl,hb,hr,hok⟩
  ·simp at hlt
  obtain ⟨t0,t1⟩:=hr k hlt;have ok:=hok rs[k] (Ud hlt);have lg:=(HL.out rs[k] (Ud hlt)).1;have VP:=aA ok;have hk1:=bF k;have hk2:(k:Int)<(rs.length:Int):=by omega
  clear hr hok ok;cases hq:(rs[k].name.toList==typ.toList);case false=>
   have UW:Hid (fH (ae (rs.drop (k+1))) typ rel=fH (ae rs) typ rel):=by show _=_;rw [<-HP.out,nV _ _ hlt];simp [fH,hq]
   go_wp2_with fail;go_loopw [8] (fun i w2=>i=.int .i64 0/\w2=wr) (fun i _=>(intOf i).toNat);case atStart=>exact ⟨rfl,rfl⟩
   obtain ⟨rfl,rfl⟩:=hrel;go_wp2;go_roundw;case rel=>exact ⟨k+1,by omega,by go_num,UW,by first|rfl|trivial⟩
   simp [intOf] <;> omega
  go_wp2_with fail;go_loopw [8] (fun i w2=>∃ j:Nat,j<=rs[k].rows.length/\i=.int .i64 j/\Hid (jO (eF (rs[k].rows.drop j)) rel=jO (eF rs[k].rows) rel)/\w2=wr) (fun i _=>rs[k].rows.length-(intOf i).toNat);case atStart=>exact ⟨0,Ui _,rfl,rfl,rfl⟩
  obtain ⟨j,hj,rfl,HI,rfl⟩:=hrel;by_cases hjl:j<rs[k].rows.length
  ·rcases VP.out with hnil|⟨b2,Vb,had,hb2,hr2,hok2⟩
   ·rw [hnil]at hjl;simp at hjl
   have t1':=t1;rw [had]at t1';obtain ⟨q0,q1⟩:=hr2 j hjl;have HOQ:Hid (rs[k].rows[j].ok _):=hok2 rs[k].rows[j] (Ud hjl);have hj1:=bF j;have hj2:(j:Int)<(rs[k].rows.length:Int):=by omega
   clear hr2 hok2 had t1;cases hn:(rs[k].rows[j].name.toList==rel.toList);case true=>
    have HN:Hid (aj rs[k].rows[j].rows=(fH (ae rs) typ rel).getD []):=by
     have h1:jO (eF rs[k].rows) rel=some (aj rs[k].rows[j].rows):=by rw [<-HI.out,FP _ _ hjl];simp [jO,hn]
     show _=_;rw [<-HP.out,nV _ _ hlt];simp [fH,hq,h1]
    have HFS:Hid (pV rs rs[k].rows[j].ad rs[k].rows[j].rows):=.inr ⟨rs[k],Ud hlt,rs[k].rows[j],Ud hjl,rfl,rfl⟩;go_wp2;go_ret;exact ⟨⟨rs[k].rows[j].rows,_,_,rfl,HN.out,HOQ.out,HFS.out⟩,rfl⟩
   have HI2:Hid (jO (eF (rs[k].rows.drop (j+1))) rel=jO (eF rs[k].rows) rel):=by show _=_;rw [<-HI.out,FP _ _ hjl];simp [jO,hn]
   go_wp2;go_roundw;case rel=>exact ⟨j+1,by omega,by go_num,HI2,by first|rfl|trivial⟩
   simp [intOf] <;> omega
  have UW:Hid (fH (ae (rs.drop (k+1))) typ rel=fH (ae rs) typ rel):=by
   have h1:jO (eF rs[k].rows) rel=none:=by rw [<-HI.out,List.drop_of_length_le (by omega)];rfl
   show _=_;rw [<-HP.out,nV _ _ hlt];simp [fH,hq,h1]
  go_wp2;go_roundw;case rel=>exact ⟨k+1,by omega,by go_num,UW,by first|rfl|trivial⟩
  simp [intOf] <;> omega
 have HN:Hid (aj []=(fH (ae rs) typ rel).getD []):=by show _=_;rw [<-HP.out,List.drop_of_length_le (by omega)];rfl
 go_wp2;go_ret;exact ⟨⟨[],none,0,rfl,HN.out,.inl rfl,.inl rfl⟩,rfl⟩
def aU:List Ex->List Al
 | []=>[]
 | e::es=>if e.kind=1 then e.allow else aU es
theorem gI (rs:List ER)(k:Nat)(h:k<rs.length):aj (rs.drop k)=rs[k].e::aj (rs.drop (k+1)):=by
 rw [UB h];rfl
def Od (rs:List ER)(ad:Option Addr)(xs:List Al):Prop:=xs=[] \/ ∃ r∈rs,xs=r.e.allow/\ad=r.adA
theorem iC.mem {w:af}{ad:Option Addr}{rs:List ER}(h:iC w ad rs){q:ER}(hq:q∈rs):q.ok w:=by
 rcases h with rfl|⟨b,off,e,hb,hr,hk⟩
 ·cases hq
 exact hk q hq
theorem Od.sl {rs:List ER}{ad ad0:Option Addr}{xs:List Al}{w:af}(h:Od rs ad xs)(hs:iC w ad0 rs):jM w ad xs:=by
 rcases h with rfl|⟨r,hr,rfl,rfl⟩
 ·exact .inl rfl
 exact (hs.mem hr).1
theorem xE (ad:Option Addr)(cap:Nat)(rs:List ER)(w:af)(hlen:rs.length<=1048576)(hs:iC w ad rs) :
  Calls prog 138 #[.slice ad rs.length cap] w fun e w'=>(∃ (UX:Option Addr) (cap':Nat),e=.returned (.slice UX (aU (aj rs)).length cap')/\jM w UX (aU (aj rs))/\Od rs UX (aU (aj rs)))/\w'=w:=by
 have HS:=aA hs;clear hs;go_enter func138,ntmps138;go_wp2;go_loopw [3] (fun i wr=>∃ k:Nat,k<=rs.length/\i=.int .i64 k/\Hid (aU (aj (rs.drop k))=aU (aj rs))/\wr=w) (fun i _=>rs.length-(intOf i).toNat);case atStart=>exact ⟨0,Ui _,rfl,rfl,rfl⟩
 obtain ⟨k,hk,rfl,HP,rfl⟩:=hrel;by_cases hlt:k<rs.length
 ·rcases HS.out with rfl|⟨b,off,rfl,hb,hr,hok⟩
  ·simp at hlt
  obtain ⟨t0,t1,t2,t3,t4⟩:=hr k hlt;have VP:Hid (rs[k].ok _):=hok rs[k] (Ud hlt);have hk1:=bF k;have hk2:(k:Int)<(rs.length:Int):=by omega
  clear hr hok;by_cases hq:rs[k].e.kind=1
  ·have HN:Hid (aU (aj rs)=rs[k].e.allow):=by show _=_;rw [<-HP.out,gI _ _ hlt];simp [aU,hq]
   go_wp2;go_ret;exact ⟨⟨rs[k].adA,rs[k].capA,by rw [HN.out];rfl,by rw [HN.out];exact VP.out.1,.inr ⟨rs[k],Ud hlt,HN.out,rfl⟩⟩,rfl⟩
  have UW:Hid (aU (aj (rs.drop (k+1)))=aU (aj rs)):=by show _=_;rw [<-HP.out,gI _ _ hlt];simp [aU,hq]
  have Zf:(rs[k].e.kind==1)=false:=by simpa using hq
  go_wp2;go_roundw;case rel=>exact ⟨k+1,by omega,by go_num,UW,by first|rfl|trivial⟩
  simp [intOf] <;> omega
 have HN:Hid (aU (aj rs)=[]):=by show _=_;rw [<-HP.out,List.drop_of_length_le (by omega)];rfl
 go_wp2;go_ret;exact ⟨⟨none,0,by rw [HN.out];rfl,by rw [HN.out];exact .inl rfl,.inl HN.out⟩,rfl⟩
def bz:List Ex->Bool
 | [e]=>decide (e.kind=1)&&e.allow.all fun a=>a.s.toList.isEmpty
 | _=>false
def zF (xs:List Al)(k:Nat):Bool:=(xs.take k).all fun a=>a.s.toList.isEmpty
theorem Iq (xs:List Al)(k:Nat)(h:k<xs.length):zF xs (k+1)=(zF xs k&&xs[k].s.toList.isEmpty):=by
 unfold zF;rw [Uh h,List.all_append];simp
theorem La (xs:List Al)(k:Nat)(h:k<xs.length)(hb:xs[k].s.toList.isEmpty=false):(xs.all fun a=>a.s.toList.isEmpty)=false:=by
 rw [Bool.eq_false_iff];intro h2;rw [Un]at h2;have:=h2 xs[k] (Ud h);rw [hb]at this;cases this
theorem Eh (ad:Option Addr)(cap:Nat)(rs:List ER)(w:af)(hlen:rs.length<=1048576)(hs:iC w ad rs)(hl:∀ r∈rs,r.e.light) :
  Calls prog 193 #[.slice ad rs.length cap] w fun e w'=>e=.returned (.bool (bz (aj rs)))/\w'=w:=by
 by_cases h1:rs.length=1
 ·obtain ⟨r,rfl⟩:∃ r,rs=[r]:=List.length_eq_one_iff.1 h1;rcases hs with h|⟨b,off,rfl,hb,hr,hok⟩
  ·cases h
  obtain ⟨t0,t1,t2,t3,t4⟩:=hr 0 (by simp);simp only [Nat.zero_mul,Nat.add_zero,List.getElem_cons_zero]at t0 t1 t2 t3 t4;have VP:Hid (r.ok w):=hok r (by simp);obtain ⟨lg,-⟩:=hl r (by simp);clear hr hok h1;simp only [List.length_cons,List.length_nil,Uz];by_cases hq:r.e.kind=1
  ·have HD:Hid (bz (aj [r])=r.e.allow.all fun a=>a.s.toList.isEmpty):=by show _=_;simp [bz,aj,hq]
   go_enter func193,ntmps193;go_wp2;go_loopw [3] (fun i wr=>∃ k:Nat,k<=r.e.allow.length/\i=.int .i64 k/\Hid (zF r.e.allow k=true)/\wr=w) (fun i _=>r.e.allow.length-(intOf i).toNat);case atStart=>exact ⟨0,Ui _,rfl,(by show _=_;simp [zF]),rfl⟩
   obtain ⟨k,hk,rfl,HP,rfl⟩:=hrel;by_cases hlt:k<r.e.allow.length
   ·rcases VP.out.1 with hnil|⟨ba,WH,WJ,WA,hra⟩
    ·rw [hnil]at hlt;simp at hlt
    have t1':=t1;rw [WJ]at t1';obtain ⟨q0,q1⟩:=hra k hlt;have hk1:=bF k;have hk2:(k:Int)<(r.e.allow.length:Int):=by omega
    clear hra WJ t1;cases he:r.e.allow[k].s.toList.isEmpty;case true=>
     have UW:Hid (zF r.e.allow (k+1)=true):=by show _=_;rw [Iq _ _ hlt,HP.out,he];rfl
     go_wp2;go_roundw;case rel=>exact ⟨k+1,by omega,by go_num,UW,by first|rfl|trivial⟩
     simp [intOf] <;> omega
    have HN:Hid (bz (aj [r])=false):=by show _=_;rw [HD.out];exact La _ k hlt he
    go_wp2;go_ret;exact ⟨by rw [HN.out];rfl,rfl⟩
   have HN:Hid (bz (aj [r])=true):=by
    show _=_;rw [HD.out];have:=HP.out;unfold zF at this;rwa [List.take_of_length_le (by omega)]at this
   go_wp2;go_ret;exact ⟨by rw [HN.out];rfl,rfl⟩
  have HN:Hid (bz (aj [r])=false):=by show _=_;simp [bz,aj,hq]
  have Zf:(r.e.kind != 1)=true:=by simpa using hq
  go_enter func193,ntmps193;go_wp2;go_ret;exact ⟨by rw [HN.out];rfl,rfl⟩
 have HN:Hid (bz (aj rs)=false):=by
  show _=_
  match rs,h1 with
  | [],_=>rfl
  | [r],h=>exact absurd rfl h
  | a::b::r,_=>rfl
 have h1':((rs.length:Int) != 1)=true:=by simp;omega
 go_enter func193,ntmps193;go_wp2;go_ret;exact ⟨by rw [HN.out];rfl,rfl⟩
def aB (ts:List Ty)(ty n:ByteArray):List Ex:=(fH ts ty n).getD []
def gl (ts:List Ty)(rel:ByteArray):List Al->List ByteArray
 | []=>[]
 | a::xs=>if (aB ts a.t rel).isEmpty then gl ts rel xs else a.t::gl ts rel xs
def ig (ts:List Ty)(ty over rel:ByteArray):List ByteArray:=gl ts rel (aU (aB ts ty over))
theorem CE (ts:List Ty)(rel:bI)(xs ys:List Al):gl ts rel (xs++ys)=gl ts rel xs++gl ts rel ys:=by
 induction xs with
 | nil=>rfl
 | cons a xs ih=>simp only [List.cons_append,gl,ih];split <;> simp
theorem RG (ts:List Ty)(rel:bI)(xs:List Al)(k:Nat)(h:k<xs.length)(he:aB ts xs[k].t rel=[]):gl ts rel (xs.take (k+1))=gl ts rel (xs.take k):=by
 rw [Uh h,CE];simp [gl,he]
theorem Oe (ts:List Ty)(rel:bI)(xs:List Al)(k:Nat)(h:k<xs.length)(he:aB ts xs[k].t rel≠[]):gl ts rel (xs.take (k+1))=gl ts rel (xs.take k)++[xs[k].t]:=by
 rw [Uh h,CE];simp [gl,he]
theorem Ir (ts:List Ty)(rel:bI)(xs:List Al):(gl ts rel xs).length<=xs.length:=by
 induction xs with
 | nil=>simp [gl]
 | cons a xs ih=>simp only [gl];split <;> simp <;> omega
theorem Lb:(prog.info? 9).map (fun i=>(i.zero,i.size,i.bytes))=some (some (.string ⟨#[]⟩),1,16):=by kernel_rfl
def qB (xs:List ByteArray):List Value:=xs.map Value.string
def Sv (w:World)(ad:Option Addr)(xs:List ByteArray):Prop:=xs=[] \/ ∃ b off,ad=some ⟨b,off,none⟩/\b<w.heap.size/\∀ (i:Nat) (h:i<xs.length),w.cell? ⟨b,off+i,none⟩=some (.string xs[i])
theorem Sv.below {w w':af}{ad:Option Addr}{xs:List ByteArray}(h:Sv w ad xs)(hB:ag w w'):Sv w' ad xs:=by
 rcases h with h|⟨b,off,e,hb,hr⟩
 ·exact .inl h
 exact .inr ⟨b,off,e,Uc hb hB.size,fun i hi=>(hB.cell (p:=⟨b,off+i,none⟩) hb).trans (hr i hi)⟩
theorem Og {w:af}{base k:Nat}{v:Value}{xs:List ByteArray}(h:w.ownsRow base 9 1 v k (qB xs)):∃ ad cp,v=.slice ad xs.length cp/\Sv w ad xs/\∀ p,ad=some p->base<=p.block:=by
 have hl:xs.length=k:=by have:=h.1;simpa [qB] using this
 have h2:=h;rcases h.2 with ⟨rfl,h0⟩|⟨g,cp,cur,rfl,hbg,hg,hnc,-⟩
 ·refine ⟨none,0,?_,.inl (Uu.1 (by omega)),fun p hp=>by cases hp⟩;rw [hl,h0]
 have hlt:=h2.lt g rfl;refine ⟨_,cp,by rw [hl],.inr ⟨g,0,rfl,hlt.2,fun j hj=>?_⟩,fun p hp=>by injection hp with hp;rw [<-hp];exact hlt.1⟩;have:=h2.cells (g:=g) rfl j (.string xs[j]) (by simp [qB,hj]);rw [Uz];have e:(⟨g,0,none⟩:Addr).add j=⟨g,j,none⟩:=by
  unfold Addr.add;by_cases hj:j=0
  ·subst hj;simp
  simp [hj]
 rwa [e]at this
theorem pV.light {rs:List TR}{ad:Option Addr}{rows:List ER}(h:pV rs ad rows)(hl:∀ r∈rs,r.light):rows.length<=1048576/\∀ q∈rows,q.e.light:=by
 rcases h with rfl|⟨t,ht,q,hq,rfl,-⟩
 ·exact ⟨by simp,by simp⟩
 exact (hl t ht).2 q hq
theorem zG (rows:List ER)(hl:∀ q∈rows,q.e.light):(aU (aj rows)).length<=1048576:=by
 induction rows with
 | nil=>simp [aj,aU]
 | cons r rows ih =>
  have e:aj (r::rows)=r.e::aj rows:=rfl;rw [e];simp only [aU];split
  ·exact (hl r (by simp)).1
  exact ih fun q hq=>hl q (by simp [hq])
set_option maxRecDepth 100000 in
theorem xG (ad:Option Addr)(cap:Nat)(rs:List TR)(typ over rel:bI)(w:af)(hlen:rs.length<=1048576)(hs:kX w ad rs)(hl:∀ r∈rs,r.light) :
  Calls prog 194 #[.slice ad rs.length cap,.string typ,.string over,.string rel] w fun e w'=>(∃ (UX:Option Addr) (cap':Nat),e=.returned (.slice UX (ig (ae rs) typ over rel).length cap')/\Sv w' UX (ig (ae rs) typ over rel)/\∀ p,UX=some p->w.heap.size<=p.block)/\ag w w':=by
 have HS:=aA hs;have HL:=aA hl;clear hs hl;obtain ⟨i0,hi,hz0,hz1,hz2⟩:=info_parts Lb;go_enter func194,ntmps194;go_wp2_with fail;have ZY:ag w (w.alloc (.cells #[] 9)):=(Uf _ _).alloc (Ue _) _;have hown1:(w.alloc (.cells #[] 9)).ownsRow w.heap.size 9 1 (.slice (some ⟨w.heap.size,0,none⟩) 0 0) 0 []:=World.ownsRow_made w #[] 0 (Ue _) (by decide) rfl;refine (je ad cap rs typ over _ hlen (HS.out.below ZY) HL.out).mono ?_;rintro e w1 ⟨⟨rows,ad1,cap1,rfl,hx1,hs1,hf1⟩,rfl⟩;have hl1:=hf1.light HL.out;have hal:=zG rows hl1.2;go_wp2_with fail;refine (xE ad1 cap1 rows _ hl1.1 hs1).mono ?_;rintro e w1 ⟨⟨ad2,cap2,rfl,-,hf2⟩,rfl⟩;have HG:Hid (ig (ae rs) typ over rel=gl (ae rs) rel (aU (aj rows))):=by show _=_;rw [hx1];rfl
 have HA:Hid (jM w ad2 (aU (aj rows))):=hf2.sl (hf1.sl HS.out);generalize aU (aj rows)=xs at *
 clear hs1 hx1 hf1 hl1 hf2;have HBA:=aA ZY;have U7:=aA hown1;clear ZY hown1;obtain ⟨wA,hwA⟩:∃ wA,wA=w.alloc (.cells #[] 9):=⟨_,rfl⟩;rw [<-hwA]at HBA U7 ⊢;clear hwA;go_wp2_with fail;go_loopw [9,11] (fun v i wr=>∃ k:Nat,k<=xs.length/\i=.int .i64 k/\wr.ownsRow w.heap.size 9 1 v (gl (ae rs) rel (xs.take k)).length (qB (gl (ae rs) rel (xs.take k)))/\ag w wr) (fun _ i _=>xs.length-(intOf i).toNat);case atStart=>exact ⟨0,Ui _,rfl,by simpa [qB,gl] using U7.out,HBA.out⟩
 obtain ⟨k,hk,rfl,hown,hB⟩:=hrel;by_cases hlt:k<xs.length
 ·have HST:Hid (kX _ ad rs):=HS.out.below hB;rcases HA.out.below hB with rfl|⟨b,off,rfl,hb,hr⟩
  ·simp at hlt
  obtain ⟨t0,t1⟩:=hr k hlt;have hBs:=hB.size;have hgl:=Ir (ae rs) rel (xs.take k);rw [UF]at hgl;have HBH:=aA hB;have HOW:Hid (wr.ownsRow w.heap.size 9 1 _ _ _):=hown;clear hr hB hown;go_wp2_with fail;refine (je ad cap rs xs[k].t rel _ hlen HST.out HL.out).mono ?_;rintro e w1 ⟨⟨VK,ad3,cap3,rfl,hx3,-,-⟩,rfl⟩;by_cases hz:VK.length=0
  ·have HE:Hid (gl (ae rs) rel (xs.take (k+1))=gl (ae rs) rel (xs.take k)):=by
    refine RG _ _ _ _ hlt ?_;show _=_;unfold aB;rw [<-hx3,Uu.1 hz];rfl
   rw [hz];clear hx3;go_wp2;go_roundw;case rel=>exact ⟨k+1,by omega,by go_num,by rw [HE.out];exact HOW.out,HBH.out⟩
   simp [intOf] <;> omega
  have HX:Hid (gl (ae rs) rel (xs.take (k+1))=gl (ae rs) rel (xs.take k)++[xs[k].t]):=by
   refine Oe _ _ _ _ hlt ?_;show ¬ _=_;unfold aB;rw [<-hx3];intro h2;apply hz;rw [<-aN,h2];rfl
  have hzz:(0:Int)<(VK.length:Int):=by omega
  clear hx3;go_wp2_with (at_builtin;refine wpList_append_own _ rfl _ _ 142 rfl w.heap.size 9 i0 (.string ⟨#[]⟩) 1 16 underlying142 hi hz0 hz1 hz2 rfl (by decide) _ _ _ rfl (HOW.out.alloc _) ⟨w1.heap.size,0,none⟩ 1 1 [.string xs[k].t] rfl rfl (cell_one_new _ _ _) (by intro u hu;simp at hu;subst hu;rfl) (by unfold maxLen;omega) (by omega) (by simp;omega) ?_);intro v' w3 hown3 hgrow _;have hb3:ag w w3:=(HBH.out.alloc HBH.out.size _).grown hgrow (by simp;omega) (fun i hi=>(HOW.out.lt i hi).1);have U9:Hid (w3.ownsRow w.heap.size 9 1 v' (gl (ae rs) rel (xs.take (k+1))).length (qB (gl (ae rs) rel (xs.take (k+1))))):=by
   show World.ownsRow _ _ _ _ _ _ _;rw [HX.out];simpa [qB] using hown3
  clear hown3 hgrow HOW;go_wp2;go_roundw;case rel=>exact ⟨k+1,by omega,by go_num,U9.out,hb3⟩
  simp [intOf] <;> omega
 obtain rfl:k=xs.length:=by omega
 have HE:Hid (xs.take xs.length=xs):=by show _=_;rw [Us]
 rw [HE.out,<-HG.out]at hown;obtain ⟨UX,cp,rfl,hsl,hnew⟩:=Og hown;have WB:Hid (∀ p,UX=some p->w.heap.size<=p.block):=hnew;have WY:Hid (Sv _ UX (ig (ae rs) typ over rel)):=hsl;have HBH:Hid (ag w _):=hB;clear hsl hB hown hnew;go_wp2;go_ret;exact ⟨⟨UX,cp,rfl,WY.out,WB.out⟩,HBH.out⟩
end Go.Proofs.YtajkkeikihhejaaGreat
