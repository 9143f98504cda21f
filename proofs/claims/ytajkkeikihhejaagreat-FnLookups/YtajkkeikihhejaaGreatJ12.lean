/- Contracts of the document's functions that look a type, a relation, and whom it allows up in a schema. -/
import Derived.Test.YtajkkeikihhejaaGreatSq
import Derived.Test.YtajkkeikihhejaaGreatJ3
import Derived.OwnWalk
import Derived.Maps.AppendAt
open Go.Proofs.Tryz
set_option maxHeartbeats 80000000
namespace Go.Proofs.YtajkkeikihhejaaGreat
open Go.ChangeShapes Go.WideShapes Go.ChangeAt Go.RowKit
open Pl
def jK:List Rl→ByteArray→Option (List Ex)
 | [],_=>none
 | r::rs,n=>if r.name.toList == n.toList then some r.expr else jK rs n
def gm:List Ty→ByteArray→ByteArray→Option (List Ex)
 | [],_,_=>none
 | t::ts,ty,n=>if t.name.toList == ty.toList then (jK t.rels n).or (gm ts ty n) else gm ts ty n
def lq:List Ty→ByteArray→Bool
 | [],_=>false
 | t::ts,ty=>(t.name.toList == ty.toList) || lq ts ty
theorem nI (rs:List TR) (k:Nat) (h:k < rs.length):ah (rs.drop k)=⟨rs[k].name,eu rs[k].rows⟩::ah (rs.drop (k + 1)):=by
 rw [Te h]; rfl
theorem EO (rs:List RR) (k:Nat) (h:k < rs.length):eu (rs.drop k)=⟨rs[k].name,ak rs[k].rows⟩::eu (rs.drop (k + 1)):=by
 rw [Te h]; rfl
theorem GZ (ad:Option Addr) (cap:Nat) (rs:List TR) (typ:aD) (w:ae) (hlen:rs.length≤1048576) (hs:mD w ad rs) :
  Calls prog 192 #[.slice ad rs.length cap,.string typ] w fun e w'=>e=.returned (.bool (lq (ah rs) typ))∧w'=w:=by
 go_enter func192,ntmps192;go_wp2;go_loopw [5] (fun i wr=>∃ k:Nat,k≤rs.length∧i=.int .i64 k∧Hid (lq (ah (rs.drop k)) typ=lq (ah rs) typ)∧wr=w) (fun i _=>rs.length - (intOf i).toNat);case atStart=>exact ⟨0,SC _,rfl,rfl,rfl⟩
 obtain ⟨k,hk,rfl,HP,rfl⟩:=hrel;by_cases hlt:k < rs.length
 ·rcases hs with rfl | ⟨b,off,rfl,hb,hr,hok⟩
  ·simp at hlt
  obtain ⟨t0,t1⟩:=hr k hlt;have hk1:=bq k;have hk2:(k:Int) < (rs.length:Int):=by omega
  clear hr hok;cases hq:(rs[k].name.toList == typ.toList);case true=>
   have HN:Hid (lq (ah rs) typ=true):=by show _=_; rw [← HP.out,nI _ _ hlt]; simp [lq,hq]
   go_wp2;go_ret;exact ⟨by rw [HN.out]; rfl,rfl⟩
  have TG:Hid (lq (ah (rs.drop (k + 1))) typ=lq (ah rs) typ):=by show _=_; rw [← HP.out,nI _ _ hlt]; simp [lq,hq]
  go_wp2;go_roundw;case rel=>exact ⟨k + 1,by omega,by go_num,TG,by first | rfl | trivial⟩
  simp [intOf] <;> omega
 have HN:Hid (lq (ah rs) typ=false):=by show _=_; rw [← HP.out,List.drop_of_length_le (by omega)]; rfl
 go_wp2;go_ret;exact ⟨by rw [HN.out]; rfl,rfl⟩
def pz (rs:List TR) (ad:Option Addr) (rows:List ER):Prop:=rows=[] ∨ ∃ t ∈ rs,∃ q ∈ t.rows,rows=q.rows∧ad=q.ad
theorem Mj.mem {w:ae} {ad:Option Addr} {rs:List RR} (h:Mj w ad rs) {q:RR} (hq:q ∈ rs):q.ok w:=by
 rcases h with rfl | ⟨b,off,e,hb,hr,hk⟩
 ·cases hq
 exact hk q hq
theorem mD.mem {w:ae} {ad:Option Addr} {rs:List TR} (h:mD w ad rs) {q:TR} (hq:q ∈ rs):q.ok w:=by
 rcases h with rfl | ⟨b,off,e,hb,hr,hk⟩
 ·cases hq
 exact hk q hq
theorem pz.sl {rs:List TR} {ad ad0:Option Addr} {rows:List ER} {w:ae} (h:pz rs ad rows) (hs:mD w ad0 rs):jk w ad rows:=by
 rcases h with rfl | ⟨t,ht,q,hq,rfl,rfl⟩
 ·exact .inl rfl
 exact Mj.mem (hs.mem ht) hq
theorem jc (ad:Option Addr) (cap:Nat) (rs:List TR) (typ rel:aD) (w:ae) (hlen:rs.length≤1048576) (hs:mD w ad rs) (hl:∀ r ∈ rs,r.light) :
  Calls prog 97 #[.slice ad rs.length cap,.string typ,.string rel] w fun e w'=>(∃ (rows:List ER) (TH:Option Addr) (cap':Nat),e=.returned (.slice TH rows.length cap')∧ak rows=(gm (ah rs) typ rel).getD []∧jk w TH rows∧pz rs TH rows)∧w'=w:=by
 have HS:=az hs;have HL:=az hl;clear hs hl;go_enter func97,ntmps97;go_wp2;go_loopw [7] (fun i wr=>∃ k:Nat,k≤rs.length∧i=.int .i64 k∧Hid (gm (ah (rs.drop k)) typ rel=gm (ah rs) typ rel)∧wr=w) (fun i _=>rs.length - (intOf i).toNat);case atStart=>exact ⟨0,SC _,rfl,rfl,rfl⟩
 obtain ⟨k,hk,rfl,HP,rfl⟩:=hrel;by_cases hlt:k < rs.length
 ·rcases HS.out with rfl | ⟨b,off,rfl,hb,hr,hok⟩
  ·simp at hlt
  obtain ⟨t0,t1⟩:=hr k hlt;have ok:=hok rs[k] (Sw hlt);have lg:=(HL.out rs[k] (Sw hlt)).1;have U6:=az ok;have hk1:=bq k;have hk2:(k:Int) < (rs.length:Int):=by omega
  clear hr hok ok;cases hq:(rs[k].name.toList == typ.toList);case false=>
   have TG:Hid (gm (ah (rs.drop (k + 1))) typ rel=gm (ah rs) typ rel):=by show _=_; rw [← HP.out,nI _ _ hlt]; simp [gm,hq]
   go_wp2_with fail;go_loopw [8] (fun i w2=>i=.int .i64 0∧w2=wr) (fun i _=>(intOf i).toNat);case atStart=>exact ⟨rfl,rfl⟩
   obtain ⟨rfl,rfl⟩:=hrel;go_wp2;go_roundw;case rel=>exact ⟨k + 1,by omega,by go_num,TG,by first | rfl | trivial⟩
   simp [intOf] <;> omega
  go_wp2_with fail;go_loopw [8] (fun i w2=>∃ j:Nat,j≤rs[k].rows.length∧i=.int .i64 j∧Hid (jK (eu (rs[k].rows.drop j)) rel=jK (eu rs[k].rows) rel)∧w2=wr) (fun i _=>rs[k].rows.length - (intOf i).toNat);case atStart=>exact ⟨0,SC _,rfl,rfl,rfl⟩
  obtain ⟨j,hj,rfl,HI,rfl⟩:=hrel;by_cases hjl:j < rs[k].rows.length
  ·rcases U6.out with hnil | ⟨b2,Uc,had,hb2,hr2,hok2⟩
   ·rw [hnil] at hjl; simp at hjl
   have t1':=t1;rw [had] at t1';obtain ⟨q0,q1⟩:=hr2 j hjl;have HOQ:Hid (rs[k].rows[j].ok _):=hok2 rs[k].rows[j] (Sw hjl);have hj1:=bq j;have hj2:(j:Int) < (rs[k].rows.length:Int):=by omega
   clear hr2 hok2 had t1;cases hn:(rs[k].rows[j].name.toList == rel.toList);case true=>
    have HN:Hid (ak rs[k].rows[j].rows=(gm (ah rs) typ rel).getD []):=by
     have h1:jK (eu rs[k].rows) rel=some (ak rs[k].rows[j].rows):=by rw [← HI.out,EO _ _ hjl]; simp [jK,hn]
     show _=_;rw [← HP.out,nI _ _ hlt];simp [gm,hq,h1]
    have HFS:Hid (pz rs rs[k].rows[j].ad rs[k].rows[j].rows):=.inr ⟨rs[k],Sw hlt,rs[k].rows[j],Sw hjl,rfl,rfl⟩;go_wp2;go_ret;exact ⟨⟨rs[k].rows[j].rows,_,_,rfl,HN.out,HOQ.out,HFS.out⟩,rfl⟩
   have HI2:Hid (jK (eu (rs[k].rows.drop (j + 1))) rel=jK (eu rs[k].rows) rel):=by show _=_; rw [← HI.out,EO _ _ hjl]; simp [jK,hn]
   go_wp2;go_roundw;case rel=>exact ⟨j + 1,by omega,by go_num,HI2,by first | rfl | trivial⟩
   simp [intOf] <;> omega
  have TG:Hid (gm (ah (rs.drop (k + 1))) typ rel=gm (ah rs) typ rel):=by
   have h1:jK (eu rs[k].rows) rel=none:=by rw [← HI.out,List.drop_of_length_le (by omega)]; rfl
   show _=_;rw [← HP.out,nI _ _ hlt];simp [gm,hq,h1]
  go_wp2;go_roundw;case rel=>exact ⟨k + 1,by omega,by go_num,TG,by first | rfl | trivial⟩
  simp [intOf] <;> omega
 have HN:Hid (ak []=(gm (ah rs) typ rel).getD []):=by show _=_; rw [← HP.out,List.drop_of_length_le (by omega)]; rfl
 go_wp2;go_ret;exact ⟨⟨[],none,0,rfl,HN.out,.inl rfl,.inl rfl⟩,rfl⟩
def aX:List Ex→List Al
 | []=>[]
 | e::es=>if e.kind=1 then e.allow else aX es
theorem gH (rs:List ER) (k:Nat) (h:k < rs.length):ak (rs.drop k)=rs[k].e::ak (rs.drop (k + 1)):=by
 rw [Te h]; rfl
def M0 (rs:List ER) (ad:Option Addr) (xs:List Al):Prop:=xs=[] ∨ ∃ r ∈ rs,xs=r.e.allow∧ad=r.adA
theorem jk.mem {w:ae} {ad:Option Addr} {rs:List ER} (h:jk w ad rs) {q:ER} (hq:q ∈ rs):q.ok w:=by
 rcases h with rfl | ⟨b,off,e,hb,hr,hk⟩
 ·cases hq
 exact hk q hq
theorem M0.sl {rs:List ER} {ad ad0:Option Addr} {xs:List Al} {w:ae} (h:M0 rs ad xs) (hs:jk w ad0 rs):kw w ad xs:=by
 rcases h with rfl | ⟨r,hr,rfl,rfl⟩
 ·exact .inl rfl
 exact (hs.mem hr).1
theorem xg (ad:Option Addr) (cap:Nat) (rs:List ER) (w:ae) (hlen:rs.length≤1048576) (hs:jk w ad rs) :
  Calls prog 138 #[.slice ad rs.length cap] w fun e w'=>(∃ (TH:Option Addr) (cap':Nat),e=.returned (.slice TH (aX (ak rs)).length cap')∧kw w TH (aX (ak rs))∧M0 rs TH (aX (ak rs)))∧w'=w:=by
 have HS:=az hs;clear hs;go_enter func138,ntmps138;go_wp2;go_loopw [3] (fun i wr=>∃ k:Nat,k≤rs.length∧i=.int .i64 k∧Hid (aX (ak (rs.drop k))=aX (ak rs))∧wr=w) (fun i _=>rs.length - (intOf i).toNat);case atStart=>exact ⟨0,SC _,rfl,rfl,rfl⟩
 obtain ⟨k,hk,rfl,HP,rfl⟩:=hrel;by_cases hlt:k < rs.length
 ·rcases HS.out with rfl | ⟨b,off,rfl,hb,hr,hok⟩
  ·simp at hlt
  obtain ⟨t0,t1,t2,t3,t4⟩:=hr k hlt;have U6:Hid (rs[k].ok _):=hok rs[k] (Sw hlt);have hk1:=bq k;have hk2:(k:Int) < (rs.length:Int):=by omega
  clear hr hok;by_cases hq:rs[k].e.kind=1
  ·have HN:Hid (aX (ak rs)=rs[k].e.allow):=by show _=_; rw [← HP.out,gH _ _ hlt]; simp [aX,hq]
   go_wp2;go_ret;exact ⟨⟨rs[k].adA,rs[k].capA,by rw [HN.out]; rfl,by rw [HN.out]; exact U6.out.1,.inr ⟨rs[k],Sw hlt,HN.out,rfl⟩⟩,rfl⟩
  have TG:Hid (aX (ak (rs.drop (k + 1)))=aX (ak rs)):=by show _=_; rw [← HP.out,gH _ _ hlt]; simp [aX,hq]
  have Yf:(rs[k].e.kind == 1)=false:=by simpa using hq
  go_wp2;go_roundw;case rel=>exact ⟨k + 1,by omega,by go_num,TG,by first | rfl | trivial⟩
  simp [intOf] <;> omega
 have HN:Hid (aX (ak rs)=[]):=by show _=_; rw [← HP.out,List.drop_of_length_le (by omega)]; rfl
 go_wp2;go_ret;exact ⟨⟨none,0,by rw [HN.out]; rfl,by rw [HN.out]; exact .inl rfl,.inl HN.out⟩,rfl⟩
def bH:List Ex→Bool
 | [e]=>decide (e.kind=1) && e.allow.all fun a=>a.s.toList.isEmpty
 | _=>false
def zg (xs:List Al) (k:Nat):Bool:=(xs.take k).all fun a=>a.s.toList.isEmpty
theorem G5 (xs:List Al) (k:Nat) (h:k < xs.length):zg xs (k + 1)=(zg xs k && xs[k].s.toList.isEmpty):=by
 unfold zg; rw [SA h,List.all_append]; simp
theorem Kh (xs:List Al) (k:Nat) (h:k < xs.length) (hb:xs[k].s.toList.isEmpty=false):(xs.all fun a=>a.s.toList.isEmpty)=false:=by
 rw [Bool.eq_false_iff]; intro h2; rw [SQ] at h2; have:=h2 xs[k] (Sw h); rw [hb] at this; cases this
theorem Dy (ad:Option Addr) (cap:Nat) (rs:List ER) (w:ae) (hlen:rs.length≤1048576) (hs:jk w ad rs) (hl:∀ r ∈ rs,r.e.light) :
  Calls prog 193 #[.slice ad rs.length cap] w fun e w'=>e=.returned (.bool (bH (ak rs)))∧w'=w:=by
 by_cases h1:rs.length=1
 ·obtain ⟨r,rfl⟩:∃ r,rs=[r]:=List.length_eq_one_iff.1 h1;rcases hs with h | ⟨b,off,rfl,hb,hr,hok⟩
  ·cases h
  obtain ⟨t0,t1,t2,t3,t4⟩:=hr 0 (by simp);simp only [Nat.zero_mul,Nat.add_zero,List.getElem_cons_zero] at t0 t1 t2 t3 t4;have U6:Hid (r.ok w):=hok r (by simp);obtain ⟨lg,-⟩:=hl r (by simp);clear hr hok h1;simp only [List.length_cons,List.length_nil,Td];by_cases hq:r.e.kind=1
  ·have HD:Hid (bH (ak [r])=r.e.allow.all fun a=>a.s.toList.isEmpty):=by show _=_; simp [bH,ak,hq]
   go_enter func193,ntmps193;go_wp2;go_loopw [3] (fun i wr=>∃ k:Nat,k≤r.e.allow.length∧i=.int .i64 k∧Hid (zg r.e.allow k=true)∧wr=w) (fun i _=>r.e.allow.length - (intOf i).toNat);case atStart=>exact ⟨0,SC _,rfl,(by show _=_; simp [zg]),rfl⟩
   obtain ⟨k,hk,rfl,HP,rfl⟩:=hrel;by_cases hlt:k < r.e.allow.length
   ·rcases U6.out.1 with hnil | ⟨ba,VC,VD,VE,hra⟩
    ·rw [hnil] at hlt; simp at hlt
    have t1':=t1;rw [VD] at t1';obtain ⟨q0,q1⟩:=hra k hlt;have hk1:=bq k;have hk2:(k:Int) < (r.e.allow.length:Int):=by omega
    clear hra VD t1;cases he:r.e.allow[k].s.toList.isEmpty;case true=>
     have TG:Hid (zg r.e.allow (k + 1)=true):=by show _=_; rw [G5 _ _ hlt,HP.out,he]; rfl
     go_wp2;go_roundw;case rel=>exact ⟨k + 1,by omega,by go_num,TG,by first | rfl | trivial⟩
     simp [intOf] <;> omega
    have HN:Hid (bH (ak [r])=false):=by show _=_; rw [HD.out]; exact Kh _ k hlt he
    go_wp2;go_ret;exact ⟨by rw [HN.out]; rfl,rfl⟩
   have HN:Hid (bH (ak [r])=true):=by
    show _=_;rw [HD.out];have:=HP.out;unfold zg at this;rwa [List.take_of_length_le (by omega)] at this
   go_wp2;go_ret;exact ⟨by rw [HN.out]; rfl,rfl⟩
  have HN:Hid (bH (ak [r])=false):=by show _=_; simp [bH,ak,hq]
  have Yf:(r.e.kind != 1)=true:=by simpa using hq
  go_enter func193,ntmps193;go_wp2;go_ret;exact ⟨by rw [HN.out]; rfl,rfl⟩
 have HN:Hid (bH (ak rs)=false):=by
  show _=_
  match rs,h1 with
  | [],_=>rfl
  | [r],h=>exact absurd rfl h
  | a::b::r,_=>rfl
 have h1':((rs.length:Int) != 1)=true:=by simp; omega
 go_enter func193,ntmps193;go_wp2;go_ret;exact ⟨by rw [HN.out]; rfl,rfl⟩
def aL (ts:List Ty) (ty n:aD):List Ex:=(gm ts ty n).getD []
def gl (ts:List Ty) (rel:aD):List Al→List ByteArray
 | []=>[]
 | a::xs=>if (aL ts a.t rel).isEmpty then gl ts rel xs else a.t::gl ts rel xs
def il (ts:List Ty) (ty over rel:aD):List ByteArray:=gl ts rel (aX (aL ts ty over))
theorem BQ (ts:List Ty) (rel:aD) (xs ys:List Al):gl ts rel (xs ++ ys)=gl ts rel xs ++ gl ts rel ys:=by
 induction xs with
 | nil=>rfl
 | cons a xs ih=>simp only [List.cons_append,gl,ih]; split <;> simp
theorem Qt (ts:List Ty) (rel:aD) (xs:List Al) (k:Nat) (h:k < xs.length) (he:aL ts xs[k].t rel=[]):gl ts rel (xs.take (k + 1))=gl ts rel (xs.take k):=by
 rw [SA h,BQ]; simp [gl,he]
theorem M4 (ts:List Ty) (rel:aD) (xs:List Al) (k:Nat) (h:k < xs.length) (he:aL ts xs[k].t rel ≠ []):gl ts rel (xs.take (k + 1))=gl ts rel (xs.take k) ++ [xs[k].t]:=by
 rw [SA h,BQ]; simp [gl,he]
theorem G6 (ts:List Ty) (rel:aD) (xs:List Al):(gl ts rel xs).length≤xs.length:=by
 induction xs with
 | nil=>simp [gl]
 | cons a xs ih=>simp only [gl]; split <;> simp <;> omega
theorem Ki:(prog.info? 9).map (fun i=>(i.zero,i.size,i.bytes))=some (some (.string ⟨#[]⟩),1,16):=by kernel_rfl
def p8 (xs:List ByteArray):List Value:=xs.map Value.string
def QP (w:ae) (ad:Option Addr) (xs:List ByteArray):Prop:=xs=[] ∨ ∃ b off,ad=some ⟨b,off,none⟩∧b < w.heap.size∧∀ (i:Nat) (h:i < xs.length),w.cell? ⟨b,off + i,none⟩=some (.string xs[i])
theorem QP.below {w w':ae} {ad:Option Addr} {xs:List ByteArray} (h:QP w ad xs) (hB:af w w'):QP w' ad xs:=by
 rcases h with h | ⟨b,off,e,hb,hr⟩
 ·exact .inl h
 exact .inr ⟨b,off,e,Sv hb hB.size,fun i hi=>(hB.cell (p:=⟨b,off + i,none⟩) hb).trans (hr i hi)⟩
theorem M5 {w:ae} {base k:Nat} {v:Value} {xs:List ByteArray} (h:w.ownsRow base 9 1 v k (p8 xs)):∃ ad cp,v=.slice ad xs.length cp∧QP w ad xs∧∀ p,ad=some p→base≤p.block:=by
 have hl:xs.length=k:=by have:=h.1; simpa [p8] using this
 have h2:=h;rcases h.2 with ⟨rfl,h0⟩ | ⟨g,cp,cur,rfl,hbg,hg,hnc,-⟩
 ·refine ⟨none,0,?_,.inl (SX.1 (by omega)),fun p hp=>by cases hp⟩;rw [hl,h0]
 have hlt:=h2.lt g rfl;refine ⟨_,cp,by rw [hl],.inr ⟨g,0,rfl,hlt.2,fun j hj=>?_⟩,fun p hp=>by injection hp with hp; rw [← hp]; exact hlt.1⟩;have:=h2.cells (g:=g) rfl j (.string xs[j]) (by simp [p8,hj]);rw [Td];have e:(⟨g,0,none⟩:Addr).add j=⟨g,j,none⟩:=by
  unfold Addr.add;by_cases hj:j=0
  ·subst hj; simp
  simp [hj]
 rwa [e] at this
theorem pz.light {rs:List TR} {ad:Option Addr} {rows:List ER} (h:pz rs ad rows) (hl:∀ r ∈ rs,r.light):rows.length≤1048576∧∀ q ∈ rows,q.e.light:=by
 rcases h with rfl | ⟨t,ht,q,hq,rfl,-⟩
 ·exact ⟨by simp,by simp⟩
 exact (hl t ht).2 q hq
theorem zh (rows:List ER) (hl:∀ q ∈ rows,q.e.light):(aX (ak rows)).length≤1048576:=by
 induction rows with
 | nil=>simp [ak,aX]
 | cons r rows ih =>
  have e:ak (r::rows)=r.e::ak rows:=rfl;rw [e];simp only [aX];split
  ·exact (hl r (by simp)).1
  exact ih fun q hq=>hl q (by simp [hq])
set_option maxRecDepth 100000 in
theorem xh (ad:Option Addr) (cap:Nat) (rs:List TR) (typ over rel:aD) (w:ae) (hlen:rs.length≤1048576) (hs:mD w ad rs) (hl:∀ r ∈ rs,r.light) :
  Calls prog 194 #[.slice ad rs.length cap,.string typ,.string over,.string rel] w fun e w'=>(∃ (TH:Option Addr) (cap':Nat),e=.returned (.slice TH (il (ah rs) typ over rel).length cap')∧QP w' TH (il (ah rs) typ over rel)∧∀ p,TH=some p→w.heap.size≤p.block)∧af w w':=by
 have HS:=az hs;have HL:=az hl;clear hs hl;obtain ⟨i0,hi,hz0,hz1,hz2⟩:=info_parts Ki;go_enter func194,ntmps194;go_wp2_with fail;have Zd:af w (w.alloc (.cells #[] 9)):=(Sz _ _).alloc (Sy _) _;have hown1:(w.alloc (.cells #[] 9)).ownsRow w.heap.size 9 1 (.slice (some ⟨w.heap.size,0,none⟩) 0 0) 0 []:=World.ownsRow_made w #[] 0 (Sy _) (by decide) rfl;refine (jc ad cap rs typ over _ hlen (HS.out.below Zd) HL.out).mono ?_;rintro e w1 ⟨⟨rows,ad1,cap1,rfl,hx1,hs1,hf1⟩,rfl⟩;have hl1:=hf1.light HL.out;have hal:=zh rows hl1.2;go_wp2_with fail;refine (xg ad1 cap1 rows _ hl1.1 hs1).mono ?_;rintro e w1 ⟨⟨ad2,cap2,rfl,-,hf2⟩,rfl⟩;have HG:Hid (il (ah rs) typ over rel=gl (ah rs) rel (aX (ak rows))):=by show _=_; rw [hx1]; rfl
 have HA:Hid (kw w ad2 (aX (ak rows))):=hf2.sl (hf1.sl HS.out);generalize aX (ak rows)=xs at *
 clear hs1 hx1 hf1 hl1 hf2;have HBA:=az Zd;have TE:=az hown1;clear Zd hown1;obtain ⟨wA,hwA⟩:∃ wA,wA=w.alloc (.cells #[] 9):=⟨_,rfl⟩;rw [← hwA] at HBA TE ⊢;clear hwA;go_wp2_with fail;go_loopw [9,11] (fun v i wr=>∃ k:Nat,k≤xs.length∧i=.int .i64 k∧wr.ownsRow w.heap.size 9 1 v (gl (ah rs) rel (xs.take k)).length (p8 (gl (ah rs) rel (xs.take k)))∧af w wr) (fun _ i _=>xs.length - (intOf i).toNat);case atStart=>exact ⟨0,SC _,rfl,by simpa [p8,gl] using TE.out,HBA.out⟩
 obtain ⟨k,hk,rfl,hown,hB⟩:=hrel;by_cases hlt:k < xs.length
 ·have HST:Hid (mD _ ad rs):=HS.out.below hB;rcases HA.out.below hB with rfl | ⟨b,off,rfl,hb,hr⟩
  ·simp at hlt
  obtain ⟨t0,t1⟩:=hr k hlt;have hBs:=hB.size;have hgl:=G6 (ah rs) rel (xs.take k);rw [Tg] at hgl;have HBH:=az hB;have HOW:Hid (wr.ownsRow w.heap.size 9 1 _ _ _):=hown;clear hr hB hown;go_wp2_with fail;refine (jc ad cap rs xs[k].t rel _ hlen HST.out HL.out).mono ?_;rintro e w1 ⟨⟨UK,ad3,Zz,rfl,hx3,-,-⟩,rfl⟩;by_cases hz:UK.length=0
  ·have HE:Hid (gl (ah rs) rel (xs.take (k + 1))=gl (ah rs) rel (xs.take k)):=by
    refine Qt _ _ _ _ hlt ?_;show _=_;unfold aL;rw [← hx3,SX.1 hz]; rfl
   rw [hz];clear hx3;go_wp2;go_roundw;case rel=>exact ⟨k + 1,by omega,by go_num,by rw [HE.out]; exact HOW.out,HBH.out⟩
   simp [intOf] <;> omega
  have HX:Hid (gl (ah rs) rel (xs.take (k + 1))=gl (ah rs) rel (xs.take k) ++ [xs[k].t]):=by
   refine M4 _ _ _ _ hlt ?_;show ¬ _=_;unfold aL;rw [← hx3];intro h2;apply hz;rw [← bi,h2]; rfl
  have hzz:(0:Int) < (UK.length:Int):=by omega
  clear hx3;go_wp2_with (at_builtin; refine wpList_append_own _ rfl _ _ 142 rfl w.heap.size 9 i0 (.string ⟨#[]⟩) 1 16 underlying142 hi hz0 hz1 hz2 rfl (by decide) _ _ _ rfl (HOW.out.alloc _) ⟨w1.heap.size,0,none⟩ 1 1 [.string xs[k].t] rfl rfl (cell_one_new _ _ _) (by intro u hu; simp at hu; subst hu; rfl) (by unfold maxLen; omega) (by omega) (by simp; omega) ?_);intro v' w3 hown3 hgrow _;have hb3:af w w3:=(HBH.out.alloc HBH.out.size _).grown hgrow (by simp; omega) (fun i hi=>(HOW.out.lt i hi).1);have Ub:Hid (w3.ownsRow w.heap.size 9 1 v' (gl (ah rs) rel (xs.take (k + 1))).length (p8 (gl (ah rs) rel (xs.take (k + 1))))):=by
   show World.ownsRow _ _ _ _ _ _ _;rw [HX.out];simpa [p8] using hown3
  clear hown3 hgrow HOW;go_wp2;go_roundw;case rel=>exact ⟨k + 1,by omega,by go_num,Ub.out,hb3⟩
  simp [intOf] <;> omega
 obtain rfl:k=xs.length:=by omega
 have HE:Hid (xs.take xs.length=xs):=by show _=_; rw [SS]
 rw [HE.out,← HG.out] at hown;obtain ⟨TH,cp,rfl,hsl,hnew⟩:=M5 hown;have Vu:Hid (∀ p,TH=some p→w.heap.size≤p.block):=hnew;have VM:Hid (QP _ TH (il (ah rs) typ over rel)):=hsl;have HBH:Hid (af w _):=hB;clear hsl hB hown hnew;go_wp2;go_ret;exact ⟨⟨TH,cp,rfl,VM.out,Vu.out⟩,HBH.out⟩
def pE (ts:List Ty) (a:Al):Bool:=lq ts a.t && (a.s.toList.isEmpty || !(aL ts a.t a.s).isEmpty)
def p9 (ts:List Ty) (xs:List Al):Bool:=xs.all (pE ts)
def nu (ts:List Ty) (typ:aD) (e:Ex):Bool :=
 if e.kind=2 then !(aL ts typ e.name).isEmpty
 else if e.kind=3 then bH (aL ts typ e.over) && !(il ts typ e.over e.name).isEmpty
 else true
def aT (ts:List Ty) (typ:aD):List Ex→Bool
 | []=>true
 | e::es=>if p9 ts e.allow && nu ts typ e then aT ts typ es else false
def nJ (ts:List Ty) (xs:List Al) (k:Nat):Bool:=p9 ts (xs.take k)
theorem zi (ts:List Ty) (xs:List Al):nJ ts xs 0=true:=by simp [nJ,p9]
theorem oL (ts:List Ty) (xs:List Al) (k:Nat) (h:k < xs.length):nJ ts xs (k + 1)=(nJ ts xs k && pE ts xs[k]):=by
 unfold nJ p9; rw [SA h,List.all_append]; simp
theorem uz (ts:List Ty) (xs:List Al) (k:Nat) (h:k < xs.length) (hb:pE ts xs[k]=false):p9 ts xs=false:=by
 unfold p9;rw [Bool.eq_false_iff]; intro h2; rw [SQ] at h2; have:=h2 xs[k] (Sw h); rw [hb] at this; cases this
theorem aI {w w':ae} {g o:Nat} {v:Value} (hB:af w w') (hg:g < w.heap.size) (h:w.cell? ⟨g,o,none⟩=some v):w'.cell? ⟨g,o,none⟩=some v:=(hB.cell (p:=⟨g,o,none⟩) hg).trans h
set_option maxRecDepth 8000 in
theorem G7 (ad TA:Option Addr) (cap capE:Nat) (rs:List TR) (typ:aD) (rows:List ER) (w:ae) (hlen:rs.length≤1048576) (hs:mD w ad rs) (hl:∀ r ∈ rs,r.light) (hle:rows.length≤1048576) (hse:jk w TA rows) (Ze:∀ q ∈ rows,q.e.light) :
  Calls prog 136 #[.slice ad rs.length cap,.string typ,.slice TA rows.length capE] w fun e w'=>e=.returned (.bool (aT (ah rs) typ (ak rows)))∧af w w':=by
 have HS:=az hs;have HL:=az hl;have HE:=az hse;have UH:=az Ze;clear hs hl hse Ze;go_enter func136,ntmps136;go_wp2_with fail;go_loopw [7] (fun i wr=>∃ k:Nat,k≤rows.length∧i=.int .i64 k∧Hid (aT (ah rs) typ (ak (rows.drop k))=aT (ah rs) typ (ak rows))∧Hid (af w wr)) (fun i _=>rows.length - (intOf i).toNat);case atStart=>exact ⟨0,SC _,rfl,rfl,Sz _ _⟩
 obtain ⟨k,hk,rfl,HP,HB⟩:=hrel;by_cases hlt:k < rows.length
 ·have HS1:Hid (mD _ ad rs):=HS.out.below HB.out;rcases HE.out.below HB.out with rfl | ⟨b,off,rfl,hb,hr,hok⟩
  ·simp at hlt
  obtain ⟨t0,t1,t2,t3,t4⟩:=hr k hlt;have U6:Hid (rows[k].ok wr):=hok rows[k] (Sw hlt);have lg:=(UH.out rows[k] (Sw hlt)).1;have hk1:=bq k;have hk2:(k:Int) < (rows.length:Int):=by omega
  clear hr hok;obtain ⟨W1,hW1⟩:∃ W1,W1=wr.alloc (.cells #[.int .i64 rows[k].e.kind,.slice rows[k].adA rows[k].e.allow.length rows[k].capA,.string rows[k].e.over,.string rows[k].e.name,.slice rows[k].adK rows[k].e.kids.length rows[k].capK] 39):=⟨_,rfl⟩;have hal:af wr W1:=by rw [hW1]; exact (Sz _ _).alloc (Sy _) _
  have TL:=az hal;have TB:=jI HB hal;have hgl:wr.heap.size < W1.heap.size:=by rw [hW1]; simp
  have g0:W1.cell? ⟨wr.heap.size,0,none⟩=some (.int .i64 rows[k].e.kind):=by rw [hW1]; simp
  have g1:W1.cell? ⟨wr.heap.size,1,none⟩=some (.slice rows[k].adA rows[k].e.allow.length rows[k].capA):=by rw [hW1]; simp
  have g2:W1.cell? ⟨wr.heap.size,2,none⟩=some (.string rows[k].e.over):=by rw [hW1]; simp
  have g3:W1.cell? ⟨wr.heap.size,3,none⟩=some (.string rows[k].e.name):=by rw [hW1]; simp
  clear hal;go_wp2_with fail;rw [← hW1];clear hW1;go_loopw [9] (fun i w2=>∃ j:Nat,j≤rows[k].e.allow.length∧i=.int .i64 j∧Hid (nJ (ah rs) rows[k].e.allow j=true)∧Hid (af W1 w2)) (fun i _=>rows[k].e.allow.length - (intOf i).toNat);case atStart=>exact ⟨0,SC _,rfl,zi _ _,Sz _ _⟩
  obtain ⟨j,hj,rfl,HJ,HB2⟩:=hrel;have d0:=aI HB2.out hgl g0;have d1:=aI HB2.out hgl g1;have d2:=aI HB2.out hgl g2;have d3:=aI HB2.out hgl g3;clear g0 g1 g2 g3 t0 t1 t2 t3 t4;have WM:Hid (af w _):=TB.out.trans (HB2.out.mono TB.out.size);have HS2:Hid (mD _ ad rs):=HS.out.below WM.out;by_cases hjl:j < rows[k].e.allow.length
  ·have hA2:kw _ rows[k].adA rows[k].e.allow:=((U6.out.1).below TL.out).below HB2.out;rcases hA2 with hnil | ⟨ba,VC,VD,VE,hra⟩
   ·rw [hnil] at hjl; simp at hjl
   rw [VD] at d1;obtain ⟨q0,q1⟩:=hra j hjl;have hj1:=bq j;have hj2:(j:Int) < (rows[k].e.allow.length:Int):=by omega
   clear hra VD;go_wp2_with fail;refine (GZ ad cap rs _ _ hlen (HS2.out.below ((Sz _ _).alloc (Sy _) _))).mono ?_;rintro e w3 ⟨rfl,rfl⟩;cases hty:lq (ah rs) rows[k].e.allow[j].t;case false=>
    have HN:Hid (aT (ah rs) typ (ak rows)=false):=by
     show _=_;rw [← HP.out,gH _ _ hlt];simp [aT,uz (ah rs) _ j hjl (by simp [pE,hty])]
    go_wp2;go_ret;exact ⟨by rw [HN.out]; rfl,WM.out.alloc WM.out.size _⟩
   cases he:rows[k].e.allow[j].s.toList.isEmpty;case true=>
    have HJ2:Hid (nJ (ah rs) rows[k].e.allow (j + 1)=true):=by show _=_; rw [oL _ _ _ hjl,HJ.out]; simp [pE,hty,he]
    go_wp2;go_roundw;case rel=>exact ⟨j + 1,by omega,by go_num,HJ2,HB2.out.alloc HB2.out.size _⟩
    simp [intOf] <;> omega
   go_wp2_with fail;refine (jc ad cap rs _ _ _ hlen (HS2.out.below ((Sz _ _).alloc (Sy _) _)) HL.out).mono ?_;rintro e w3 ⟨⟨UK,ad3,Zz,rfl,hx3,-,-⟩,rfl⟩;by_cases hz:UK.length=0
   ·have HN:Hid (aT (ah rs) typ (ak rows)=false):=by
     have h1:aL (ah rs) rows[k].e.allow[j].t rows[k].e.allow[j].s=[]:=by unfold aL; rw [← hx3,SX.1 hz]; rfl
     show _=_;rw [← HP.out,gH _ _ hlt];simp [aT,uz (ah rs) _ j hjl (by simp [pE,he,h1])]
    rw [hz];clear hx3;go_wp2;go_ret;exact ⟨by rw [HN.out]; rfl,WM.out.alloc WM.out.size _⟩
   have HJ2:Hid (nJ (ah rs) rows[k].e.allow (j + 1)=true):=by
    have h1:aL (ah rs) rows[k].e.allow[j].t rows[k].e.allow[j].s ≠ []:=by
     unfold aL;rw [← hx3];intro h2;apply hz;rw [← bi,h2]; rfl
    show _=_;rw [oL _ _ _ hjl,HJ.out]; simp [pE,hty,h1]
   have hzb:((UK.length:Int) == 0)=false:=by simp; intro h; apply hz; rw [h]; rfl
   clear hx3;go_wp2;go_roundw;case rel=>exact ⟨j + 1,by omega,by go_num,HJ2,HB2.out.alloc HB2.out.size _⟩
   simp [intOf] <;> omega
  have Wu:Hid (p9 (ah rs) rows[k].e.allow=true):=by
   have:=HJ.out;unfold nJ at this;rwa [List.take_of_length_le (by omega)] at this
  by_cases h2:rows[k].e.kind=2
  ·go_wp2_with fail;refine (jc ad cap rs _ _ _ hlen HS2.out HL.out).mono ?_;rintro e w3 ⟨⟨UK,ad3,Zz,rfl,hx3,-,-⟩,rfl⟩;by_cases hz:UK.length=0
   ·have HN:Hid (aT (ah rs) typ (ak rows)=false):=by
     have h1:aL (ah rs) typ rows[k].e.name=[]:=by unfold aL; rw [← hx3,SX.1 hz]; rfl
     show _=_;rw [← HP.out,gH _ _ hlt];simp [aT,nu,h2,h1]
    rw [hz];clear hx3;go_wp2;go_ret;exact ⟨by rw [HN.out]; rfl,WM.out⟩
   have TG:Hid (aT (ah rs) typ (ak (rows.drop (k + 1)))=aT (ah rs) typ (ak rows)):=by
    have h1:aL (ah rs) typ rows[k].e.name ≠ []:=by
     unfold aL;rw [← hx3];intro h2;apply hz;rw [← bi,h2]; rfl
    show _=_;rw [← HP.out,gH _ _ hlt];simp [aT,nu,h2,h1,Wu.out]
   have hzb:((UK.length:Int) == 0)=false:=by simp; intro h; apply hz; rw [h]; rfl
   clear hx3;go_wp2;go_roundw;case rel=>exact ⟨k + 1,by omega,by go_num,TG,WM⟩
   simp [intOf] <;> omega
  by_cases h3:rows[k].e.kind=3
  ·go_wp2_with fail;refine (jc ad cap rs _ _ _ hlen HS2.out HL.out).mono ?_;rintro e w3 ⟨⟨UK,ad3,Zz,rfl,hx3,hs3,hf3⟩,rfl⟩;have hl3:=hf3.light HL.out;go_wp2_with fail;refine (Dy ad3 Zz UK _ hl3.1 hs3 hl3.2).mono ?_;rintro e w3 ⟨rfl,rfl⟩;have HX:Hid (ak UK=aL (ah rs) typ rows[k].e.over):=hx3;clear hx3 hs3 hf3 hl3;rw [HX.out];cases hd:bH (aL (ah rs) typ rows[k].e.over);case false=>
    have HN:Hid (aT (ah rs) typ (ak rows)=false):=by
     show _=_;rw [← HP.out,gH _ _ hlt];simp [aT,nu,h3,hd]
    go_wp2;go_ret;exact ⟨by rw [HN.out]; rfl,WM.out⟩
   go_wp2_with fail;refine (xh ad cap rs _ _ _ _ hlen HS2.out HL.out).mono ?_;rintro e w4 ⟨⟨ad4,cap4,rfl,-⟩,hb4⟩;have U7:=jI WM hb4;clear hb4;by_cases hz:(il (ah rs) typ rows[k].e.over rows[k].e.name).length=0
   ·have HN:Hid (aT (ah rs) typ (ak rows)=false):=by
     show _=_;rw [← HP.out,gH _ _ hlt];simp [aT,nu,h3,SX.1 hz]
    rw [hz];go_wp2;go_ret;exact ⟨by rw [HN.out]; rfl,U7.out⟩
   have TG:Hid (aT (ah rs) typ (ak (rows.drop (k + 1)))=aT (ah rs) typ (ak rows)):=by
    have h1:il (ah rs) typ rows[k].e.over rows[k].e.name ≠ []:=by intro h; apply hz; rw [h]; rfl
    show _=_;rw [← HP.out,gH _ _ hlt];simp [aT,nu,h3,h1,hd,Wu.out]
   have hzb:(((il (ah rs) typ rows[k].e.over rows[k].e.name).length:Int) == 0)=false:=by simp; intro h; apply hz; rw [h]; rfl
   go_wp2;go_roundw;case rel=>exact ⟨k + 1,by omega,by go_num,TG,U7⟩
   simp [intOf] <;> omega
  have TG:Hid (aT (ah rs) typ (ak (rows.drop (k + 1)))=aT (ah rs) typ (ak rows)):=by
   show _=_;rw [← HP.out,gH _ _ hlt];simp [aT,nu,h2,h3,Wu.out]
  have hb2:(rows[k].e.kind == 2)=false:=by simpa using h2
  have hb3:(rows[k].e.kind == 3)=false:=by simpa using h3
  go_wp2;go_roundw;case rel=>exact ⟨k + 1,by omega,by go_num,TG,WM⟩
  simp [intOf] <;> omega
 have HN:Hid (aT (ah rs) typ (ak rows)=true):=by show _=_; rw [← HP.out,List.drop_of_length_le (by omega)]; rfl
 go_wp2;go_ret;exact ⟨by rw [HN.out]; rfl,HB.out⟩
end Go.Proofs.YtajkkeikihhejaaGreat
