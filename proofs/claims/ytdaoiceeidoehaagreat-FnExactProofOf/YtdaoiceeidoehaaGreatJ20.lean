/- What the program's tables and the document's strata ask: the same questions; how many facts there may be; the program's rounds over fewer users. -/
import Derived.Test.YtdaoiceeidoehaaGreatDataOf
open Go.Proofs.Tryz
namespace Go.Proofs.YtdaoiceeidoehaaGreat
set_option linter.unusedVariables false
open Go.ChangeShapes Go.WideShapes Go.ChangeAt Go.RowKit Go.Maps
open Pl
def kV (known:List Fc) (f:Fc) (t:Tp):Bool:=if t.s.toList.isEmpty then t.c.toList == f.c.toList && t.d.toList == f.d.toList else aO known ⟨t.c,t.d,t.s,f.c,f.d⟩
def rR (known:List Fc) (name:ByteArray) (f:Fc) (t:Tp):Bool:=aO known ⟨t.c,t.d,name,f.c,f.d⟩
theorem oO (l:List Tp) (k:K3) (p:Tp→Bool):(G.lookL (aW l) k).any p=l.any fun t=>(t.a.toList == k.1.toList && t.b.toList == k.2.1.toList && t.r.toList == k.2.2.toList) && p t:=by
 induction l with
 | nil=>rfl
 | cons t l ih =>
  have e:aW (t::l)=[(J7 t,t)] ++ aW l:=rfl;rw [e,G.lookL_append,List.any_append,ih,List.any_cons];congr 1;unfold G.lookL J7;by_cases h:(t.a,t.b,t.r)=k
  ·subst h; simp
  ·have h2:(t.a.toList == k.1.toList && t.b.toList == k.2.1.toList && t.r.toList == k.2.2.toList)=false:=by
    cases hb:(t.a.toList == k.1.toList && t.b.toList == k.2.1.toList && t.r.toList == k.2.2.toList) with
    | false=>rfl
    | true=>rw [R7,R7,eB,eB,eB] at hb; exact absurd (Prod.ext hb.1.1 (Prod.ext hb.1.2 hb.2)) h
   simp [h,h2]
theorem G8 (l:List Tp) (known:List Fc) (f:Fc):eG l known f=(G.lookL (aW l) (f.a,f.b,f.r)).any (kV known f):=by rw [oO]; rfl
theorem G9 (l:List Tp) (known:List Fc) (over name:ByteArray) (f:Fc):fG l known over name f=(G.lookL (aW l) (f.a,f.b,over)).any (rR known name f):=by rw [oO]; rfl
theorem Kg (st:ByteArray × ByteArray→Int) (n:Int) (o:Al) (tn:ByteArray) (rows:List RR):((rows.map fun r=>(tn,r.name)).filter fun k=>k.1.toList == o.t.toList && decide (st k=n))=(G.lookL (rows.map fun r=>((tn,st (tn,r.name)),r)) (o.t,n)).map fun r=>(o.t,r.name):=by
 induction rows with
 | nil=>rfl
 | cons r rows ih =>
  have e:((r::rows).map fun r=>((tn,st (tn,r.name)),r))=[((tn,st (tn,r.name)),r)] ++ rows.map fun r=>((tn,st (tn,r.name)),r):=rfl;rw [e,G.lookL_append,List.map_append,← ih,List.map_cons,List.filter_cons];unfold G.lookL;by_cases h:tn=o.t∧st (tn,r.name)=n
  ·obtain ⟨rfl,rfl⟩:=h;simp
  ·have h1:(tn.toList == o.t.toList && decide (st (tn,r.name)=n))=false:=by
    cases hb:(tn.toList == o.t.toList && decide (st (tn,r.name)=n)) with
    | false=>rfl
    | true=>rw [R7,eB,Sj] at hb; exact absurd hb h
   have h2:¬ ((tn,st (tn,r.name))=(o.t,n)):=fun e=>h ⟨congrArg Prod.fst e,congrArg Prod.snd e⟩;simp [h1,h2]
theorem EO (st:ByteArray × ByteArray→Int) (n:Int) (o:Al) (rs:List TR):zG (ae rs) st n o=(G.lookL (dY st rs) (o.t,n)).map fun r=>(o.t,r.name):=by
 unfold zG
 induction rs with
 | nil=>rfl
 | cons t rs ih =>
  have e1:ai (ae (t::rs))=(t.rows.map fun r=>(t.name,r.name)) ++ ai (ae rs):=by
   have:iB t.p=t.rows.map fun r=>(t.name,r.name):=by unfold iB; show List.map _ (dz t.rows)=_; unfold dz; rw [List.map_map]; rfl
   simp [ai,ae,this]
  have e2:dY st (t::rs)=(t.rows.map fun r=>((t.name,st (t.name,r.name)),r)) ++ dY st rs:=rfl;rw [e1,e2,G.lookL_append,SI,List.map_append,ih,Kg]
theorem yJ {s:St}:∀ {sts:List St},(gT sts).Nodup→s ∈ sts→eP sts s.key=s.n
 | [],_,h=>by cases h
 | x::xs,hd,h=>by
  have hd2:x.key ∉ gT xs∧(gT xs).Nodup:=List.nodup_cons.1 hd;unfold eP;by_cases e:xI x s.key.1 s.key.2=true
  ·rw [if_pos e];have ek:=ol.1 e;rcases List.mem_cons.1 h with rfl | h
   ·rfl
   ·exact absurd (by rw [ek]; exact List.mem_map_of_mem h) hd2.1
  ·rw [if_neg e];rcases List.mem_cons.1 h with rfl | h
   ·exact absurd (ol.2 rfl) e
   ·exact yJ hd2.2 h
def Rn (sts:List St) (n:Int) (o:Al):List St:=sts.filter fun s=>s.typ.toList == o.t.toList && decide (s.n=n)
theorem O7 {ts:List Ty} {sts:List St} (hk:gT sts=ai ts) (hn:(ai ts).Nodup) (n:Int) (o:Al):zG ts (eP sts) n o=(Rn sts n o).map St.key:=by
 unfold zG Rn;rw [← hk];rw [← hk] at hn;unfold gT;rw [List.filter_map];congr 1;refine List.filter_congr fun s hs=>?_;show (s.key.1.toList == o.t.toList && decide (eP sts s.key=n))=_;rw [yJ hn hs];rfl
theorem Ha {rs:List TR} (h:aV (ae rs)=true):(ai (ae rs)).Nodup:=by
 have e:ai (ae rs)=rs.flatMap fun t=>t.rows.map fun r=>(t.name,r.name):=by
  unfold ai ae;rw [List.flatMap_map];congr 1
  funext t
  unfold iB;show List.map _ (dz t.rows)=_;unfold dz; rw [List.map_map]; rfl
 rw [e,List.Nodup,List.pairwise_flatMap];constructor
 ·intro t ht;obtain ⟨i,hi,rfl⟩:=List.mem_iff_getElem.1 ht;have hu:=(j6 h i hi).2.2;rw [List.pairwise_map,List.pairwise_iff_getElem];intro a b ha hb hab e;have hne:=pJ (f:=fun k=>(rs[i].rows[k]?.map RR.name).getD ByteArray.empty) (n:=rs[i].rows.length) (fun k hk=>by
   have h0:k < rs[i].rows.length:=by omega
   simp only [R8 hk,R8 h0,Option.map_some,Option.getD_some];exact (tV hu (k + 1) hk hk).2.1 k h0 rfl)
  have:=hne a b hab hb;simp [ha,hb] at this;exact this (congrArg Prod.snd e)
 ·rw [List.pairwise_iff_getElem];intro a b ha hb hab x hx y hy e;obtain ⟨r,hr,rfl⟩:=Sa.1 hx;obtain ⟨q,hq,rfl⟩:=Sa.1 hy;have hne:=pJ (f:=fun k=>(rs[k]?.map TR.name).getD ByteArray.empty) (n:=rs.length) (fun k hk=>by
   have h0:k < rs.length:=by omega
   simp only [R8 hk,R8 h0,Option.map_some,Option.getD_some];exact (j6 h (k + 1) hk).2.1 k h0 rfl)
  have:=hne a b hab hb;simp [ha,hb] at this;exact this (congrArg Prod.fst e)
theorem EP {α:Type} [DecidableEq α]:∀ {a b:List α},a.Nodup→(∀ x ∈ a,x ∈ b)→a.length≤b.length
 | [],_,_,_=>R6 _
 | x::a,b,hd,hs=>by
  obtain ⟨h1,h2⟩:=List.nodup_cons.1 hd;have hx:=hs x (by simp);have:=EP (a:=a) (b:=b.erase x) h2 fun y hy=>(List.mem_erase_of_ne (fun e:y=x=>h1 (by rw [← e]; exact hy))).2 (hs y (by simp [hy]));rw [List.length_erase_of_mem hx] at this;have hp:0 < b.length:=List.length_pos_of_mem hx;simp only [List.length_cons];omega
def zT (ts:List Ty) (xo xu:List Al):List Fc:=xo.flatMap fun o=>(ai ts).flatMap fun k=>iJ o k.2 xu
theorem Bg {ts:List Ty} {st:ByteArray × ByteArray→Int} {xo xu:List Al} {n:Int} {f:Fc} (h:f ∈ bR ts st xo xu n):f ∈ zT ts xo xu:=by
 unfold bR sZ at h;obtain ⟨o,ho,h⟩:=Sk.1 h;obtain ⟨k,hk,h⟩:=Sk.1 h;exact Sk.2 ⟨o,ho,Sk.2 ⟨k,(SH.1 hk).1,h⟩⟩
theorem yK {α β:Type} (f:α→List β) (m:Nat) (hf:∀ a,(f a).length≤m):∀ l:List α,(l.flatMap f).length≤l.length * m
 | []=>by simp
 | a::l=>by
  have h1:=yK f m hf l;have h2:=hf a;simp only [List.flatMap_cons,R9,List.length_cons,Nat.add_mul];omega
theorem M8 (ts:List Ty) (xo xu:List Al):(zT ts xo xu).length≤xo.length * ((ai ts).length * xu.length) :=
 yK _ _ (fun o=>yK _ _ (fun k=>by unfold iJ; rw [Sv]; exact R4 _) _) _
structure GoodO (ts:List Ty) (xo xu:List Al) (out:List Fc):Prop where
 once:out.Nodup
 sub:∀ g ∈ out,g ∈ zT ts xo xu
def Q6 (us:List Al):List (ByteArray × ByteArray):=us.map fun u=>(u.t,u.s)
def Q7 (us:List Al) (x:ByteArray × ByteArray):Bool:=us.any fun u=>u.t.toList == x.1.toList && u.s.toList == x.2.toList
theorem wY {us:List Al} {x:ByteArray × ByteArray}:Q7 us x=true ↔ x ∈ Q6 us:=by
 unfold Q7 Q6;rw [Sw,Sa];constructor
 ·rintro ⟨u,hu,h⟩;rw [R7,eB,eB] at h;exact ⟨u,hu,Prod.ext h.1 h.2⟩
 ·rintro ⟨u,hu,rfl⟩;exact ⟨u,hu,by simp⟩
def eu (us:List Al) (new:List Fc):List Al:=us.filter fun u=>new.any fun g=>g.c.toList == u.t.toList && g.d.toList == u.s.toList
theorem Bh {us:List Al} {new:List Fc} {x:ByteArray × ByteArray}:x ∈ Q6 (eu us new) ↔ x ∈ Q6 us∧∃ g ∈ new,g.u=x:=by
 unfold Q6 eu;constructor
 ·intro h;obtain ⟨u,hu,rfl⟩:=Sa.1 h;obtain ⟨h1,h2⟩:=SH.1 hu;obtain ⟨g,hg,h3⟩:=Sw.1 h2;rw [R7,eB,eB] at h3;exact ⟨List.mem_map_of_mem (f:=fun u:Al=>(u.t,u.s)) h1,g,hg,Prod.ext h3.1 h3.2⟩
 ·rintro ⟨h,g,hg,hx⟩;obtain ⟨u,hu,rfl⟩:=Sa.1 h;refine Sa.2 ⟨u,SH.2 ⟨hu,Sw.2 ⟨g,hg,?_⟩⟩,rfl⟩;rw [R7,eB,eB];exact ⟨congrArg Prod.fst hx,congrArg Prod.snd hx⟩
theorem Hd (us:List Al):eu us []=[]:=by unfold eu; rw [List.filter_eq_nil_iff]; simp
theorem He {ts:List Ty} {xo xu:List Al} {n:Int} {st st':ByteArray × ByteArray→Int} (h:∀ k ∈ ai ts,st k=st' k):bR ts st xo xu n=bR ts st' xo xu n:=by
 unfold bR sZ;congr 1
 funext o
 have:zG ts st n o=zG ts st' n o:=List.filter_congr fun k hk=>by rw [h k hk]
 rw [this]
set_option linter.unusedSectionVars false
section
variable [DecidableEq Fc]
theorem GoodO.run {ts:List Ty} {xo xu:List Al} {out:List Fc} (h:GoodO ts xo xu out) {H:List Fc→Fc→Bool} {qs:List Fc} (hq:∀ g ∈ qs,g ∈ zT ts xo xu):GoodO ts xo xu (bP H qs out):=by
 refine ⟨sM qs h.once,fun g hg=>?_⟩;obtain ⟨n,e,hn⟩:=jD (H:=H) qs out;rw [e] at hg;rcases Sd.1 hg with hg | hg
 ·exact h.sub g hg
 ·exact hq g (hn g hg).1
theorem GoodO.len {ts:List Ty} {xo xu:List Al} {out:List Fc} (h:GoodO ts xo xu out) (h1:xo.length≤80) (h2:(ai ts).length≤36) (h3:xu.length≤40):out.length≤115200:=by
 have a1:=EP h.once h.sub;have a2:=M8 ts xo xu;have a3:(ai ts).length * xu.length≤36 * 40:=Nat.mul_le_mul h2 h3;have a4:xo.length * ((ai ts).length * xu.length)≤80 * (36 * 40):=Nat.mul_le_mul h1 a3;omega
structure FewA (ts:List Ty) (l:List Tp) (st:ByteArray × ByteArray→Int) (xo xu:List Al) (n:Int) (us:List Al) (out:List Fc):Prop where
 sub:us=xu.filter fun u:Al=>Q7 us (u.t,u.s)
 few:Few Fc.u (fH ts l) (bR ts st xo xu n) (Q6 us) out
variable {ts:List Ty} {l:List Tp} {st:ByteArray × ByteArray→Int} {xo xu:List Al} {n:Int}
theorem FewA.start (out:List Fc):FewA ts l st xo xu n xu out:=by
 refine ⟨(List.filter_eq_self.2 fun u hu=>wY.2 (List.mem_map_of_mem (f:=fun u:Al=>(u.t,u.s)) hu)).symm,Few.start fun f hf=>Gr hf⟩
theorem Hf {φ υ:Type} [DecidableEq φ] {us:φ→υ} {H:List φ→φ→Bool} (hL:Loc us H) {qs:List φ} {users:List υ} {out:List φ} (h:Few us H qs users out) (P:υ→Bool) (hP:∀ u,P u=true ↔ u ∈ users):bP H (qs.filter fun f=>P (us f)) out=bP H qs out :=
 (kS hL P qs out fun f hf hp=>h.set f hf fun hm=>by rw [(hP _).2 hm] at hp; cases hp).symm
theorem FewA.round {us:List Al} {out:List Fc} (h:FewA ts l st xo xu n us out):bP (fH ts l) (bR ts st xo us n) out=bP (fH ts l) (bR ts st xo xu n) out:=by
 have h2:=Ed ts st xo xu n (Q7 us);rw [← h.sub] at h2;rw [← h2];exact Hf (AC ts l) h.few (Q7 us) fun u=>wY
theorem FewA.next {us:List Al} {out new:List Fc} (h:FewA ts l st xo xu n us out) (hn:bP (fH ts l) (bR ts st xo us n) out=out ++ new):FewA ts l st xo xu n (eu us new) (out ++ new):=by
 refine ⟨?_,h.few.next (AC ts l) (h.round.symm.trans hn) fun u=>Bh⟩;have h1:eu us new=(xu.filter fun u:Al=>Q7 us (u.t,u.s)).filter fun u=>new.any fun g=>g.c.toList == u.t.toList && g.d.toList == u.s.toList:=by rw [← h.sub]; rfl
 rw [List.filter_filter] at h1;refine h1.trans (List.filter_congr fun u hu=>?_);rw [Bool.eq_iff_iff,wY,Bh,R7,wY,Sw,and_comm];refine and_congr Iff.rfl ⟨fun ⟨g,hg,h3⟩=>⟨g,hg,?_⟩,fun ⟨g,hg,h3⟩=>⟨g,hg,?_⟩⟩
 ·rw [R7,eB,eB] at h3;exact Prod.ext h3.1 h3.2
 ·rw [R7,eB,eB];exact ⟨congrArg Prod.fst h3,congrArg Prod.snd h3⟩
theorem FewA.done {out:List Fc} (h:FewA ts l st xo xu n [] out):kZ (fH ts l) (bR ts st xo xu n) out=out:=h.few.done
theorem uq {st st':ByteArray × ByteArray→Int} (h:∀ k ∈ ai ts,st k=st' k):∀ N,gI ts l st xo xu N=gI ts l st' xo xu N
 | 0=>rfl
 | N + 1=>by rw [iD,iD,uq h N,He h]
end
def EQ (K:Fc→Bool) (f:Fc) (t:Tp):Bool:=if t.s.toList.isEmpty then t.c.toList == f.c.toList && t.d.toList == f.d.toList else K ⟨t.c,t.d,t.s,f.c,f.d⟩
abbrev Ru:=(Fc→Bool)→Bool
def oP (l:List Tp) (f:Fc):Ru:=fun K=>l.any fun t=>(t.a.toList == f.a.toList && t.b.toList == f.b.toList && t.r.toList == f.r.toList) && EQ K f t
def Bi (l:List Tp) (over name:ByteArray) (f:Fc):Ru:=fun K=>l.any fun t=>(t.a.toList == f.a.toList && t.b.toList == f.b.toList && t.r.toList == over.toList) && K ⟨t.c,t.d,name,f.c,f.d⟩
def gN (l:List Tp) (es:List Ex) (truth:List Fc) (f:Fc):Nat→Nat→Ru
 | 0,_=>fun _=>false
 | k + 1,n=>match es[n]? with
  | none=>fun _=>false
  | some x =>
   if x.kind=1 then oP l f
   else if x.kind=2 then fun K=>K ⟨f.a,f.b,x.name,f.c,f.d⟩
   else if x.kind=3 then Bi l x.over x.name f
   else if x.kind=4 then fun K=>x.kids.any fun i=>gN l es truth f k i.toNat K
   else if x.kind=5 then fun K=>x.kids.all fun i=>gN l es truth f k i.toNat K
   else if x.kind=6 then if cO l es truth f k truth (x.kids.getD 1 0).toNat then fun _=>false else gN l es truth f k (x.kids.getD 0 0).toNat
   else fun _=>false
theorem M9 (l:List Tp) (es:List Ex) (truth known:List Fc) (f:Fc):∀ k n,gN l es truth f k n (aO known)=cO l es truth f k known n
 | 0,_=>rfl
 | k + 1,n=>by
  unfold gN
  conv=>rhs; unfold cO
  cases es[n]? with
  | none=>rfl
  | some x =>
   dsimp only;by_cases k1:x.kind=1
   ·rw [if_pos k1,if_pos k1]; rfl
   rw [if_neg k1,if_neg k1];by_cases k2:x.kind=2
   ·rw [if_pos k2,if_pos k2]
   rw [if_neg k2,if_neg k2];by_cases k3:x.kind=3
   ·rw [if_pos k3,if_pos k3]; rfl
   rw [if_neg k3,if_neg k3];have key:∀ i:Int,gN l es truth f k i.toNat (aO known)=cO l es truth f k known i.toNat:=fun i=>M9 l es truth known f k i.toNat;by_cases k4:x.kind=4
   ·rw [if_pos k4,if_pos k4];exact congrArg (fun p=>x.kids.any p) (funext key)
   rw [if_neg k4,if_neg k4];by_cases k5:x.kind=5
   ·rw [if_pos k5,if_pos k5];exact congrArg (fun p=>x.kids.all p) (funext key)
   rw [if_neg k5,if_neg k5];by_cases k6:x.kind=6
   ·rw [if_pos k6,if_pos k6];cases h:cO l es truth f k truth (x.kids.getD 1 0).toNat with
    | true=>rw [if_pos rfl]; simp
    | false=>rw [if_neg (by decide),key]; simp
   ·rw [if_neg k6,if_neg k6]
set_option linter.unusedSectionVars false
section
variable {φ:Type} [DecidableEq φ] {rk:φ→Int} {H:List φ→φ→Bool} {qs:Nat→List φ}
def ES (H:List φ→φ→Bool) (out:List φ):Prop:=∀ (i:Nat) (h:i < out.length),H (out.take i) out[i]=true
theorem Na:ES H []:=fun i h=>absurd h (SE _)
theorem Kh {out:List φ} (h:ES H out) (f:φ):ES H (dZ H out f):=by
 unfold dZ;split
 ·exact h
 ·rename_i hn;have hH:H out f=true:=by
   cases e:H out f with
   | true=>rfl
   | false=>exact absurd (.inr e) hn
  intro i hi;rw [R9,List.length_singleton] at hi;by_cases e:i < out.length
  ·rw [Sy e,List.take_append_of_le_length (by omega)];exact h i e
  ·have e2:i=out.length:=by omega
   subst e2;rw [SF (R4 _),List.take_append_of_le_length (R4 _),Sc];simpa using hH
theorem ET:∀ (q:List φ) {out:List φ},ES H out→ES H (bP H q out)
 | [],_,h=>h
 | f::q,out,h=>ET q (Kh h f)
theorem Bj (q:List φ):∀ (k:Nat) {out:List φ},ES H out→ES H (jN H q k out)
 | 0,_,h=>h
 | k + 1,out,h=>by
  unfold jN;split
  ·exact h
  ·exact Bj q k (ET q h)
theorem Jf:∀ N,ES H (OH H qs N)
 | 0=>Na
 | N + 1=>Bj (qs N) _ (Jf N)
theorem Bl (hq:∀ n,∀ f ∈ qs n,rk f=(n:Int)):∀ N,(OH H qs N).Pairwise fun a b=>rk a≤rk b
 | 0=>List.Pairwise.nil
 | N + 1=>by
  obtain ⟨new,e,hn⟩:=Ee (H:=H) (qs N) (OH H qs N);rw [OH,e];refine List.pairwise_append.2 ⟨Bl hq N,?_,fun a ha b hb=>?_⟩
  ·rw [List.pairwise_iff_getElem];intro i j hi hj _;rw [hq N _ (hn _ (RY hi)),hq N _ (hn _ (RY hj))];exact Int.le_refl _
  ·have h1:=Ef hq N a ha;have h2:=hq N b (hn b hb);omega
theorem Ki {L:List φ} (hs:L.Pairwise fun a b=>rk a≤rk b) {i:Nat} (hi:i < L.length) {g:φ} (hg:rk g < rk L[i]):g ∈ L ↔ g ∈ L.take i:=by
 refine ⟨fun h=>?_,fun h=>List.mem_of_mem_take h⟩;obtain ⟨j,hj,rfl⟩:=Sz h;have hji:j < i:=by
  rcases Nat.lt_trichotomy j i with h1 | h1 | h1
  ·exact h1
  ·subst h1; exact absurd hg (Int.lt_irrefl _)
  ·have:=List.pairwise_iff_getElem.1 hs i j hi hj h1; omega
 exact List.mem_take_iff_getElem.2 ⟨j,by omega,rfl⟩
end
section
variable [DecidableEq Fc]
theorem Jg (ts:List Ty) (l:List Tp) (st:ByteArray × ByteArray→Int) (xo xu:List Al):∀ N,gI ts l st xo xu N=OH (fH ts l) (fun n=>bR ts st xo xu (n:Int)) N
 | 0=>rfl
 | N + 1=>by rw [iD,Jg ts l st xo xu N]; rfl
theorem EU {ts:List Ty} {l:List Tp} {st:ByteArray × ByteArray→Int} {xo xu:List Al} (hS:Sol ts st) (hsh:aV ts=true) (hrf:gH ts=true) (hfit:∀ t ∈ l,OL ts t=true) (hen:∀ k ∈ ai ts,hasB ts k.1 k.2=true) (N:Nat) {i:Nat} (hi:i < (gI ts l st xo xu N).length) :
  cO l (ax ts (gI ts l st xo xu N)[i].a (gI ts l st xo xu N)[i].r) (gI ts l st xo xu N) (gI ts l st xo xu N)[i] (ax ts (gI ts l st xo xu N)[i].a (gI ts l st xo xu N)[i].r).length ((gI ts l st xo xu N).take i) ((ax ts (gI ts l st xo xu N)[i].a (gI ts l st xo xu N)[i].r).length - 1)=true:=by
 have e:=Jg ts l st xo xu N;have hq:∀ n:Nat,∀ f ∈ bR ts st xo xu (n:Int),OJ ts st f=(n:Int):=fun n f hf=>Gx hen hf;have h1:=Jf (H:=fH ts l) (qs:=fun n=>bR ts st xo xu (n:Int)) N;have h2:=Bl (H:=fH ts l) (qs:=fun n=>bR ts st xo xu (n:Int)) hq N;rw [← e] at h1 h2;obtain ⟨L,hL⟩:∃ L,L=gI ts l st xo xu N:=⟨_,rfl⟩;simp only [← hL] at h1 h2 hi ⊢;have hh:=h1 i hi;unfold fH at hh;obtain ⟨f,hf⟩:∃ f,f=L[i]:=⟨_,rfl⟩;rw [← hf] at hh ⊢;by_cases he:ax ts f.a f.r=[]
 ·rw [he] at hh; cases hh
 ·have hpos:(ax ts f.a f.r).length - 1 < (ax ts f.a f.r).length:=by
   have:(ax ts f.a f.r).length ≠ 0:=fun e=>he (Si.1 e);omega
  refine (Mg hS hsh hrf hfit he).more (fun g hg=>?_) _ _ _ _ (fun g _=>Iff.rfl) (fun g _ h=>h) hpos hh;rw [hf] at hg;exact (Ki h2 hi hg).symm
end
def Hg (w:World) (b off:Nat) (t:Fc):Prop :=
 w.cell? ⟨b,off,none⟩=some (.string t.a)∧w.cell? ⟨b,off + 1,none⟩=some (.string t.b)∧w.cell? ⟨b,off + 2,none⟩=some (.string t.r)∧w.cell? ⟨b,off + 3,none⟩=some (.string t.c)∧w.cell? ⟨b,off + 4,none⟩=some (.string t.d)
def O8 (w:World) (b off:Nat) (ts:List Fc):Prop:=∀ (i:Nat) (h:i < ts.length),Hg w b (off + i * 5) ts[i]
def gX (w:World) (ad:Option Addr) (ts:List Fc):Prop:=ts=[] ∨ ∃ b off,ad=some ⟨b,off,none⟩∧b < w.heap.size∧O8 w b off ts
theorem Hg.same {w w':World} {b off:Nat} {t:Fc} (h:Hg w b off t) (hc:∀ o,w'.cell? ⟨b,o,none⟩=w.cell? ⟨b,o,none⟩):Hg w' b off t:=by
 obtain ⟨h0,h1,h2,h3,h4⟩:=h;exact ⟨(hc _).trans h0,(hc _).trans h1,(hc _).trans h2,(hc _).trans h3,(hc _).trans h4⟩
theorem gX.below {w w':World} {ad:Option Addr} {ts:List Fc} (h:gX w ad ts) (hB:Below w.heap.size w w'):gX w' ad ts:=by
 rcases h with h | ⟨b,off,e,hb,hr⟩
 ·exact .inl h
 ·exact .inr ⟨b,off,e,RZ hb hB.size,fun i hi=>(hr i hi).same fun o=>hB.cell (p:=⟨b,o,none⟩) hb⟩
def Fc.row (t:Fc):List Value:=[.string t.a,.string t.b,.string t.r,.string t.c,.string t.d]
theorem ut (x y:Fc) {v:Bool} (h:rq x y=v) (w:World) :
  (binOp .eql 42 (.agg #[.string x.a,.string x.b,.string x.r,.string x.c,.string x.d]) (.agg #[.string y.a,.string y.b,.string y.r,.string y.c,.string y.d])).run prog w=.ok (.bool v) w:=by
 subst h;go_simp;unfold rq
 (repeat' split) <;> simp_all
theorem Bn {ts:List Fc} {k:Nat} (h:k < ts.length) {t:Fc}:aO (ts.drop k) t=(rq ts[k] t || aO (ts.drop (k + 1)) t):=by
 unfold aO; rw [Sr h]; rfl
set_option maxRecDepth 100000
def au (fs:List Fc):List Value:=fs.flatMap Fc.row
theorem jo:∀ fs:List Fc,(au fs).length=fs.length * 5
 | []=>rfl
 | f::fs=>by have:=jo fs; simp only [au,List.flatMap_cons,R9,List.length_cons,Fc.row,List.length_nil] at this ⊢; omega
theorem jq (fs:List Fc) (f:Fc):au (fs ++ [f])=au fs ++ f.row:=by simp [au]
theorem oQ:∀ (fs:List Fc) (i:Nat) (h:i < fs.length) (c:Nat),c < 5→(au fs)[i * 5 + c]?=fs[i].row[c]?
 | [],i,h,_,_=>by simp at h
 | f::fs,0,_,c,hc=>by
  simp only [au,List.flatMap_cons,Nat.zero_mul,Su,List.getElem_cons_zero];rw [List.getElem?_append_left (by simp [Fc.row]; omega)]
 | f::fs,i + 1,h,c,hc=>by
  have ih:=oQ fs i (by simpa using h) c hc;simp only [au,List.flatMap_cons,List.getElem_cons_succ] at ih ⊢;rw [List.getElem?_append_right (by simp [Fc.row]; omega)];have:(i + 1) * 5 + c - f.row.length=i * 5 + c:=by simp [Fc.row]; omega
  rw [this]; exact ih
theorem iH {w:World} {base:Nat} {v:Value} {fs:List Fc} (h:w.ownsRow base 42 5 v fs.length (au fs)):∃ ad cap,v=.slice ad fs.length cap∧gX w ad fs:=by
 rcases h.2 with ⟨rfl,h0⟩ | ⟨g,cap,cur,rfl,hbg,hg,hnc,-⟩
 ·exact ⟨none,0,by rw [h0],.inl (Si.1 h0)⟩
 ·refine ⟨_,cap,rfl,.inr ⟨g,0,rfl,(h.lt g rfl).2,fun i hi=>?_⟩⟩;have hl:=jo fs;have hc:∀ c,c < 5→w.cell? ⟨g,0 + i * 5 + c,none⟩=fs[i].row[c]?:=fun c hc=>by
   rw [h.cellAt (0 + i * 5 + c) (by omega),Su]; exact oQ fs i hi c hc
  exact ⟨hc 0 (by omega),hc 1 (by omega),hc 2 (by omega),hc 3 (by omega),hc 4 (by omega)⟩
theorem mQ:∃ i,prog.info? 42=some i∧i.zero=some (.agg #[.string ⟨#[]⟩,.string ⟨#[]⟩,.string ⟨#[]⟩,.string ⟨#[]⟩,.string ⟨#[]⟩])∧i.size=5∧i.bytes=80 :=
 info_parts (P:=prog) (e:=42) (z:=.agg #[.string ⟨#[]⟩,.string ⟨#[]⟩,.string ⟨#[]⟩,.string ⟨#[]⟩,.string ⟨#[]⟩]) (size:=5) (bytes:=80) (by kernel_rfl)
theorem yL (w:World) (f:Fc):∀ j u,f.row[j]?=some u→(w.alloc (.cells #[.string f.a,.string f.b,.string f.r,.string f.c,.string f.d] 42)).cell? ((⟨w.heap.size,0,none⟩:Addr).add j)=some u:=fun j u hu=>by
 match j,hu with
 | 0,hu=>simp [Fc.row] at hu; subst hu; simp [Addr.add]
 | 1,hu=>simp [Fc.row] at hu; subst hu; simp [Addr.add]
 | 2,hu=>simp [Fc.row] at hu; subst hu; simp [Addr.add]
 | 3,hu=>simp [Fc.row] at hu; subst hu; simp [Addr.add]
 | 4,hu=>simp [Fc.row] at hu; subst hu; simp [Addr.add]
structure OutI (w W wr:World) (v:Value) (out:List Fc):Prop where
 row:wr.ownsRow w.heap.size 42 5 v out.length (au out)
 keep:∀ g o x,W.cell? ⟨g,o,none⟩=some x→wr.cell? ⟨g,o,none⟩=some x
 size:W.heap.size≤wr.heap.size
 bel:Below w.heap.size w wr
 free:∀ g,v.ownBlock=some g→∀ o,W.cell? ⟨g,o,none⟩=none
theorem ay {w:World} {g o:Nat} {x:Value} (h:w.cell? ⟨g,o,none⟩=some x):g < w.heap.size:=by
 unfold World.cell? at h;cases ho:w.heap[g]? with
 | none=>simp [ho] at h
 | some o=>exact (Array.getElem?_eq_some_iff.1 ho).1
theorem O9 {w:World} {g o:Nat} (h:w.heap.size≤g):w.cell? ⟨g,o,none⟩=none:=by
 cases e:w.cell? ⟨g,o,none⟩ with
 | none=>rfl
 | some x=>have:=ay e; omega
theorem OutI.below {w W wr w':World} {v:Value} {out:List Fc} (h:OutI w W wr v out) (hb:Below wr.heap.size wr w'):OutI w W w' v out where
 row:=aM h.row hb
 keep g o x hx:=(hb.cell (p:=⟨g,o,none⟩) (ay (h.keep g o x hx))).trans (h.keep g o x hx)
 size:=Sb h.size hb.size
 bel:=h.bel.trans (hb.mono h.bel.size)
 free:=h.free
theorem OutI.app {w W wr w':World} {v v':Value} {out:List Fc} {f:Fc} (h:OutI w W wr v out) (hown:w'.ownsRow w.heap.size 42 5 v' (out.length + 1) (au out ++ f.row)) (hgr:wr.grownBy w' v.ownBlock) (hat:v'.ownBlock=v.ownBlock ∨ v'.ownBlock=some wr.heap.size):OutI w W w' v' (out ++ [f]) where
 row:=by rw [jq,R9]; exact hown
 keep g o x hx:=by
  have h1:=h.keep g o x hx;refine (SB (w:=wr) (a:=⟨g,o,none⟩) (hgr.block g (ay h1) fun e=>?_)).trans h1;rw [h.free g e.symm o] at hx;cases hx
 size:=Sb h.size hgr.size
 bel:=h.bel.grown hgr h.bel.size (fun g hg=>(h.row.lt g hg).1)
 free g hg o:=by
  rcases hat with e | e
  ·rw [e] at hg; exact h.free g hg o
  ·rw [hg] at e; injection e with e; rw [e]; exact O9 h.size
theorem iy.keepC {w w':World} {ad:Option Addr} {xs:List Al} (h:iy w ad xs) (hs:w.heap.size≤w'.heap.size) (hk:∀ g o x,w.cell? ⟨g,o,none⟩=some x→w'.cell? ⟨g,o,none⟩=some x):iy w' ad xs:=by
 rcases h with h | ⟨b,off,e,hb,hr⟩
 ·exact .inl h
 ·exact .inr ⟨b,off,e,RZ hb hs,fun i hi=>⟨hk _ _ _ (hr i hi).1,hk _ _ _ (hr i hi).2⟩⟩
theorem Gg.keepC {w w':World} {ad:Option Addr} {xs:List St} (h:Gg w ad xs) (hs:w.heap.size≤w'.heap.size) (hk:∀ g o x,w.cell? ⟨g,o,none⟩=some x→w'.cell? ⟨g,o,none⟩=some x):Gg w' ad xs:=by
 rcases h with h | ⟨b,off,e,hb,hr⟩
 ·exact .inl h
 ·exact .inr ⟨b,off,e,RZ hb hs,fun i hi=>⟨hk _ _ _ (hr i hi).1,hk _ _ _ (hr i hi).2.1,hk _ _ _ (hr i hi).2.2⟩⟩
theorem Gg.at0 {w:World} {ad:Option Addr} {xs:List St} (h:Gg w ad xs) {k:Nat} (hk:k < xs.length):∃ b off,ad=some ⟨b,off,none⟩∧Q4 w b (off + k * 3) xs[k]∧b < w.heap.size:=by
 rcases h with h | ⟨b',off',e,hb,hr⟩
 ·rw [h] at hk; simp at hk
 ·exact ⟨b',off',e,hr k hk,hb⟩
def Qs:Value→Nat
 | .slice _ n _=>n
 | _=>0
def RP:Value→Nat
 | .bool true=>1
 | _=>0
theorem kg {w w':World} {base:Nat} {e:TypeId} {size:Nat} {v:Value} {n:Nat} {xs:List Value} (h:w.ownsRow base e size v n xs) (hh:∀ g,v.ownBlock=some g→w'.heap[g]?=w.heap[g]?):w'.ownsRow base e size v n xs:=by
 refine ⟨h.1,?_⟩;rcases h.2 with hl | ⟨g,cap,cur,rfl,h1,h2,h3⟩
 ·exact .inl hl
 ·exact .inr ⟨g,cap,cur,rfl,h1,(hh g rfl).trans h2,h3⟩
theorem yM {w:World} {base size n:Nat} {e:TypeId} {v:Value} {xs:List Value} (h:w.ownsRow base e size v n xs):∃ ad cap,v=.slice ad n cap:=by
 rcases h.2 with ⟨rfl,h0⟩ | ⟨g,cap,cur,rfl,-⟩
 ·exact ⟨none,0,by rw [h0]⟩
 ·exact ⟨_,_,rfl⟩
theorem uu {w:World} {base size n cap:Nat} {e:TypeId} {ad:Option Addr} {xs:List Value} (h:w.ownsRow base e size (.slice ad n cap) n xs) (hn:n ≠ 0):∃ g,ad=some ⟨g,0,none⟩∧(Value.slice ad n cap).ownBlock=some g:=by
 rcases h.2 with ⟨-,h0⟩ | ⟨g,cap',cur,e1,-⟩
 ·exact absurd h0 hn
 ·injection e1 with e1;exact ⟨g,e1,by rw [e1]; rfl⟩
theorem Kj {w:World} {base base' size n:Nat} {e:TypeId} {v:Value} {xs:List Value} (h:w.ownsRow base e size v n xs) (hb:base'≤base):w.ownsRow base' e size v n xs:=by
 refine ⟨h.1,?_⟩;rcases h.2 with hl | ⟨g,cap,cur,e,h1,h2⟩
 ·exact .inl hl
 ·exact .inr ⟨g,cap,cur,e,Sb hb h1,h2⟩
theorem CQ {w:World} {base size n cap:Nat} {e:TypeId} {ad:Option Addr} {xs:List Value} (h:w.ownsRow base e size (.slice ad n cap) n xs):n≤cap:=by
 rcases h.2 with ⟨e1,h0⟩ | ⟨g,cap',cur,e1,-,-,hnc,-⟩
 ·injection e1 with _ e2 e3; omega
 ·injection e1 with _ e2 e3; omega
theorem Hl (xs:List Fc):∀ p,au (xs.take p)=(au xs).take (p * 5):=by
 induction xs with
 | nil=>intro p; simp [au]
 | cons x xs ih =>
  intro p;cases p with
  | zero=>simp [au]
  | succ p =>
   have ih:=ih p;unfold au at ih ⊢;rw [List.take_succ_cons,List.flatMap_cons,List.flatMap_cons,ih,show (p + 1) * 5=p * 5 + 1 + 1 + 1 + 1 + 1 by omega];simp [Fc.row]
theorem Hm (xs:List Fc):∀ p,au (xs.drop p)=(au xs).drop (p * 5):=by
 induction xs with
 | nil=>intro p; simp [au]
 | cons x xs ih =>
  intro p;cases p with
  | zero=>simp [au]
  | succ p =>
   have ih:=ih p;unfold au at ih ⊢;rw [List.drop_succ_cons,List.flatMap_cons,ih,show (p + 1) * 5=p * 5 + 1 + 1 + 1 + 1 + 1 by omega];simp [Fc.row]
theorem Ho {w:World} {base g n cap:Nat} {xs:List Fc} (h:w.ownsRow base 42 5 (.slice (some ⟨g,0,none⟩) n cap) n (au xs)) (p:Nat) (hp:p≤n):∀ j u,(au (xs.take p))[j]?=some u→w.cell? ((⟨g,0,none⟩:Addr).add j)=some u:=fun j u hu=>by
 rw [Hl,List.getElem?_take] at hu;split at hu
 ·rename_i hj;have:=h.cellAt j (by omega);rw [hu] at this;have e:(⟨g,0,none⟩:Addr).add j=⟨g,j,none⟩:=by unfold Addr.add; split <;> simp_all
  rw [e]; exact this
 ·cases hu
theorem Hq {w:World} {base g n cap:Nat} {xs:List Fc} (h:w.ownsRow base 42 5 (.slice (some ⟨g,0,none⟩) n cap) n (au xs)) (p:Nat) (hp:p≤n):∀ j u,(au (xs.drop p))[j]?=some u→w.cell? ((⟨g,p * 5,none⟩:Addr).add j)=some u:=fun j u hu=>by
 rw [Hm,List.getElem?_drop] at hu;have hl:=h.1;have hj:p * 5 + j < n * 5:=by
  rw [← hl]; exact (List.getElem?_eq_some_iff.1 hu).1
 have:=h.cellAt (p * 5 + j) hj;rw [hu] at this;have e:(⟨g,p * 5,none⟩:Addr).add j=⟨g,p * 5 + j,none⟩:=by unfold Addr.add; split <;> simp_all
 rw [e]; exact this
theorem yN (xs:List Fc):∀ u ∈ au xs,u.oneCell'=true:=fun u hu=>by
 obtain ⟨q,-,h⟩:=Sk.1 hu;simp only [Fc.row,List.mem_cons,List.not_mem_nil,or_false] at h;rcases h with rfl | rfl | rfl | rfl | rfl <;> rfl
end Go.Proofs.YtdaoiceeidoehaaGreat
