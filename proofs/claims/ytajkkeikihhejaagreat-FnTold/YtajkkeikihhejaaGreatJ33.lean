/- What the program's tables and the document's strata ask: the same questions; how many facts there may be; the program's rounds over fewer users. -/
import Derived.Test.YtajkkeikihhejaaGreatSq
import Derived.Test.YtajkkeikihhejaaGreatJ32
open Go.Proofs.Tryz
set_option maxHeartbeats 80000000
namespace Go.Proofs.YtajkkeikihhejaaGreat
set_option linter.unusedVariables false
open Go.ChangeShapes Go.WideShapes Go.ChangeAt Go.RowKit Go.Maps
open Pl
def ni (known:List Fc) (f:Fc) (t:Tp):Bool:=if t.s.toList.isEmpty then t.c.toList == f.c.toList && t.d.toList == f.d.toList else bP known ⟨t.c,t.d,t.s,f.c,f.d⟩
def vI (known:List Fc) (name:ByteArray) (f:Fc) (t:Tp):Bool:=bP known ⟨t.c,t.d,name,f.c,f.d⟩
theorem GJ (l:List Tp) (k:K3) (p:Tp→Bool):(G.lookL (dK l) k).any p=l.any fun t=>(t.a.toList == k.1.toList && t.b.toList == k.2.1.toList && t.r.toList == k.2.2.toList) && p t:=by
 induction l with
 | nil=>rfl
 | cons t l ih =>
  have e:dK (t::l)=[(Mv t,t)] ++ dK l:=rfl;rw [e,G.lookL_append,List.any_append,ih,List.any_cons];congr 1;unfold G.lookL Mv;by_cases h:(t.a,t.b,t.r)=k
  ·subst h; simp
  have h2:(t.a.toList == k.1.toList && t.b.toList == k.2.1.toList && t.r.toList == k.2.2.toList)=false:=by
   cases hb:(t.a.toList == k.1.toList && t.b.toList == k.2.1.toList && t.r.toList == k.2.2.toList);case false=>rfl
   rw [TU,TU,fo,fo,fo] at hb; exact absurd (Prod.ext hb.1.1 (Prod.ext hb.1.2 hb.2)) h
  simp [h,h2]
theorem JA (l:List Tp) (known:List Fc) (f:Fc):dZ l known f=(G.lookL (dK l) (f.a,f.b,f.r)).any (ni known f):=by rw [GJ]; rfl
theorem JB (l:List Tp) (known:List Fc) (over name:bH) (f:Fc):gp l known over name f=(G.lookL (dK l) (f.a,f.b,over)).any (vI known name f):=by rw [GJ]; rfl
theorem Mx (st:ByteArray × ByteArray→Int) (n:Int) (o:Al) (tn:bH) (rows:List RR):((rows.map fun r=>(tn,r.name)).filter fun k=>k.1.toList == o.t.toList && decide (st k=n))=(G.lookL (rows.map fun r=>((tn,st (tn,r.name)),r)) (o.t,n)).map fun r=>(o.t,r.name):=by
 induction rows with
 | nil=>rfl
 | cons r rows ih =>
  have e:((r::rows).map fun r=>((tn,st (tn,r.name)),r))=[((tn,st (tn,r.name)),r)] ++ rows.map fun r=>((tn,st (tn,r.name)),r):=rfl;rw [e,G.lookL_append,List.map_append,← ih,List.map_cons,List.filter_cons];unfold G.lookL;by_cases h:tn=o.t∧st (tn,r.name)=n
  ·obtain ⟨rfl,rfl⟩:=h;simp
  have h1:(tn.toList == o.t.toList && decide (st (tn,r.name)=n))=false:=by
   cases hb:(tn.toList == o.t.toList && decide (st (tn,r.name)=n));case false=>rfl
   rw [TU,fo,Ud] at hb; exact absurd hb h
  have h2:¬ ((tn,st (tn,r.name))=(o.t,n)):=fun e=>h ⟨congrArg Prod.fst e,congrArg Prod.snd e⟩;simp [h1,h2]
theorem GK (st:ByteArray × ByteArray→Int) (n:Int) (o:Al) (rs:List TR):AR (ae rs) st n o=(G.lookL (eY st rs) (o.t,n)).map fun r=>(o.t,r.name):=by
 unfold AR
 induction rs with
 | nil=>rfl
 | cons t rs ih =>
  have e1:au (ae (t::rs))=(t.rows.map fun r=>(t.name,r.name)) ++ au (ae rs):=by
   have:jE t.p=t.rows.map fun r=>(t.name,r.name):=by unfold jE; show List.map _ (eF t.rows)=_; unfold eF; rw [List.map_map]; rfl
   simp [au,ae,this]
  have e2:eY st (t::rs)=(t.rows.map fun r=>((t.name,st (t.name,r.name)),r)) ++ eY st rs:=rfl;rw [e1,e2,G.lookL_append,Uz,List.map_append,ih,Mx]
theorem A7 {s:St}:∀ {sts:List St},(iE sts).Nodup→s ∈ sts→fO sts s.key=s.n
 | [],_,h=>by cases h
 | x::xs,hd,h=>by
  have hd2:x.key ∉ iE xs∧(iE xs).Nodup:=List.nodup_cons.1 hd;unfold fO;by_cases e:zF x s.key.1 s.key.2=true
  ·rw [if_pos e];have ek:=qx.1 e;rcases List.mem_cons.1 h with rfl | h
   ·rfl
   exact absurd (by rw [ek]; exact List.mem_map_of_mem h) hd2.1
  rw [if_neg e];rcases List.mem_cons.1 h with rfl | h
  ·exact absurd (qx.2 rfl) e
  exact A7 hd2.2 h
def TB (sts:List St) (n:Int) (o:Al):List St:=sts.filter fun s=>s.typ.toList == o.t.toList && decide (s.n=n)
theorem QP {ts:List Ty} {sts:List St} (hk:iE sts=au ts) (hn:(au ts).Nodup) (n:Int) (o:Al):AR ts (fO sts) n o=(TB sts n o).map St.key:=by
 unfold AR TB;rw [← hk];rw [← hk] at hn;unfold iE;rw [List.filter_map];congr 1;refine List.filter_congr fun s hs=>?_;show (s.key.1.toList == o.t.toList && decide (fO sts s.key=n))=_;rw [A7 hn hs];rfl
theorem JC {rs:List TR} (h:bf (ae rs)=true):(au (ae rs)).Nodup:=by
 have e:au (ae rs)=rs.flatMap fun t=>t.rows.map fun r=>(t.name,r.name):=by
  unfold au ae;rw [List.flatMap_map];congr 1
  funext t
  unfold jE;show List.map _ (eF t.rows)=_;unfold eF; rw [List.map_map]; rfl
 rw [e,List.Nodup,List.pairwise_flatMap];constructor
 ·intro t ht;obtain ⟨i,hi,rfl⟩:=List.mem_iff_getElem.1 ht;have hu:=(lF h i hi).2.2;rw [List.pairwise_map,List.pairwise_iff_getElem];intro a b ha hb hab e;have hne:=rC (f:=fun k=>(rs[i].rows[k]?.map RR.name).getD ByteArray.empty) (n:=rs[i].rows.length) (fun k hk=>by
   have h0:k < rs[i].rows.length:=by omega
   simp only [TY hk,TY h0,Option.map_some,Option.getD_some];exact (CJ hu (k + 1) hk hk).2.1 k h0 rfl)
  have:=hne a b hab hb;simp [ha,hb] at this;exact this (congrArg Prod.snd e)
 rw [List.pairwise_iff_getElem];intro a b ha hb hab x hx y hy e;obtain ⟨r,hr,rfl⟩:=Ue.1 hx;obtain ⟨q,hq,rfl⟩:=Ue.1 hy;have hne:=rC (f:=fun k=>(rs[k]?.map TR.name).getD ByteArray.empty) (n:=rs.length) (fun k hk=>by
  have h0:k < rs.length:=by omega
  simp only [TY hk,TY h0,Option.map_some,Option.getD_some];exact (lF h (k + 1) hk).2.1 k h0 rfl)
 have:=hne a b hab hb;simp [ha,hb] at this;exact this (congrArg Prod.fst e)
theorem GL {α:Type} [DecidableEq α]:∀ {a b:List α},a.Nodup→(∀ x ∈ a,x ∈ b)→a.length≤b.length
 | [],_,_,_=>TW _
 | x::a,b,hd,hs=>by
  obtain ⟨h1,h2⟩:=List.nodup_cons.1 hd;have hx:=hs x (by simp);have:=GL (a:=a) (b:=b.erase x) h2 fun y hy=>(List.mem_erase_of_ne (fun e:y=x=>h1 (by rw [← e]; exact hy))).2 (hs y (by simp [hy]));rw [List.length_erase_of_mem hx] at this;have hp:0 < b.length:=List.length_pos_of_mem hx;simp only [List.length_cons];omega
def BQ (ts:List Ty) (xo xu:List Al):List Fc:=xo.flatMap fun o=>(au ts).flatMap fun k=>iZ o k.2 xu
theorem Dy {ts:List Ty} {st:ByteArray × ByteArray→Int} {xo xu:List Al} {n:Int} {f:Fc} (h:f ∈ bY ts st xo xu n):f ∈ BQ ts xo xu:=by
 unfold bY vD at h;obtain ⟨o,ho,h⟩:=Uf.1 h;obtain ⟨k,hk,h⟩:=Uf.1 h;exact Uf.2 ⟨o,ho,Uf.2 ⟨k,(Ux.1 hk).1,h⟩⟩
theorem A8 {α β:Type} (f:α→List β) (m:Nat) (hf:∀ a,(f a).length≤m):∀ l:List α,(l.flatMap f).length≤l.length * m
 | []=>by simp
 | a::l=>by
  have h1:=A8 f m hf l;have h2:=hf a;simp only [List.flatMap_cons,T9,List.length_cons,Nat.add_mul];omega
theorem Px (ts:List Ty) (xo xu:List Al):(BQ ts xo xu).length≤xo.length * ((au ts).length * xu.length) :=
 A8 _ _ (fun o=>A8 _ _ (fun k=>by unfold iZ; rw [Uy]; exact TS _) _) _
structure GoodO (ts:List Ty) (xo xu:List Al) (out:List Fc):Prop where
 once:out.Nodup
 sub:∀ g ∈ out,g ∈ BQ ts xo xu
def Ta (us:List Al):List (ByteArray × ByteArray):=us.map fun u=>(u.t,u.s)
def Tc (us:List Al) (x:ByteArray × ByteArray):Bool:=us.any fun u=>u.t.toList == x.1.toList && u.s.toList == x.2.toList
theorem yO {us:List Al} {x:ByteArray × ByteArray}:Tc us x=true ↔ x ∈ Ta us:=by
 unfold Tc Ta;rw [Uo,Ue];constructor
 ·rintro ⟨u,hu,h⟩;rw [TU,fo,fo] at h;exact ⟨u,hu,Prod.ext h.1 h.2⟩
 rintro ⟨u,hu,rfl⟩;exact ⟨u,hu,by simp⟩
def fe (us:List Al) (new:List Fc):List Al:=us.filter fun u=>new.any fun g=>g.c.toList == u.t.toList && g.d.toList == u.s.toList
theorem Dz {us:List Al} {new:List Fc} {x:ByteArray × ByteArray}:x ∈ Ta (fe us new) ↔ x ∈ Ta us∧∃ g ∈ new,g.u=x:=by
 unfold Ta fe;constructor
 ·intro h;obtain ⟨u,hu,rfl⟩:=Ue.1 h;obtain ⟨h1,h2⟩:=Ux.1 hu;obtain ⟨g,hg,h3⟩:=Uo.1 h2;rw [TU,fo,fo] at h3;exact ⟨List.mem_map_of_mem (f:=fun u:Al=>(u.t,u.s)) h1,g,hg,Prod.ext h3.1 h3.2⟩
 rintro ⟨h,g,hg,hx⟩;obtain ⟨u,hu,rfl⟩:=Ue.1 h;refine Ue.2 ⟨u,Ux.2 ⟨hu,Uo.2 ⟨g,hg,?_⟩⟩,rfl⟩;rw [TU,fo,fo];exact ⟨congrArg Prod.fst hx,congrArg Prod.snd hx⟩
theorem JD (us:List Al):fe us []=[]:=by unfold fe; rw [List.filter_eq_nil_iff]; simp
theorem JE {ts:List Ty} {xo xu:List Al} {n:Int} {st st':ByteArray × ByteArray→Int} (h:∀ k ∈ au ts,st k=st' k):bY ts st xo xu n=bY ts st' xo xu n:=by
 unfold bY vD;congr 1
 funext o
 have:AR ts st n o=AR ts st' n o:=List.filter_congr fun k hk=>by rw [h k hk]
 rw [this]
set_option linter.unusedSectionVars false
section
variable [DecidableEq Fc]
theorem GoodO.run {ts:List Ty} {xo xu:List Al} {out:List Fc} (h:GoodO ts xo xu out) {H:List Fc→Fc→Bool} {qs:List Fc} (hq:∀ g ∈ qs,g ∈ BQ ts xo xu):GoodO ts xo xu (bG H qs out):=by
 refine ⟨wM qs h.once,fun g hg=>?_⟩;obtain ⟨n,e,hn⟩:=jF (H:=H) qs out;rw [e] at hg;rcases Uc.1 hg with hg | hg
 ·exact h.sub g hg
 exact hq g (hn g hg).1
theorem GoodO.len {ts:List Ty} {xo xu:List Al} {out:List Fc} (h:GoodO ts xo xu out) (h1:xo.length≤80) (h2:(au ts).length≤36) (h3:xu.length≤40):out.length≤115200:=by
 have a1:=GL h.once h.sub;have a2:=Px ts xo xu;have a3:(au ts).length * xu.length≤36 * 40:=Nat.mul_le_mul h2 h3;have a4:xo.length * ((au ts).length * xu.length)≤80 * (36 * 40):=Nat.mul_le_mul h1 a3;omega
structure FewA (ts:List Ty) (l:List Tp) (st:ByteArray × ByteArray→Int) (xo xu:List Al) (n:Int) (us:List Al) (out:List Fc):Prop where
 sub:us=xu.filter fun u:Al=>Tc us (u.t,u.s)
 few:Few Fc.u (fC ts l) (bY ts st xo xu n) (Ta us) out
variable {ts:List Ty} {l:List Tp} {st:ByteArray × ByteArray→Int} {xo xu:List Al} {n:Int}
theorem FewA.start (out:List Fc):FewA ts l st xo xu n xu out:=by
 refine ⟨(List.filter_eq_self.2 fun u hu=>yO.2 (List.mem_map_of_mem (f:=fun u:Al=>(u.t,u.s)) hu)).symm,Few.start fun f hf=>Jq hf⟩
theorem JF {φ υ:Type} [DecidableEq φ] {us:φ→υ} {H:List φ→φ→Bool} (hL:Loc us H) {qs:List φ} {users:List υ} {out:List φ} (h:Few us H qs users out) (P:υ→Bool) (hP:∀ u,P u=true ↔ u ∈ users):bG H (qs.filter fun f=>P (us f)) out=bG H qs out :=
 (mX hL P qs out fun f hf hp=>h.set f hf fun hm=>by rw [(hP _).2 hm] at hp; cases hp).symm
theorem FewA.round {us:List Al} {out:List Fc} (h:FewA ts l st xo xu n us out):bG (fC ts l) (bY ts st xo us n) out=bG (fC ts l) (bY ts st xo xu n) out:=by
 have h2:=Gv ts st xo xu n (Tc us);rw [← h.sub] at h2;rw [← h2];exact JF (Dr ts l) h.few (Tc us) fun u=>yO
theorem FewA.next {us:List Al} {out new:List Fc} (h:FewA ts l st xo xu n us out) (hn:bG (fC ts l) (bY ts st xo us n) out=out ++ new):FewA ts l st xo xu n (fe us new) (out ++ new):=by
 refine ⟨?_,h.few.next (Dr ts l) (h.round.symm.trans hn) fun u=>Dz⟩;have h1:fe us new=(xu.filter fun u:Al=>Tc us (u.t,u.s)).filter fun u=>new.any fun g=>g.c.toList == u.t.toList && g.d.toList == u.s.toList:=by rw [← h.sub]; rfl
 rw [List.filter_filter] at h1;refine h1.trans (List.filter_congr fun u hu=>?_);rw [Bool.eq_iff_iff,yO,Dz,TU,yO,Uo,and_comm];refine and_congr Iff.rfl ⟨fun ⟨g,hg,h3⟩=>⟨g,hg,?_⟩,fun ⟨g,hg,h3⟩=>⟨g,hg,?_⟩⟩
 ·rw [TU,fo,fo] at h3;exact Prod.ext h3.1 h3.2
 rw [TU,fo,fo];exact ⟨congrArg Prod.fst h3,congrArg Prod.snd h3⟩
theorem FewA.done {out:List Fc} (h:FewA ts l st xo xu n [] out):kD (fC ts l) (bY ts st xo xu n) out=out:=h.few.done
theorem wU {st st':ByteArray × ByteArray→Int} (h:∀ k ∈ au ts,st k=st' k):∀ N,mD ts l st xo xu N=mD ts l st' xo xu N
 | 0=>rfl
 | N + 1=>by rw [jm,jm,wU h N,JE h]
end
set_option maxRecDepth 8000 in
theorem ow (ad:Option Addr) (cap:Nat) (ts:List Fc) (t:Fc) (w:af) (hlen:ts.length≤1048576) (hs:BA w ad ts) :
  Calls prog 56 #[.slice ad ts.length cap,.agg #[.string t.a,.string t.b,.string t.r,.string t.c,.string t.d]] w fun e w'=>e=.returned (.bool (bP ts t))∧ag w w':=by
 have HS:=az hs;clear hs;obtain ⟨W0,hW0⟩:∃ W0,W0=w.alloc (.cells #[.string t.a,.string t.b,.string t.r,.string t.c,.string t.d] 29):=⟨_,rfl⟩;have HB0:=qZ hW0;have HX0:Hid (W0.cell? ⟨w.heap.size,0,none⟩=some (.string t.a)∧W0.cell? ⟨w.heap.size,1,none⟩=some (.string t.b)∧W0.cell? ⟨w.heap.size,2,none⟩=some (.string t.r)∧W0.cell? ⟨w.heap.size,3,none⟩=some (.string t.c)∧W0.cell? ⟨w.heap.size,4,none⟩=some (.string t.d)∧w.heap.size < W0.heap.size):=by show _∧_; rw [hW0]; refine ⟨?_,?_,?_,?_,?_,?_⟩ <;> simp
 go_enter func56,ntmps56;go_wp2;rw [← hW0];clear hW0;go_loopw [5] (fun i wr=>∃ k:Nat,k≤ts.length∧i=.int .i64 k∧Hid (bP (ts.drop k) t=bP ts t)∧Hid (ag W0 wr)) (fun i _=>ts.length - (intOf i).toNat);case atStart=>exact ⟨0,TW _,rfl,rfl,TT _ _⟩
 obtain ⟨k,hk,rfl,HP,HB⟩:=hrel;have UG:Hid (ag w wr):=HB0.out.trans (HB.out.mono HB0.out.size);by_cases hlt:k < ts.length
 ·rcases HS.out.below UG.out with hnil | ⟨b,off,rfl,hb,hr⟩
  ·rw [hnil] at hlt; simp at hlt
  obtain ⟨t0,t1,t2,t3,t4⟩:=hr k hlt;have x0:=mK HB.out HX0.out.2.2.2.2.2 HX0.out.1;have x1:=mK HB.out HX0.out.2.2.2.2.2 HX0.out.2.1;have x2:=mK HB.out HX0.out.2.2.2.2.2 HX0.out.2.2.1;have x3:=mK HB.out HX0.out.2.2.2.2.2 HX0.out.2.2.2.1;have x4:=mK HB.out HX0.out.2.2.2.2.2 HX0.out.2.2.2.2.1;have hk1:=bB k;have hk2:(k:Int) < (ts.length:Int):=by omega
  have HD:Hid (bP ts t=(wQ ts[k] t || bP (ts.drop (k + 1)) t)):=by show _=_; rw [← HP.out]; exact Du hlt
  clear hr;cases hq:wQ ts[k] t;case true=>
   have heq:=EL ts[k] t hq;have HN:Hid (bP ts t=true):=by show _=_; rw [HD.out,hq]; rfl
   clear hq;go_wp2_with fail;go_region_held3 (fun w'=>w'.cell? ⟨b,off + k * 5,none⟩=some (.string ts[k].a)∧w'.cell? ⟨b,off + k * 5 + 1,none⟩=some (.string ts[k].b)∧w'.cell? ⟨b,off + k * 5 + 2,none⟩=some (.string ts[k].r)∧w'.cell? ⟨b,off + k * 5 + 3,none⟩=some (.string ts[k].c)∧w'.cell? ⟨b,off + k * 5 + 4,none⟩=some (.string ts[k].d)∧w'.cell? ⟨w.heap.size,0,none⟩=some (.string t.a)∧w'.cell? ⟨w.heap.size,1,none⟩=some (.string t.b)∧w'.cell? ⟨w.heap.size,2,none⟩=some (.string t.r)∧w'.cell? ⟨w.heap.size,3,none⟩=some (.string t.c)∧w'.cell? ⟨w.heap.size,4,none⟩=some (.string t.d)∧ag wr w') (first | assumption | exact ⟨t0,t1,t2,t3,t4,x0,x1,x2,x3,x4,(TT _ _).drew⟩) (fail);rename_i hH;have HG:Hid (ag wr _):=hH.2.2.2.2.2.2.2.2.2.2;clear hH t0 t1 t2 t3 t4 x0 x1 x2 x3 x4 heq;go_wp2;go_ret;exact ⟨by rw [HN.out]; rfl,UG.out.trans (HG.out.mono UG.out.size)⟩
  have heq:=EL ts[k] t hq;have UI:Hid (bP (ts.drop (k + 1)) t=bP ts t):=by show _=_; rw [HD.out,hq]; rfl
  clear hq;go_wp2_with fail;go_region_held3 (fun w'=>w'.cell? ⟨b,off + k * 5,none⟩=some (.string ts[k].a)∧w'.cell? ⟨b,off + k * 5 + 1,none⟩=some (.string ts[k].b)∧w'.cell? ⟨b,off + k * 5 + 2,none⟩=some (.string ts[k].r)∧w'.cell? ⟨b,off + k * 5 + 3,none⟩=some (.string ts[k].c)∧w'.cell? ⟨b,off + k * 5 + 4,none⟩=some (.string ts[k].d)∧w'.cell? ⟨w.heap.size,0,none⟩=some (.string t.a)∧w'.cell? ⟨w.heap.size,1,none⟩=some (.string t.b)∧w'.cell? ⟨w.heap.size,2,none⟩=some (.string t.r)∧w'.cell? ⟨w.heap.size,3,none⟩=some (.string t.c)∧w'.cell? ⟨w.heap.size,4,none⟩=some (.string t.d)∧ag wr w') (first | assumption | exact ⟨t0,t1,t2,t3,t4,x0,x1,x2,x3,x4,(TT _ _).drew⟩) (fail);rename_i hH;have HG:Hid (ag W0 _):=HB.out.trans (hH.2.2.2.2.2.2.2.2.2.2.mono HB.out.size);clear hH t0 t1 t2 t3 t4 x0 x1 x2 x3 x4 heq;go_wp2;go_roundw;case rel=>exact ⟨k + 1,by omega,by go_num,UI,HG⟩
  simp [intOf] <;> omega
 have HN:Hid (bP ts t=false):=by show _=_; rw [← HP.out,List.drop_of_length_le (by omega)]; rfl
 go_wp2;go_ret;exact ⟨by rw [HN.out]; rfl,UG.out⟩
theorem aC {p:Prop} (h:p):Hid p:=h
structure HW (w:World) (Wl:Option Addr) (ts:List Tp) (UD:Option Addr) (rows:List ER) (adK:Option Addr) (known:List Fc) (Wm:Option Addr) (truth:List Fc):Prop where
 tup:Sl w Wl ts
 ex:iH w UD rows
 kn:BA w adK known
 tr:BA w Wm truth
theorem HW.below {w w':af} {Wl:Option Addr} {ts:List Tp} {UD:Option Addr} {rows:List ER} {adK:Option Addr} {known:List Fc} {Wm:Option Addr} {truth:List Fc} (h:HW w Wl ts UD rows adK known Wm truth) (hB:ag w w'):HW w' Wl ts UD rows adK known Wm truth :=
 ⟨h.tup.below hB,h.ex.below hB,h.kn.below hB,h.tr.below hB⟩
def A9 (a b c d:ByteArray):Bool:=a.toList == c.toList && b.toList == d.toList
theorem jJ (a b c d:bH) {v:Bool} (h:A9 a b c d=v) (w:af) :
  (binOp .eql 27 (.agg #[.string a,.string b]) (.agg #[.string c,.string d])).run prog w=.ok (.bool v) w:=by
 subst h;go_simp;unfold A9
 (repeat' split) <;> simp_all
theorem GM (a b c d:bH) {v:Bool} (h:A9 a b c d=v) (w:af) :
  (binOp .neq 27 (.agg #[.string a,.string b]) (.agg #[.string c,.string d])).run prog w=.ok (.bool (!v)) w:=by
 subst h;go_simp;unfold A9
 (repeat' split) <;> simp_all
theorem iH.at0 {w:af} {ad:Option Addr} {rs:List ER} (h:iH w ad rs) {k:Nat} (hk:k < rs.length):∃ b off,ad=some ⟨b,off,none⟩∧yh w b (off + k * 5) rs[k]∧b < w.heap.size∧rs[k].ok w:=by
 rcases h with h | ⟨b',off',e,hb,hr,hok⟩
 ·rw [h] at hk; simp at hk
 exact ⟨b',off',e,hr k hk,hb,hok _ (TQ hk)⟩
theorem Sl.at0 {w:af} {ad:Option Addr} {ts:List Tp} (h:Sl w ad ts) {k:Nat} (hk:k < ts.length):∃ b off,ad=some ⟨b,off,none⟩∧RA w b (off + k * 6) ts[k]∧b < w.heap.size:=by
 rcases h with h | ⟨b',off',e,hb,hr⟩
 ·rw [h] at hk; simp at hk
 exact ⟨b',off',e,hr k hk,hb⟩
theorem p8.at0 {w:af} {ad:Option Addr} {zs:List Int} (h:p8 w ad zs) {k:Nat} (hk:k < zs.length):∃ b off,ad=some ⟨b,off,none⟩∧w.cell? ⟨b,off + k,none⟩=some (.int .i64 zs[k])∧b < w.heap.size:=by
 rcases h with h | ⟨b',off',e,hb,hr⟩
 ·rw [h] at hk; simp at hk
 exact ⟨b',off',e,hr k hk,hb⟩
def GN (w:World) (f:Fc) (x:ER):World:=(w.alloc (.cells #[.string f.a,.string f.b,.string f.r,.string f.c,.string f.d] 29)).alloc (.cells #[.int .i64 x.e.kind,.slice x.adA x.e.allow.length x.capA,.string x.e.over,.string x.e.name,.slice x.adK x.e.kids.length x.capK] 39)
theorem jX (w:af) (f:Fc) (x:ER):ag w (GN w f x):=by
 unfold GN;exact ((TT _ _).alloc (TS _) _).alloc (by simp) _
structure EnB (w:World) (B:Nat) (f:Fc) (x:ER):Prop where
 lt:B + 1 < w.heap.size
 f0:w.cell? ⟨B,0,none⟩=some (.string f.a)
 f1:w.cell? ⟨B,1,none⟩=some (.string f.b)
 f2:w.cell? ⟨B,2,none⟩=some (.string f.r)
 f3:w.cell? ⟨B,3,none⟩=some (.string f.c)
 f4:w.cell? ⟨B,4,none⟩=some (.string f.d)
 x0:w.cell? ⟨B + 1,0,none⟩=some (.int .i64 x.e.kind)
 x1:w.cell? ⟨B + 1,1,none⟩=some (.slice x.adA x.e.allow.length x.capA)
 x2:w.cell? ⟨B + 1,2,none⟩=some (.string x.e.over)
 x3:w.cell? ⟨B + 1,3,none⟩=some (.string x.e.name)
 x4:w.cell? ⟨B + 1,4,none⟩=some (.slice x.adK x.e.kids.length x.capK)
theorem EnB.below {w w':af} {B:Nat} {f:Fc} {x:ER} (h:EnB w B f x) (hB:ag w w'):EnB w' B f x:=by
 have h0:B < w.heap.size:=by have:=h.lt; omega
 have c0:∀ o,w'.cell? ⟨B,o,none⟩=w.cell? ⟨B,o,none⟩:=fun o=>hB.cell (p:=⟨B,o,none⟩) h0;have c1:∀ o,w'.cell? ⟨B + 1,o,none⟩=w.cell? ⟨B + 1,o,none⟩:=fun o=>hB.cell (p:=⟨B + 1,o,none⟩) h.lt;exact ⟨TP h.lt hB.size,(c0 _).trans h.f0,(c0 _).trans h.f1,(c0 _).trans h.f2,(c0 _).trans h.f3,(c0 _).trans h.f4,(c1 _).trans h.x0,(c1 _).trans h.x1,(c1 _).trans h.x2,(c1 _).trans h.x3,(c1 _).trans h.x4⟩
theorem oz (w:af) (f:Fc) (x:ER):EnB (GN w f x) w.heap.size f x:=by
 unfold GN;constructor <;> simp
def Ba (known:List Fc) (f:Fc) (t:Tp):Bool:=(t.a.toList == f.a.toList && t.b.toList == f.b.toList && t.r.toList == f.r.toList) && (if t.s.toList.isEmpty then t.c.toList == f.c.toList && t.d.toList == f.d.toList else bP known ⟨t.c,t.d,t.s,f.c,f.d⟩)
theorem JG {ts:List Tp} {k:Nat} (h:k < ts.length) (known:List Fc) (f:Fc):dZ (ts.drop k) known f=(Ba known f ts[k] || dZ (ts.drop (k + 1)) known f):=by
 unfold dZ; rw [Un h]; rfl
def DC (known:List Fc) (over name:ByteArray) (f:Fc) (t:Tp):Bool:=(t.a.toList == f.a.toList && t.b.toList == f.b.toList && t.r.toList == over.toList) && bP known ⟨t.c,t.d,name,f.c,f.d⟩
theorem JH {ts:List Tp} {k:Nat} (h:k < ts.length) (known:List Fc) (over name:bH) (f:Fc):gp (ts.drop k) known over name f=(DC known over name f ts[k] || gp (ts.drop (k + 1)) known over name f):=by
 unfold gp; rw [Un h]; rfl
theorem nk {s:ByteArray}:(s.toList == [])=s.toList.isEmpty:=by cases s.toList <;> rfl
end Go.Proofs.YtajkkeikihhejaaGreat
