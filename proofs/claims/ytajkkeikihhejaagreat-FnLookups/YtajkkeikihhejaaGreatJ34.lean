/- What the program's tables and the document's strata ask: the same questions; how many facts there may be; the program's rounds over fewer users. -/
import Derived.Test.YtajkkeikihhejaaGreatSq
import Derived.Test.YtajkkeikihhejaaGreatJ33
open Go.Proofs.Tryz
set_option maxHeartbeats 80000000
namespace Go.Proofs.YtajkkeikihhejaaGreat
set_option linter.unusedVariables false
open Go.ChangeShapes Go.WideShapes Go.ChangeAt Go.RowKit Go.Maps
open Pl
def mX (known:List Fc) (f:Fc) (t:Tp):Bool:=if t.s.toList.isEmpty then t.c.toList == f.c.toList && t.d.toList == f.d.toList else cZ known ⟨t.c,t.d,t.s,f.c,f.d⟩
def vg (known:List Fc) (name:ByteArray) (f:Fc) (t:Tp):Bool:=cZ known ⟨t.c,t.d,name,f.c,f.d⟩
theorem F3 (l:List Tp) (k:K3) (p:Tp→Bool):(G.lookL (dJ l) k).any p=l.any fun t=>(t.a.toList == k.1.toList && t.b.toList == k.2.1.toList && t.r.toList == k.2.2.toList) && p t:=by
 induction l with
 | nil=>rfl
 | cons t l ih =>
  have e:dJ (t::l)=[(Lt t,t)] ++ dJ l:=rfl;rw [e,G.lookL_append,List.any_append,ih,List.any_cons];congr 1;unfold G.lookL Lt;by_cases h:(t.a,t.b,t.r)=k
  ·subst h; simp
  have h2:(t.a.toList == k.1.toList && t.b.toList == k.2.1.toList && t.r.toList == k.2.2.toList)=false:=by
   cases hb:(t.a.toList == k.1.toList && t.b.toList == k.2.1.toList && t.r.toList == k.2.2.toList);case false=>rfl
   rw [SB,SB,eZ,eZ,eZ] at hb; exact absurd (Prod.ext hb.1.1 (Prod.ext hb.1.2 hb.2)) h
  simp [h,h2]
theorem IM (l:List Tp) (known:List Fc) (f:Fc):fB l known f=(G.lookL (dJ l) (f.a,f.b,f.r)).any (mX known f):=by rw [F3]; rfl
theorem IP (l:List Tp) (known:List Fc) (over name:aD) (f:Fc):gM l known over name f=(G.lookL (dJ l) (f.a,f.b,over)).any (vg known name f):=by rw [F3]; rfl
theorem Lv (st:ByteArray × ByteArray→Int) (n:Int) (o:Al) (tn:aD) (rows:List RR):((rows.map fun r=>(tn,r.name)).filter fun k=>k.1.toList == o.t.toList && decide (st k=n))=(G.lookL (rows.map fun r=>((tn,st (tn,r.name)),r)) (o.t,n)).map fun r=>(o.t,r.name):=by
 induction rows with
 | nil=>rfl
 | cons r rows ih =>
  have e:((r::rows).map fun r=>((tn,st (tn,r.name)),r))=[((tn,st (tn,r.name)),r)] ++ rows.map fun r=>((tn,st (tn,r.name)),r):=rfl;rw [e,G.lookL_append,List.map_append,← ih,List.map_cons,List.filter_cons];unfold G.lookL;by_cases h:tn=o.t∧st (tn,r.name)=n
  ·obtain ⟨rfl,rfl⟩:=h;simp
  have h1:(tn.toList == o.t.toList && decide (st (tn,r.name)=n))=false:=by
   cases hb:(tn.toList == o.t.toList && decide (st (tn,r.name)=n));case false=>rfl
   rw [SB,eZ,SN] at hb; exact absurd hb h
  have h2:¬ ((tn,st (tn,r.name))=(o.t,n)):=fun e=>h ⟨congrArg Prod.fst e,congrArg Prod.snd e⟩;simp [h1,h2]
theorem F4 (st:ByteArray × ByteArray→Int) (n:Int) (o:Al) (rs:List TR):D9 (ah rs) st n o=(G.lookL (eH st rs) (o.t,n)).map fun r=>(o.t,r.name):=by
 unfold D9
 induction rs with
 | nil=>rfl
 | cons t rs ih =>
  have e1:au (ah (t::rs))=(t.rows.map fun r=>(t.name,r.name)) ++ au (ah rs):=by
   have:jL t.p=t.rows.map fun r=>(t.name,r.name):=by unfold jL; show List.map _ (eu t.rows)=_; unfold eu; rw [List.map_map]; rfl
   simp [au,ah,this]
  have e2:eH st (t::rs)=(t.rows.map fun r=>((t.name,st (t.name,r.name)),r)) ++ eH st rs:=rfl;rw [e1,e2,G.lookL_append,Tu,List.map_append,ih,Lv]
theorem AJ {s:St}:∀ {sts:List St},(iG sts).Nodup→s ∈ sts→fH sts s.key=s.n
 | [],_,h=>by cases h
 | x::xs,hd,h=>by
  have hd2:x.key ∉ iG xs∧(iG xs).Nodup:=List.nodup_cons.1 hd;unfold fH;by_cases e:zm x s.key.1 s.key.2=true
  ·rw [if_pos e];have ek:=qh.1 e;rcases List.mem_cons.1 h with rfl | h
   ·rfl
   exact absurd (by rw [ek]; exact List.mem_map_of_mem h) hd2.1
  rw [if_neg e];rcases List.mem_cons.1 h with rfl | h
  ·exact absurd (qh.2 rfl) e
  exact AJ hd2.2 h
def R9 (sts:List St) (n:Int) (o:Al):List St:=sts.filter fun s=>s.typ.toList == o.t.toList && decide (s.n=n)
theorem PV {ts:List Ty} {sts:List St} (hk:iG sts=au ts) (hn:(au ts).Nodup) (n:Int) (o:Al):D9 ts (fH sts) n o=(R9 sts n o).map St.key:=by
 unfold D9 R9;rw [← hk];rw [← hk] at hn;unfold iG;rw [List.filter_map];congr 1;refine List.filter_congr fun s hs=>?_;show (s.key.1.toList == o.t.toList && decide (fH sts s.key=n))=_;rw [AJ hn hs];rfl
theorem IQ {rs:List TR} (h:bz (ah rs)=true):(au (ah rs)).Nodup:=by
 have e:au (ah rs)=rs.flatMap fun t=>t.rows.map fun r=>(t.name,r.name):=by
  unfold au ah;rw [List.flatMap_map];congr 1
  funext t
  unfold jL;show List.map _ (eu t.rows)=_;unfold eu; rw [List.map_map]; rfl
 rw [e,List.Nodup,List.pairwise_flatMap];constructor
 ·intro t ht;obtain ⟨i,hi,rfl⟩:=List.mem_iff_getElem.1 ht;have hu:=(lw h i hi).2.2;rw [List.pairwise_map,List.pairwise_iff_getElem];intro a b ha hb hab e;have hne:=qX (f:=fun k=>(rs[i].rows[k]?.map RR.name).getD ByteArray.empty) (n:=rs[i].rows.length) (fun k hk=>by
   have h0:k < rs[i].rows.length:=by omega
   simp only [SH hk,SH h0,Option.map_some,Option.getD_some];exact (Cb hu (k + 1) hk hk).2.1 k h0 rfl)
  have:=hne a b hab hb;simp [ha,hb] at this;exact this (congrArg Prod.snd e)
 rw [List.pairwise_iff_getElem];intro a b ha hb hab x hx y hy e;obtain ⟨r,hr,rfl⟩:=SK.1 hx;obtain ⟨q,hq,rfl⟩:=SK.1 hy;have hne:=qX (f:=fun k=>(rs[k]?.map TR.name).getD ByteArray.empty) (n:=rs.length) (fun k hk=>by
  have h0:k < rs.length:=by omega
  simp only [SH hk,SH h0,Option.map_some,Option.getD_some];exact (lw h (k + 1) hk).2.1 k h0 rfl)
 have:=hne a b hab hb;simp [ha,hb] at this;exact this (congrArg Prod.fst e)
theorem F5 {α:Type} [DecidableEq α]:∀ {a b:List α},a.Nodup→(∀ x ∈ a,x ∈ b)→a.length≤b.length
 | [],_,_,_=>SC _
 | x::a,b,hd,hs=>by
  obtain ⟨h1,h2⟩:=List.nodup_cons.1 hd;have hx:=hs x (by simp);have:=F5 (a:=a) (b:=b.erase x) h2 fun y hy=>(List.mem_erase_of_ne (fun e:y=x=>h1 (by rw [← e]; exact hy))).2 (hs y (by simp [hy]));rw [List.length_erase_of_mem hx] at this;have hp:0 < b.length:=List.length_pos_of_mem hx;simp only [List.length_cons];omega
def Eg (ts:List Ty) (xo xu:List Al):List Fc:=xo.flatMap fun o=>(au ts).flatMap fun k=>jG o k.2 xu
theorem CX {ts:List Ty} {st:ByteArray × ByteArray→Int} {xo xu:List Al} {n:Int} {f:Fc} (h:f ∈ dx ts st xo xu n):f ∈ Eg ts xo xu:=by
 unfold dx x9 at h;obtain ⟨o,ho,h⟩:=SY.1 h;obtain ⟨k,hk,h⟩:=SY.1 h;exact SY.2 ⟨o,ho,SY.2 ⟨k,(Tm.1 hk).1,h⟩⟩
theorem AL {α β:Type} (f:α→List β) (m:Nat) (hf:∀ a,(f a).length≤m):∀ l:List α,(l.flatMap f).length≤l.length * m
 | []=>by simp
 | a::l=>by
  have h1:=AL f m hf l;have h2:=hf a;simp only [List.flatMap_cons,SE,List.length_cons,Nat.add_mul];omega
theorem OI (ts:List Ty) (xo xu:List Al):(Eg ts xo xu).length≤xo.length * ((au ts).length * xu.length) :=
 AL _ _ (fun o=>AL _ _ (fun k=>by unfold jG; rw [Tk]; exact Sy _) _) _
structure GoodO (ts:List Ty) (xo xu:List Al) (out:List Fc):Prop where
 once:out.Nodup
 sub:∀ g ∈ out,g ∈ Eg ts xo xu
def RA (us:List Al):List (ByteArray × ByteArray):=us.map fun u=>(u.t,u.s)
def RB (us:List Al) (x:ByteArray × ByteArray):Bool:=us.any fun u=>u.t.toList == x.1.toList && u.s.toList == x.2.toList
theorem yC {us:List Al} {x:ByteArray × ByteArray}:RB us x=true ↔ x ∈ RA us:=by
 unfold RB RA;rw [Tq,SK];constructor
 ·rintro ⟨u,hu,h⟩;rw [SB,eZ,eZ] at h;exact ⟨u,hu,Prod.ext h.1 h.2⟩
 rintro ⟨u,hu,rfl⟩;exact ⟨u,hu,by simp⟩
def eY (us:List Al) (new:List Fc):List Al:=us.filter fun u=>new.any fun g=>g.c.toList == u.t.toList && g.d.toList == u.s.toList
theorem CY {us:List Al} {new:List Fc} {x:ByteArray × ByteArray}:x ∈ RA (eY us new) ↔ x ∈ RA us∧∃ g ∈ new,g.u=x:=by
 unfold RA eY;constructor
 ·intro h;obtain ⟨u,hu,rfl⟩:=SK.1 h;obtain ⟨h1,h2⟩:=Tm.1 hu;obtain ⟨g,hg,h3⟩:=Tq.1 h2;rw [SB,eZ,eZ] at h3;exact ⟨List.mem_map_of_mem (f:=fun u:Al=>(u.t,u.s)) h1,g,hg,Prod.ext h3.1 h3.2⟩
 rintro ⟨h,g,hg,hx⟩;obtain ⟨u,hu,rfl⟩:=SK.1 h;refine SK.2 ⟨u,Tm.2 ⟨hu,Tq.2 ⟨g,hg,?_⟩⟩,rfl⟩;rw [SB,eZ,eZ];exact ⟨congrArg Prod.fst hx,congrArg Prod.snd hx⟩
theorem IR (us:List Al):eY us []=[]:=by unfold eY; rw [List.filter_eq_nil_iff]; simp
theorem IU {ts:List Ty} {xo xu:List Al} {n:Int} {st st':ByteArray × ByteArray→Int} (h:∀ k ∈ au ts,st k=st' k):dx ts st xo xu n=dx ts st' xo xu n:=by
 unfold dx x9;congr 1
 funext o
 have:D9 ts st n o=D9 ts st' n o:=List.filter_congr fun k hk=>by rw [h k hk]
 rw [this]
set_option linter.unusedSectionVars false
section
variable [DecidableEq Fc]
theorem GoodO.run {ts:List Ty} {xo xu:List Al} {out:List Fc} (h:GoodO ts xo xu out) {H:List Fc→Fc→Bool} {qs:List Fc} (hq:∀ g ∈ qs,g ∈ Eg ts xo xu):GoodO ts xo xu (bY H qs out):=by
 refine ⟨wF qs h.once,fun g hg=>?_⟩;obtain ⟨n,e,hn⟩:=kI (H:=H) qs out;rw [e] at hg;rcases SI.1 hg with hg | hg
 ·exact h.sub g hg
 exact hq g (hn g hg).1
theorem GoodO.len {ts:List Ty} {xo xu:List Al} {out:List Fc} (h:GoodO ts xo xu out) (h1:xo.length≤80) (h2:(au ts).length≤36) (h3:xu.length≤40):out.length≤115200:=by
 have a1:=F5 h.once h.sub;have a2:=OI ts xo xu;have a3:(au ts).length * xu.length≤36 * 40:=Nat.mul_le_mul h2 h3;have a4:xo.length * ((au ts).length * xu.length)≤80 * (36 * 40):=Nat.mul_le_mul h1 a3;omega
structure FewA (ts:List Ty) (l:List Tp) (st:ByteArray × ByteArray→Int) (xo xu:List Al) (n:Int) (us:List Al) (out:List Fc):Prop where
 sub:us=xu.filter fun u:Al=>RB us (u.t,u.s)
 few:Few Fc.u (iX ts l) (dx ts st xo xu n) (RA us) out
variable {ts:List Ty} {l:List Tp} {st:ByteArray × ByteArray→Int} {xo xu:List Al} {n:Int}
theorem FewA.start (out:List Fc):FewA ts l st xo xu n xu out:=by
 refine ⟨(List.filter_eq_self.2 fun u hu=>yC.2 (List.mem_map_of_mem (f:=fun u:Al=>(u.t,u.s)) hu)).symm,Few.start fun f hf=>IA hf⟩
theorem IV {φ υ:Type} [DecidableEq φ] {us:φ→υ} {H:List φ→φ→Bool} (hL:Loc us H) {qs:List φ} {users:List υ} {out:List φ} (h:Few us H qs users out) (P:υ→Bool) (hP:∀ u,P u=true ↔ u ∈ users):bY H (qs.filter fun f=>P (us f)) out=bY H qs out :=
 (mR hL P qs out fun f hf hp=>h.set f hf fun hm=>by rw [(hP _).2 hm] at hp; cases hp).symm
theorem FewA.round {us:List Al} {out:List Fc} (h:FewA ts l st xo xu n us out):bY (iX ts l) (dx ts st xo us n) out=bY (iX ts l) (dx ts st xo xu n) out:=by
 have h2:=FQ ts st xo xu n (RB us);rw [← h.sub] at h2;rw [← h2];exact IV (CQ ts l) h.few (RB us) fun u=>yC
theorem FewA.next {us:List Al} {out new:List Fc} (h:FewA ts l st xo xu n us out) (hn:bY (iX ts l) (dx ts st xo us n) out=out ++ new):FewA ts l st xo xu n (eY us new) (out ++ new):=by
 refine ⟨?_,h.few.next (CQ ts l) (h.round.symm.trans hn) fun u=>CY⟩;have h1:eY us new=(xu.filter fun u:Al=>RB us (u.t,u.s)).filter fun u=>new.any fun g=>g.c.toList == u.t.toList && g.d.toList == u.s.toList:=by rw [← h.sub]; rfl
 rw [List.filter_filter] at h1;refine h1.trans (List.filter_congr fun u hu=>?_);rw [Bool.eq_iff_iff,yC,CY,SB,yC,Tq,and_comm];refine and_congr Iff.rfl ⟨fun ⟨g,hg,h3⟩=>⟨g,hg,?_⟩,fun ⟨g,hg,h3⟩=>⟨g,hg,?_⟩⟩
 ·rw [SB,eZ,eZ] at h3;exact Prod.ext h3.1 h3.2
 rw [SB,eZ,eZ];exact ⟨congrArg Prod.fst h3,congrArg Prod.snd h3⟩
theorem FewA.done {out:List Fc} (h:FewA ts l st xo xu n [] out):o7 (iX ts l) (dx ts st xo xu n) out=out:=h.few.done
theorem wM {st st':ByteArray × ByteArray→Int} (h:∀ k ∈ au ts,st k=st' k):∀ N,mG ts l st xo xu N=mG ts l st' xo xu N
 | 0=>rfl
 | N + 1=>by rw [jW,jW,wM h N,IU h]
end
set_option maxRecDepth 8000 in
theorem rD (ad:Option Addr) (cap:Nat) (ts:List Fc) (t:Fc) (w:ae) (hlen:ts.length≤1048576) (hs:wK w ad ts) :
  Calls prog 56 #[.slice ad ts.length cap,.agg #[.string t.a,.string t.b,.string t.r,.string t.c,.string t.d]] w fun e w'=>e=.returned (.bool (cZ ts t))∧af w w':=by
 have HS:=az hs;clear hs;obtain ⟨W0,hW0⟩:∃ W0,W0=w.alloc (.cells #[.string t.a,.string t.b,.string t.r,.string t.c,.string t.d] 29):=⟨_,rfl⟩;have HB0:=nA hW0;have HX0:Hid (W0.cell? ⟨w.heap.size,0,none⟩=some (.string t.a)∧W0.cell? ⟨w.heap.size,1,none⟩=some (.string t.b)∧W0.cell? ⟨w.heap.size,2,none⟩=some (.string t.r)∧W0.cell? ⟨w.heap.size,3,none⟩=some (.string t.c)∧W0.cell? ⟨w.heap.size,4,none⟩=some (.string t.d)∧w.heap.size < W0.heap.size):=by show _∧_; rw [hW0]; refine ⟨?_,?_,?_,?_,?_,?_⟩ <;> simp
 go_enter func56,ntmps56;go_wp2;rw [← hW0];clear hW0;go_loopw [5] (fun i wr=>∃ k:Nat,k≤ts.length∧i=.int .i64 k∧Hid (cZ (ts.drop k) t=cZ ts t)∧Hid (af W0 wr)) (fun i _=>ts.length - (intOf i).toNat);case atStart=>exact ⟨0,SC _,rfl,rfl,Sz _ _⟩
 obtain ⟨k,hk,rfl,HP,HB⟩:=hrel;have TB:Hid (af w wr):=HB0.out.trans (HB.out.mono HB0.out.size);by_cases hlt:k < ts.length
 ·rcases HS.out.below TB.out with hnil | ⟨b,off,rfl,hb,hr⟩
  ·rw [hnil] at hlt; simp at hlt
  obtain ⟨t0,t1,t2,t3,t4⟩:=hr k hlt;have x0:=mK HB.out HX0.out.2.2.2.2.2 HX0.out.1;have x1:=mK HB.out HX0.out.2.2.2.2.2 HX0.out.2.1;have x2:=mK HB.out HX0.out.2.2.2.2.2 HX0.out.2.2.1;have x3:=mK HB.out HX0.out.2.2.2.2.2 HX0.out.2.2.2.1;have x4:=mK HB.out HX0.out.2.2.2.2.2 HX0.out.2.2.2.2.1;have hk1:=bq k;have hk2:(k:Int) < (ts.length:Int):=by omega
  have HD:Hid (cZ ts t=(wH ts[k] t || cZ (ts.drop (k + 1)) t)):=by show _=_; rw [← HP.out]; exact CS hlt
  clear hr;cases hq:wH ts[k] t;case true=>
   have heq:=Ea ts[k] t hq;have HN:Hid (cZ ts t=true):=by show _=_; rw [HD.out,hq]; rfl
   clear hq;go_wp2_with fail;go_region_held3 (fun w'=>w'.cell? ⟨b,off + k * 5,none⟩=some (.string ts[k].a)∧w'.cell? ⟨b,off + k * 5 + 1,none⟩=some (.string ts[k].b)∧w'.cell? ⟨b,off + k * 5 + 2,none⟩=some (.string ts[k].r)∧w'.cell? ⟨b,off + k * 5 + 3,none⟩=some (.string ts[k].c)∧w'.cell? ⟨b,off + k * 5 + 4,none⟩=some (.string ts[k].d)∧w'.cell? ⟨w.heap.size,0,none⟩=some (.string t.a)∧w'.cell? ⟨w.heap.size,1,none⟩=some (.string t.b)∧w'.cell? ⟨w.heap.size,2,none⟩=some (.string t.r)∧w'.cell? ⟨w.heap.size,3,none⟩=some (.string t.c)∧w'.cell? ⟨w.heap.size,4,none⟩=some (.string t.d)∧af wr w') (first | assumption | exact ⟨t0,t1,t2,t3,t4,x0,x1,x2,x3,x4,(Sz _ _).drew⟩) (fail);rename_i hH;have HG:Hid (af wr _):=hH.2.2.2.2.2.2.2.2.2.2;clear hH t0 t1 t2 t3 t4 x0 x1 x2 x3 x4 heq;go_wp2;go_ret;exact ⟨by rw [HN.out]; rfl,TB.out.trans (HG.out.mono TB.out.size)⟩
  have heq:=Ea ts[k] t hq;have TG:Hid (cZ (ts.drop (k + 1)) t=cZ ts t):=by show _=_; rw [HD.out,hq]; rfl
  clear hq;go_wp2_with fail;go_region_held3 (fun w'=>w'.cell? ⟨b,off + k * 5,none⟩=some (.string ts[k].a)∧w'.cell? ⟨b,off + k * 5 + 1,none⟩=some (.string ts[k].b)∧w'.cell? ⟨b,off + k * 5 + 2,none⟩=some (.string ts[k].r)∧w'.cell? ⟨b,off + k * 5 + 3,none⟩=some (.string ts[k].c)∧w'.cell? ⟨b,off + k * 5 + 4,none⟩=some (.string ts[k].d)∧w'.cell? ⟨w.heap.size,0,none⟩=some (.string t.a)∧w'.cell? ⟨w.heap.size,1,none⟩=some (.string t.b)∧w'.cell? ⟨w.heap.size,2,none⟩=some (.string t.r)∧w'.cell? ⟨w.heap.size,3,none⟩=some (.string t.c)∧w'.cell? ⟨w.heap.size,4,none⟩=some (.string t.d)∧af wr w') (first | assumption | exact ⟨t0,t1,t2,t3,t4,x0,x1,x2,x3,x4,(Sz _ _).drew⟩) (fail);rename_i hH;have HG:Hid (af W0 _):=HB.out.trans (hH.2.2.2.2.2.2.2.2.2.2.mono HB.out.size);clear hH t0 t1 t2 t3 t4 x0 x1 x2 x3 x4 heq;go_wp2;go_roundw;case rel=>exact ⟨k + 1,by omega,by go_num,TG,HG⟩
  simp [intOf] <;> omega
 have HN:Hid (cZ ts t=false):=by show _=_; rw [← HP.out,List.drop_of_length_le (by omega)]; rfl
 go_wp2;go_ret;exact ⟨by rw [HN.out]; rfl,TB.out⟩
theorem aC {p:Prop} (h:p):Hid p:=h
structure HW (w:World) (Vq:Option Addr) (ts:List Tp) (TA:Option Addr) (rows:List ER) (adK:Option Addr) (known:List Fc) (Vr:Option Addr) (truth:List Fc):Prop where
 tup:Sl w Vq ts
 ex:jk w TA rows
 kn:wK w adK known
 tr:wK w Vr truth
theorem HW.below {w w':ae} {Vq:Option Addr} {ts:List Tp} {TA:Option Addr} {rows:List ER} {adK:Option Addr} {known:List Fc} {Vr:Option Addr} {truth:List Fc} (h:HW w Vq ts TA rows adK known Vr truth) (hB:af w w'):HW w' Vq ts TA rows adK known Vr truth :=
 ⟨h.tup.below hB,h.ex.below hB,h.kn.below hB,h.tr.below hB⟩
def rE (a b c d:ByteArray):Bool:=a.toList == c.toList && b.toList == d.toList
theorem bf (a b c d:aD) {v:Bool} (h:rE a b c d=v) (w:ae) :
  (binOp .eql 27 (.agg #[.string a,.string b]) (.agg #[.string c,.string d])).run prog w=.ok (.bool v) w:=by
 subst h;go_simp;unfold rE
 (repeat' split) <;> simp_all
theorem F6 (a b c d:aD) {v:Bool} (h:rE a b c d=v) (w:ae) :
  (binOp .neq 27 (.agg #[.string a,.string b]) (.agg #[.string c,.string d])).run prog w=.ok (.bool (!v)) w:=by
 subst h;go_simp;unfold rE
 (repeat' split) <;> simp_all
theorem jk.at0 {w:ae} {ad:Option Addr} {rs:List ER} (h:jk w ad rs) {k:Nat} (hk:k < rs.length):∃ b off,ad=some ⟨b,off,none⟩∧xQ w b (off + k * 5) rs[k]∧b < w.heap.size∧rs[k].ok w:=by
 rcases h with h | ⟨b',off',e,hb,hr,hok⟩
 ·rw [h] at hk; simp at hk
 exact ⟨b',off',e,hr k hk,hb,hok _ (Sw hk)⟩
theorem Sl.at0 {w:ae} {ad:Option Addr} {ts:List Tp} (h:Sl w ad ts) {k:Nat} (hk:k < ts.length):∃ b off,ad=some ⟨b,off,none⟩∧Qz w b (off + k * 6) ts[k]∧b < w.heap.size:=by
 rcases h with h | ⟨b',off',e,hb,hr⟩
 ·rw [h] at hk; simp at hk
 exact ⟨b',off',e,hr k hk,hb⟩
theorem vH.at0 {w:ae} {ad:Option Addr} {zs:List Int} (h:vH w ad zs) {k:Nat} (hk:k < zs.length):∃ b off,ad=some ⟨b,off,none⟩∧w.cell? ⟨b,off + k,none⟩=some (.int .i64 zs[k])∧b < w.heap.size:=by
 rcases h with h | ⟨b',off',e,hb,hr⟩
 ·rw [h] at hk; simp at hk
 exact ⟨b',off',e,hr k hk,hb⟩
def F7 (w:World) (f:Fc) (x:ER):World:=(w.alloc (.cells #[.string f.a,.string f.b,.string f.r,.string f.c,.string f.d] 29)).alloc (.cells #[.int .i64 x.e.kind,.slice x.adA x.e.allow.length x.capA,.string x.e.over,.string x.e.name,.slice x.adK x.e.kids.length x.capK] 39)
theorem jY (w:ae) (f:Fc) (x:ER):af w (F7 w f x):=by
 unfold F7;exact ((Sz _ _).alloc (Sy _) _).alloc (by simp) _
structure EnB (w:World) (B:Nat) (f:Fc) (x:ER):Prop where
 lt:B + 1 < w.heap.size
 f0:w.cell? ⟨B,0,none⟩=some (.string f.a)
 f1:w.cell? ⟨B,1,none⟩=some (.string f.b)
 f2:w.cell? ⟨B,2,none⟩=some (.string f.r)
 f3:w.cell? ⟨B,3,none⟩=some (.string f.c)
 f4:w.cell? ⟨B,4,none⟩=some (.string f.d)
 x0:w.cell? ⟨B + 1,0,none⟩=some (.int .i64 x.e.kind)
 x1:w.cell? ⟨B + 1,1,none⟩=some (.slice x.adA x.e.allow.length x.capA)
 x2:w.cell? ⟨B + 1,2,none⟩=some (.string x.e.over)
 x3:w.cell? ⟨B + 1,3,none⟩=some (.string x.e.name)
 x4:w.cell? ⟨B + 1,4,none⟩=some (.slice x.adK x.e.kids.length x.capK)
theorem EnB.below {w w':ae} {B:Nat} {f:Fc} {x:ER} (h:EnB w B f x) (hB:af w w'):EnB w' B f x:=by
 have h0:B < w.heap.size:=by have:=h.lt; omega
 have c0:∀ o,w'.cell? ⟨B,o,none⟩=w.cell? ⟨B,o,none⟩:=fun o=>hB.cell (p:=⟨B,o,none⟩) h0;have c1:∀ o,w'.cell? ⟨B + 1,o,none⟩=w.cell? ⟨B + 1,o,none⟩:=fun o=>hB.cell (p:=⟨B + 1,o,none⟩) h.lt;exact ⟨Sv h.lt hB.size,(c0 _).trans h.f0,(c0 _).trans h.f1,(c0 _).trans h.f2,(c0 _).trans h.f3,(c0 _).trans h.f4,(c1 _).trans h.x0,(c1 _).trans h.x1,(c1 _).trans h.x2,(c1 _).trans h.x3,(c1 _).trans h.x4⟩
theorem oh (w:ae) (f:Fc) (x:ER):EnB (F7 w f x) w.heap.size f x:=by
 unfold F7;constructor <;> simp
def AO (known:List Fc) (f:Fc) (t:Tp):Bool:=(t.a.toList == f.a.toList && t.b.toList == f.b.toList && t.r.toList == f.r.toList) && (if t.s.toList.isEmpty then t.c.toList == f.c.toList && t.d.toList == f.d.toList else cZ known ⟨t.c,t.d,t.s,f.c,f.d⟩)
theorem IW {ts:List Tp} {k:Nat} (h:k < ts.length) (known:List Fc) (f:Fc):fB (ts.drop k) known f=(AO known f ts[k] || fB (ts.drop (k + 1)) known f):=by
 unfold fB; rw [Te h]; rfl
def CZ (known:List Fc) (over name:ByteArray) (f:Fc) (t:Tp):Bool:=(t.a.toList == f.a.toList && t.b.toList == f.b.toList && t.r.toList == over.toList) && cZ known ⟨t.c,t.d,name,f.c,f.d⟩
theorem IX {ts:List Tp} {k:Nat} (h:k < ts.length) (known:List Fc) (over name:aD) (f:Fc):gM (ts.drop k) known over name f=(CZ known over name f ts[k] || gM (ts.drop (k + 1)) known over name f):=by
 unfold gM; rw [Te h]; rfl
theorem rF {s:ByteArray}:(s.toList == [])=s.toList.isEmpty:=by cases s.toList <;> rfl
set_option maxRecDepth 100000
def Bt (out:List Fc) (f:Fc):Option Value:=if cZ out f then some (.agg #[]) else none
theorem OJ (out:List Fc) (f:Fc):(Bt out f).isSome=cZ out f:=by unfold Bt; cases cZ out f <;> rfl
theorem PW (out:List Fc) (f:Fc):∀ v,Bt out f=some v→v=.agg #[]:=fun v h=>by
 unfold Bt at h; split at h
 ·injection h with h; exact h.symm
 cases h
theorem vk (b n:Nat) (out:List Fc) (f:Fc) (w:ae) (hf:f.fits) (hV:aO nY prog 29 w b n (Bt out)) :
  Calls prog 65 #[.map (some b),.agg #[.string f.a,.string f.b,.string f.r,.string f.c,.string f.d]] w fun e w'=>e=.returned (.bool (cZ out f))∧af w w':=by
 have h:=FU b n (Bt out) f w hf hV (PW out f);rw [OJ] at h;exact h
theorem F8 {w:ae} {bp np:Nat} {Mp:K3→Option Value} {E:List (K3 × Tp)} (h:G.Grp qH prog 223 46 6 Tp.row w bp np Mp E) (k:K3):∃ ad cap,(Mp k).getD (.slice none 0 0)=.slice ad (G.lookL E k).length cap∧Sl w ad (G.lookL E k):=by
 obtain ⟨ad,cap,e,hs,-⟩:=NN (ts:=G.lookL E k) (CV h k) rfl;exact ⟨ad,cap,e,hs⟩
theorem Da (p:Tp→Bool) {ts:List Tp} {k:Nat} (h:k < ts.length):(ts.drop k).any p=(p ts[k] || (ts.drop (k + 1)).any p):=by rw [Te h]; rfl
theorem F9 {ts:List Tp} {k:K3} {t:Tp} (h:t ∈ G.lookL (dJ ts) k):t ∈ ts:=by
 have:=G.mem_lookL.1 h;unfold dJ at this;obtain ⟨x,hx,e⟩:=SK.1 this;injection e with e1 e2;rw [← e2]; exact hx
theorem Ga (ts:List Tp) (k:K3):(G.lookL (dJ ts) k).length≤ts.length:=by
 unfold G.lookL dJ;exact SF (List.length_filterMap_le _ _) (by simp)
section
variable {w:World} {rs:List TR} {D br bp bt bK nK:Nat} {n1:Int} {nr:Nat} {Mr:KL→Option Value} {Er:List (KL × RR)} {ts:List Tp} {xo xu:List Al} {np:Nat} {Mp:K3→Option Value} {vo vu:Value} {out:List Fc} {f:Fc}
theorem Bu (hD:DatA w rs D br bp bt n1 nr Mr Er (dJ ts) xo xu np Mp vo vu) (hK:aO nY prog 29 w bK nK (Bt out)) (hf:f.fits) (hts:∀ t ∈ ts,t.fits) (htl:ts.length≤1000) :
  Calls prog 213 #[.pointer (some ⟨D,0,none⟩),.agg #[.string f.a,.string f.b,.string f.r,.string f.c,.string f.d],.map (some bK)] w fun e w'=>e=.returned (.bool (fB ts out f))∧af w w':=by
 obtain ⟨kl,hkl⟩:=Ed (f.a,f.b,f.r) hf.1 hf.2.1 hf.2.2.1;obtain ⟨XY,VK,hgd,hsl⟩:=F8 hD.dat.told (f.a,f.b,f.r);have HL:=aC (IM ts out f);have hll:=Ga ts (f.a,f.b,f.r);have HFL:Hid (∀ t ∈ G.lookL (dJ ts) (f.a,f.b,f.r),t.fits):=fun t ht=>hts t (F9 ht);obtain ⟨L,Xm⟩:∃ L,L=G.lookL (dJ ts) (f.a,f.b,f.r):=⟨_,rfl⟩;rw [← Xm] at hgd hsl HL hll HFL;obtain ⟨W0,hW0⟩:∃ W0,W0=w.alloc (.cells #[.string f.a,.string f.b,.string f.r,.string f.c,.string f.d] 29):=⟨_,rfl⟩;have HB0:=nA hW0;have c0:W0.cell? ⟨w.heap.size,0,none⟩=some (.string f.a):=by rw [hW0]; simp
 have c1:W0.cell? ⟨w.heap.size,1,none⟩=some (.string f.b):=by rw [hW0]; simp
 have c2:W0.cell? ⟨w.heap.size,2,none⟩=some (.string f.r):=by rw [hW0]; simp
 have c3:W0.cell? ⟨w.heap.size,3,none⟩=some (.string f.c):=by rw [hW0]; simp
 have c4:W0.cell? ⟨w.heap.size,4,none⟩=some (.string f.d):=by rw [hW0]; simp
 have d3:=HB0.out.cell (p:=⟨D,3,none⟩) hD.dat.lt |>.trans hD.dat.c3;have hlk:∀ m,(Instr.lookup 166 (.map (some bp)) (.agg #[.string f.a,.string f.b,.string f.r]) false).run prog (W0.drewN m)=.ok (.slice XY L.length VK) (W0.drewN m):=fun m=>by
  have h:=((hD.dat.told.map.below HB0.out).below (below_drewN (Sz _ _) m)).look (t:=166) (e:=25) QD underlying166 (IK _) (x:=(f.a,f.b,f.r)) hkl;rw [hgd] at h;exact h
 have VM:=aC hsl;have YE:=aC hK;have HF:=aC hf;have UT:Hid (W0.cell? ⟨w.heap.size,3,none⟩=some (.string f.c)∧W0.cell? ⟨w.heap.size,4,none⟩=some (.string f.d)∧w.heap.size < W0.heap.size):=⟨c3,c4,by rw [hW0]; simp⟩;clear hsl hK hf Xm hgd hkl;go_enter func213,ntmps213;go_wp2_with fail;rw [← hW0];clear hW0;go_quiet (fail);clear c0 c1 c2 c3 c4 d3 hlk;go_wp2;go_loopw [20] (fun i wr=>∃ k:Nat,k≤L.length∧i=.int .i64 k∧Hid ((L.drop k).any (mX out f)=L.any (mX out f))∧Hid (af w wr)∧Hid (wr.cell? ⟨w.heap.size,3,none⟩=some (.string f.c)∧wr.cell? ⟨w.heap.size,4,none⟩=some (.string f.d)∧w.heap.size < wr.heap.size)) (fun i _=>L.length - (intOf i).toNat);case atStart=>exact ⟨0,SC _,rfl,rfl,below_drewN HB0.out _,UT⟩
 clear UT HB0;obtain ⟨k,hk,rfl,HP,HB,HC⟩:=hrel;by_cases hlt:k < L.length
 ·obtain ⟨bT,offT,Wq,⟨a0,a1,a2,a3,a4,a5⟩,hbT⟩:=Sl.at0 (VM.out.below HB.out) hlt;obtain ⟨c3,c4,cl⟩:=HC.out;have hi1:=bq k;have hi2:(k:Int) < (L.length:Int):=by omega
  have HTF:=aC (HFL.out _ (Sw hlt));have HD2:Hid (L.any (mX out f)=(mX out f L[k] || (L.drop (k + 1)).any (mX out f))):=by show _=_; rw [← HP.out]; exact Da _ hlt
  obtain ⟨t,ht⟩:∃ t,t=L[k]:=⟨_,rfl⟩;rw [← ht] at a0 a1 a2 a3 a4 a5 HTF HD2;clear ht;obtain ⟨W1,hW1⟩:∃ W1,W1=wr.alloc (.cells #[.string t.a,.string t.b,.string t.r,.string t.c,.string t.d,.string t.s] 46):=⟨_,rfl⟩;have TJ:=nA hW1;have HB1:=aC (HB.out.trans (TJ.out.mono HB.out.size));have UV:Hid (W1.cell? ⟨w.heap.size,3,none⟩=some (.string f.c)∧W1.cell? ⟨w.heap.size,4,none⟩=some (.string f.d)∧w.heap.size < W1.heap.size):=⟨mK TJ.out cl c3,mK TJ.out cl c4,Sv cl TJ.out.size⟩;subst Wq;cases hs:t.s.toList.isEmpty;case true=>
   have hs2:(t.s.toList == [])=true:=by rw [rF]; exact hs
   have HTT:Hid (mX out f t=rE t.c t.d f.c f.d):=by show _=_; unfold mX; rw [if_pos hs]; rfl
   cases hu:rE t.c t.d f.c f.d;case true=>
    have heq:=bf _ _ _ _ hu;have HN:Hid (fB ts out f=true):=by show _=_; rw [HL.out,HD2.out,HTT.out,hu]; rfl
    clear hu hs;go_wp2;rw [← hW1];go_ret;exact ⟨by rw [HN.out]; rfl,HB1.out⟩
   have heq:=bf _ _ _ _ hu;have TG:Hid ((L.drop (k + 1)).any (mX out f)=L.any (mX out f)):=by show _=_; rw [HD2.out,HTT.out,hu]; rfl
   clear hu hs;go_wp2;rw [← hW1];clear hW1;go_roundw;case rel=>exact ⟨k + 1,by omega,by go_num,TG,HB1,UV⟩
   simp [intOf] <;> omega
  have hs2:(t.s.toList == [])=false:=by rw [rF]; exact hs
  have HTT:Hid (mX out f t=cZ out ⟨t.c,t.d,t.s,f.c,f.d⟩):=by show _=_; unfold mX; rw [if_neg (by rw [hs]; decide)]
  clear hs;go_wp2_with fail;rw [← hW1];clear hW1;refine (vk bK nK out ⟨t.c,t.d,t.s,f.c,f.d⟩ W1 ⟨HTF.out.2.2.2.1,HTF.out.2.2.2.2.1,HTF.out.2.2.2.2.2,HF.out.2.2.2.1,HF.out.2.2.2.2⟩ (YE.out.below HB1.out)).mono ?_;rintro e w2 ⟨rfl,hb2⟩;have HB2:=aC (HB1.out.trans (hb2.mono HB1.out.size));have Us:Hid (w2.cell? ⟨w.heap.size,3,none⟩=some (.string f.c)∧w2.cell? ⟨w.heap.size,4,none⟩=some (.string f.d)∧w.heap.size < w2.heap.size):=⟨mK hb2 UV.out.2.2 UV.out.1,mK hb2 UV.out.2.2 UV.out.2.1,Sv UV.out.2.2 hb2.size⟩;clear hb2;cases hh:cZ out ⟨t.c,t.d,t.s,f.c,f.d⟩;case true=>
   have HN:Hid (fB ts out f=true):=by show _=_; rw [HL.out,HD2.out,HTT.out,hh]; rfl
   go_wp2;go_ret;exact ⟨by rw [HN.out]; rfl,HB2.out⟩
  have TG:Hid ((L.drop (k + 1)).any (mX out f)=L.any (mX out f)):=by show _=_; rw [HD2.out,HTT.out,hh]; rfl
  go_wp2;go_roundw;case rel=>exact ⟨k + 1,by omega,by go_num,TG,HB2,Us⟩
  simp [intOf] <;> omega
 have HN:Hid (fB ts out f=false):=by show _=_; rw [HL.out,← HP.out,List.drop_of_length_le (by omega)]; rfl
 go_wp2;go_ret;exact ⟨by rw [HN.out]; rfl,HB.out⟩
theorem Bv (hD:DatA w rs D br bp bt n1 nr Mr Er (dJ ts) xo xu np Mp vo vu) (hK:aO nY prog 29 w bK nK (Bt out)) (x:ER) (XW:x.e.over.size≤maxLen∧x.e.name.size≤maxLen) (hf:f.fits) (hts:∀ t ∈ ts,t.fits) (htl:ts.length≤1000) :
  Calls prog 214 #[.pointer (some ⟨D,0,none⟩),.agg #[.int .i64 x.e.kind,.slice x.adA x.e.allow.length x.capA,.string x.e.over,.string x.e.name,.slice x.adK x.e.kids.length x.capK],.agg #[.string f.a,.string f.b,.string f.r,.string f.c,.string f.d],.map (some bK)] w fun e w'=>e=.returned (.bool (gM ts out x.e.over x.e.name f))∧af w w':=by
 obtain ⟨kl,hkl⟩:=Ed (f.a,f.b,x.e.over) hf.1 hf.2.1 XW.1;obtain ⟨XY,VK,hgd,hsl⟩:=F8 hD.dat.told (f.a,f.b,x.e.over);have HL:=aC (IP ts out x.e.over x.e.name f);have hll:=Ga ts (f.a,f.b,x.e.over);have HFL:Hid (∀ t ∈ G.lookL (dJ ts) (f.a,f.b,x.e.over),t.fits):=fun t ht=>hts t (F9 ht);obtain ⟨L,Xm⟩:∃ L,L=G.lookL (dJ ts) (f.a,f.b,x.e.over):=⟨_,rfl⟩;rw [← Xm] at hgd hsl HL hll HFL;obtain ⟨W0,hW0⟩:∃ W0,W0=(w.alloc (.cells #[.int .i64 x.e.kind,.slice x.adA x.e.allow.length x.capA,.string x.e.over,.string x.e.name,.slice x.adK x.e.kids.length x.capK] 39)).alloc (.cells #[.string f.a,.string f.b,.string f.r,.string f.c,.string f.d] 29):=⟨_,rfl⟩;have HB0:Hid (af w W0):=by show Below _ _ _; rw [hW0]; exact ((Sz _ _).alloc (Sy _) _).alloc (by simp) _
 have c0:W0.cell? ⟨w.heap.size + 1,0,none⟩=some (.string f.a):=by rw [hW0]; simp
 have c1:W0.cell? ⟨w.heap.size + 1,1,none⟩=some (.string f.b):=by rw [hW0]; simp
 have c2:W0.cell? ⟨w.heap.size + 1,2,none⟩=some (.string f.r):=by rw [hW0]; simp
 have c3:W0.cell? ⟨w.heap.size + 1,3,none⟩=some (.string f.c):=by rw [hW0]; simp
 have c4:W0.cell? ⟨w.heap.size + 1,4,none⟩=some (.string f.d):=by rw [hW0]; simp
 have x2:W0.cell? ⟨w.heap.size,2,none⟩=some (.string x.e.over):=by rw [hW0]; simp
 have x3:W0.cell? ⟨w.heap.size,3,none⟩=some (.string x.e.name):=by rw [hW0]; simp
 have d3:=HB0.out.cell (p:=⟨D,3,none⟩) hD.dat.lt |>.trans hD.dat.c3;have hlk:∀ m,(Instr.lookup 166 (.map (some bp)) (.agg #[.string f.a,.string f.b,.string x.e.over]) false).run prog (W0.drewN m)=.ok (.slice XY L.length VK) (W0.drewN m):=fun m=>by
  have h:=((hD.dat.told.map.below HB0.out).below (below_drewN (Sz _ _) m)).look (t:=166) (e:=25) QD underlying166 (IK _) (x:=(f.a,f.b,x.e.over)) hkl;rw [hgd] at h;exact h
 have VM:=aC hsl;have YE:=aC hK;have HF:=aC hf;have Wy:=aC XW;have UT:Hid (W0.cell? ⟨w.heap.size + 1,3,none⟩=some (.string f.c)∧W0.cell? ⟨w.heap.size + 1,4,none⟩=some (.string f.d)∧W0.cell? ⟨w.heap.size,3,none⟩=some (.string x.e.name)∧w.heap.size + 1 < W0.heap.size):=⟨c3,c4,x3,by rw [hW0]; simp⟩;clear hsl hK hf Xm hgd hkl;go_enter func214,ntmps214;go_wp2_with fail;rw [← hW0];clear hW0;go_quiet (fail);clear c0 c1 c2 c3 c4 d3 x2 x3 hlk;go_wp2;go_loopw [22] (fun i wr=>∃ k:Nat,k≤L.length∧i=.int .i64 k∧Hid ((L.drop k).any (vg out x.e.name f)=L.any (vg out x.e.name f))∧Hid (af w wr)∧Hid (wr.cell? ⟨w.heap.size + 1,3,none⟩=some (.string f.c)∧wr.cell? ⟨w.heap.size + 1,4,none⟩=some (.string f.d)∧wr.cell? ⟨w.heap.size,3,none⟩=some (.string x.e.name)∧w.heap.size + 1 < wr.heap.size)) (fun i _=>L.length - (intOf i).toNat);case atStart=>exact ⟨0,SC _,rfl,rfl,below_drewN HB0.out _,UT⟩
 clear UT HB0;obtain ⟨k,hk,rfl,HP,HB,HC⟩:=hrel;by_cases hlt:k < L.length
 ·obtain ⟨bT,offT,Wq,⟨a0,a1,a2,a3,a4,a5⟩,hbT⟩:=Sl.at0 (VM.out.below HB.out) hlt;obtain ⟨c3,c4,x3,cl⟩:=HC.out;have cl0:w.heap.size < wr.heap.size:=by omega
  have hi1:=bq k;have hi2:(k:Int) < (L.length:Int):=by omega
  have HTF:=aC (HFL.out _ (Sw hlt));have HD2:Hid (L.any (vg out x.e.name f)=(vg out x.e.name f L[k] || (L.drop (k + 1)).any (vg out x.e.name f))):=by show _=_; rw [← HP.out]; exact Da _ hlt
  obtain ⟨t,ht⟩:∃ t,t=L[k]:=⟨_,rfl⟩;rw [← ht] at a0 a1 a2 a3 a4 a5 HTF HD2;clear ht;obtain ⟨W1,hW1⟩:∃ W1,W1=wr.alloc (.cells #[.string t.a,.string t.b,.string t.r,.string t.c,.string t.d,.string t.s] 46):=⟨_,rfl⟩;have TJ:=nA hW1;have HB1:=aC (HB.out.trans (TJ.out.mono HB.out.size));have UV:Hid (W1.cell? ⟨w.heap.size + 1,3,none⟩=some (.string f.c)∧W1.cell? ⟨w.heap.size + 1,4,none⟩=some (.string f.d)∧W1.cell? ⟨w.heap.size,3,none⟩=some (.string x.e.name)∧w.heap.size + 1 < W1.heap.size):=⟨mK TJ.out cl c3,mK TJ.out cl c4,mK TJ.out cl0 x3,Sv cl TJ.out.size⟩;subst Wq;have HTT:Hid (vg out x.e.name f t=cZ out ⟨t.c,t.d,x.e.name,f.c,f.d⟩):=rfl;go_wp2_with fail;rw [← hW1];clear hW1;refine (vk bK nK out ⟨t.c,t.d,x.e.name,f.c,f.d⟩ W1 ⟨HTF.out.2.2.2.1,HTF.out.2.2.2.2.1,Wy.out.2,HF.out.2.2.2.1,HF.out.2.2.2.2⟩ (YE.out.below HB1.out)).mono ?_;rintro e w2 ⟨rfl,hb2⟩;have HB2:=aC (HB1.out.trans (hb2.mono HB1.out.size));have Us:Hid (w2.cell? ⟨w.heap.size + 1,3,none⟩=some (.string f.c)∧w2.cell? ⟨w.heap.size + 1,4,none⟩=some (.string f.d)∧w2.cell? ⟨w.heap.size,3,none⟩=some (.string x.e.name)∧w.heap.size + 1 < w2.heap.size):=⟨mK hb2 UV.out.2.2.2 UV.out.1,mK hb2 UV.out.2.2.2 UV.out.2.1,mK hb2 (by have:=UV.out.2.2.2; omega) UV.out.2.2.1,Sv UV.out.2.2.2 hb2.size⟩;clear hb2;cases hh:cZ out ⟨t.c,t.d,x.e.name,f.c,f.d⟩;case true=>
   have HN:Hid (gM ts out x.e.over x.e.name f=true):=by show _=_; rw [HL.out,HD2.out,HTT.out,hh]; rfl
   go_wp2;go_ret;exact ⟨by rw [HN.out]; rfl,HB2.out⟩
  have TG:Hid ((L.drop (k + 1)).any (vg out x.e.name f)=L.any (vg out x.e.name f)):=by show _=_; rw [HD2.out,HTT.out,hh]; rfl
  go_wp2;go_roundw;case rel=>exact ⟨k + 1,by omega,by go_num,TG,HB2,Us⟩
  simp [intOf] <;> omega
 have HN:Hid (gM ts out x.e.over x.e.name f=false):=by show _=_; rw [HL.out,← HP.out,List.drop_of_length_le (by omega)]; rfl
 go_wp2;go_ret;exact ⟨by rw [HN.out]; rfl,HB.out⟩
end
end Go.Proofs.YtajkkeikihhejaaGreat
