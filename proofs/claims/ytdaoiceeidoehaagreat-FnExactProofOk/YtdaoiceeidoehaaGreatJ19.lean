/- What the program's tables and the document's strata ask: the same questions; how many facts there may be; the program's rounds over fewer users. -/
import Derived.Test.YtdaoiceeidoehaaGreatDataOf
open Go.Proofs.Tryz
set_option maxHeartbeats 80000000
namespace Go.Proofs.YtdaoiceeidoehaaGreat
set_option linter.unusedVariables false
open Go.ChangeShapes Go.WideShapes Go.ChangeAt Go.RowKit Go.Maps
open Pl
def jH (known:List Fc) (f:Fc) (t:Tp):Bool:=if t.s.toList.isEmpty then t.c.toList == f.c.toList && t.d.toList == f.d.toList else df known ⟨t.c,t.d,t.s,f.c,f.d⟩
def p8 (known:List Fc) (name:ByteArray) (f:Fc) (t:Tp):Bool:=df known ⟨t.c,t.d,name,f.c,f.d⟩
theorem mf (l:List Tp) (k:K3) (p:Tp→Bool):(G.lookL (aN l) k).any p=l.any fun t=>(t.a.toList == k.1.toList && t.b.toList == k.2.1.toList && t.r.toList == k.2.2.toList) && p t:=by
 induction l with
 | nil=>rfl
 | cons t l ih =>
  have e:aN (t::l)=[(EP t,t)] ++ aN l:=rfl;rw [e,G.lookL_append,List.any_append,ih,List.any_cons];congr 1;unfold G.lookL EP;by_cases h:(t.a,t.b,t.r)=k
  ·subst h; simp
  ·have h2:(t.a.toList == k.1.toList && t.b.toList == k.2.1.toList && t.r.toList == k.2.2.toList)=false:=by
    cases hb:(t.a.toList == k.1.toList && t.b.toList == k.2.1.toList && t.r.toList == k.2.2.toList) with
    | false=>rfl
    | true=>rw [Bool.and_eq_true,Bool.and_eq_true,dJ,dJ,dJ] at hb; exact absurd (Prod.ext hb.1.1 (Prod.ext hb.1.2 hb.2)) h
   simp [h,h2]
theorem DD (l:List Tp) (known:List Fc) (f:Fc):dP l known f=(G.lookL (aN l) (f.a,f.b,f.r)).any (jH known f):=by rw [mf]; rfl
theorem DF (l:List Tp) (known:List Fc) (over name:ByteArray) (f:Fc):eO l known over name f=(G.lookL (aN l) (f.a,f.b,over)).any (p8 known name f):=by rw [mf]; rfl
theorem F9 (st:ByteArray × ByteArray→Int) (n:Int) (o:Al) (tn:ByteArray) (rows:List RR):((rows.map fun r=>(tn,r.name)).filter fun k=>k.1.toList == o.t.toList && decide (st k=n))=(G.lookL (rows.map fun r=>((tn,st (tn,r.name)),r)) (o.t,n)).map fun r=>(o.t,r.name):=by
 induction rows with
 | nil=>rfl
 | cons r rows ih =>
  have e:((r::rows).map fun r=>((tn,st (tn,r.name)),r))=[((tn,st (tn,r.name)),r)] ++ rows.map fun r=>((tn,st (tn,r.name)),r):=rfl;rw [e,G.lookL_append,List.map_append,← ih,List.map_cons,List.filter_cons];unfold G.lookL;by_cases h:tn=o.t∧st (tn,r.name)=n
  ·obtain ⟨rfl,rfl⟩:=h;simp
  ·have h1:(tn.toList == o.t.toList && decide (st (tn,r.name)=n))=false:=by
    cases hb:(tn.toList == o.t.toList && decide (st (tn,r.name)=n)) with
    | false=>rfl
    | true=>rw [Bool.and_eq_true,dJ,decide_eq_true_eq] at hb; exact absurd hb h
   have h2:¬ ((tn,st (tn,r.name))=(o.t,n)):=fun e=>h ⟨congrArg Prod.fst e,congrArg Prod.snd e⟩;simp [h1,h2]
theorem Bp (st:ByteArray × ByteArray→Int) (n:Int) (o:Al) (rs:List TR):yU (ae rs) st n o=(G.lookL (dF st rs) (o.t,n)).map fun r=>(o.t,r.name):=by
 unfold yU
 induction rs with
 | nil=>rfl
 | cons t rs ih =>
  have e1:aj (ae (t::rs))=(t.rows.map fun r=>(t.name,r.name)) ++ aj (ae rs):=by
   have:il t.p=t.rows.map fun r=>(t.name,r.name):=by unfold il; show List.map _ (cB t.rows)=_; unfold cB; rw [List.map_map]; rfl
   simp [aj,ae,this]
  have e2:dF st (t::rs)=(t.rows.map fun r=>((t.name,st (t.name,r.name)),r)) ++ dF st rs:=rfl;rw [e1,e2,G.lookL_append,List.filter_append,List.map_append,ih,F9]
theorem vF {s:St}:∀ {sts:List St},(fO sts).Nodup→s ∈ sts→dU sts s.key=s.n
 | [],_,h=>by cases h
 | x::xs,hd,h=>by
  have hd2:x.key ∉ fO xs∧(fO xs).Nodup:=List.nodup_cons.1 hd;unfold dU;by_cases e:ut x s.key.1 s.key.2=true
  ·rw [if_pos e];have ek:=lH.1 e;rcases List.mem_cons.1 h with rfl | h
   ·rfl
   ·exact absurd (by rw [ek]; exact List.mem_map_of_mem h) hd2.1
  ·rw [if_neg e];rcases List.mem_cons.1 h with rfl | h
   ·exact absurd (lH.2 rfl) e
   ·exact vF hd2.2 h
def Me (sts:List St) (n:Int) (o:Al):List St:=sts.filter fun s=>s.typ.toList == o.t.toList && decide (s.n=n)
theorem J9 {ts:List Ty} {sts:List St} (hk:fO sts=aj ts) (hn:(aj ts).Nodup) (n:Int) (o:Al):yU ts (dU sts) n o=(Me sts n o).map St.key:=by
 unfold yU Me;rw [← hk];rw [← hk] at hn;unfold fO;rw [List.filter_map];congr 1;refine List.filter_congr fun s hs=>?_;show (s.key.1.toList == o.t.toList && decide (dU sts s.key=n))=_;rw [vF hn hs];rfl
theorem DI {rs:List TR} (h:aS (ae rs)=true):(aj (ae rs)).Nodup:=by
 have e:aj (ae rs)=rs.flatMap fun t=>t.rows.map fun r=>(t.name,r.name):=by
  unfold aj ae;rw [List.flatMap_map];congr 1
  funext t
  unfold il;show List.map _ (cB t.rows)=_;unfold cB; rw [List.map_map]; rfl
 rw [e,List.Nodup,List.pairwise_flatMap];constructor
 ·intro t ht;obtain ⟨i,hi,rfl⟩:=List.mem_iff_getElem.1 ht;have hu:=(jX h i hi).2.2;rw [List.pairwise_map,List.pairwise_iff_getElem];intro a b ha hb hab e;have hne:=mV (f:=fun k=>(rs[i].rows[k]?.map RR.name).getD ByteArray.empty) (n:=rs[i].rows.length) (fun k hk=>by
   have h0:k < rs[i].rows.length:=by omega
   simp only [List.getElem?_eq_getElem hk,List.getElem?_eq_getElem h0,Option.map_some,Option.getD_some];exact (xO hu (k + 1) hk hk).2.1 k h0 rfl)
  have:=hne a b hab hb;simp [ha,hb] at this;exact this (congrArg Prod.snd e)
 ·rw [List.pairwise_iff_getElem];intro a b ha hb hab x hx y hy e;obtain ⟨r,hr,rfl⟩:=List.mem_map.1 hx;obtain ⟨q,hq,rfl⟩:=List.mem_map.1 hy;have hne:=mV (f:=fun k=>(rs[k]?.map TR.name).getD ByteArray.empty) (n:=rs.length) (fun k hk=>by
   have h0:k < rs.length:=by omega
   simp only [List.getElem?_eq_getElem hk,List.getElem?_eq_getElem h0,Option.map_some,Option.getD_some];exact (jX h (k + 1) hk).2.1 k h0 rfl)
  have:=hne a b hab hb;simp [ha,hb] at this;exact this (congrArg Prod.fst e)
theorem Bq {α:Type} [DecidableEq α]:∀ {a b:List α},a.Nodup→(∀ x ∈ a,x ∈ b)→a.length≤b.length
 | [],_,_,_=>Nat.zero_le _
 | x::a,b,hd,hs=>by
  obtain ⟨h1,h2⟩:=List.nodup_cons.1 hd;have hx:=hs x (by simp);have:=Bq (a:=a) (b:=b.erase x) h2 fun y hy=>(List.mem_erase_of_ne (fun e:y=x=>h1 (by rw [← e]; exact hy))).2 (hs y (by simp [hy]));rw [List.length_erase_of_mem hx] at this;have hp:0 < b.length:=List.length_pos_of_mem hx;simp only [List.length_cons];omega
def Br (ts:List Ty) (xo xu:List Al):List Fc:=xo.flatMap fun o=>(aj ts).flatMap fun k=>iw o k.2 xu
theorem xW {ts:List Ty} {st:ByteArray × ByteArray→Int} {xo xu:List Al} {n:Int} {f:Fc} (h:f ∈ bF ts st xo xu n):f ∈ Br ts xo xu:=by
 unfold bF su at h;obtain ⟨o,ho,h⟩:=List.mem_flatMap.1 h;obtain ⟨k,hk,h⟩:=List.mem_flatMap.1 h;exact List.mem_flatMap.2 ⟨o,ho,List.mem_flatMap.2 ⟨k,(List.mem_filter.1 hk).1,h⟩⟩
theorem vG {α β:Type} (f:α→List β) (m:Nat) (hf:∀ a,(f a).length≤m):∀ l:List α,(l.flatMap f).length≤l.length * m
 | []=>by simp
 | a::l=>by
  have h1:=vG f m hf l;have h2:=hf a;simp only [List.flatMap_cons,List.length_append,List.length_cons,Nat.add_mul];omega
theorem IX (ts:List Ty) (xo xu:List Al):(Br ts xo xu).length≤xo.length * ((aj ts).length * xu.length) :=
 vG _ _ (fun o=>vG _ _ (fun k=>by unfold iw; rw [List.length_map]; exact Nat.le_refl _) _) _
structure GoodO (ts:List Ty) (xo xu:List Al) (out:List Fc):Prop where
 once:out.Nodup
 sub:∀ g ∈ out,g ∈ Br ts xo xu
def LQ (us:List Al):List (ByteArray × ByteArray):=us.map fun u=>(u.t,u.s)
def LU (us:List Al) (x:ByteArray × ByteArray):Bool:=us.any fun u=>u.t.toList == x.1.toList && u.s.toList == x.2.toList
theorem tJ {us:List Al} {x:ByteArray × ByteArray}:LU us x=true ↔ x ∈ LQ us:=by
 unfold LU LQ;rw [List.any_eq_true,List.mem_map];constructor
 ·rintro ⟨u,hu,h⟩;rw [Bool.and_eq_true,dJ,dJ] at h;exact ⟨u,hu,Prod.ext h.1 h.2⟩
 ·rintro ⟨u,hu,rfl⟩;exact ⟨u,hu,by simp⟩
def dI (us:List Al) (new:List Fc):List Al:=us.filter fun u=>new.any fun g=>g.c.toList == u.t.toList && g.d.toList == u.s.toList
theorem xX {us:List Al} {new:List Fc} {x:ByteArray × ByteArray}:x ∈ LQ (dI us new) ↔ x ∈ LQ us∧∃ g ∈ new,g.u=x:=by
 unfold LQ dI;constructor
 ·intro h;obtain ⟨u,hu,rfl⟩:=List.mem_map.1 h;obtain ⟨h1,h2⟩:=List.mem_filter.1 hu;obtain ⟨g,hg,h3⟩:=List.any_eq_true.1 h2;rw [Bool.and_eq_true,dJ,dJ] at h3;exact ⟨List.mem_map_of_mem (f:=fun u:Al=>(u.t,u.s)) h1,g,hg,Prod.ext h3.1 h3.2⟩
 ·rintro ⟨h,g,hg,hx⟩;obtain ⟨u,hu,rfl⟩:=List.mem_map.1 h;refine List.mem_map.2 ⟨u,List.mem_filter.2 ⟨hu,List.any_eq_true.2 ⟨g,hg,?_⟩⟩,rfl⟩;rw [Bool.and_eq_true,dJ,dJ];exact ⟨congrArg Prod.fst hx,congrArg Prod.snd hx⟩
theorem DJ (us:List Al):dI us []=[]:=by unfold dI; rw [List.filter_eq_nil_iff]; simp
theorem DK {ts:List Ty} {xo xu:List Al} {n:Int} {st st':ByteArray × ByteArray→Int} (h:∀ k ∈ aj ts,st k=st' k):bF ts st xo xu n=bF ts st' xo xu n:=by
 unfold bF su;congr 1
 funext o
 have:yU ts st n o=yU ts st' n o:=List.filter_congr fun k hk=>by rw [h k hk]
 rw [this]
set_option linter.unusedSectionVars false
section
variable [DecidableEq Fc]
theorem GoodO.run {ts:List Ty} {xo xu:List Al} {out:List Fc} (h:GoodO ts xo xu out) {H:List Fc→Fc→Bool} {qs:List Fc} (hq:∀ g ∈ qs,g ∈ Br ts xo xu):GoodO ts xo xu (aZ H qs out):=by
 refine ⟨qA qs h.once,fun g hg=>?_⟩;obtain ⟨n,e,hn⟩:=iI (H:=H) qs out;rw [e] at hg;rcases List.mem_append.1 hg with hg | hg
 ·exact h.sub g hg
 ·exact hq g (hn g hg).1
theorem GoodO.len {ts:List Ty} {xo xu:List Al} {out:List Fc} (h:GoodO ts xo xu out) (h1:xo.length≤80) (h2:(aj ts).length≤36) (h3:xu.length≤40):out.length≤115200:=by
 have a1:=Bq h.once h.sub;have a2:=IX ts xo xu;have a3:(aj ts).length * xu.length≤36 * 40:=Nat.mul_le_mul h2 h3;have a4:xo.length * ((aj ts).length * xu.length)≤80 * (36 * 40):=Nat.mul_le_mul h1 a3;omega
structure FewA (ts:List Ty) (l:List Tp) (st:ByteArray × ByteArray→Int) (xo xu:List Al) (n:Int) (us:List Al) (out:List Fc):Prop where
 sub:us=xu.filter fun u:Al=>LU us (u.t,u.s)
 few:Few Fc.u (fZ ts l) (bF ts st xo xu n) (LQ us) out
variable {ts:List Ty} {l:List Tp} {st:ByteArray × ByteArray→Int} {xo xu:List Al} {n:Int}
theorem FewA.start (out:List Fc):FewA ts l st xo xu n xu out:=by
 refine ⟨(List.filter_eq_self.2 fun u hu=>tJ.2 (List.mem_map_of_mem (f:=fun u:Al=>(u.t,u.s)) hu)).symm,Few.start fun f hf=>CY hf⟩
theorem DL {φ υ:Type} [DecidableEq φ] {us:φ→υ} {H:List φ→φ→Bool} (hL:Loc us H) {qs:List φ} {users:List υ} {out:List φ} (h:Few us H qs users out) (P:υ→Bool) (hP:∀ u,P u=true ↔ u ∈ users):aZ H (qs.filter fun f=>P (us f)) out=aZ H qs out :=
 (jA hL P qs out fun f hf hp=>h.set f hf fun hm=>by rw [(hP _).2 hm] at hp; cases hp).symm
theorem FewA.round {us:List Al} {out:List Fc} (h:FewA ts l st xo xu n us out):aZ (fZ ts l) (bF ts st xo us n) out=aZ (fZ ts l) (bF ts st xo xu n) out:=by
 have h2:=AJ ts st xo xu n (LU us);rw [← h.sub] at h2;rw [← h2];exact DL (xy ts l) h.few (LU us) fun u=>tJ
theorem FewA.next {us:List Al} {out new:List Fc} (h:FewA ts l st xo xu n us out) (hn:aZ (fZ ts l) (bF ts st xo us n) out=out ++ new):FewA ts l st xo xu n (dI us new) (out ++ new):=by
 refine ⟨?_,h.few.next (xy ts l) (h.round.symm.trans hn) fun u=>xX⟩;have h1:dI us new=(xu.filter fun u:Al=>LU us (u.t,u.s)).filter fun u=>new.any fun g=>g.c.toList == u.t.toList && g.d.toList == u.s.toList:=by rw [← h.sub]; rfl
 rw [List.filter_filter] at h1;refine h1.trans (List.filter_congr fun u hu=>?_);rw [Bool.eq_iff_iff,tJ,xX,Bool.and_eq_true,tJ,List.any_eq_true,and_comm];refine and_congr Iff.rfl ⟨fun ⟨g,hg,h3⟩=>⟨g,hg,?_⟩,fun ⟨g,hg,h3⟩=>⟨g,hg,?_⟩⟩
 ·rw [Bool.and_eq_true,dJ,dJ] at h3;exact Prod.ext h3.1 h3.2
 ·rw [Bool.and_eq_true,dJ,dJ];exact ⟨congrArg Prod.fst h3,congrArg Prod.snd h3⟩
theorem FewA.done {out:List Fc} (h:FewA ts l st xo xu n [] out):ko (fZ ts l) (bF ts st xo xu n) out=out:=h.few.done
theorem ru {st st':ByteArray × ByteArray→Int} (h:∀ k ∈ aj ts,st k=st' k):∀ N,jw ts l st xo xu N=jw ts l st' xo xu N
 | 0=>rfl
 | N + 1=>by rw [iy,iy,ru h N,DK h]
end
set_option maxRecDepth 8000 in
theorem mZ (ad:Option Addr) (cap:Nat) (ts:List Fc) (t:Fc) (w:World) (hlen:ts.length≤1048576) (hs:jq w ad ts) :
  Calls prog 61 #[.slice ad ts.length cap,.agg #[.string t.a,.string t.b,.string t.r,.string t.c,.string t.d]] w fun e w'=>e=.returned (.bool (df ts t))∧Below w.heap.size w w':=by
 have HS:Hid (jq w ad ts):=hs;clear hs;obtain ⟨W0,hW0⟩:∃ W0,W0=w.alloc (.cells #[.string t.a,.string t.b,.string t.r,.string t.c,.string t.d] 42):=⟨_,rfl⟩;have HB0:=nX hW0;have HX0:Hid (W0.cell? ⟨w.heap.size,0,none⟩=some (.string t.a)∧W0.cell? ⟨w.heap.size,1,none⟩=some (.string t.b)∧W0.cell? ⟨w.heap.size,2,none⟩=some (.string t.r)∧W0.cell? ⟨w.heap.size,3,none⟩=some (.string t.c)∧W0.cell? ⟨w.heap.size,4,none⟩=some (.string t.d)∧w.heap.size < W0.heap.size):=by show _∧_; rw [hW0]; refine ⟨?_,?_,?_,?_,?_,?_⟩ <;> simp
 go_enter func61,ntmps61;go_wp2;rw [← hW0];clear hW0;go_loopw [5] (fun i wr=>∃ k:Nat,k≤ts.length∧i=.int .i64 k∧Hid (df (ts.drop k) t=df ts t)∧Hid (Below W0.heap.size W0 wr)) (fun i _=>ts.length - (intOf i).toNat);case atStart=>exact ⟨0,Nat.zero_le _,rfl,rfl,Below.refl _ _⟩
 case round =>
  obtain ⟨k,hk,rfl,HP,HB⟩:=hrel;have HBW:Hid (Below w.heap.size w wr):=HB0.out.trans (HB.out.mono HB0.out.size);by_cases hlt:k < ts.length
  ·rcases HS.out.below HBW.out with hnil | ⟨b,off,rfl,hb,hr⟩
   ·rw [hnil] at hlt; simp at hlt
   obtain ⟨t0,t1,t2,t3,t4⟩:=hr k hlt;have x0:=mK HB.out HX0.out.2.2.2.2.2 HX0.out.1;have x1:=mK HB.out HX0.out.2.2.2.2.2 HX0.out.2.1;have x2:=mK HB.out HX0.out.2.2.2.2.2 HX0.out.2.2.1;have x3:=mK HB.out HX0.out.2.2.2.2.2 HX0.out.2.2.2.1;have x4:=mK HB.out HX0.out.2.2.2.2.2 HX0.out.2.2.2.2.1;have hk1:=aY k;have hk2:(k:Int) < (ts.length:Int):=by omega
   have HD:Hid (df ts t=(yT ts[k] t || df (ts.drop (k + 1)) t)):=by show _=_; rw [← HP.out]; exact FP hlt
   clear hr;cases hq:yT ts[k] t with
   | true =>
    have heq:=Ia ts[k] t hq;have HN:Hid (df ts t=true):=by show _=_; rw [HD.out,hq]; rfl
    clear hq;go_wp2_with fail;go_region_held3 (fun w'=>w'.cell? ⟨b,off + k * 5,none⟩=some (.string ts[k].a)∧w'.cell? ⟨b,off + k * 5 + 1,none⟩=some (.string ts[k].b)∧w'.cell? ⟨b,off + k * 5 + 2,none⟩=some (.string ts[k].r)∧w'.cell? ⟨b,off + k * 5 + 3,none⟩=some (.string ts[k].c)∧w'.cell? ⟨b,off + k * 5 + 4,none⟩=some (.string ts[k].d)∧w'.cell? ⟨w.heap.size,0,none⟩=some (.string t.a)∧w'.cell? ⟨w.heap.size,1,none⟩=some (.string t.b)∧w'.cell? ⟨w.heap.size,2,none⟩=some (.string t.r)∧w'.cell? ⟨w.heap.size,3,none⟩=some (.string t.c)∧w'.cell? ⟨w.heap.size,4,none⟩=some (.string t.d)∧Below wr.heap.size wr w') (first | assumption | exact ⟨t0,t1,t2,t3,t4,x0,x1,x2,x3,x4,(Below.refl _ _).drew⟩) (fail);rename_i hH;have HG:Hid (Below wr.heap.size wr _):=hH.2.2.2.2.2.2.2.2.2.2;clear hH t0 t1 t2 t3 t4 x0 x1 x2 x3 x4 heq;go_wp2;go_ret;exact ⟨by rw [HN.out]; rfl,HBW.out.trans (HG.out.mono HBW.out.size)⟩
   | false =>
    have heq:=Ia ts[k] t hq;have HP2:Hid (df (ts.drop (k + 1)) t=df ts t):=by show _=_; rw [HD.out,hq]; rfl
    clear hq;go_wp2_with fail;go_region_held3 (fun w'=>w'.cell? ⟨b,off + k * 5,none⟩=some (.string ts[k].a)∧w'.cell? ⟨b,off + k * 5 + 1,none⟩=some (.string ts[k].b)∧w'.cell? ⟨b,off + k * 5 + 2,none⟩=some (.string ts[k].r)∧w'.cell? ⟨b,off + k * 5 + 3,none⟩=some (.string ts[k].c)∧w'.cell? ⟨b,off + k * 5 + 4,none⟩=some (.string ts[k].d)∧w'.cell? ⟨w.heap.size,0,none⟩=some (.string t.a)∧w'.cell? ⟨w.heap.size,1,none⟩=some (.string t.b)∧w'.cell? ⟨w.heap.size,2,none⟩=some (.string t.r)∧w'.cell? ⟨w.heap.size,3,none⟩=some (.string t.c)∧w'.cell? ⟨w.heap.size,4,none⟩=some (.string t.d)∧Below wr.heap.size wr w') (first | assumption | exact ⟨t0,t1,t2,t3,t4,x0,x1,x2,x3,x4,(Below.refl _ _).drew⟩) (fail);rename_i hH;have HG:Hid (Below W0.heap.size W0 _):=HB.out.trans (hH.2.2.2.2.2.2.2.2.2.2.mono HB.out.size);clear hH t0 t1 t2 t3 t4 x0 x1 x2 x3 x4 heq;go_wp2;go_roundw;case rel=>exact ⟨k + 1,by omega,by go_num,HP2,HG⟩
    case measure=>simp [intOf] <;> omega
  ·have HN:Hid (df ts t=false):=by show _=_; rw [← HP.out,List.drop_of_length_le (by omega)]; rfl
   go_wp2;go_ret;exact ⟨by rw [HN.out]; rfl,HBW.out⟩
theorem ag {p:Prop} (h:p):Hid p:=h
structure HW (w:World) (adT:Option Addr) (ts:List Tp) (adE:Option Addr) (rows:List ER) (adK:Option Addr) (known:List Fc) (adR:Option Addr) (truth:List Fc):Prop where
 tup:Sl w adT ts
 ex:dw w adE rows
 kn:jq w adK known
 tr:jq w adR truth
theorem HW.below {w w':World} {adT:Option Addr} {ts:List Tp} {adE:Option Addr} {rows:List ER} {adK:Option Addr} {known:List Fc} {adR:Option Addr} {truth:List Fc} (h:HW w adT ts adE rows adK known adR truth) (hB:Below w.heap.size w w'):HW w' adT ts adE rows adK known adR truth :=
 ⟨h.tup.below hB,h.ex.below hB,h.kn.below hB,h.tr.below hB⟩
def qx (a b c d:ByteArray):Bool:=a.toList == c.toList && b.toList == d.toList
theorem dD (a b c d:ByteArray) {v:Bool} (h:qx a b c d=v) (w:World) :
  (binOp .eql 40 (.agg #[.string a,.string b]) (.agg #[.string c,.string d])).run prog w=.ok (.bool v) w:=by
 subst h;go_simp;unfold qx
 (repeat' split) <;> simp_all
theorem Bt (a b c d:ByteArray) {v:Bool} (h:qx a b c d=v) (w:World) :
  (binOp .neq 40 (.agg #[.string a,.string b]) (.agg #[.string c,.string d])).run prog w=.ok (.bool (!v)) w:=by
 subst h;go_simp;unfold qx
 (repeat' split) <;> simp_all
theorem dw.at0 {w:World} {ad:Option Addr} {rs:List ER} (h:dw w ad rs) {k:Nat} (hk:k < rs.length):∃ b off,ad=some ⟨b,off,none⟩∧wy w b (off + k * 5) rs[k]∧b < w.heap.size∧rs[k].ok w:=by
 rcases h with h | ⟨b',off',e,hb,hr,hok⟩
 ·rw [h] at hk; simp at hk
 ·exact ⟨b',off',e,hr k hk,hb,hok _ (List.getElem_mem hk)⟩
theorem Sl.at0 {w:World} {ad:Option Addr} {ts:List Tp} (h:Sl w ad ts) {k:Nat} (hk:k < ts.length):∃ b off,ad=some ⟨b,off,none⟩∧JM w b (off + k * 6) ts[k]∧b < w.heap.size:=by
 rcases h with h | ⟨b',off',e,hb,hr⟩
 ·rw [h] at hk; simp at hk
 ·exact ⟨b',off',e,hr k hk,hb⟩
theorem nA.at0 {w:World} {ad:Option Addr} {zs:List Int} (h:nA w ad zs) {k:Nat} (hk:k < zs.length):∃ b off,ad=some ⟨b,off,none⟩∧w.cell? ⟨b,off + k,none⟩=some (.int .i64 zs[k])∧b < w.heap.size:=by
 rcases h with h | ⟨b',off',e,hb,hr⟩
 ·rw [h] at hk; simp at hk
 ·exact ⟨b',off',e,hr k hk,hb⟩
def p9 (w:World) (f:Fc) (x:ER):World:=(w.alloc (.cells #[.string f.a,.string f.b,.string f.r,.string f.c,.string f.d] 42)).alloc (.cells #[.int .i64 x.e.kind,.slice x.adA x.e.allow.length x.capA,.string x.e.over,.string x.e.name,.slice x.adK x.e.kids.length x.capK] 166)
theorem dm (w:World) (f:Fc) (x:ER):Below w.heap.size w (p9 w f x):=by
 unfold p9;exact ((Below.refl _ _).alloc (Nat.le_refl _) _).alloc (by simp) _
structure EnB (w:World) (B:Nat) (f:Fc) (x:ER):Prop where
 lt:B + 1 < w.heap.size
 f0:w.cell? ⟨B,0,none⟩=some (.string f.a)
 f1:w.cell? ⟨B,1,none⟩=some (.string f.b)
 f2:w.cell? ⟨B,2,none⟩=some (.string f.r)
 f3:w.cell? ⟨B,3,none⟩=some (.string f.c)
 f4:w.cell? ⟨B,4,none⟩=some (.string f.d)
 x0:w.cell? ⟨B + 1,0,none⟩=some (.int .i64 x.e.kind)
 x1:w.cell? ⟨B + 1,1,none⟩=some (.slice x.adA x.e.allow.length x.capA)
 x2:w.cell? ⟨B + 1,2,none⟩=some (.string x.e.over)
 x3:w.cell? ⟨B + 1,3,none⟩=some (.string x.e.name)
 x4:w.cell? ⟨B + 1,4,none⟩=some (.slice x.adK x.e.kids.length x.capK)
theorem EnB.below {w w':World} {B:Nat} {f:Fc} {x:ER} (h:EnB w B f x) (hB:Below w.heap.size w w'):EnB w' B f x:=by
 have h0:B < w.heap.size:=by have:=h.lt; omega
 have c0:∀ o,w'.cell? ⟨B,o,none⟩=w.cell? ⟨B,o,none⟩:=fun o=>hB.cell (p:=⟨B,o,none⟩) h0;have c1:∀ o,w'.cell? ⟨B + 1,o,none⟩=w.cell? ⟨B + 1,o,none⟩:=fun o=>hB.cell (p:=⟨B + 1,o,none⟩) h.lt;exact ⟨Nat.lt_of_lt_of_le h.lt hB.size,(c0 _).trans h.f0,(c0 _).trans h.f1,(c0 _).trans h.f2,(c0 _).trans h.f3,(c0 _).trans h.f4,(c1 _).trans h.x0,(c1 _).trans h.x1,(c1 _).trans h.x2,(c1 _).trans h.x3,(c1 _).trans h.x4⟩
theorem dY (w:World) (f:Fc) (x:ER):EnB (p9 w f x) w.heap.size f x:=by
 unfold p9;constructor <;> simp
def vH (known:List Fc) (f:Fc) (t:Tp):Bool:=(t.a.toList == f.a.toList && t.b.toList == f.b.toList && t.r.toList == f.r.toList) && (if t.s.toList.isEmpty then t.c.toList == f.c.toList && t.d.toList == f.d.toList else df known ⟨t.c,t.d,t.s,f.c,f.d⟩)
theorem DN {ts:List Tp} {k:Nat} (h:k < ts.length) (known:List Fc) (f:Fc):dP (ts.drop k) known f=(vH known f ts[k] || dP (ts.drop (k + 1)) known f):=by
 unfold dP; rw [List.drop_eq_getElem_cons h]; rfl
def xY (known:List Fc) (over name:ByteArray) (f:Fc) (t:Tp):Bool:=(t.a.toList == f.a.toList && t.b.toList == f.b.toList && t.r.toList == over.toList) && df known ⟨t.c,t.d,name,f.c,f.d⟩
theorem DR {ts:List Tp} {k:Nat} (h:k < ts.length) (known:List Fc) (over name:ByteArray) (f:Fc):eO (ts.drop k) known over name f=(xY known over name f ts[k] || eO (ts.drop (k + 1)) known over name f):=by
 unfold eO; rw [List.drop_eq_getElem_cons h]; rfl
theorem jI {s:ByteArray}:(s.toList == [])=s.toList.isEmpty:=by cases s.toList <;> rfl
set_option maxRecDepth 100000
def oG (out:List Fc) (f:Fc):Option Value:=if df out f then some (.agg #[]) else none
theorem IY (out:List Fc) (f:Fc):(oG out f).isSome=df out f:=by unfold oG; cases df out f <;> rfl
theorem Ka (out:List Fc) (f:Fc):∀ v,oG out f=some v→v=.agg #[]:=fun v h=>by
 unfold oG at h; split at h
 ·injection h with h; exact h.symm
 ·cases h
theorem mg (b n:Nat) (out:List Fc) (f:Fc) (w:World) (hf:f.fits) (hV:aB fT prog 42 w b n (oG out)) :
  Calls prog 41 #[.map (some b),.agg #[.string f.a,.string f.b,.string f.r,.string f.c,.string f.d]] w fun e w'=>e=.returned (.bool (df out f))∧Below w.heap.size w w':=by
 have h:=AV b n (oG out) f w hf hV (Ka out f);rw [IY] at h;exact h
theorem qa {w:World} {bp np:Nat} {Mp:K3→Option Value} {E:List (K3 × Tp)} (h:G.Grp kZ prog 216 73 6 Tp.row w bp np Mp E) (k:K3):∃ ad cap,(Mp k).getD (.slice none 0 0)=.slice ad (G.lookL E k).length cap∧Sl w ad (G.lookL E k):=by
 obtain ⟨ad,cap,e,hs,-⟩:=LX (ts:=G.lookL E k) (xL h k) rfl;exact ⟨ad,cap,e,hs⟩
theorem xZ (p:Tp→Bool) {ts:List Tp} {k:Nat} (h:k < ts.length):(ts.drop k).any p=(p ts[k] || (ts.drop (k + 1)).any p):=by rw [List.drop_eq_getElem_cons h]; rfl
theorem qc {ts:List Tp} {k:K3} {t:Tp} (h:t ∈ G.lookL (aN ts) k):t ∈ ts:=by
 have:=G.mem_lookL.1 h;unfold aN at this;obtain ⟨x,hx,e⟩:=List.mem_map.1 this;injection e with e1 e2;rw [← e2]; exact hx
theorem qd (ts:List Tp) (k:K3):(G.lookL (aN ts) k).length≤ts.length:=by
 unfold G.lookL aN;exact Nat.le_trans (List.length_filterMap_le _ _) (by simp)
section
variable {w:World} {rs:List TR} {D br bp bt bK nK:Nat} {n1:Int} {nr:Nat} {Mr:KL→Option Value} {Er:List (KL × RR)} {ts:List Tp} {xo xu:List Al} {np:Nat} {Mp:K3→Option Value} {vo vu:Value} {out:List Fc} {f:Fc}
theorem wM (hD:DatA w rs D br bp bt n1 nr Mr Er (aN ts) xo xu np Mp vo vu) (hK:aB fT prog 42 w bK nK (oG out)) (hf:f.fits) (hts:∀ t ∈ ts,t.fits) (htl:ts.length≤1000) :
  Calls prog 134 #[.pointer (some ⟨D,0,none⟩),.agg #[.string f.a,.string f.b,.string f.r,.string f.c,.string f.d],.map (some bK)] w fun e w'=>e=.returned (.bool (dP ts out f))∧Below w.heap.size w w':=by
 obtain ⟨kl,hkl⟩:=pG (f.a,f.b,f.r) hf.1 hf.2.1 hf.2.2.1;obtain ⟨adL,capL,hgd,hsl⟩:=qa hD.dat.told (f.a,f.b,f.r);have HL:=ag (DD ts out f);have hll:=qd ts (f.a,f.b,f.r);have HFL:Hid (∀ t ∈ G.lookL (aN ts) (f.a,f.b,f.r),t.fits):=fun t ht=>hts t (qc ht);obtain ⟨L,hLe⟩:∃ L,L=G.lookL (aN ts) (f.a,f.b,f.r):=⟨_,rfl⟩;rw [← hLe] at hgd hsl HL hll HFL;obtain ⟨W0,hW0⟩:∃ W0,W0=w.alloc (.cells #[.string f.a,.string f.b,.string f.r,.string f.c,.string f.d] 42):=⟨_,rfl⟩;have HB0:=nX hW0;have c0:W0.cell? ⟨w.heap.size,0,none⟩=some (.string f.a):=by rw [hW0]; simp
 have c1:W0.cell? ⟨w.heap.size,1,none⟩=some (.string f.b):=by rw [hW0]; simp
 have c2:W0.cell? ⟨w.heap.size,2,none⟩=some (.string f.r):=by rw [hW0]; simp
 have c3:W0.cell? ⟨w.heap.size,3,none⟩=some (.string f.c):=by rw [hW0]; simp
 have c4:W0.cell? ⟨w.heap.size,4,none⟩=some (.string f.d):=by rw [hW0]; simp
 have d3:=HB0.out.cell (p:=⟨D,3,none⟩) hD.dat.lt |>.trans hD.dat.c3;have hlk:∀ m,(Instr.lookup 126 (.map (some bp)) (.agg #[.string f.a,.string f.b,.string f.r]) false).run prog (W0.drewN m)=.ok (.slice adL L.length capL) (W0.drewN m):=fun m=>by
  have h:=((hD.dat.told.map.below HB0.out).below (below_drewN (Below.refl _ _) m)).look (t:=126) (e:=36) EL underlying126 (uU _) (x:=(f.a,f.b,f.r)) hkl;rw [hgd] at h;exact h
 have HSL:=ag hsl;have HKN:=ag hK;have HF:=ag hf;have HC0:Hid (W0.cell? ⟨w.heap.size,3,none⟩=some (.string f.c)∧W0.cell? ⟨w.heap.size,4,none⟩=some (.string f.d)∧w.heap.size < W0.heap.size):=⟨c3,c4,by rw [hW0]; simp⟩;clear hsl hK hf hLe hgd hkl;go_enter func134,ntmps134;go_wp2_with fail;rw [← hW0];clear hW0;go_quiet (fail);clear c0 c1 c2 c3 c4 d3 hlk;go_wp2;go_loopw [20] (fun i wr=>∃ k:Nat,k≤L.length∧i=.int .i64 k∧Hid ((L.drop k).any (jH out f)=L.any (jH out f))∧Hid (Below w.heap.size w wr)∧Hid (wr.cell? ⟨w.heap.size,3,none⟩=some (.string f.c)∧wr.cell? ⟨w.heap.size,4,none⟩=some (.string f.d)∧w.heap.size < wr.heap.size)) (fun i _=>L.length - (intOf i).toNat);case atStart=>exact ⟨0,Nat.zero_le _,rfl,rfl,below_drewN HB0.out _,HC0⟩
 case round =>
  clear HC0 HB0;obtain ⟨k,hk,rfl,HP,HB,HC⟩:=hrel;by_cases hlt:k < L.length
  ·obtain ⟨bT,offT,hadT,⟨a0,a1,a2,a3,a4,a5⟩,hbT⟩:=Sl.at0 (HSL.out.below HB.out) hlt;obtain ⟨c3,c4,cl⟩:=HC.out;have hi1:=aY k;have hi2:(k:Int) < (L.length:Int):=by omega
   have HTF:=ag (HFL.out _ (List.getElem_mem hlt));have HD2:Hid (L.any (jH out f)=(jH out f L[k] || (L.drop (k + 1)).any (jH out f))):=by show _=_; rw [← HP.out]; exact xZ _ hlt
   obtain ⟨t,ht⟩:∃ t,t=L[k]:=⟨_,rfl⟩;rw [← ht] at a0 a1 a2 a3 a4 a5 HTF HD2;clear ht;obtain ⟨W1,hW1⟩:∃ W1,W1=wr.alloc (.cells #[.string t.a,.string t.b,.string t.r,.string t.c,.string t.d,.string t.s] 73):=⟨_,rfl⟩;have HBr:=nX hW1;have HB1:=ag (HB.out.trans (HBr.out.mono HB.out.size));have HC1:Hid (W1.cell? ⟨w.heap.size,3,none⟩=some (.string f.c)∧W1.cell? ⟨w.heap.size,4,none⟩=some (.string f.d)∧w.heap.size < W1.heap.size):=⟨mK HBr.out cl c3,mK HBr.out cl c4,Nat.lt_of_lt_of_le cl HBr.out.size⟩;subst hadT;cases hs:t.s.toList.isEmpty with
   | true =>
    have hs2:(t.s.toList == [])=true:=by rw [jI]; exact hs
    have HTT:Hid (jH out f t=qx t.c t.d f.c f.d):=by show _=_; unfold jH; rw [if_pos hs]; rfl
    cases hu:qx t.c t.d f.c f.d with
    | true =>
     have heq:=dD _ _ _ _ hu;have HN:Hid (dP ts out f=true):=by show _=_; rw [HL.out,HD2.out,HTT.out,hu]; rfl
     clear hu hs;go_wp2;rw [← hW1];go_ret;exact ⟨by rw [HN.out]; rfl,HB1.out⟩
    | false =>
     have heq:=dD _ _ _ _ hu;have HP2:Hid ((L.drop (k + 1)).any (jH out f)=L.any (jH out f)):=by show _=_; rw [HD2.out,HTT.out,hu]; rfl
     clear hu hs;go_wp2;rw [← hW1];clear hW1;go_roundw;case rel=>exact ⟨k + 1,by omega,by go_num,HP2,HB1,HC1⟩
     case measure=>simp [intOf] <;> omega
   | false =>
    have hs2:(t.s.toList == [])=false:=by rw [jI]; exact hs
    have HTT:Hid (jH out f t=df out ⟨t.c,t.d,t.s,f.c,f.d⟩):=by show _=_; unfold jH; rw [if_neg (by rw [hs]; decide)]
    clear hs;go_wp2_with fail;rw [← hW1];clear hW1;refine (mg bK nK out ⟨t.c,t.d,t.s,f.c,f.d⟩ W1 ⟨HTF.out.2.2.2.1,HTF.out.2.2.2.2.1,HTF.out.2.2.2.2.2,HF.out.2.2.2.1,HF.out.2.2.2.2⟩ (HKN.out.below HB1.out)).mono ?_;rintro e w2 ⟨rfl,hb2⟩;have HB2:=ag (HB1.out.trans (hb2.mono HB1.out.size));have HC2:Hid (w2.cell? ⟨w.heap.size,3,none⟩=some (.string f.c)∧w2.cell? ⟨w.heap.size,4,none⟩=some (.string f.d)∧w.heap.size < w2.heap.size):=⟨mK hb2 HC1.out.2.2 HC1.out.1,mK hb2 HC1.out.2.2 HC1.out.2.1,Nat.lt_of_lt_of_le HC1.out.2.2 hb2.size⟩;clear hb2;cases hh:df out ⟨t.c,t.d,t.s,f.c,f.d⟩ with
    | true =>
     have HN:Hid (dP ts out f=true):=by show _=_; rw [HL.out,HD2.out,HTT.out,hh]; rfl
     go_wp2;go_ret;exact ⟨by rw [HN.out]; rfl,HB2.out⟩
    | false =>
     have HP2:Hid ((L.drop (k + 1)).any (jH out f)=L.any (jH out f)):=by show _=_; rw [HD2.out,HTT.out,hh]; rfl
     go_wp2;go_roundw;case rel=>exact ⟨k + 1,by omega,by go_num,HP2,HB2,HC2⟩
     case measure=>simp [intOf] <;> omega
  ·have HN:Hid (dP ts out f=false):=by show _=_; rw [HL.out,← HP.out,List.drop_of_length_le (by omega)]; rfl
   go_wp2;go_ret;exact ⟨by rw [HN.out]; rfl,HB.out⟩
theorem wN (hD:DatA w rs D br bp bt n1 nr Mr Er (aN ts) xo xu np Mp vo vu) (hK:aB fT prog 42 w bK nK (oG out)) (x:ER) (hxf:x.e.over.size≤maxLen∧x.e.name.size≤maxLen) (hf:f.fits) (hts:∀ t ∈ ts,t.fits) (htl:ts.length≤1000) :
  Calls prog 135 #[.pointer (some ⟨D,0,none⟩),.agg #[.int .i64 x.e.kind,.slice x.adA x.e.allow.length x.capA,.string x.e.over,.string x.e.name,.slice x.adK x.e.kids.length x.capK],.agg #[.string f.a,.string f.b,.string f.r,.string f.c,.string f.d],.map (some bK)] w fun e w'=>e=.returned (.bool (eO ts out x.e.over x.e.name f))∧Below w.heap.size w w':=by
 obtain ⟨kl,hkl⟩:=pG (f.a,f.b,x.e.over) hf.1 hf.2.1 hxf.1;obtain ⟨adL,capL,hgd,hsl⟩:=qa hD.dat.told (f.a,f.b,x.e.over);have HL:=ag (DF ts out x.e.over x.e.name f);have hll:=qd ts (f.a,f.b,x.e.over);have HFL:Hid (∀ t ∈ G.lookL (aN ts) (f.a,f.b,x.e.over),t.fits):=fun t ht=>hts t (qc ht);obtain ⟨L,hLe⟩:∃ L,L=G.lookL (aN ts) (f.a,f.b,x.e.over):=⟨_,rfl⟩;rw [← hLe] at hgd hsl HL hll HFL;obtain ⟨W0,hW0⟩:∃ W0,W0=(w.alloc (.cells #[.int .i64 x.e.kind,.slice x.adA x.e.allow.length x.capA,.string x.e.over,.string x.e.name,.slice x.adK x.e.kids.length x.capK] 166)).alloc (.cells #[.string f.a,.string f.b,.string f.r,.string f.c,.string f.d] 42):=⟨_,rfl⟩;have HB0:Hid (Below w.heap.size w W0):=by show Below _ _ _; rw [hW0]; exact ((Below.refl _ _).alloc (Nat.le_refl _) _).alloc (by simp) _
 have c0:W0.cell? ⟨w.heap.size + 1,0,none⟩=some (.string f.a):=by rw [hW0]; simp
 have c1:W0.cell? ⟨w.heap.size + 1,1,none⟩=some (.string f.b):=by rw [hW0]; simp
 have c2:W0.cell? ⟨w.heap.size + 1,2,none⟩=some (.string f.r):=by rw [hW0]; simp
 have c3:W0.cell? ⟨w.heap.size + 1,3,none⟩=some (.string f.c):=by rw [hW0]; simp
 have c4:W0.cell? ⟨w.heap.size + 1,4,none⟩=some (.string f.d):=by rw [hW0]; simp
 have x2:W0.cell? ⟨w.heap.size,2,none⟩=some (.string x.e.over):=by rw [hW0]; simp
 have x3:W0.cell? ⟨w.heap.size,3,none⟩=some (.string x.e.name):=by rw [hW0]; simp
 have d3:=HB0.out.cell (p:=⟨D,3,none⟩) hD.dat.lt |>.trans hD.dat.c3;have hlk:∀ m,(Instr.lookup 126 (.map (some bp)) (.agg #[.string f.a,.string f.b,.string x.e.over]) false).run prog (W0.drewN m)=.ok (.slice adL L.length capL) (W0.drewN m):=fun m=>by
  have h:=((hD.dat.told.map.below HB0.out).below (below_drewN (Below.refl _ _) m)).look (t:=126) (e:=36) EL underlying126 (uU _) (x:=(f.a,f.b,x.e.over)) hkl;rw [hgd] at h;exact h
 have HSL:=ag hsl;have HKN:=ag hK;have HF:=ag hf;have HXF:=ag hxf;have HC0:Hid (W0.cell? ⟨w.heap.size + 1,3,none⟩=some (.string f.c)∧W0.cell? ⟨w.heap.size + 1,4,none⟩=some (.string f.d)∧W0.cell? ⟨w.heap.size,3,none⟩=some (.string x.e.name)∧w.heap.size + 1 < W0.heap.size):=⟨c3,c4,x3,by rw [hW0]; simp⟩;clear hsl hK hf hLe hgd hkl;go_enter func135,ntmps135;go_wp2_with fail;rw [← hW0];clear hW0;go_quiet (fail);clear c0 c1 c2 c3 c4 d3 x2 x3 hlk;go_wp2;go_loopw [22] (fun i wr=>∃ k:Nat,k≤L.length∧i=.int .i64 k∧Hid ((L.drop k).any (p8 out x.e.name f)=L.any (p8 out x.e.name f))∧Hid (Below w.heap.size w wr)∧Hid (wr.cell? ⟨w.heap.size + 1,3,none⟩=some (.string f.c)∧wr.cell? ⟨w.heap.size + 1,4,none⟩=some (.string f.d)∧wr.cell? ⟨w.heap.size,3,none⟩=some (.string x.e.name)∧w.heap.size + 1 < wr.heap.size)) (fun i _=>L.length - (intOf i).toNat);case atStart=>exact ⟨0,Nat.zero_le _,rfl,rfl,below_drewN HB0.out _,HC0⟩
 case round =>
  clear HC0 HB0;obtain ⟨k,hk,rfl,HP,HB,HC⟩:=hrel;by_cases hlt:k < L.length
  ·obtain ⟨bT,offT,hadT,⟨a0,a1,a2,a3,a4,a5⟩,hbT⟩:=Sl.at0 (HSL.out.below HB.out) hlt;obtain ⟨c3,c4,x3,cl⟩:=HC.out;have cl0:w.heap.size < wr.heap.size:=by omega
   have hi1:=aY k;have hi2:(k:Int) < (L.length:Int):=by omega
   have HTF:=ag (HFL.out _ (List.getElem_mem hlt));have HD2:Hid (L.any (p8 out x.e.name f)=(p8 out x.e.name f L[k] || (L.drop (k + 1)).any (p8 out x.e.name f))):=by show _=_; rw [← HP.out]; exact xZ _ hlt
   obtain ⟨t,ht⟩:∃ t,t=L[k]:=⟨_,rfl⟩;rw [← ht] at a0 a1 a2 a3 a4 a5 HTF HD2;clear ht;obtain ⟨W1,hW1⟩:∃ W1,W1=wr.alloc (.cells #[.string t.a,.string t.b,.string t.r,.string t.c,.string t.d,.string t.s] 73):=⟨_,rfl⟩;have HBr:=nX hW1;have HB1:=ag (HB.out.trans (HBr.out.mono HB.out.size));have HC1:Hid (W1.cell? ⟨w.heap.size + 1,3,none⟩=some (.string f.c)∧W1.cell? ⟨w.heap.size + 1,4,none⟩=some (.string f.d)∧W1.cell? ⟨w.heap.size,3,none⟩=some (.string x.e.name)∧w.heap.size + 1 < W1.heap.size):=⟨mK HBr.out cl c3,mK HBr.out cl c4,mK HBr.out cl0 x3,Nat.lt_of_lt_of_le cl HBr.out.size⟩;subst hadT;have HTT:Hid (p8 out x.e.name f t=df out ⟨t.c,t.d,x.e.name,f.c,f.d⟩):=rfl;go_wp2_with fail;rw [← hW1];clear hW1;refine (mg bK nK out ⟨t.c,t.d,x.e.name,f.c,f.d⟩ W1 ⟨HTF.out.2.2.2.1,HTF.out.2.2.2.2.1,HXF.out.2,HF.out.2.2.2.1,HF.out.2.2.2.2⟩ (HKN.out.below HB1.out)).mono ?_;rintro e w2 ⟨rfl,hb2⟩;have HB2:=ag (HB1.out.trans (hb2.mono HB1.out.size));have HC2:Hid (w2.cell? ⟨w.heap.size + 1,3,none⟩=some (.string f.c)∧w2.cell? ⟨w.heap.size + 1,4,none⟩=some (.string f.d)∧w2.cell? ⟨w.heap.size,3,none⟩=some (.string x.e.name)∧w.heap.size + 1 < w2.heap.size):=⟨mK hb2 HC1.out.2.2.2 HC1.out.1,mK hb2 HC1.out.2.2.2 HC1.out.2.1,mK hb2 (by have:=HC1.out.2.2.2; omega) HC1.out.2.2.1,Nat.lt_of_lt_of_le HC1.out.2.2.2 hb2.size⟩;clear hb2;cases hh:df out ⟨t.c,t.d,x.e.name,f.c,f.d⟩ with
   | true =>
    have HN:Hid (eO ts out x.e.over x.e.name f=true):=by show _=_; rw [HL.out,HD2.out,HTT.out,hh]; rfl
    go_wp2;go_ret;exact ⟨by rw [HN.out]; rfl,HB2.out⟩
   | false =>
    have HP2:Hid ((L.drop (k + 1)).any (p8 out x.e.name f)=L.any (p8 out x.e.name f)):=by show _=_; rw [HD2.out,HTT.out,hh]; rfl
    go_wp2;go_roundw;case rel=>exact ⟨k + 1,by omega,by go_num,HP2,HB2,HC2⟩
    case measure=>simp [intOf] <;> omega
  ·have HN:Hid (eO ts out x.e.over x.e.name f=false):=by show _=_; rw [HL.out,← HP.out,List.drop_of_length_le (by omega)]; rfl
   go_wp2;go_ret;exact ⟨by rw [HN.out]; rfl,HB.out⟩
end
end Go.Proofs.YtdaoiceeidoehaaGreat
