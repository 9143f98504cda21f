/- What the program's tables and the document's strata ask: the same questions; how many facts there may be; the program's rounds over fewer users. -/
import Derived.Test.YtogjfppkbkgaeaaGreatJ7
import Derived.Test.YtogjfppkbkgaeaaGreatDataOf
import Derived.Test.YtogjfppkbkgaeaaGreatJ8
import Derived.Test.YtogjfppkbkgaeaaGreatJ10
import Derived.BigQuiet
import Derived.WalkSmall
namespace Go.Proofs.YtogjfppkbkgaeaaGreat
set_option linter.unusedVariables false
open Go.ChangeShapes Go.WideShapes Go.ChangeAt Go.RowKit Go.Maps
open Pl
def thisT (known:List Fc) (f:Fc) (t:Tp):Bool:=if t.s.toList.isEmpty then t.c.toList == f.c.toList && t.d.toList == f.d.toList else hasF known ⟨t.c,t.d,t.s,f.c,f.d⟩
def overT (known:List Fc) (name:ByteArray) (f:Fc) (t:Tp):Bool:=hasF known ⟨t.c,t.d,name,f.c,f.d⟩
theorem look_any (l:List Tp) (k:K3) (p:Tp→Bool):(G.lookL (toldE l) k).any p=l.any fun t=>(t.a.toList == k.1.toList && t.b.toList == k.2.1.toList && t.r.toList == k.2.2.toList) && p t:=by
 induction l with
 | nil=>rfl
 | cons t l ih =>
  have e:toldE (t::l)=[(plK t,t)] ++ toldE l:=rfl
  rw [e,G.lookL_append,List.any_append,ih,List.any_cons]
  congr 1
  unfold G.lookL plK
  by_cases h:(t.a,t.b,t.r)=k
  ·subst h; simp
  ·have h2:(t.a.toList == k.1.toList && t.b.toList == k.2.1.toList && t.r.toList == k.2.2.toList)=false:=by
    cases hb:(t.a.toList == k.1.toList && t.b.toList == k.2.1.toList && t.r.toList == k.2.2.toList) with
    | false=>rfl
    | true=>rw [Bool.and_eq_true,Bool.and_eq_true,ba_beq,ba_beq,ba_beq] at hb; exact absurd (Prod.ext hb.1.1 (Prod.ext hb.1.2 hb.2)) h
   simp [h,h2]
theorem thisB_look (l:List Tp) (known:List Fc) (f:Fc):thisB l known f=(G.lookL (toldE l) (f.a,f.b,f.r)).any (thisT known f):=by rw [look_any]; rfl
theorem overB_look (l:List Tp) (known:List Fc) (over name:ByteArray) (f:Fc):overB l known over name f=(G.lookL (toldE l) (f.a,f.b,over)).any (overT known name f):=by rw [look_any]; rfl
theorem lvl_look1 (st:ByteArray × ByteArray→Int) (n:Int) (o:Al) (tn:ByteArray) (rows:List RR):((rows.map fun r=>(tn,r.name)).filter fun k=>k.1.toList == o.t.toList && decide (st k=n))=(G.lookL (rows.map fun r=>((tn,st (tn,r.name)),r)) (o.t,n)).map fun r=>(o.t,r.name):=by
 induction rows with
 | nil=>rfl
 | cons r rows ih =>
  have e:((r::rows).map fun r=>((tn,st (tn,r.name)),r))=[((tn,st (tn,r.name)),r)] ++ rows.map fun r=>((tn,st (tn,r.name)),r):=rfl
  rw [e,G.lookL_append,List.map_append,← ih,List.map_cons,List.filter_cons]
  unfold G.lookL
  by_cases h:tn=o.t∧st (tn,r.name)=n
  ·obtain ⟨rfl,rfl⟩:=h
   simp
  ·have h1:(tn.toList == o.t.toList && decide (st (tn,r.name)=n))=false:=by
    cases hb:(tn.toList == o.t.toList && decide (st (tn,r.name)=n)) with
    | false=>rfl
    | true=>rw [Bool.and_eq_true,ba_beq,decide_eq_true_eq] at hb; exact absurd hb h
   have h2:¬ ((tn,st (tn,r.name))=(o.t,n)):=fun e=>h ⟨congrArg Prod.fst e,congrArg Prod.snd e⟩
   simp [h1,h2]
theorem lvl_look (st:ByteArray × ByteArray→Int) (n:Int) (o:Al) (rs:List TR):askR (tys rs) st n o=(G.lookL (lvlE st rs) (o.t,n)).map fun r=>(o.t,r.name):=by
 unfold askR
 induction rs with
 | nil=>rfl
 | cons t rs ih =>
  have e1:ents (tys (t::rs))=(t.rows.map fun r=>(t.name,r.name)) ++ ents (tys rs):=by
   have:entsT t.p=t.rows.map fun r=>(t.name,r.name):=by unfold entsT; show List.map _ (rls t.rows)=_; unfold rls; rw [List.map_map]; rfl
   simp [ents,tys,this]
  have e2:lvlE st (t::rs)=(t.rows.map fun r=>((t.name,st (t.name,r.name)),r)) ++ lvlE st rs:=rfl
  rw [e1,e2,G.lookL_append,List.filter_append,List.map_append,ih,lvl_look1]
theorem strAt_self {s:St}:∀ {sts:List St},(keysS sts).Nodup→s ∈ sts→strAt sts s.key=s.n
 | [],_,h=>by cases h
 | x::xs,hd,h=>by
  have hd2:x.key ∉ keysS xs∧(keysS xs).Nodup:=List.nodup_cons.1 hd
  unfold strAt
  by_cases e:isSt x s.key.1 s.key.2=true
  ·rw [if_pos e]
   have ek:=isSt_iff.1 e
   rcases List.mem_cons.1 h with rfl | h
   ·rfl
   ·exact absurd (by rw [ek]; exact List.mem_map_of_mem h) hd2.1
  ·rw [if_neg e]
   rcases List.mem_cons.1 h with rfl | h
   ·exact absurd (isSt_iff.2 rfl) e
   ·exact strAt_self hd2.2 h
def askS (sts:List St) (n:Int) (o:Al):List St:=sts.filter fun s=>s.typ.toList == o.t.toList && decide (s.n=n)
theorem askS_is {ts:List Ty} {sts:List St} (hk:keysS sts=ents ts) (hn:(ents ts).Nodup) (n:Int) (o:Al):askR ts (strAt sts) n o=(askS sts n o).map St.key:=by
 unfold askR askS
 rw [← hk]
 rw [← hk] at hn
 unfold keysS
 rw [List.filter_map]
 congr 1
 refine List.filter_congr fun s hs=>?_
 show (s.key.1.toList == o.t.toList && decide (strAt sts s.key=n))=_
 rw [strAt_self hn hs]
 rfl
theorem ents_nodup {rs:List TR} (h:shapeB (tys rs)=true):(ents (tys rs)).Nodup:=by
 have e:ents (tys rs)=rs.flatMap fun t=>t.rows.map fun r=>(t.name,r.name):=by
  unfold ents tys
  rw [List.flatMap_map]
  congr 1
  funext t
  unfold entsT
  show List.map _ (rls t.rows)=_
  unfold rls; rw [List.map_map]; rfl
 rw [e,List.Nodup,List.pairwise_flatMap]
 constructor
 ·intro t ht
  obtain ⟨i,hi,rfl⟩:=List.mem_iff_getElem.1 ht
  have hu:=(shape_typ h i hi).2.2
  rw [List.pairwise_map,List.pairwise_iff_getElem]
  intro a b ha hb hab e
  have hne:=rising_ne (f:=fun k=>(rs[i].rows[k]?.map RR.name).getD ByteArray.empty) (n:=rs[i].rows.length) (fun k hk=>by
   have h0:k < rs[i].rows.length:=by omega
   simp only [List.getElem?_eq_getElem hk,List.getElem?_eq_getElem h0,Option.map_some,Option.getD_some]
   exact (shape_rel hu (k + 1) hk hk).2.1 k h0 rfl)
  have:=hne a b hab hb
  simp [ha,hb] at this
  exact this (congrArg Prod.snd e)
 ·rw [List.pairwise_iff_getElem]
  intro a b ha hb hab x hx y hy e
  obtain ⟨r,hr,rfl⟩:=List.mem_map.1 hx
  obtain ⟨q,hq,rfl⟩:=List.mem_map.1 hy
  have hne:=rising_ne (f:=fun k=>(rs[k]?.map TR.name).getD ByteArray.empty) (n:=rs.length) (fun k hk=>by
   have h0:k < rs.length:=by omega
   simp only [List.getElem?_eq_getElem hk,List.getElem?_eq_getElem h0,Option.map_some,Option.getD_some]
   exact (shape_typ h (k + 1) hk).2.1 k h0 rfl)
  have:=hne a b hab hb
  simp [ha,hb] at this
  exact this (congrArg Prod.fst e)
theorem nodup_le {α:Type} [DecidableEq α]:∀ {a b:List α},a.Nodup→(∀ x ∈ a,x ∈ b)→a.length≤b.length
 | [],_,_,_=>Nat.zero_le _
 | x::a,b,hd,hs=>by
  obtain ⟨h1,h2⟩:=List.nodup_cons.1 hd
  have hx:=hs x (by simp)
  have:=nodup_le (a:=a) (b:=b.erase x) h2 fun y hy=>(List.mem_erase_of_ne (fun e:y=x=>h1 (by rw [← e]; exact hy))).2 (hs y (by simp [hy]))
  rw [List.length_erase_of_mem hx] at this
  have hp:0 < b.length:=List.length_pos_of_mem hx
  simp only [List.length_cons]
  omega
def allQ (ts:List Ty) (xo xu:List Al):List Fc:=xo.flatMap fun o=>(ents ts).flatMap fun k=>askU o k.2 xu
theorem quest_sub {ts:List Ty} {st:ByteArray × ByteArray→Int} {xo xu:List Al} {n:Int} {f:Fc} (h:f ∈ quest ts st xo xu n):f ∈ allQ ts xo xu:=by
 unfold quest askO at h
 obtain ⟨o,ho,h⟩:=List.mem_flatMap.1 h
 obtain ⟨k,hk,h⟩:=List.mem_flatMap.1 h
 exact List.mem_flatMap.2 ⟨o,ho,List.mem_flatMap.2 ⟨k,(List.mem_filter.1 hk).1,h⟩⟩
theorem flat_len {α β:Type} (f:α→List β) (m:Nat) (hf:∀ a,(f a).length≤m):∀ l:List α,(l.flatMap f).length≤l.length * m
 | []=>by simp
 | a::l=>by
  have h1:=flat_len f m hf l
  have h2:=hf a
  simp only [List.flatMap_cons,List.length_append,List.length_cons,Nat.add_mul]
  omega
theorem allQ_len (ts:List Ty) (xo xu:List Al):(allQ ts xo xu).length≤xo.length * ((ents ts).length * xu.length) :=
 flat_len _ _ (fun o=>flat_len _ _ (fun k=>by unfold askU; rw [List.length_map]; exact Nat.le_refl _) _) _
structure GoodO (ts:List Ty) (xo xu:List Al) (out:List Fc):Prop where
 once:out.Nodup
 sub:∀ g ∈ out,g ∈ allQ ts xo xu
def prs (us:List Al):List (ByteArray × ByteArray):=us.map fun u=>(u.t,u.s)
def inP (us:List Al) (x:ByteArray × ByteArray):Bool:=us.any fun u=>u.t.toList == x.1.toList && u.s.toList == x.2.toList
theorem inP_iff {us:List Al} {x:ByteArray × ByteArray}:inP us x=true ↔ x ∈ prs us:=by
 unfold inP prs
 rw [List.any_eq_true,List.mem_map]
 constructor
 ·rintro ⟨u,hu,h⟩
  rw [Bool.and_eq_true,ba_beq,ba_beq] at h
  exact ⟨u,hu,Prod.ext h.1 h.2⟩
 ·rintro ⟨u,hu,rfl⟩
  exact ⟨u,hu,by simp⟩
def keepU (us:List Al) (new:List Fc):List Al:=us.filter fun u=>new.any fun g=>g.c.toList == u.t.toList && g.d.toList == u.s.toList
theorem mem_keepU {us:List Al} {new:List Fc} {x:ByteArray × ByteArray}:x ∈ prs (keepU us new) ↔ x ∈ prs us∧∃ g ∈ new,g.u=x:=by
 unfold prs keepU
 constructor
 ·intro h
  obtain ⟨u,hu,rfl⟩:=List.mem_map.1 h
  obtain ⟨h1,h2⟩:=List.mem_filter.1 hu
  obtain ⟨g,hg,h3⟩:=List.any_eq_true.1 h2
  rw [Bool.and_eq_true,ba_beq,ba_beq] at h3
  exact ⟨List.mem_map_of_mem (f:=fun u:Al=>(u.t,u.s)) h1,g,hg,Prod.ext h3.1 h3.2⟩
 ·rintro ⟨h,g,hg,hx⟩
  obtain ⟨u,hu,rfl⟩:=List.mem_map.1 h
  refine List.mem_map.2 ⟨u,List.mem_filter.2 ⟨hu,List.any_eq_true.2 ⟨g,hg,?_⟩⟩,rfl⟩
  rw [Bool.and_eq_true,ba_beq,ba_beq]
  exact ⟨congrArg Prod.fst hx,congrArg Prod.snd hx⟩
theorem keepU_none (us:List Al):keepU us []=[]:=by unfold keepU; rw [List.filter_eq_nil_iff]; simp
theorem quest_same {ts:List Ty} {xo xu:List Al} {n:Int} {st st':ByteArray × ByteArray→Int} (h:∀ k ∈ ents ts,st k=st' k):quest ts st xo xu n=quest ts st' xo xu n:=by
 unfold quest askO
 congr 1
 funext o
 have:askR ts st n o=askR ts st' n o:=List.filter_congr fun k hk=>by rw [h k hk]
 rw [this]
set_option linter.unusedSectionVars false
section
variable [DecidableEq Fc]
theorem GoodO.run {ts:List Ty} {xo xu:List Al} {out:List Fc} (h:GoodO ts xo xu out) {H:List Fc→Fc→Bool} {qs:List Fc} (hq:∀ g ∈ qs,g ∈ allQ ts xo xu):GoodO ts xo xu (runF H qs out):=by
 refine ⟨runF_once qs h.once,fun g hg=>?_⟩
 obtain ⟨n,e,hn⟩:=runF_pre (H:=H) qs out
 rw [e] at hg
 rcases List.mem_append.1 hg with hg | hg
 ·exact h.sub g hg
 ·exact hq g (hn g hg).1
theorem GoodO.len {ts:List Ty} {xo xu:List Al} {out:List Fc} (h:GoodO ts xo xu out) (h1:xo.length≤80) (h2:(ents ts).length≤36) (h3:xu.length≤40):out.length≤115200:=by
 have a1:=nodup_le h.once h.sub
 have a2:=allQ_len ts xo xu
 have a3:(ents ts).length * xu.length≤36 * 40:=Nat.mul_le_mul h2 h3
 have a4:xo.length * ((ents ts).length * xu.length)≤80 * (36 * 40):=Nat.mul_le_mul h1 a3
 omega
structure FewA (ts:List Ty) (l:List Tp) (st:ByteArray × ByteArray→Int) (xo xu:List Al) (n:Int) (us:List Al) (out:List Fc):Prop where
 sub:us=xu.filter fun u:Al=>inP us (u.t,u.s)
 few:Few Fc.u (holdF ts l) (quest ts st xo xu n) (prs us) out
variable {ts:List Ty} {l:List Tp} {st:ByteArray × ByteArray→Int} {xo xu:List Al} {n:Int}
theorem FewA.start (out:List Fc):FewA ts l st xo xu n xu out:=by
 refine ⟨(List.filter_eq_self.2 fun u hu=>inP_iff.2 (List.mem_map_of_mem (f:=fun u:Al=>(u.t,u.s)) hu)).symm,Few.start fun f hf=>quest_user hf⟩
theorem few_roundP {φ υ:Type} [DecidableEq φ] {us:φ→υ} {H:List φ→φ→Bool} (hL:Loc us H) {qs:List φ} {users:List υ} {out:List φ} (h:Few us H qs users out) (P:υ→Bool) (hP:∀ u,P u=true ↔ u ∈ users):runF H (qs.filter fun f=>P (us f)) out=runF H qs out :=
 (runF_filter hL P qs out fun f hf hp=>h.set f hf fun hm=>by rw [(hP _).2 hm] at hp; cases hp).symm
theorem FewA.round {us:List Al} {out:List Fc} (h:FewA ts l st xo xu n us out):runF (holdF ts l) (quest ts st xo us n) out=runF (holdF ts l) (quest ts st xo xu n) out:=by
 have h2:=quest_fewer ts st xo xu n (inP us)
 rw [← h.sub] at h2
 rw [← h2]
 exact few_roundP (holdF_loc ts l) h.few (inP us) fun u=>inP_iff
theorem FewA.next {us:List Al} {out new:List Fc} (h:FewA ts l st xo xu n us out) (hn:runF (holdF ts l) (quest ts st xo us n) out=out ++ new):FewA ts l st xo xu n (keepU us new) (out ++ new):=by
 refine ⟨?_,h.few.next (holdF_loc ts l) (h.round.symm.trans hn) fun u=>mem_keepU⟩
 have h1:keepU us new=(xu.filter fun u:Al=>inP us (u.t,u.s)).filter fun u=>new.any fun g=>g.c.toList == u.t.toList && g.d.toList == u.s.toList:=by rw [← h.sub]; rfl
 rw [List.filter_filter] at h1
 refine h1.trans (List.filter_congr fun u hu=>?_)
 rw [Bool.eq_iff_iff,inP_iff,mem_keepU,Bool.and_eq_true,inP_iff,List.any_eq_true,and_comm]
 refine and_congr Iff.rfl ⟨fun ⟨g,hg,h3⟩=>⟨g,hg,?_⟩,fun ⟨g,hg,h3⟩=>⟨g,hg,?_⟩⟩
 ·rw [Bool.and_eq_true,ba_beq,ba_beq] at h3
  exact Prod.ext h3.1 h3.2
 ·rw [Bool.and_eq_true,ba_beq,ba_beq]
  exact ⟨congrArg Prod.fst h3,congrArg Prod.snd h3⟩
theorem FewA.done {out:List Fc} (h:FewA ts l st xo xu n [] out):limF (holdF ts l) (quest ts st xo xu n) out=out:=h.few.done
theorem allF_same {st st':ByteArray × ByteArray→Int} (h:∀ k ∈ ents ts,st k=st' k):∀ N,allF ts l st xo xu N=allF ts l st' xo xu N
 | 0=>rfl
 | N + 1=>by rw [allF_succ,allF_succ,allF_same h N,quest_same h]
end
end Go.Proofs.YtogjfppkbkgaeaaGreat
namespace Go.Proofs.YtogjfppkbkgaeaaGreat
open Go.ChangeShapes Go.WideShapes Go.ChangeAt Go.RowKit Go.Maps
open Pl
set_option maxRecDepth 8000 in
set_option maxHeartbeats 2000000 in
theorem l4Has_any (ad:Option Addr) (cap:Nat) (ts:List Fc) (t:Fc) (w:World) (hlen:ts.length≤1048576) (hs:SlF w ad ts) :
  Calls Tryz.prog 49 #[.slice ad ts.length cap,.agg #[.string t.a,.string t.b,.string t.r,.string t.c,.string t.d]] w fun e w'=>e=.returned (.bool (hasF ts t))∧Below w.heap.size w w':=by
 have HS:Hid (SlF w ad ts):=hs
 clear hs
 obtain ⟨W0,hW0⟩:∃ W0,W0=w.alloc (.cells #[.string t.a,.string t.b,.string t.r,.string t.c,.string t.d] 47):=⟨_,rfl⟩
 have HB0:Hid (Below w.heap.size w W0):=by show Below _ _ _; rw [hW0]; exact (Below.refl _ _).alloc (Nat.le_refl _) _
 have HX0:Hid (W0.cell? ⟨w.heap.size,0,none⟩=some (.string t.a)∧W0.cell? ⟨w.heap.size,1,none⟩=some (.string t.b)∧W0.cell? ⟨w.heap.size,2,none⟩=some (.string t.r)∧W0.cell? ⟨w.heap.size,3,none⟩=some (.string t.c)∧W0.cell? ⟨w.heap.size,4,none⟩=some (.string t.d)∧w.heap.size < W0.heap.size):=by show _∧_; rw [hW0]; refine ⟨?_,?_,?_,?_,?_,?_⟩ <;> simp
 go_enter Tryz.func49,Tryz.ntmps49
 go_wp2
 rw [← hW0]
 clear hW0
 go_loopw [5] (fun i wr=>∃ k:Nat,k≤ts.length∧i=.int .i64 k∧Hid (hasF (ts.drop k) t=hasF ts t)∧Hid (Below W0.heap.size W0 wr)) (fun i _=>ts.length - (intOf i).toNat)
 case atStart=>exact ⟨0,Nat.zero_le _,rfl,rfl,Below.refl _ _⟩
 case round =>
  obtain ⟨k,hk,rfl,HP,HB⟩:=hrel
  have HBW:Hid (Below w.heap.size w wr):=HB0.out.trans (HB.out.mono HB0.out.size)
  by_cases hlt:k < ts.length
  ·rcases HS.out.below HBW.out with hnil | ⟨b,off,rfl,hb,hr⟩
   ·rw [hnil] at hlt; simp at hlt
   obtain ⟨t0,t1,t2,t3,t4⟩:=hr k hlt
   have x0:=mK HB.out HX0.out.2.2.2.2.2 HX0.out.1
   have x1:=mK HB.out HX0.out.2.2.2.2.2 HX0.out.2.1
   have x2:=mK HB.out HX0.out.2.2.2.2.2 HX0.out.2.2.1
   have x3:=mK HB.out HX0.out.2.2.2.2.2 HX0.out.2.2.2.1
   have x4:=mK HB.out HX0.out.2.2.2.2.2 HX0.out.2.2.2.2.1
   have hk1:(0:Int)≤(k:Int):=by omega
   have hk2:(k:Int) < (ts.length:Int):=by omega
   have HD:Hid (hasF ts t=(fcEq ts[k] t || hasF (ts.drop (k + 1)) t)):=by show _=_; rw [← HP.out]; exact hasF_drop hlt
   clear hr
   cases hq:fcEq ts[k] t with
   | true =>
    have heq:=fc_eql ts[k] t hq
    have HN:Hid (hasF ts t=true):=by show _=_; rw [HD.out,hq]; rfl
    clear hq
    go_wp2_with fail
    go_region_held3 (fun w'=>w'.cell? ⟨b,off + k * 5,none⟩=some (.string ts[k].a)∧w'.cell? ⟨b,off + k * 5 + 1,none⟩=some (.string ts[k].b)∧w'.cell? ⟨b,off + k * 5 + 2,none⟩=some (.string ts[k].r)∧w'.cell? ⟨b,off + k * 5 + 3,none⟩=some (.string ts[k].c)∧w'.cell? ⟨b,off + k * 5 + 4,none⟩=some (.string ts[k].d)∧w'.cell? ⟨w.heap.size,0,none⟩=some (.string t.a)∧w'.cell? ⟨w.heap.size,1,none⟩=some (.string t.b)∧w'.cell? ⟨w.heap.size,2,none⟩=some (.string t.r)∧w'.cell? ⟨w.heap.size,3,none⟩=some (.string t.c)∧w'.cell? ⟨w.heap.size,4,none⟩=some (.string t.d)∧Below wr.heap.size wr w') (first | assumption | exact ⟨t0,t1,t2,t3,t4,x0,x1,x2,x3,x4,(Below.refl _ _).drew⟩) (fail)
    rename_i hH
    have HG:Hid (Below wr.heap.size wr _):=hH.2.2.2.2.2.2.2.2.2.2
    clear hH t0 t1 t2 t3 t4 x0 x1 x2 x3 x4 heq
    go_wp2
    go_ret
    exact ⟨by rw [HN.out]; rfl,HBW.out.trans (HG.out.mono HBW.out.size)⟩
   | false =>
    have heq:=fc_eql ts[k] t hq
    have HP2:Hid (hasF (ts.drop (k + 1)) t=hasF ts t):=by show _=_; rw [HD.out,hq]; rfl
    clear hq
    go_wp2_with fail
    go_region_held3 (fun w'=>w'.cell? ⟨b,off + k * 5,none⟩=some (.string ts[k].a)∧w'.cell? ⟨b,off + k * 5 + 1,none⟩=some (.string ts[k].b)∧w'.cell? ⟨b,off + k * 5 + 2,none⟩=some (.string ts[k].r)∧w'.cell? ⟨b,off + k * 5 + 3,none⟩=some (.string ts[k].c)∧w'.cell? ⟨b,off + k * 5 + 4,none⟩=some (.string ts[k].d)∧w'.cell? ⟨w.heap.size,0,none⟩=some (.string t.a)∧w'.cell? ⟨w.heap.size,1,none⟩=some (.string t.b)∧w'.cell? ⟨w.heap.size,2,none⟩=some (.string t.r)∧w'.cell? ⟨w.heap.size,3,none⟩=some (.string t.c)∧w'.cell? ⟨w.heap.size,4,none⟩=some (.string t.d)∧Below wr.heap.size wr w') (first | assumption | exact ⟨t0,t1,t2,t3,t4,x0,x1,x2,x3,x4,(Below.refl _ _).drew⟩) (fail)
    rename_i hH
    have HG:Hid (Below W0.heap.size W0 _):=HB.out.trans (hH.2.2.2.2.2.2.2.2.2.2.mono HB.out.size)
    clear hH t0 t1 t2 t3 t4 x0 x1 x2 x3 x4 heq
    go_wp2
    go_roundw
    case rel=>exact ⟨k + 1,by omega,by go_num,HP2,HG⟩
    case measure=>first | (simp [intOf]; done) | (simp [intOf]; omega)
  ·have HN:Hid (hasF ts t=false):=by show _=_; rw [← HP.out,List.drop_of_length_le (by omega)]; rfl
   go_wp2
   go_ret
   exact ⟨by rw [HN.out]; rfl,HBW.out⟩
end Go.Proofs.YtogjfppkbkgaeaaGreat
namespace Go.Proofs.YtogjfppkbkgaeaaGreat
set_option linter.unusedVariables false
open Go.ChangeShapes Go.WideShapes Go.ChangeAt Go.RowKit Go.Maps
open Pl
theorem toHF {p:Prop} (h:p):Hid p:=h
structure HW (w:World) (adT:Option Addr) (ts:List Tp) (adE:Option Addr) (rows:List ER) (adK:Option Addr) (known:List Fc) (adR:Option Addr) (truth:List Fc):Prop where
 tup:Sl w adT ts
 ex:SlE w adE rows
 kn:SlF w adK known
 tr:SlF w adR truth
theorem HW.below {w w':World} {adT:Option Addr} {ts:List Tp} {adE:Option Addr} {rows:List ER} {adK:Option Addr} {known:List Fc} {adR:Option Addr} {truth:List Fc} (h:HW w adT ts adE rows adK known adR truth) (hB:Below w.heap.size w w'):HW w' adT ts adE rows adK known adR truth :=
 ⟨h.tup.below hB,h.ex.below hB,h.kn.below hB,h.tr.below hB⟩
def ob2 (a b c d:ByteArray):Bool:=a.toList == c.toList && b.toList == d.toList
theorem obj2_eql (a b c d:ByteArray) {v:Bool} (h:ob2 a b c d=v) (w:World) :
  (binOp .eql 45 (.agg #[.string a,.string b]) (.agg #[.string c,.string d])).run Tryz.prog w=.ok (.bool v) w:=by
 subst h
 go_simp
 unfold ob2
 (repeat' split) <;> simp_all
theorem obj2_neq (a b c d:ByteArray) {v:Bool} (h:ob2 a b c d=v) (w:World) :
  (binOp .neq 45 (.agg #[.string a,.string b]) (.agg #[.string c,.string d])).run Tryz.prog w=.ok (.bool (!v)) w:=by
 subst h
 go_simp
 unfold ob2
 (repeat' split) <;> simp_all
theorem SlE.at0 {w:World} {ad:Option Addr} {rs:List ER} (h:SlE w ad rs) {k:Nat} (hk:k < rs.length):∃ b off,ad=some ⟨b,off,none⟩∧At5 w b (off + k * 5) rs[k]∧b < w.heap.size∧rs[k].ok w:=by
 rcases h with h | ⟨b',off',e,hb,hr,hok⟩
 ·rw [h] at hk; simp at hk
 ·exact ⟨b',off',e,hr k hk,hb,hok _ (List.getElem_mem hk)⟩
theorem Sl.at0 {w:World} {ad:Option Addr} {ts:List Tp} (h:Sl w ad ts) {k:Nat} (hk:k < ts.length):∃ b off,ad=some ⟨b,off,none⟩∧At6 w b (off + k * 6) ts[k]∧b < w.heap.size:=by
 rcases h with h | ⟨b',off',e,hb,hr⟩
 ·rw [h] at hk; simp at hk
 ·exact ⟨b',off',e,hr k hk,hb⟩
theorem SlI.at0 {w:World} {ad:Option Addr} {zs:List Int} (h:SlI w ad zs) {k:Nat} (hk:k < zs.length):∃ b off,ad=some ⟨b,off,none⟩∧w.cell? ⟨b,off + k,none⟩=some (.int .i64 zs[k])∧b < w.heap.size:=by
 rcases h with h | ⟨b',off',e,hb,hr⟩
 ·rw [h] at hk; simp at hk
 ·exact ⟨b',off',e,hr k hk,hb⟩
def enW (w:World) (f:Fc) (x:ER):World:=(w.alloc (.cells #[.string f.a,.string f.b,.string f.r,.string f.c,.string f.d] 47)).alloc (.cells #[.int .i64 x.e.kind,.slice x.adA x.e.allow.length x.capA,.string x.e.over,.string x.e.name,.slice x.adK x.e.kids.length x.capK] 154)
theorem enW_below (w:World) (f:Fc) (x:ER):Below w.heap.size w (enW w f x):=by
 unfold enW
 exact ((Below.refl _ _).alloc (Nat.le_refl _) _).alloc (by simp) _
structure EnB (w:World) (B:Nat) (f:Fc) (x:ER):Prop where
 lt:B + 1 < w.heap.size
 f0:w.cell? ⟨B,0,none⟩=some (.string f.a)
 f1:w.cell? ⟨B,1,none⟩=some (.string f.b)
 f2:w.cell? ⟨B,2,none⟩=some (.string f.r)
 f3:w.cell? ⟨B,3,none⟩=some (.string f.c)
 f4:w.cell? ⟨B,4,none⟩=some (.string f.d)
 x0:w.cell? ⟨B + 1,0,none⟩=some (.int .i64 x.e.kind)
 x1:w.cell? ⟨B + 1,1,none⟩=some (.slice x.adA x.e.allow.length x.capA)
 x2:w.cell? ⟨B + 1,2,none⟩=some (.string x.e.over)
 x3:w.cell? ⟨B + 1,3,none⟩=some (.string x.e.name)
 x4:w.cell? ⟨B + 1,4,none⟩=some (.slice x.adK x.e.kids.length x.capK)
theorem EnB.below {w w':World} {B:Nat} {f:Fc} {x:ER} (h:EnB w B f x) (hB:Below w.heap.size w w'):EnB w' B f x:=by
 have h0:B < w.heap.size:=by have:=h.lt; omega
 have c0:∀ o,w'.cell? ⟨B,o,none⟩=w.cell? ⟨B,o,none⟩:=fun o=>hB.cell (p:=⟨B,o,none⟩) h0
 have c1:∀ o,w'.cell? ⟨B + 1,o,none⟩=w.cell? ⟨B + 1,o,none⟩:=fun o=>hB.cell (p:=⟨B + 1,o,none⟩) h.lt
 exact ⟨Nat.lt_of_lt_of_le h.lt hB.size,(c0 _).trans h.f0,(c0 _).trans h.f1,(c0 _).trans h.f2,(c0 _).trans h.f3,(c0 _).trans h.f4,(c1 _).trans h.x0,(c1 _).trans h.x1,(c1 _).trans h.x2,(c1 _).trans h.x3,(c1 _).trans h.x4⟩
theorem enW_boxes (w:World) (f:Fc) (x:ER):EnB (enW w f x) w.heap.size f x:=by
 unfold enW
 constructor <;> simp
def thisO (known:List Fc) (f:Fc) (t:Tp):Bool:=(t.a.toList == f.a.toList && t.b.toList == f.b.toList && t.r.toList == f.r.toList) && (if t.s.toList.isEmpty then t.c.toList == f.c.toList && t.d.toList == f.d.toList else hasF known ⟨t.c,t.d,t.s,f.c,f.d⟩)
theorem thisB_drop {ts:List Tp} {k:Nat} (h:k < ts.length) (known:List Fc) (f:Fc):thisB (ts.drop k) known f=(thisO known f ts[k] || thisB (ts.drop (k + 1)) known f):=by
 unfold thisB; rw [List.drop_eq_getElem_cons h]; rfl
def overO (known:List Fc) (over name:ByteArray) (f:Fc) (t:Tp):Bool:=(t.a.toList == f.a.toList && t.b.toList == f.b.toList && t.r.toList == over.toList) && hasF known ⟨t.c,t.d,name,f.c,f.d⟩
theorem overB_drop {ts:List Tp} {k:Nat} (h:k < ts.length) (known:List Fc) (over name:ByteArray) (f:Fc):overB (ts.drop k) known over name f=(overO known over name f ts[k] || overB (ts.drop (k + 1)) known over name f):=by
 unfold overB; rw [List.drop_eq_getElem_cons h]; rfl
theorem str_ne0 {s:ByteArray}:(s.toList == [])=s.toList.isEmpty:=by cases s.toList <;> rfl
end Go.Proofs.YtogjfppkbkgaeaaGreat
namespace Go.Proofs.YtogjfppkbkgaeaaGreat
set_option linter.unusedVariables false
set_option maxRecDepth 100000
open Go.ChangeShapes Go.WideShapes Go.ChangeAt Go.RowKit Go.Maps
open Pl
def KnM (out:List Fc) (f:Fc):Option Value:=if hasF out f then some (.agg #[]) else none
theorem knM_some (out:List Fc) (f:Fc):(KnM out f).isSome=hasF out f:=by unfold KnM; cases hasF out f <;> rfl
theorem knM_val (out:List Fc) (f:Fc):∀ v,KnM out f=some v→v=.agg #[]:=fun v h=>by
 unfold KnM at h; split at h
 ·injection h with h; exact h.symm
 ·cases h
theorem hasK_any (b n:Nat) (out:List Fc) (f:Fc) (w:World) (hf:f.fits) (hV:MapV encF Tryz.prog 47 w b n (KnM out)) :
  Calls Tryz.prog 97 #[.map (some b),.agg #[.string f.a,.string f.b,.string f.r,.string f.c,.string f.d]] w fun e w'=>e=.returned (.bool (hasF out f))∧Below w.heap.size w w':=by
 have h:=factHas_any b n (KnM out) f w hf hV (knM_val out f)
 rw [knM_some] at h
 exact h
theorem told_row {w:World} {bp np:Nat} {Mp:K3→Option Value} {E:List (K3 × Tp)} (h:G.Grp encP Tryz.prog 162 73 6 Tp.row w bp np Mp E) (k:K3):∃ ad cap,(Mp k).getD (.slice none 0 0)=.slice ad (G.lookL E k).length cap∧Sl w ad (G.lookL E k):=by
 obtain ⟨ad,cap,e,hs,-⟩:=ownsT (ts:=G.lookL E k) (grpT_row0 h k) rfl
 exact ⟨ad,cap,e,hs⟩
theorem anyT_drop (p:Tp→Bool) {ts:List Tp} {k:Nat} (h:k < ts.length):(ts.drop k).any p=(p ts[k] || (ts.drop (k + 1)).any p):=by rw [List.drop_eq_getElem_cons h]; rfl
theorem look_mem {ts:List Tp} {k:K3} {t:Tp} (h:t ∈ G.lookL (toldE ts) k):t ∈ ts:=by
 have:=G.mem_lookL.1 h
 unfold toldE at this
 obtain ⟨x,hx,e⟩:=List.mem_map.1 this
 injection e with e1 e2
 rw [← e2]; exact hx
theorem look_len (ts:List Tp) (k:K3):(G.lookL (toldE ts) k).length≤ts.length:=by
 unfold G.lookL toldE
 exact Nat.le_trans (List.length_filterMap_le _ _) (by simp)
section
variable {w:World} {rs:List TR} {D br bp bt bK nK:Nat} {n1:Int} {nr:Nat} {Mr:KL→Option Value} {Er:List (KL × RR)} {ts:List Tp} {xo xu:List Al} {np:Nat} {Mp:K3→Option Value} {vo vu:Value} {out:List Fc} {f:Fc}
set_option maxHeartbeats 4000000 in
theorem thisHolds_any (hD:DatA w rs D br bp bt n1 nr Mr Er (toldE ts) xo xu np Mp vo vu) (hK:MapV encF Tryz.prog 47 w bK nK (KnM out)) (hf:f.fits) (hts:∀ t ∈ ts,t.fits) (htl:ts.length≤1000) :
  Calls Tryz.prog 164 #[.pointer (some ⟨D,0,none⟩),.agg #[.string f.a,.string f.b,.string f.r,.string f.c,.string f.d],.map (some bK)] w fun e w'=>e=.returned (.bool (thisB ts out f))∧Below w.heap.size w w':=by
 obtain ⟨kl,hkl⟩:=plKeyOf (f.a,f.b,f.r) hf.1 hf.2.1 hf.2.2.1
 obtain ⟨adL,capL,hgd,hsl⟩:=told_row hD.dat.told (f.a,f.b,f.r)
 have HL:=toHF (thisB_look ts out f)
 have hll:=look_len ts (f.a,f.b,f.r)
 have HFL:Hid (∀ t ∈ G.lookL (toldE ts) (f.a,f.b,f.r),t.fits):=fun t ht=>hts t (look_mem ht)
 obtain ⟨L,hLe⟩:∃ L,L=G.lookL (toldE ts) (f.a,f.b,f.r):=⟨_,rfl⟩
 rw [← hLe] at hgd hsl HL hll HFL
 obtain ⟨W0,hW0⟩:∃ W0,W0=w.alloc (.cells #[.string f.a,.string f.b,.string f.r,.string f.c,.string f.d] 47):=⟨_,rfl⟩
 have HB0:Hid (Below w.heap.size w W0):=by show Below _ _ _; rw [hW0]; exact (Below.refl _ _).alloc (Nat.le_refl _) _
 have c0:W0.cell? ⟨w.heap.size,0,none⟩=some (.string f.a):=by rw [hW0]; simp
 have c1:W0.cell? ⟨w.heap.size,1,none⟩=some (.string f.b):=by rw [hW0]; simp
 have c2:W0.cell? ⟨w.heap.size,2,none⟩=some (.string f.r):=by rw [hW0]; simp
 have c3:W0.cell? ⟨w.heap.size,3,none⟩=some (.string f.c):=by rw [hW0]; simp
 have c4:W0.cell? ⟨w.heap.size,4,none⟩=some (.string f.d):=by rw [hW0]; simp
 have d3:=HB0.out.cell (p:=⟨D,3,none⟩) hD.dat.lt |>.trans hD.dat.c3
 have hlk:∀ m,(Instr.lookup 109 (.map (some bp)) (.agg #[.string f.a,.string f.b,.string f.r]) false).run Tryz.prog (W0.drewN m)=.ok (.slice adL L.length capL) (W0.drewN m):=fun m=>by
  have h:=((hD.dat.told.map.below HB0.out).below (below_drewN (Below.refl _ _) m)).look (t:=109) (e:=30) plLaw Tryz.underlying109 (zeroTs _) (x:=(f.a,f.b,f.r)) hkl
  rw [hgd] at h
  exact h
 have HSL:=toHF hsl
 have HKN:=toHF hK
 have HF:=toHF hf
 have HC0:Hid (W0.cell? ⟨w.heap.size,3,none⟩=some (.string f.c)∧W0.cell? ⟨w.heap.size,4,none⟩=some (.string f.d)∧w.heap.size < W0.heap.size):=⟨c3,c4,by rw [hW0]; simp⟩
 clear hsl hK hf hLe hgd hkl
 go_enter Tryz.func164,Tryz.ntmps164
 go_wp2_with fail
 rw [← hW0]
 clear hW0
 go_quiet (fail)
 clear c0 c1 c2 c3 c4 d3 hlk
 go_wp2
 go_loopw [20] (fun i wr=>∃ k:Nat,k≤L.length∧i=.int .i64 k∧Hid ((L.drop k).any (thisT out f)=L.any (thisT out f))∧Hid (Below w.heap.size w wr)∧Hid (wr.cell? ⟨w.heap.size,3,none⟩=some (.string f.c)∧wr.cell? ⟨w.heap.size,4,none⟩=some (.string f.d)∧w.heap.size < wr.heap.size)) (fun i _=>L.length - (intOf i).toNat)
 case atStart=>exact ⟨0,Nat.zero_le _,rfl,rfl,below_drewN HB0.out _,HC0⟩
 case round =>
  clear HC0 HB0
  obtain ⟨k,hk,rfl,HP,HB,HC⟩:=hrel
  by_cases hlt:k < L.length
  ·obtain ⟨bT,offT,hadT,⟨a0,a1,a2,a3,a4,a5⟩,hbT⟩:=Sl.at0 (HSL.out.below HB.out) hlt
   obtain ⟨c3,c4,cl⟩:=HC.out
   have hi1:(0:Int)≤(k:Int):=by omega
   have hi2:(k:Int) < (L.length:Int):=by omega
   have HTF:=toHF (HFL.out _ (List.getElem_mem hlt))
   have HD2:Hid (L.any (thisT out f)=(thisT out f L[k] || (L.drop (k + 1)).any (thisT out f))):=by show _=_; rw [← HP.out]; exact anyT_drop _ hlt
   obtain ⟨t,ht⟩:∃ t,t=L[k]:=⟨_,rfl⟩
   rw [← ht] at a0 a1 a2 a3 a4 a5 HTF HD2
   clear ht
   obtain ⟨W1,hW1⟩:∃ W1,W1=wr.alloc (.cells #[.string t.a,.string t.b,.string t.r,.string t.c,.string t.d,.string t.s] 73):=⟨_,rfl⟩
   have HBr:Hid (Below wr.heap.size wr W1):=by show Below _ _ _; rw [hW1]; exact (Below.refl _ _).alloc (Nat.le_refl _) _
   have HB1:=toHF (HB.out.trans (HBr.out.mono HB.out.size))
   have HC1:Hid (W1.cell? ⟨w.heap.size,3,none⟩=some (.string f.c)∧W1.cell? ⟨w.heap.size,4,none⟩=some (.string f.d)∧w.heap.size < W1.heap.size):=⟨mK HBr.out cl c3,mK HBr.out cl c4,Nat.lt_of_lt_of_le cl HBr.out.size⟩
   subst hadT
   cases hs:t.s.toList.isEmpty with
   | true =>
    have hs2:(t.s.toList == [])=true:=by rw [str_ne0]; exact hs
    have HTT:Hid (thisT out f t=ob2 t.c t.d f.c f.d):=by show _=_; unfold thisT; rw [if_pos hs]; rfl
    cases hu:ob2 t.c t.d f.c f.d with
    | true =>
     have heq:=obj2_eql _ _ _ _ hu
     have HN:Hid (thisB ts out f=true):=by show _=_; rw [HL.out,HD2.out,HTT.out,hu]; rfl
     clear hu hs
     go_wp2
     rw [← hW1]
     go_ret
     exact ⟨by rw [HN.out]; rfl,HB1.out⟩
    | false =>
     have heq:=obj2_eql _ _ _ _ hu
     have HP2:Hid ((L.drop (k + 1)).any (thisT out f)=L.any (thisT out f)):=by show _=_; rw [HD2.out,HTT.out,hu]; rfl
     clear hu hs
     go_wp2
     rw [← hW1]
     clear hW1
     go_roundw
     case rel=>exact ⟨k + 1,by omega,by go_num,HP2,HB1,HC1⟩
     case measure=>first | (simp [intOf]; done) | (simp [intOf]; omega)
   | false =>
    have hs2:(t.s.toList == [])=false:=by rw [str_ne0]; exact hs
    have HTT:Hid (thisT out f t=hasF out ⟨t.c,t.d,t.s,f.c,f.d⟩):=by show _=_; unfold thisT; rw [if_neg (by rw [hs]; decide)]
    clear hs
    go_wp2_with fail
    rw [← hW1]
    clear hW1
    refine (hasK_any bK nK out ⟨t.c,t.d,t.s,f.c,f.d⟩ W1 ⟨HTF.out.2.2.2.1,HTF.out.2.2.2.2.1,HTF.out.2.2.2.2.2,HF.out.2.2.2.1,HF.out.2.2.2.2⟩ (HKN.out.below HB1.out)).mono ?_
    rintro e w2 ⟨rfl,hb2⟩
    have HB2:=toHF (HB1.out.trans (hb2.mono HB1.out.size))
    have HC2:Hid (w2.cell? ⟨w.heap.size,3,none⟩=some (.string f.c)∧w2.cell? ⟨w.heap.size,4,none⟩=some (.string f.d)∧w.heap.size < w2.heap.size):=⟨mK hb2 HC1.out.2.2 HC1.out.1,mK hb2 HC1.out.2.2 HC1.out.2.1,Nat.lt_of_lt_of_le HC1.out.2.2 hb2.size⟩
    clear hb2
    cases hh:hasF out ⟨t.c,t.d,t.s,f.c,f.d⟩ with
    | true =>
     have HN:Hid (thisB ts out f=true):=by show _=_; rw [HL.out,HD2.out,HTT.out,hh]; rfl
     go_wp2
     go_ret
     exact ⟨by rw [HN.out]; rfl,HB2.out⟩
    | false =>
     have HP2:Hid ((L.drop (k + 1)).any (thisT out f)=L.any (thisT out f)):=by show _=_; rw [HD2.out,HTT.out,hh]; rfl
     go_wp2
     go_roundw
     case rel=>exact ⟨k + 1,by omega,by go_num,HP2,HB2,HC2⟩
     case measure=>first | (simp [intOf]; done) | (simp [intOf]; omega)
  ·have HN:Hid (thisB ts out f=false):=by show _=_; rw [HL.out,← HP.out,List.drop_of_length_le (by omega)]; rfl
   go_wp2
   go_ret
   exact ⟨by rw [HN.out]; rfl,HB.out⟩
set_option maxHeartbeats 4000000 in
theorem overHolds_any (hD:DatA w rs D br bp bt n1 nr Mr Er (toldE ts) xo xu np Mp vo vu) (hK:MapV encF Tryz.prog 47 w bK nK (KnM out)) (x:ER) (hxf:x.e.over.size≤maxLen∧x.e.name.size≤maxLen) (hf:f.fits) (hts:∀ t ∈ ts,t.fits) (htl:ts.length≤1000) :
  Calls Tryz.prog 165 #[.pointer (some ⟨D,0,none⟩),.agg #[.int .i64 x.e.kind,.slice x.adA x.e.allow.length x.capA,.string x.e.over,.string x.e.name,.slice x.adK x.e.kids.length x.capK],.agg #[.string f.a,.string f.b,.string f.r,.string f.c,.string f.d],.map (some bK)] w fun e w'=>e=.returned (.bool (overB ts out x.e.over x.e.name f))∧Below w.heap.size w w':=by
 obtain ⟨kl,hkl⟩:=plKeyOf (f.a,f.b,x.e.over) hf.1 hf.2.1 hxf.1
 obtain ⟨adL,capL,hgd,hsl⟩:=told_row hD.dat.told (f.a,f.b,x.e.over)
 have HL:=toHF (overB_look ts out x.e.over x.e.name f)
 have hll:=look_len ts (f.a,f.b,x.e.over)
 have HFL:Hid (∀ t ∈ G.lookL (toldE ts) (f.a,f.b,x.e.over),t.fits):=fun t ht=>hts t (look_mem ht)
 obtain ⟨L,hLe⟩:∃ L,L=G.lookL (toldE ts) (f.a,f.b,x.e.over):=⟨_,rfl⟩
 rw [← hLe] at hgd hsl HL hll HFL
 obtain ⟨W0,hW0⟩:∃ W0,W0=(w.alloc (.cells #[.int .i64 x.e.kind,.slice x.adA x.e.allow.length x.capA,.string x.e.over,.string x.e.name,.slice x.adK x.e.kids.length x.capK] 154)).alloc (.cells #[.string f.a,.string f.b,.string f.r,.string f.c,.string f.d] 47):=⟨_,rfl⟩
 have HB0:Hid (Below w.heap.size w W0):=by show Below _ _ _; rw [hW0]; exact ((Below.refl _ _).alloc (Nat.le_refl _) _).alloc (by simp) _
 have c0:W0.cell? ⟨w.heap.size + 1,0,none⟩=some (.string f.a):=by rw [hW0]; simp
 have c1:W0.cell? ⟨w.heap.size + 1,1,none⟩=some (.string f.b):=by rw [hW0]; simp
 have c2:W0.cell? ⟨w.heap.size + 1,2,none⟩=some (.string f.r):=by rw [hW0]; simp
 have c3:W0.cell? ⟨w.heap.size + 1,3,none⟩=some (.string f.c):=by rw [hW0]; simp
 have c4:W0.cell? ⟨w.heap.size + 1,4,none⟩=some (.string f.d):=by rw [hW0]; simp
 have x2:W0.cell? ⟨w.heap.size,2,none⟩=some (.string x.e.over):=by rw [hW0]; simp
 have x3:W0.cell? ⟨w.heap.size,3,none⟩=some (.string x.e.name):=by rw [hW0]; simp
 have d3:=HB0.out.cell (p:=⟨D,3,none⟩) hD.dat.lt |>.trans hD.dat.c3
 have hlk:∀ m,(Instr.lookup 109 (.map (some bp)) (.agg #[.string f.a,.string f.b,.string x.e.over]) false).run Tryz.prog (W0.drewN m)=.ok (.slice adL L.length capL) (W0.drewN m):=fun m=>by
  have h:=((hD.dat.told.map.below HB0.out).below (below_drewN (Below.refl _ _) m)).look (t:=109) (e:=30) plLaw Tryz.underlying109 (zeroTs _) (x:=(f.a,f.b,x.e.over)) hkl
  rw [hgd] at h
  exact h
 have HSL:=toHF hsl
 have HKN:=toHF hK
 have HF:=toHF hf
 have HXF:=toHF hxf
 have HC0:Hid (W0.cell? ⟨w.heap.size + 1,3,none⟩=some (.string f.c)∧W0.cell? ⟨w.heap.size + 1,4,none⟩=some (.string f.d)∧W0.cell? ⟨w.heap.size,3,none⟩=some (.string x.e.name)∧w.heap.size + 1 < W0.heap.size):=⟨c3,c4,x3,by rw [hW0]; simp⟩
 clear hsl hK hf hLe hgd hkl
 go_enter Tryz.func165,Tryz.ntmps165
 go_wp2_with fail
 rw [← hW0]
 clear hW0
 go_quiet (fail)
 clear c0 c1 c2 c3 c4 d3 x2 x3 hlk
 go_wp2
 go_loopw [22] (fun i wr=>∃ k:Nat,k≤L.length∧i=.int .i64 k∧Hid ((L.drop k).any (overT out x.e.name f)=L.any (overT out x.e.name f))∧Hid (Below w.heap.size w wr)∧Hid (wr.cell? ⟨w.heap.size + 1,3,none⟩=some (.string f.c)∧wr.cell? ⟨w.heap.size + 1,4,none⟩=some (.string f.d)∧wr.cell? ⟨w.heap.size,3,none⟩=some (.string x.e.name)∧w.heap.size + 1 < wr.heap.size)) (fun i _=>L.length - (intOf i).toNat)
 case atStart=>exact ⟨0,Nat.zero_le _,rfl,rfl,below_drewN HB0.out _,HC0⟩
 case round =>
  clear HC0 HB0
  obtain ⟨k,hk,rfl,HP,HB,HC⟩:=hrel
  by_cases hlt:k < L.length
  ·obtain ⟨bT,offT,hadT,⟨a0,a1,a2,a3,a4,a5⟩,hbT⟩:=Sl.at0 (HSL.out.below HB.out) hlt
   obtain ⟨c3,c4,x3,cl⟩:=HC.out
   have cl0:w.heap.size < wr.heap.size:=by omega
   have hi1:(0:Int)≤(k:Int):=by omega
   have hi2:(k:Int) < (L.length:Int):=by omega
   have HTF:=toHF (HFL.out _ (List.getElem_mem hlt))
   have HD2:Hid (L.any (overT out x.e.name f)=(overT out x.e.name f L[k] || (L.drop (k + 1)).any (overT out x.e.name f))):=by show _=_; rw [← HP.out]; exact anyT_drop _ hlt
   obtain ⟨t,ht⟩:∃ t,t=L[k]:=⟨_,rfl⟩
   rw [← ht] at a0 a1 a2 a3 a4 a5 HTF HD2
   clear ht
   obtain ⟨W1,hW1⟩:∃ W1,W1=wr.alloc (.cells #[.string t.a,.string t.b,.string t.r,.string t.c,.string t.d,.string t.s] 73):=⟨_,rfl⟩
   have HBr:Hid (Below wr.heap.size wr W1):=by show Below _ _ _; rw [hW1]; exact (Below.refl _ _).alloc (Nat.le_refl _) _
   have HB1:=toHF (HB.out.trans (HBr.out.mono HB.out.size))
   have HC1:Hid (W1.cell? ⟨w.heap.size + 1,3,none⟩=some (.string f.c)∧W1.cell? ⟨w.heap.size + 1,4,none⟩=some (.string f.d)∧W1.cell? ⟨w.heap.size,3,none⟩=some (.string x.e.name)∧w.heap.size + 1 < W1.heap.size):=⟨mK HBr.out cl c3,mK HBr.out cl c4,mK HBr.out cl0 x3,Nat.lt_of_lt_of_le cl HBr.out.size⟩
   subst hadT
   have HTT:Hid (overT out x.e.name f t=hasF out ⟨t.c,t.d,x.e.name,f.c,f.d⟩):=rfl
   go_wp2_with fail
   rw [← hW1]
   clear hW1
   refine (hasK_any bK nK out ⟨t.c,t.d,x.e.name,f.c,f.d⟩ W1 ⟨HTF.out.2.2.2.1,HTF.out.2.2.2.2.1,HXF.out.2,HF.out.2.2.2.1,HF.out.2.2.2.2⟩ (HKN.out.below HB1.out)).mono ?_
   rintro e w2 ⟨rfl,hb2⟩
   have HB2:=toHF (HB1.out.trans (hb2.mono HB1.out.size))
   have HC2:Hid (w2.cell? ⟨w.heap.size + 1,3,none⟩=some (.string f.c)∧w2.cell? ⟨w.heap.size + 1,4,none⟩=some (.string f.d)∧w2.cell? ⟨w.heap.size,3,none⟩=some (.string x.e.name)∧w.heap.size + 1 < w2.heap.size):=⟨mK hb2 HC1.out.2.2.2 HC1.out.1,mK hb2 HC1.out.2.2.2 HC1.out.2.1,mK hb2 (by have:=HC1.out.2.2.2; omega) HC1.out.2.2.1,Nat.lt_of_lt_of_le HC1.out.2.2.2 hb2.size⟩
   clear hb2
   cases hh:hasF out ⟨t.c,t.d,x.e.name,f.c,f.d⟩ with
   | true =>
    have HN:Hid (overB ts out x.e.over x.e.name f=true):=by show _=_; rw [HL.out,HD2.out,HTT.out,hh]; rfl
    go_wp2
    go_ret
    exact ⟨by rw [HN.out]; rfl,HB2.out⟩
   | false =>
    have HP2:Hid ((L.drop (k + 1)).any (overT out x.e.name f)=L.any (overT out x.e.name f)):=by show _=_; rw [HD2.out,HTT.out,hh]; rfl
    go_wp2
    go_roundw
    case rel=>exact ⟨k + 1,by omega,by go_num,HP2,HB2,HC2⟩
    case measure=>first | (simp [intOf]; done) | (simp [intOf]; omega)
  ·have HN:Hid (overB ts out x.e.over x.e.name f=false):=by show _=_; rw [HL.out,← HP.out,List.drop_of_length_le (by omega)]; rfl
   go_wp2
   go_ret
   exact ⟨by rw [HN.out]; rfl,HB.out⟩
end
end Go.Proofs.YtogjfppkbkgaeaaGreat
