/- What the program's tables and the document's strata ask: the same questions; how many facts there may be; the program's rounds over fewer users. -/
import Derived.Test.YtajkkeikihhejaaGreatSq
import Derived.Test.YtajkkeikihhejaaGreatJ20
import Derived.Test.YtajkkeikihhejaaGreatDataOf
open Go.Proofs.Tryz
set_option maxHeartbeats 80000000
namespace Go.Proofs.YtajkkeikihhejaaGreat
set_option linter.unusedVariables false
open Go.ChangeShapes Go.WideShapes Go.ChangeAt Go.RowKit Go.Maps
open Pl
def nk (known:List Fc) (f:Fc) (t:Tp):Bool:=if t.s.toList.isEmpty then t.c.toList == f.c.toList && t.d.toList == f.d.toList else bP known ⟨t.c,t.d,t.s,f.c,f.d⟩
def vM (known:List Fc) (name:ByteArray) (f:Fc) (t:Tp):Bool:=bP known ⟨t.c,t.d,name,f.c,f.d⟩
theorem GU (l:List Tp) (k:K3) (p:Tp→Bool):(G.lookL (dK l) k).any p=l.any fun t=>(t.a.toList == k.1.toList && t.b.toList == k.2.1.toList && t.r.toList == k.2.2.toList) && p t:=by
 induction l with
 | nil=>rfl
 | cons t l ih =>
  have e:dK (t::l)=[(LM t,t)] ++ dK l:=rfl;rw [e,G.lookL_append,List.any_append,ih,List.any_cons];congr 1;unfold G.lookL LM;by_cases h:(t.a,t.b,t.r)=k
  ·subst h; simp
  have h2:(t.a.toList == k.1.toList && t.b.toList == k.2.1.toList && t.r.toList == k.2.2.toList)=false:=by
   cases hb:(t.a.toList == k.1.toList && t.b.toList == k.2.1.toList && t.r.toList == k.2.2.toList);case false=>rfl
   rw [TU,TU,fo,fo,fo] at hb; exact absurd (Prod.ext hb.1.1 (Prod.ext hb.1.2 hb.2)) h
  simp [h,h2]
theorem JE (l:List Tp) (known:List Fc) (f:Fc):dY l known f=(G.lookL (dK l) (f.a,f.b,f.r)).any (nk known f):=by rw [GU]; rfl
theorem JF (l:List Tp) (known:List Fc) (over name:bF) (f:Fc):gp l known over name f=(G.lookL (dK l) (f.a,f.b,over)).any (vM known name f):=by rw [GU]; rfl
theorem MF (st:ByteArray × ByteArray→Int) (n:Int) (o:Al) (tn:bF) (rows:List RR):((rows.map fun r=>(tn,r.name)).filter fun k=>k.1.toList == o.t.toList && decide (st k=n))=(G.lookL (rows.map fun r=>((tn,st (tn,r.name)),r)) (o.t,n)).map fun r=>(o.t,r.name):=by
 induction rows with
 | nil=>rfl
 | cons r rows ih =>
  have e:((r::rows).map fun r=>((tn,st (tn,r.name)),r))=[((tn,st (tn,r.name)),r)] ++ rows.map fun r=>((tn,st (tn,r.name)),r):=rfl;rw [e,G.lookL_append,List.map_append,← ih,List.map_cons,List.filter_cons];unfold G.lookL;by_cases h:tn=o.t∧st (tn,r.name)=n
  ·obtain ⟨rfl,rfl⟩:=h;simp
  have h1:(tn.toList == o.t.toList && decide (st (tn,r.name)=n))=false:=by
   cases hb:(tn.toList == o.t.toList && decide (st (tn,r.name)=n));case false=>rfl
   rw [TU,fo,Ud] at hb; exact absurd hb h
  have h2:¬ ((tn,st (tn,r.name))=(o.t,n)):=fun e=>h ⟨congrArg Prod.fst e,congrArg Prod.snd e⟩;simp [h1,h2]
theorem GV (st:ByteArray × ByteArray→Int) (n:Int) (o:Al) (rs:List TR):Ag (ae rs) st n o=(G.lookL (eT st rs) (o.t,n)).map fun r=>(o.t,r.name):=by
 unfold Ag
 induction rs with
 | nil=>rfl
 | cons t rs ih =>
  have e1:ak (ae (t::rs))=(t.rows.map fun r=>(t.name,r.name)) ++ ak (ae rs):=by
   have:jF t.p=t.rows.map fun r=>(t.name,r.name):=by unfold jF; show List.map _ (eD t.rows)=_; unfold eD; rw [List.map_map]; rfl
   simp [ak,ae,this]
  have e2:eT st (t::rs)=(t.rows.map fun r=>((t.name,st (t.name,r.name)),r)) ++ eT st rs:=rfl;rw [e1,e2,G.lookL_append,Uz,List.map_append,ih,MF]
theorem A9 {s:St}:∀ {sts:List St},(iE sts).Nodup→s ∈ sts→fO sts s.key=s.n
 | [],_,h=>by cases h
 | x::xs,hd,h=>by
  have hd2:x.key ∉ iE xs∧(iE xs).Nodup:=List.nodup_cons.1 hd;unfold fO;by_cases e:zB x s.key.1 s.key.2=true
  ·rw [if_pos e];have ek:=qA.1 e;rcases List.mem_cons.1 h with rfl | h
   ·rfl
   exact absurd (by rw [ek]; exact List.mem_map_of_mem h) hd2.1
  rw [if_neg e];rcases List.mem_cons.1 h with rfl | h
  ·exact absurd (qA.2 rfl) e
  exact A9 hd2.2 h
def TC (sts:List St) (n:Int) (o:Al):List St:=sts.filter fun s=>s.typ.toList == o.t.toList && decide (s.n=n)
theorem QR {ts:List Ty} {sts:List St} (hk:iE sts=ak ts) (hn:(ak ts).Nodup) (n:Int) (o:Al):Ag ts (fO sts) n o=(TC sts n o).map St.key:=by
 unfold Ag TC;rw [← hk];rw [← hk] at hn;unfold iE;rw [List.filter_map];congr 1;refine List.filter_congr fun s hs=>?_;show (s.key.1.toList == o.t.toList && decide (fO sts s.key=n))=_;rw [A9 hn hs];rfl
theorem JG {rs:List TR} (h:bf (ae rs)=true):(ak (ae rs)).Nodup:=by
 have e:ak (ae rs)=rs.flatMap fun t=>t.rows.map fun r=>(t.name,r.name):=by
  unfold ak ae;rw [List.flatMap_map];congr 1
  funext t
  unfold jF;show List.map _ (eD t.rows)=_;unfold eD; rw [List.map_map]; rfl
 rw [e,List.Nodup,List.pairwise_flatMap];constructor
 ·intro t ht;obtain ⟨i,hi,rfl⟩:=List.mem_iff_getElem.1 ht;have hu:=(lu h i hi).2.2;rw [List.pairwise_map,List.pairwise_iff_getElem];intro a b ha hb hab e;have hne:=ry (f:=fun k=>(rs[i].rows[k]?.map RR.name).getD ByteArray.empty) (n:=rs[i].rows.length) (fun k hk=>by
   have h0:k < rs[i].rows.length:=by omega
   simp only [TY hk,TY h0,Option.map_some,Option.getD_some];exact (CE hu (k + 1) hk hk).2.1 k h0 rfl)
  have:=hne a b hab hb;simp [ha,hb] at this;exact this (congrArg Prod.snd e)
 rw [List.pairwise_iff_getElem];intro a b ha hb hab x hx y hy e;obtain ⟨r,hr,rfl⟩:=Ue.1 hx;obtain ⟨q,hq,rfl⟩:=Ue.1 hy;have hne:=ry (f:=fun k=>(rs[k]?.map TR.name).getD ByteArray.empty) (n:=rs.length) (fun k hk=>by
  have h0:k < rs.length:=by omega
  simp only [TY hk,TY h0,Option.map_some,Option.getD_some];exact (lu h (k + 1) hk).2.1 k h0 rfl)
 have:=hne a b hab hb;simp [ha,hb] at this;exact this (congrArg Prod.fst e)
theorem GX {α:Type} [DecidableEq α]:∀ {a b:List α},a.Nodup→(∀ x ∈ a,x ∈ b)→a.length≤b.length
 | [],_,_,_=>TW _
 | x::a,b,hd,hs=>by
  obtain ⟨h1,h2⟩:=List.nodup_cons.1 hd;have hx:=hs x (by simp);have:=GX (a:=a) (b:=b.erase x) h2 fun y hy=>(List.mem_erase_of_ne (fun e:y=x=>h1 (by rw [← e]; exact hy))).2 (hs y (by simp [hy]));rw [List.length_erase_of_mem hx] at this;have hp:0 < b.length:=List.length_pos_of_mem hx;simp only [List.length_cons];omega
def BO (ts:List Ty) (xo xu:List Al):List Fc:=xo.flatMap fun o=>(ak ts).flatMap fun k=>ja o k.2 xu
theorem Dv {ts:List Ty} {st:ByteArray × ByteArray→Int} {xo xu:List Al} {n:Int} {f:Fc} (h:f ∈ bY ts st xo xu n):f ∈ BO ts xo xu:=by
 unfold bY uX at h;obtain ⟨o,ho,h⟩:=Uf.1 h;obtain ⟨k,hk,h⟩:=Uf.1 h;exact Uf.2 ⟨o,ho,Uf.2 ⟨k,(Ux.1 hk).1,h⟩⟩
theorem Ba {α β:Type} (f:α→List β) (m:Nat) (hf:∀ a,(f a).length≤m):∀ l:List α,(l.flatMap f).length≤l.length * m
 | []=>by simp
 | a::l=>by
  have h1:=Ba f m hf l;have h2:=hf a;simp only [List.flatMap_cons,T9,List.length_cons,Nat.add_mul];omega
theorem PD (ts:List Ty) (xo xu:List Al):(BO ts xo xu).length≤xo.length * ((ak ts).length * xu.length) :=
 Ba _ _ (fun o=>Ba _ _ (fun k=>by unfold ja; rw [Uy]; exact TS _) _) _
structure GoodO (ts:List Ty) (xo xu:List Al) (out:List Fc):Prop where
 once:out.Nodup
 sub:∀ g ∈ out,g ∈ BO ts xo xu
def Ta (us:List Al):List (ByteArray × ByteArray):=us.map fun u=>(u.t,u.s)
def Tc (us:List Al) (x:ByteArray × ByteArray):Bool:=us.any fun u=>u.t.toList == x.1.toList && u.s.toList == x.2.toList
theorem yK {us:List Al} {x:ByteArray × ByteArray}:Tc us x=true ↔ x ∈ Ta us:=by
 unfold Tc Ta;rw [Uo,Ue];constructor
 ·rintro ⟨u,hu,h⟩;rw [TU,fo,fo] at h;exact ⟨u,hu,Prod.ext h.1 h.2⟩
 rintro ⟨u,hu,rfl⟩;exact ⟨u,hu,by simp⟩
def eZ (us:List Al) (new:List Fc):List Al:=us.filter fun u=>new.any fun g=>g.c.toList == u.t.toList && g.d.toList == u.s.toList
theorem Dw {us:List Al} {new:List Fc} {x:ByteArray × ByteArray}:x ∈ Ta (eZ us new) ↔ x ∈ Ta us∧∃ g ∈ new,g.u=x:=by
 unfold Ta eZ;constructor
 ·intro h;obtain ⟨u,hu,rfl⟩:=Ue.1 h;obtain ⟨h1,h2⟩:=Ux.1 hu;obtain ⟨g,hg,h3⟩:=Uo.1 h2;rw [TU,fo,fo] at h3;exact ⟨List.mem_map_of_mem (f:=fun u:Al=>(u.t,u.s)) h1,g,hg,Prod.ext h3.1 h3.2⟩
 rintro ⟨h,g,hg,hx⟩;obtain ⟨u,hu,rfl⟩:=Ue.1 h;refine Ue.2 ⟨u,Ux.2 ⟨hu,Uo.2 ⟨g,hg,?_⟩⟩,rfl⟩;rw [TU,fo,fo];exact ⟨congrArg Prod.fst hx,congrArg Prod.snd hx⟩
theorem JH (us:List Al):eZ us []=[]:=by unfold eZ; rw [List.filter_eq_nil_iff]; simp
theorem JI {ts:List Ty} {xo xu:List Al} {n:Int} {st st':ByteArray × ByteArray→Int} (h:∀ k ∈ ak ts,st k=st' k):bY ts st xo xu n=bY ts st' xo xu n:=by
 unfold bY uX;congr 1
 funext o
 have:Ag ts st n o=Ag ts st' n o:=List.filter_congr fun k hk=>by rw [h k hk]
 rw [this]
set_option linter.unusedSectionVars false
section
variable [DecidableEq Fc]
theorem GoodO.run {ts:List Ty} {xo xu:List Al} {out:List Fc} (h:GoodO ts xo xu out) {H:List Fc→Fc→Bool} {qs:List Fc} (hq:∀ g ∈ qs,g ∈ BO ts xo xu):GoodO ts xo xu (bG H qs out):=by
 refine ⟨wm qs h.once,fun g hg=>?_⟩;obtain ⟨n,e,hn⟩:=jA (H:=H) qs out;rw [e] at hg;rcases Uc.1 hg with hg | hg
 ·exact h.sub g hg
 exact hq g (hn g hg).1
theorem GoodO.len {ts:List Ty} {xo xu:List Al} {out:List Fc} (h:GoodO ts xo xu out) (h1:xo.length≤80) (h2:(ak ts).length≤36) (h3:xu.length≤40):out.length≤115200:=by
 have a1:=GX h.once h.sub;have a2:=PD ts xo xu;have a3:(ak ts).length * xu.length≤36 * 40:=Nat.mul_le_mul h2 h3;have a4:xo.length * ((ak ts).length * xu.length)≤80 * (36 * 40):=Nat.mul_le_mul h1 a3;omega
structure FewA (ts:List Ty) (l:List Tp) (st:ByteArray × ByteArray→Int) (xo xu:List Al) (n:Int) (us:List Al) (out:List Fc):Prop where
 sub:us=xu.filter fun u:Al=>Tc us (u.t,u.s)
 few:Few Fc.u (fD ts l) (bY ts st xo xu n) (Ta us) out
variable {ts:List Ty} {l:List Tp} {st:ByteArray × ByteArray→Int} {xo xu:List Al} {n:Int}
theorem FewA.start (out:List Fc):FewA ts l st xo xu n xu out:=by
 refine ⟨(List.filter_eq_self.2 fun u hu=>yK.2 (List.mem_map_of_mem (f:=fun u:Al=>(u.t,u.s)) hu)).symm,Few.start fun f hf=>IZ hf⟩
theorem JJ {φ υ:Type} [DecidableEq φ] {us:φ→υ} {H:List φ→φ→Bool} (hL:Loc us H) {qs:List φ} {users:List υ} {out:List φ} (h:Few us H qs users out) (P:υ→Bool) (hP:∀ u,P u=true ↔ u ∈ users):bG H (qs.filter fun f=>P (us f)) out=bG H qs out :=
 (mQ hL P qs out fun f hf hp=>h.set f hf fun hm=>by rw [(hP _).2 hm] at hp; cases hp).symm
theorem FewA.round {us:List Al} {out:List Fc} (h:FewA ts l st xo xu n us out):bG (fD ts l) (bY ts st xo us n) out=bG (fD ts l) (bY ts st xo xu n) out:=by
 have h2:=Gc ts st xo xu n (Tc us);rw [← h.sub] at h2;rw [← h2];exact JJ (CU ts l) h.few (Tc us) fun u=>yK
theorem FewA.next {us:List Al} {out new:List Fc} (h:FewA ts l st xo xu n us out) (hn:bG (fD ts l) (bY ts st xo us n) out=out ++ new):FewA ts l st xo xu n (eZ us new) (out ++ new):=by
 refine ⟨?_,h.few.next (CU ts l) (h.round.symm.trans hn) fun u=>Dw⟩;have h1:eZ us new=(xu.filter fun u:Al=>Tc us (u.t,u.s)).filter fun u=>new.any fun g=>g.c.toList == u.t.toList && g.d.toList == u.s.toList:=by rw [← h.sub]; rfl
 rw [List.filter_filter] at h1;refine h1.trans (List.filter_congr fun u hu=>?_);rw [Bool.eq_iff_iff,yK,Dw,TU,yK,Uo,and_comm];refine and_congr Iff.rfl ⟨fun ⟨g,hg,h3⟩=>⟨g,hg,?_⟩,fun ⟨g,hg,h3⟩=>⟨g,hg,?_⟩⟩
 ·rw [TU,fo,fo] at h3;exact Prod.ext h3.1 h3.2
 rw [TU,fo,fo];exact ⟨congrArg Prod.fst h3,congrArg Prod.snd h3⟩
theorem FewA.done {out:List Fc} (h:FewA ts l st xo xu n [] out):j6 (fD ts l) (bY ts st xo xu n) out=out:=h.few.done
theorem wW {st st':ByteArray × ByteArray→Int} (h:∀ k ∈ ak ts,st k=st' k):∀ N,ma ts l st xo xu N=ma ts l st' xo xu N
 | 0=>rfl
 | N + 1=>by rw [jh,jh,wW h N,JI h]
end
set_option maxRecDepth 100000
def BP (out:List Fc) (f:Fc):Option Value:=if bP out f then some (.agg #[]) else none
theorem PE (out:List Fc) (f:Fc):(BP out f).isSome=bP out f:=by unfold BP; cases bP out f <;> rfl
theorem QS (out:List Fc) (f:Fc):∀ v,BP out f=some v→v=.agg #[]:=fun v h=>by
 unfold BP at h; split at h
 ·injection h with h; exact h.symm
 cases h
theorem vO (b n:Nat) (out:List Fc) (f:Fc) (w:af) (hf:f.fits) (hV:aM oh prog 29 w b n (BP out)) :
  Calls prog 65 #[.map (some b),.agg #[.string f.a,.string f.b,.string f.r,.string f.c,.string f.d]] w fun e w'=>e=.returned (.bool (bP out f))∧ag w w':=by
 have h:=Gg b n (BP out) f w hf hV (QS out f);rw [PE] at h;exact h
theorem GY {w:af} {bp np:Nat} {Mp:K3→Option Value} {E:List (K3 × Tp)} (h:G.Grp qw prog 223 46 6 Tp.row w bp np Mp E) (k:K3):∃ ad cap,(Mp k).getD (.slice none 0 0)=.slice ad (G.lookL E k).length cap∧Sl w ad (G.lookL E k):=by
 obtain ⟨ad,cap,e,hs,-⟩:=Oh (ts:=G.lookL E k) (CZ h k) rfl;exact ⟨ad,cap,e,hs⟩
theorem Dx (p:Tp→Bool) {ts:List Tp} {k:Nat} (h:k < ts.length):(ts.drop k).any p=(p ts[k] || (ts.drop (k + 1)).any p):=by rw [Un h]; rfl
theorem GZ {ts:List Tp} {k:K3} {t:Tp} (h:t ∈ G.lookL (dK ts) k):t ∈ ts:=by
 have:=G.mem_lookL.1 h;unfold dK at this;obtain ⟨x,hx,e⟩:=Ue.1 this;injection e with e1 e2;rw [← e2]; exact hx
theorem G5 (ts:List Tp) (k:K3):(G.lookL (dK ts) k).length≤ts.length:=by
 unfold G.lookL dK;exact TZ (List.length_filterMap_le _ _) (by simp)
section
variable {w:World} {rs:List TR} {D br bp bt bK nK:Nat} {n1:Int} {nr:Nat} {Mr:KL→Option Value} {Er:List (KL × RR)} {ts:List Tp} {xo xu:List Al} {np:Nat} {Mp:K3→Option Value} {vo vu:Value} {out:List Fc} {f:Fc}
theorem BQ (hD:DatA w rs D br bp bt n1 nr Mr Er (dK ts) xo xu np Mp vo vu) (hK:aM oh prog 29 w bK nK (BP out)) (hf:f.fits) (hts:∀ t ∈ ts,t.fits) (htl:ts.length≤1000) :
  Calls prog 213 #[.pointer (some ⟨D,0,none⟩),.agg #[.string f.a,.string f.b,.string f.r,.string f.c,.string f.d],.map (some bK)] w fun e w'=>e=.returned (.bool (dY ts out f))∧ag w w':=by
 obtain ⟨kl,hkl⟩:=D9 (f.a,f.b,f.r) hf.1 hf.2.1 hf.2.2.1;obtain ⟨Zy,Xd,hgd,hsl⟩:=GY hD.dat.told (f.a,f.b,f.r);have HL:=aC (JE ts out f);have hll:=G5 ts (f.a,f.b,f.r);have HFL:Hid (∀ t ∈ G.lookL (dK ts) (f.a,f.b,f.r),t.fits):=fun t ht=>hts t (GZ ht);obtain ⟨L,Wl⟩:∃ L,L=G.lookL (dK ts) (f.a,f.b,f.r):=⟨_,rfl⟩;rw [← Wl] at hgd hsl HL hll HFL;obtain ⟨W0,hW0⟩:∃ W0,W0=w.alloc (.cells #[.string f.a,.string f.b,.string f.r,.string f.c,.string f.d] 29):=⟨_,rfl⟩;have HB0:=qY hW0;have c0:W0.cell? ⟨w.heap.size,0,none⟩=some (.string f.a):=by rw [hW0]; simp
 have c1:W0.cell? ⟨w.heap.size,1,none⟩=some (.string f.b):=by rw [hW0]; simp
 have c2:W0.cell? ⟨w.heap.size,2,none⟩=some (.string f.r):=by rw [hW0]; simp
 have c3:W0.cell? ⟨w.heap.size,3,none⟩=some (.string f.c):=by rw [hW0]; simp
 have c4:W0.cell? ⟨w.heap.size,4,none⟩=some (.string f.d):=by rw [hW0]; simp
 have d3:=HB0.out.cell (p:=⟨D,3,none⟩) hD.dat.lt |>.trans hD.dat.c3;have hlk:∀ m,(Instr.lookup 166 (.map (some bp)) (.agg #[.string f.a,.string f.b,.string f.r]) false).run prog (W0.drewN m)=.ok (.slice Zy L.length Xd) (W0.drewN m):=fun m=>by
  have h:=((hD.dat.told.map.below HB0.out).below (below_drewN (TT _ _) m)).look (t:=166) (e:=25) Rp underlying166 (I9 _) (x:=(f.a,f.b,f.r)) hkl;rw [hgd] at h;exact h
 have WG:=aC hsl;have ZP:=aC hK;have HF:=aC hf;have VD:Hid (W0.cell? ⟨w.heap.size,3,none⟩=some (.string f.c)∧W0.cell? ⟨w.heap.size,4,none⟩=some (.string f.d)∧w.heap.size < W0.heap.size):=⟨c3,c4,by rw [hW0]; simp⟩;clear hsl hK hf Wl hgd hkl;go_enter func213,ntmps213;go_wp2_with fail;rw [← hW0];clear hW0;go_quiet (fail);clear c0 c1 c2 c3 c4 d3 hlk;go_wp2;go_loopw [20] (fun i wr=>∃ k:Nat,k≤L.length∧i=.int .i64 k∧Hid ((L.drop k).any (nk out f)=L.any (nk out f))∧Hid (ag w wr)∧Hid (wr.cell? ⟨w.heap.size,3,none⟩=some (.string f.c)∧wr.cell? ⟨w.heap.size,4,none⟩=some (.string f.d)∧w.heap.size < wr.heap.size)) (fun i _=>L.length - (intOf i).toNat);case atStart=>exact ⟨0,TW _,rfl,rfl,below_drewN HB0.out _,VD⟩
 clear VD HB0;obtain ⟨k,hk,rfl,HP,HB,HC⟩:=hrel;by_cases hlt:k < L.length
 ·obtain ⟨bT,offT,WZ,⟨a0,a1,a2,a3,a4,a5⟩,hbT⟩:=Sl.at0 (WG.out.below HB.out) hlt;obtain ⟨c3,c4,cl⟩:=HC.out;have hi1:=bB k;have hi2:(k:Int) < (L.length:Int):=by omega
  have HTF:=aC (HFL.out _ (TQ hlt));have HD2:Hid (L.any (nk out f)=(nk out f L[k] || (L.drop (k + 1)).any (nk out f))):=by show _=_; rw [← HP.out]; exact Dx _ hlt
  obtain ⟨t,ht⟩:∃ t,t=L[k]:=⟨_,rfl⟩;rw [← ht] at a0 a1 a2 a3 a4 a5 HTF HD2;clear ht;obtain ⟨W1,hW1⟩:∃ W1,W1=wr.alloc (.cells #[.string t.a,.string t.b,.string t.r,.string t.c,.string t.d,.string t.s] 46):=⟨_,rfl⟩;have VL:=qY hW1;have HB1:=aC (HB.out.trans (VL.out.mono HB.out.size));have VE:Hid (W1.cell? ⟨w.heap.size,3,none⟩=some (.string f.c)∧W1.cell? ⟨w.heap.size,4,none⟩=some (.string f.d)∧w.heap.size < W1.heap.size):=⟨mK VL.out cl c3,mK VL.out cl c4,TP cl VL.out.size⟩;subst WZ;cases hs:t.s.toList.isEmpty;case true=>
   have hs2:(t.s.toList == [])=true:=by rw [mV]; exact hs
   have HTT:Hid (nk out f t=Ah t.c t.d f.c f.d):=by show _=_; unfold nk; rw [if_pos hs]; rfl
   cases hu:Ah t.c t.d f.c f.d;case true=>
    have heq:=jH _ _ _ _ hu;have HN:Hid (dY ts out f=true):=by show _=_; rw [HL.out,HD2.out,HTT.out,hu]; rfl
    clear hu hs;go_wp2;rw [← hW1];go_ret;exact ⟨by rw [HN.out]; rfl,HB1.out⟩
   have heq:=jH _ _ _ _ hu;have UI:Hid ((L.drop (k + 1)).any (nk out f)=L.any (nk out f)):=by show _=_; rw [HD2.out,HTT.out,hu]; rfl
   clear hu hs;go_wp2;rw [← hW1];clear hW1;go_roundw;case rel=>exact ⟨k + 1,by omega,by go_num,UI,HB1,VE⟩
   simp [intOf] <;> omega
  have hs2:(t.s.toList == [])=false:=by rw [mV]; exact hs
  have HTT:Hid (nk out f t=bP out ⟨t.c,t.d,t.s,f.c,f.d⟩):=by show _=_; unfold nk; rw [if_neg (by rw [hs]; decide)]
  clear hs;go_wp2_with fail;rw [← hW1];clear hW1;refine (vO bK nK out ⟨t.c,t.d,t.s,f.c,f.d⟩ W1 ⟨HTF.out.2.2.2.1,HTF.out.2.2.2.2.1,HTF.out.2.2.2.2.2,HF.out.2.2.2.1,HF.out.2.2.2.2⟩ (ZP.out.below HB1.out)).mono ?_;rintro e w2 ⟨rfl,hb2⟩;have HB2:=aC (HB1.out.trans (hb2.mono HB1.out.size));have U9:Hid (w2.cell? ⟨w.heap.size,3,none⟩=some (.string f.c)∧w2.cell? ⟨w.heap.size,4,none⟩=some (.string f.d)∧w.heap.size < w2.heap.size):=⟨mK hb2 VE.out.2.2 VE.out.1,mK hb2 VE.out.2.2 VE.out.2.1,TP VE.out.2.2 hb2.size⟩;clear hb2;cases hh:bP out ⟨t.c,t.d,t.s,f.c,f.d⟩;case true=>
   have HN:Hid (dY ts out f=true):=by show _=_; rw [HL.out,HD2.out,HTT.out,hh]; rfl
   go_wp2;go_ret;exact ⟨by rw [HN.out]; rfl,HB2.out⟩
  have UI:Hid ((L.drop (k + 1)).any (nk out f)=L.any (nk out f)):=by show _=_; rw [HD2.out,HTT.out,hh]; rfl
  go_wp2;go_roundw;case rel=>exact ⟨k + 1,by omega,by go_num,UI,HB2,U9⟩
  simp [intOf] <;> omega
 have HN:Hid (dY ts out f=false):=by show _=_; rw [HL.out,← HP.out,List.drop_of_length_le (by omega)]; rfl
 go_wp2;go_ret;exact ⟨by rw [HN.out]; rfl,HB.out⟩
theorem BR (hD:DatA w rs D br bp bt n1 nr Mr Er (dK ts) xo xu np Mp vo vu) (hK:aM oh prog 29 w bK nK (BP out)) (x:ER) (YD:x.e.over.size≤maxLen∧x.e.name.size≤maxLen) (hf:f.fits) (hts:∀ t ∈ ts,t.fits) (htl:ts.length≤1000) :
  Calls prog 214 #[.pointer (some ⟨D,0,none⟩),.agg #[.int .i64 x.e.kind,.slice x.adA x.e.allow.length x.capA,.string x.e.over,.string x.e.name,.slice x.adK x.e.kids.length x.capK],.agg #[.string f.a,.string f.b,.string f.r,.string f.c,.string f.d],.map (some bK)] w fun e w'=>e=.returned (.bool (gp ts out x.e.over x.e.name f))∧ag w w':=by
 obtain ⟨kl,hkl⟩:=D9 (f.a,f.b,x.e.over) hf.1 hf.2.1 YD.1;obtain ⟨Zy,Xd,hgd,hsl⟩:=GY hD.dat.told (f.a,f.b,x.e.over);have HL:=aC (JF ts out x.e.over x.e.name f);have hll:=G5 ts (f.a,f.b,x.e.over);have HFL:Hid (∀ t ∈ G.lookL (dK ts) (f.a,f.b,x.e.over),t.fits):=fun t ht=>hts t (GZ ht);obtain ⟨L,Wl⟩:∃ L,L=G.lookL (dK ts) (f.a,f.b,x.e.over):=⟨_,rfl⟩;rw [← Wl] at hgd hsl HL hll HFL;obtain ⟨W0,hW0⟩:∃ W0,W0=(w.alloc (.cells #[.int .i64 x.e.kind,.slice x.adA x.e.allow.length x.capA,.string x.e.over,.string x.e.name,.slice x.adK x.e.kids.length x.capK] 39)).alloc (.cells #[.string f.a,.string f.b,.string f.r,.string f.c,.string f.d] 29):=⟨_,rfl⟩;have HB0:Hid (ag w W0):=by show Below _ _ _; rw [hW0]; exact ((TT _ _).alloc (TS _) _).alloc (by simp) _
 have c0:W0.cell? ⟨w.heap.size + 1,0,none⟩=some (.string f.a):=by rw [hW0]; simp
 have c1:W0.cell? ⟨w.heap.size + 1,1,none⟩=some (.string f.b):=by rw [hW0]; simp
 have c2:W0.cell? ⟨w.heap.size + 1,2,none⟩=some (.string f.r):=by rw [hW0]; simp
 have c3:W0.cell? ⟨w.heap.size + 1,3,none⟩=some (.string f.c):=by rw [hW0]; simp
 have c4:W0.cell? ⟨w.heap.size + 1,4,none⟩=some (.string f.d):=by rw [hW0]; simp
 have x2:W0.cell? ⟨w.heap.size,2,none⟩=some (.string x.e.over):=by rw [hW0]; simp
 have x3:W0.cell? ⟨w.heap.size,3,none⟩=some (.string x.e.name):=by rw [hW0]; simp
 have d3:=HB0.out.cell (p:=⟨D,3,none⟩) hD.dat.lt |>.trans hD.dat.c3;have hlk:∀ m,(Instr.lookup 166 (.map (some bp)) (.agg #[.string f.a,.string f.b,.string x.e.over]) false).run prog (W0.drewN m)=.ok (.slice Zy L.length Xd) (W0.drewN m):=fun m=>by
  have h:=((hD.dat.told.map.below HB0.out).below (below_drewN (TT _ _) m)).look (t:=166) (e:=25) Rp underlying166 (I9 _) (x:=(f.a,f.b,x.e.over)) hkl;rw [hgd] at h;exact h
 have WG:=aC hsl;have ZP:=aC hK;have HF:=aC hf;have Xk:=aC YD;have VD:Hid (W0.cell? ⟨w.heap.size + 1,3,none⟩=some (.string f.c)∧W0.cell? ⟨w.heap.size + 1,4,none⟩=some (.string f.d)∧W0.cell? ⟨w.heap.size,3,none⟩=some (.string x.e.name)∧w.heap.size + 1 < W0.heap.size):=⟨c3,c4,x3,by rw [hW0]; simp⟩;clear hsl hK hf Wl hgd hkl;go_enter func214,ntmps214;go_wp2_with fail;rw [← hW0];clear hW0;go_quiet (fail);clear c0 c1 c2 c3 c4 d3 x2 x3 hlk;go_wp2;go_loopw [22] (fun i wr=>∃ k:Nat,k≤L.length∧i=.int .i64 k∧Hid ((L.drop k).any (vM out x.e.name f)=L.any (vM out x.e.name f))∧Hid (ag w wr)∧Hid (wr.cell? ⟨w.heap.size + 1,3,none⟩=some (.string f.c)∧wr.cell? ⟨w.heap.size + 1,4,none⟩=some (.string f.d)∧wr.cell? ⟨w.heap.size,3,none⟩=some (.string x.e.name)∧w.heap.size + 1 < wr.heap.size)) (fun i _=>L.length - (intOf i).toNat);case atStart=>exact ⟨0,TW _,rfl,rfl,below_drewN HB0.out _,VD⟩
 clear VD HB0;obtain ⟨k,hk,rfl,HP,HB,HC⟩:=hrel;by_cases hlt:k < L.length
 ·obtain ⟨bT,offT,WZ,⟨a0,a1,a2,a3,a4,a5⟩,hbT⟩:=Sl.at0 (WG.out.below HB.out) hlt;obtain ⟨c3,c4,x3,cl⟩:=HC.out;have cl0:w.heap.size < wr.heap.size:=by omega
  have hi1:=bB k;have hi2:(k:Int) < (L.length:Int):=by omega
  have HTF:=aC (HFL.out _ (TQ hlt));have HD2:Hid (L.any (vM out x.e.name f)=(vM out x.e.name f L[k] || (L.drop (k + 1)).any (vM out x.e.name f))):=by show _=_; rw [← HP.out]; exact Dx _ hlt
  obtain ⟨t,ht⟩:∃ t,t=L[k]:=⟨_,rfl⟩;rw [← ht] at a0 a1 a2 a3 a4 a5 HTF HD2;clear ht;obtain ⟨W1,hW1⟩:∃ W1,W1=wr.alloc (.cells #[.string t.a,.string t.b,.string t.r,.string t.c,.string t.d,.string t.s] 46):=⟨_,rfl⟩;have VL:=qY hW1;have HB1:=aC (HB.out.trans (VL.out.mono HB.out.size));have VE:Hid (W1.cell? ⟨w.heap.size + 1,3,none⟩=some (.string f.c)∧W1.cell? ⟨w.heap.size + 1,4,none⟩=some (.string f.d)∧W1.cell? ⟨w.heap.size,3,none⟩=some (.string x.e.name)∧w.heap.size + 1 < W1.heap.size):=⟨mK VL.out cl c3,mK VL.out cl c4,mK VL.out cl0 x3,TP cl VL.out.size⟩;subst WZ;have HTT:Hid (vM out x.e.name f t=bP out ⟨t.c,t.d,x.e.name,f.c,f.d⟩):=rfl;go_wp2_with fail;rw [← hW1];clear hW1;refine (vO bK nK out ⟨t.c,t.d,x.e.name,f.c,f.d⟩ W1 ⟨HTF.out.2.2.2.1,HTF.out.2.2.2.2.1,Xk.out.2,HF.out.2.2.2.1,HF.out.2.2.2.2⟩ (ZP.out.below HB1.out)).mono ?_;rintro e w2 ⟨rfl,hb2⟩;have HB2:=aC (HB1.out.trans (hb2.mono HB1.out.size));have U9:Hid (w2.cell? ⟨w.heap.size + 1,3,none⟩=some (.string f.c)∧w2.cell? ⟨w.heap.size + 1,4,none⟩=some (.string f.d)∧w2.cell? ⟨w.heap.size,3,none⟩=some (.string x.e.name)∧w.heap.size + 1 < w2.heap.size):=⟨mK hb2 VE.out.2.2.2 VE.out.1,mK hb2 VE.out.2.2.2 VE.out.2.1,mK hb2 (by have:=VE.out.2.2.2; omega) VE.out.2.2.1,TP VE.out.2.2.2 hb2.size⟩;clear hb2;cases hh:bP out ⟨t.c,t.d,x.e.name,f.c,f.d⟩;case true=>
   have HN:Hid (gp ts out x.e.over x.e.name f=true):=by show _=_; rw [HL.out,HD2.out,HTT.out,hh]; rfl
   go_wp2;go_ret;exact ⟨by rw [HN.out]; rfl,HB2.out⟩
  have UI:Hid ((L.drop (k + 1)).any (vM out x.e.name f)=L.any (vM out x.e.name f)):=by show _=_; rw [HD2.out,HTT.out,hh]; rfl
  go_wp2;go_roundw;case rel=>exact ⟨k + 1,by omega,by go_num,UI,HB2,U9⟩
  simp [intOf] <;> omega
 have HN:Hid (gp ts out x.e.over x.e.name f=false):=by show _=_; rw [HL.out,← HP.out,List.drop_of_length_le (by omega)]; rfl
 go_wp2;go_ret;exact ⟨by rw [HN.out]; rfl,HB.out⟩
end
end Go.Proofs.YtajkkeikihhejaaGreat
