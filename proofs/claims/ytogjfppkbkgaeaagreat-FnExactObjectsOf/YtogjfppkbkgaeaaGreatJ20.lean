/- What the program's tables and the document's strata ask: the same questions; how many facts there may be; the program's rounds over fewer users. -/
import Derived.Test.YtogjfppkbkgaeaaGreatJ6
import Derived.Test.YtogjfppkbkgaeaaGreatDataOf
import Derived.Test.YtogjfppkbkgaeaaGreatJ12
import Derived.Test.YtogjfppkbkgaeaaGreatJ8
import Derived.Test.YtogjfppkbkgaeaaGreatJ10
import Derived.BigQuiet
import Derived.Test.YtogjfppkbkgaeaaGreatJ7
import Derived.Test.YtogjfppkbkgaeaaGreatToExpr2
namespace Go.Proofs.YtogjfppkbkgaeaaGreat
set_option linter.unusedVariables false
open Go.ChangeShapes Go.WideShapes Go.ChangeAt Go.RowKit Go.Maps
open Pl
def jT (known:List Fc) (f:Fc) (t:Tp):Bool:=if t.s.toList.isEmpty then t.c.toList == f.c.toList && t.d.toList == f.d.toList else dQ known ⟨t.c,t.d,t.s,f.c,f.d⟩
def qD (known:List Fc) (name:ByteArray) (f:Fc) (t:Tp):Bool:=dQ known ⟨t.c,t.d,name,f.c,f.d⟩
theorem Cv (l:List Tp) (k:K3) (p:Tp→Bool):(G.lookL (cZ l) k).any p=l.any fun t=>(t.a.toList == k.1.toList && t.b.toList == k.2.1.toList && t.r.toList == k.2.2.toList) && p t:=by
 induction l with
 | nil=>rfl
 | cons t l ih =>
  have e:cZ (t::l)=[(FK t,t)] ++ cZ l:=rfl;rw [e,G.lookL_append,List.any_append,ih,List.any_cons];congr 1;unfold G.lookL FK;by_cases h:(t.a,t.b,t.r)=k
  ·subst h; simp
  ·have h2:(t.a.toList == k.1.toList && t.b.toList == k.2.1.toList && t.r.toList == k.2.2.toList)=false:=by
    cases hb:(t.a.toList == k.1.toList && t.b.toList == k.2.1.toList && t.r.toList == k.2.2.toList) with
    | false=>rfl
    | true=>rw [Bool.and_eq_true,Bool.and_eq_true,dK,dK,dK] at hb; exact absurd (Prod.ext hb.1.1 (Prod.ext hb.1.2 hb.2)) h
   simp [h,h2]
theorem EF (l:List Tp) (known:List Fc) (f:Fc):dR l known f=(G.lookL (cZ l) (f.a,f.b,f.r)).any (jT known f):=by rw [Cv]; rfl
theorem EG (l:List Tp) (known:List Fc) (over name:ByteArray) (f:Fc):eX l known over name f=(G.lookL (cZ l) (f.a,f.b,over)).any (qD known name f):=by rw [Cv]; rfl
theorem G7 (st:ByteArray × ByteArray→Int) (n:Int) (o:Al) (tn:ByteArray) (rows:List RR):((rows.map fun r=>(tn,r.name)).filter fun k=>k.1.toList == o.t.toList && decide (st k=n))=(G.lookL (rows.map fun r=>((tn,st (tn,r.name)),r)) (o.t,n)).map fun r=>(o.t,r.name):=by
 induction rows with
 | nil=>rfl
 | cons r rows ih =>
  have e:((r::rows).map fun r=>((tn,st (tn,r.name)),r))=[((tn,st (tn,r.name)),r)] ++ rows.map fun r=>((tn,st (tn,r.name)),r):=rfl;rw [e,G.lookL_append,List.map_append,← ih,List.map_cons,List.filter_cons];unfold G.lookL;by_cases h:tn=o.t∧st (tn,r.name)=n
  ·obtain ⟨rfl,rfl⟩:=h;simp
  ·have h1:(tn.toList == o.t.toList && decide (st (tn,r.name)=n))=false:=by
    cases hb:(tn.toList == o.t.toList && decide (st (tn,r.name)=n)) with
    | false=>rfl
    | true=>rw [Bool.and_eq_true,dK,decide_eq_true_eq] at hb; exact absurd hb h
   have h2:¬ ((tn,st (tn,r.name))=(o.t,n)):=fun e=>h ⟨congrArg Prod.fst e,congrArg Prod.snd e⟩;simp [h1,h2]
theorem Cw (st:ByteArray × ByteArray→Int) (n:Int) (o:Al) (rs:List TR):Ab (af rs) st n o=(G.lookL (dH st rs) (o.t,n)).map fun r=>(o.t,r.name):=by
 unfold Ab
 induction rs with
 | nil=>rfl
 | cons t rs ih =>
  have e1:ai (af (t::rs))=(t.rows.map fun r=>(t.name,r.name)) ++ ai (af rs):=by
   have:iB t.p=t.rows.map fun r=>(t.name,r.name):=by unfold iB; show List.map _ (bR t.rows)=_; unfold bR; rw [List.map_map]; rfl
   simp [ai,af,this]
  have e2:dH st (t::rs)=(t.rows.map fun r=>((t.name,st (t.name,r.name)),r)) ++ dH st rs:=rfl;rw [e1,e2,G.lookL_append,List.filter_append,List.map_append,ih,G7]
theorem wQ {s:St}:∀ {sts:List St},(fT sts).Nodup→s ∈ sts→dX sts s.key=s.n
 | [],_,h=>by cases h
 | x::xs,hd,h=>by
  have hd2:x.key ∉ fT xs∧(fT xs).Nodup:=List.nodup_cons.1 hd;unfold dX;by_cases e:vk x s.key.1 s.key.2=true
  ·rw [if_pos e];have ek:=mD.1 e;rcases List.mem_cons.1 h with rfl | h
   ·rfl
   ·exact absurd (by rw [ek]; exact List.mem_map_of_mem h) hd2.1
  ·rw [if_neg e];rcases List.mem_cons.1 h with rfl | h
   ·exact absurd (mD.2 rfl) e
   ·exact wQ hd2.2 h
def Nc (sts:List St) (n:Int) (o:Al):List St:=sts.filter fun s=>s.typ.toList == o.t.toList && decide (s.n=n)
theorem K5 {ts:List Ty} {sts:List St} (hk:fT sts=ai ts) (hn:(ai ts).Nodup) (n:Int) (o:Al):Ab ts (dX sts) n o=(Nc sts n o).map St.key:=by
 unfold Ab Nc;rw [← hk];rw [← hk] at hn;unfold fT;rw [List.filter_map];congr 1;refine List.filter_congr fun s hs=>?_;show (s.key.1.toList == o.t.toList && decide (dX sts s.key=n))=_;rw [wQ hn hs];rfl
theorem EH {rs:List TR} (h:aT (af rs)=true):(ai (af rs)).Nodup:=by
 have e:ai (af rs)=rs.flatMap fun t=>t.rows.map fun r=>(t.name,r.name):=by
  unfold ai af;rw [List.flatMap_map];congr 1
  funext t
  unfold iB;show List.map _ (bR t.rows)=_;unfold bR; rw [List.map_map]; rfl
 rw [e,List.Nodup,List.pairwise_flatMap];constructor
 ·intro t ht;obtain ⟨i,hi,rfl⟩:=List.mem_iff_getElem.1 ht;have hu:=(kK h i hi).2.2;rw [List.pairwise_map,List.pairwise_iff_getElem];intro a b ha hb hab e;have hne:=nQ (f:=fun k=>(rs[i].rows[k]?.map RR.name).getD ByteArray.empty) (n:=rs[i].rows.length) (fun k hk=>by
   have h0:k < rs[i].rows.length:=by omega
   simp only [List.getElem?_eq_getElem hk,List.getElem?_eq_getElem h0,Option.map_some,Option.getD_some];exact (zg hu (k + 1) hk hk).2.1 k h0 rfl)
  have:=hne a b hab hb;simp [ha,hb] at this;exact this (congrArg Prod.snd e)
 ·rw [List.pairwise_iff_getElem];intro a b ha hb hab x hx y hy e;obtain ⟨r,hr,rfl⟩:=List.mem_map.1 hx;obtain ⟨q,hq,rfl⟩:=List.mem_map.1 hy;have hne:=nQ (f:=fun k=>(rs[k]?.map TR.name).getD ByteArray.empty) (n:=rs.length) (fun k hk=>by
   have h0:k < rs.length:=by omega
   simp only [List.getElem?_eq_getElem hk,List.getElem?_eq_getElem h0,Option.map_some,Option.getD_some];exact (kK h (k + 1) hk).2.1 k h0 rfl)
  have:=hne a b hab hb;simp [ha,hb] at this;exact this (congrArg Prod.fst e)
theorem Cx {α:Type} [DecidableEq α]:∀ {a b:List α},a.Nodup→(∀ x ∈ a,x ∈ b)→a.length≤b.length
 | [],_,_,_=>Nat.zero_le _
 | x::a,b,hd,hs=>by
  obtain ⟨h1,h2⟩:=List.nodup_cons.1 hd;have hx:=hs x (by simp);have:=Cx (a:=a) (b:=b.erase x) h2 fun y hy=>(List.mem_erase_of_ne (fun e:y=x=>h1 (by rw [← e]; exact hy))).2 (hs y (by simp [hy]));rw [List.length_erase_of_mem hx] at this;have hp:0 < b.length:=List.length_pos_of_mem hx;simp only [List.length_cons];omega
def AO (ts:List Ty) (xo xu:List Al):List Fc:=xo.flatMap fun o=>(ai ts).flatMap fun k=>iy o k.2 xu
theorem zo {ts:List Ty} {st:ByteArray × ByteArray→Int} {xo xu:List Al} {n:Int} {f:Fc} (h:f ∈ bF ts st xo xu n):f ∈ AO ts xo xu:=by
 unfold bF uf at h;obtain ⟨o,ho,h⟩:=List.mem_flatMap.1 h;obtain ⟨k,hk,h⟩:=List.mem_flatMap.1 h;exact List.mem_flatMap.2 ⟨o,ho,List.mem_flatMap.2 ⟨k,(List.mem_filter.1 hk).1,h⟩⟩
theorem wS {α β:Type} (f:α→List β) (m:Nat) (hf:∀ a,(f a).length≤m):∀ l:List α,(l.flatMap f).length≤l.length * m
 | []=>by simp
 | a::l=>by
  have h1:=wS f m hf l;have h2:=hf a;simp only [List.flatMap_cons,List.length_append,List.length_cons,Nat.add_mul];omega
theorem JP (ts:List Ty) (xo xu:List Al):(AO ts xo xu).length≤xo.length * ((ai ts).length * xu.length) :=
 wS _ _ (fun o=>wS _ _ (fun k=>by unfold iy; rw [List.length_map]; exact Nat.le_refl _) _) _
structure GoodO (ts:List Ty) (xo xu:List Al) (out:List Fc):Prop where
 once:out.Nodup
 sub:∀ g ∈ out,g ∈ AO ts xo xu
def MV (us:List Al):List (ByteArray × ByteArray):=us.map fun u=>(u.t,u.s)
def MW (us:List Al) (x:ByteArray × ByteArray):Bool:=us.any fun u=>u.t.toList == x.1.toList && u.s.toList == x.2.toList
theorem uM {us:List Al} {x:ByteArray × ByteArray}:MW us x=true ↔ x ∈ MV us:=by
 unfold MW MV;rw [List.any_eq_true,List.mem_map];constructor
 ·rintro ⟨u,hu,h⟩;rw [Bool.and_eq_true,dK,dK] at h;exact ⟨u,hu,Prod.ext h.1 h.2⟩
 ·rintro ⟨u,hu,rfl⟩;exact ⟨u,hu,by simp⟩
def dz (us:List Al) (new:List Fc):List Al:=us.filter fun u=>new.any fun g=>g.c.toList == u.t.toList && g.d.toList == u.s.toList
theorem zq {us:List Al} {new:List Fc} {x:ByteArray × ByteArray}:x ∈ MV (dz us new) ↔ x ∈ MV us∧∃ g ∈ new,g.u=x:=by
 unfold MV dz;constructor
 ·intro h;obtain ⟨u,hu,rfl⟩:=List.mem_map.1 h;obtain ⟨h1,h2⟩:=List.mem_filter.1 hu;obtain ⟨g,hg,h3⟩:=List.any_eq_true.1 h2;rw [Bool.and_eq_true,dK,dK] at h3;exact ⟨List.mem_map_of_mem (f:=fun u:Al=>(u.t,u.s)) h1,g,hg,Prod.ext h3.1 h3.2⟩
 ·rintro ⟨h,g,hg,hx⟩;obtain ⟨u,hu,rfl⟩:=List.mem_map.1 h;refine List.mem_map.2 ⟨u,List.mem_filter.2 ⟨hu,List.any_eq_true.2 ⟨g,hg,?_⟩⟩,rfl⟩;rw [Bool.and_eq_true,dK,dK];exact ⟨congrArg Prod.fst hx,congrArg Prod.snd hx⟩
theorem EJ (us:List Al):dz us []=[]:=by unfold dz; rw [List.filter_eq_nil_iff]; simp
theorem EK {ts:List Ty} {xo xu:List Al} {n:Int} {st st':ByteArray × ByteArray→Int} (h:∀ k ∈ ai ts,st k=st' k):bF ts st xo xu n=bF ts st' xo xu n:=by
 unfold bF uf;congr 1
 funext o
 have:Ab ts st n o=Ab ts st' n o:=List.filter_congr fun k hk=>by rw [h k hk]
 rw [this]
set_option linter.unusedSectionVars false
section
variable [DecidableEq Fc]
theorem GoodO.run {ts:List Ty} {xo xu:List Al} {out:List Fc} (h:GoodO ts xo xu out) {H:List Fc→Fc→Bool} {qs:List Fc} (hq:∀ g ∈ qs,g ∈ AO ts xo xu):GoodO ts xo xu (aY H qs out):=by
 refine ⟨qQ qs h.once,fun g hg=>?_⟩;obtain ⟨n,e,hn⟩:=iN (H:=H) qs out;rw [e] at hg;rcases List.mem_append.1 hg with hg | hg
 ·exact h.sub g hg
 ·exact hq g (hn g hg).1
theorem GoodO.len {ts:List Ty} {xo xu:List Al} {out:List Fc} (h:GoodO ts xo xu out) (h1:xo.length≤80) (h2:(ai ts).length≤36) (h3:xu.length≤40):out.length≤115200:=by
 have a1:=Cx h.once h.sub;have a2:=JP ts xo xu;have a3:(ai ts).length * xu.length≤36 * 40:=Nat.mul_le_mul h2 h3;have a4:xo.length * ((ai ts).length * xu.length)≤80 * (36 * 40):=Nat.mul_le_mul h1 a3;omega
structure FewA (ts:List Ty) (l:List Tp) (st:ByteArray × ByteArray→Int) (xo xu:List Al) (n:Int) (us:List Al) (out:List Fc):Prop where
 sub:us=xu.filter fun u:Al=>MW us (u.t,u.s)
 few:Few Fc.u (gm ts l) (bF ts st xo xu n) (MV us) out
variable {ts:List Ty} {l:List Tp} {st:ByteArray × ByteArray→Int} {xo xu:List Al} {n:Int}
theorem FewA.start (out:List Fc):FewA ts l st xo xu n xu out:=by
 refine ⟨(List.filter_eq_self.2 fun u hu=>uM.2 (List.mem_map_of_mem (f:=fun u:Al=>(u.t,u.s)) hu)).symm,Few.start fun f hf=>DR hf⟩
theorem EL {φ υ:Type} [DecidableEq φ] {us:φ→υ} {H:List φ→φ→Bool} (hL:Loc us H) {qs:List φ} {users:List υ} {out:List φ} (h:Few us H qs users out) (P:υ→Bool) (hP:∀ u,P u=true ↔ u ∈ users):aY H (qs.filter fun f=>P (us f)) out=aY H qs out :=
 (jM hL P qs out fun f hf hp=>h.set f hf fun hm=>by rw [(hP _).2 hm] at hp; cases hp).symm
theorem FewA.round {us:List Al} {out:List Fc} (h:FewA ts l st xo xu n us out):aY (gm ts l) (bF ts st xo us n) out=aY (gm ts l) (bF ts st xo xu n) out:=by
 have h2:=BM ts st xo xu n (MW us);rw [← h.sub] at h2;rw [← h2];exact EL (yN ts l) h.few (MW us) fun u=>uM
theorem FewA.next {us:List Al} {out new:List Fc} (h:FewA ts l st xo xu n us out) (hn:aY (gm ts l) (bF ts st xo us n) out=out ++ new):FewA ts l st xo xu n (dz us new) (out ++ new):=by
 refine ⟨?_,h.few.next (yN ts l) (h.round.symm.trans hn) fun u=>zq⟩;have h1:dz us new=(xu.filter fun u:Al=>MW us (u.t,u.s)).filter fun u=>new.any fun g=>g.c.toList == u.t.toList && g.d.toList == u.s.toList:=by rw [← h.sub]; rfl
 rw [List.filter_filter] at h1;refine h1.trans (List.filter_congr fun u hu=>?_);rw [Bool.eq_iff_iff,uM,zq,Bool.and_eq_true,uM,List.any_eq_true,and_comm];refine and_congr Iff.rfl ⟨fun ⟨g,hg,h3⟩=>⟨g,hg,?_⟩,fun ⟨g,hg,h3⟩=>⟨g,hg,?_⟩⟩
 ·rw [Bool.and_eq_true,dK,dK] at h3;exact Prod.ext h3.1 h3.2
 ·rw [Bool.and_eq_true,dK,dK];exact ⟨congrArg Prod.fst h3,congrArg Prod.snd h3⟩
theorem FewA.done {out:List Fc} (h:FewA ts l st xo xu n [] out):kU (gm ts l) (bF ts st xo xu n) out=out:=h.few.done
theorem rW {st st':ByteArray × ByteArray→Int} (h:∀ k ∈ ai ts,st k=st' k):∀ N,jL ts l st xo xu N=jL ts l st' xo xu N
 | 0=>rfl
 | N + 1=>by rw [iE,iE,rW h N,EK h]
end
set_option maxRecDepth 100000
def K6 (u:Al) (g:Fc):Bool:=qN g.c g.d u.t u.s
theorem G8 (p:Fc→Bool) {zs:List Fc} {k:Nat} (h:k < zs.length):(zs.drop k).any p=(p zs[k] || (zs.drop (k + 1)).any p):=by rw [List.drop_eq_getElem_cons h]; rfl
theorem qZ.at0 {w:World} {ad:Option Addr} {fs:List Fc} (h:qZ w ad fs) {k:Nat} (hk:k < fs.length):∃ b off,ad=some ⟨b,off,none⟩∧GH w b (off + k * 5) fs[k]∧b < w.heap.size:=by
 rcases h with h | ⟨b',off',e,hb,hr⟩
 ·rw [h] at hk; simp at hk
 ·exact ⟨b',off',e,hr k hk,hb⟩
theorem K7 (g:Nat) (u:Al) (f:Fc) (w:World) (hg:g < w.heap.size) (h0:w.cell? ⟨g,0,none⟩=some (.string u.t)) (h1:w.cell? ⟨g,1,none⟩=some (.string u.s)) :
  Calls Tryz.prog 100 #[.agg #[.string f.a,.string f.b,.string f.r,.string f.c,.string f.d],.pointer (some ⟨g,0,none⟩)] w fun e w'=>e=.returned (.bool (K6 u f))∧Below w.heap.size w w':=by
 have HB:Hid (Below w.heap.size w (w.alloc (.cells #[.string f.a,.string f.b,.string f.r,.string f.c,.string f.d] 47))):=(Below.refl _ _).alloc (Nat.le_refl _) _;have heq:=cu f.c f.d u.t u.s rfl;go_enter Tryz.func100,Tryz.ntmps100;go_wp2;go_ret;exact ⟨rfl,HB.out⟩
theorem Ms (xs:Array Value) (u:World):(callFunc 100 xs).run Tryz.prog u=.ok (.enter 100 xs) u:=by kernel_rfl
set_option maxHeartbeats 1000000 in
theorem Cy (FC:Nat) (rc cp:Array Value) (p:Fc→Bool) (ad:Option Addr) (cap:Nat) (xs:List Fc) (w:World) (hlen:xs.length≤1048576) (hs:qZ w ad xs)
  (hrun:∀ (ys:Array Value) (u:World),(callFunc FC ys).run Tryz.prog u=.ok (.enter FC ys) u) (hp:∀ x ∈ xs,∀ w1:World,Below w.heap.size w w1→Calls Tryz.prog FC (rc.push (.agg #[.string x.a,.string x.b,.string x.r,.string x.c,.string x.d]) ++ cp) w1 fun e w'=>e=.returned (.bool (p x))∧Below w1.heap.size w1 w') :
  Calls Tryz.prog 141 #[.slice ad xs.length cap,.func (Fn.func FC) rc cp] w fun e w'=>(∃ r:Int,e=.returned (.int .i64 r)∧decide (0≤r)=xs.any p)∧Below w.heap.size w w':=by
 have HS:=az hs;have HRUN:=az hrun;have HP:=az hp;clear hs hrun hp;have HD:Hid (∀ k (h:k < xs.length),(xs.drop k).any p=(p xs[k] || (xs.drop (k + 1)).any p)):=fun k h=>G8 p h;go_enter Tryz.func141,Tryz.ntmps141;go_wp2_with fail;go_loopw [8] (fun i wr=>∃ k:Nat,k≤xs.length∧i=.int .i64 k∧Hid ((xs.drop k).any p=xs.any p)∧Hid (Below w.heap.size w wr)) (fun i _=>xs.length - (intOf i).toNat);case atStart=>exact ⟨0,Nat.zero_le _,rfl,rfl,Below.refl _ _⟩
 case round =>
  obtain ⟨k,hk,rfl,HQ,HB⟩:=hrel;by_cases hlt:k < xs.length
  ·obtain ⟨b,off,hadr,⟨t0,t1,t2,t3,t4⟩,hbl⟩:=qZ.at0 (HS.out.below HB.out) hlt;have HM:Hid (xs[k] ∈ xs):=List.getElem_mem hlt;have hk1:(0:Int)≤(k:Int):=by omega
   have hk2:(k:Int) < (xs.length:Int):=by omega
   have HD2:=az (HD.out k hlt);subst hadr;go_wp2_with fail;rw [HRUN.out,Oper.upon_enter];refine (HP.out _ HM.out _ HB.out).mono ?_;rintro e w1 ⟨rfl,hb1⟩;have HB1:Hid (Below w.heap.size w w1):=HB.out.trans (hb1.mono HB.out.size);clear hb1 t0 t1 t2 t3 t4;cases he:p xs[k] with
   | true =>
    have HN:Hid (xs.any p=true):=by show _=_; rw [← HQ.out,HD2.out,he]; rfl
    go_wp2;go_ret;exact ⟨⟨k,rfl,by rw [HN.out]; simp⟩,HB1.out⟩
   | false =>
    have HQ2:Hid ((xs.drop (k + 1)).any p=xs.any p):=by show _=_; rw [← HQ.out,HD2.out,he]; rfl
    go_wp2;go_roundw;case rel=>exact ⟨k + 1,by omega,by go_num,HQ2,HB1⟩
    case measure=>simp [intOf] <;> omega
  ·have HN:Hid (xs.any p=false):=by show _=_; rw [← HQ.out,List.drop_of_length_le (by omega)]; rfl
   go_wp2;go_ret;exact ⟨⟨-1,rfl,by rw [HN.out]; simp⟩,HB.out⟩
theorem wU (FC:Nat) (rc cp:Array Value) (p:Fc→Bool) (ad:Option Addr) (cap:Nat) (xs:List Fc) (w:World) (hlen:xs.length≤1048576) (hs:qZ w ad xs)
  (hrun:∀ (ys:Array Value) (u:World),(callFunc FC ys).run Tryz.prog u=.ok (.enter FC ys) u) (hp:∀ x ∈ xs,∀ w1:World,Below w.heap.size w w1→Calls Tryz.prog FC (rc.push (.agg #[.string x.a,.string x.b,.string x.r,.string x.c,.string x.d]) ++ cp) w1 fun e w'=>e=.returned (.bool (p x))∧Below w1.heap.size w1 w') :
  Calls Tryz.prog 99 #[.slice ad xs.length cap,.func (Fn.func FC) rc cp] w fun e w'=>e=.returned (.bool (xs.any p))∧Below w.heap.size w w':=by
 have HC:=az (Cy FC rc cp p ad cap xs w hlen hs hrun hp);clear hs hrun hp;go_enter Tryz.func99,Tryz.ntmps99;go_wp2_with fail;refine HC.out.mono ?_;rintro e w' ⟨⟨r,rfl,hr⟩,hbx⟩;have HR:=az hr;clear hr;go_wp2;go_ret;exact ⟨by rw [← HR.out]; rfl,hbx⟩
theorem EM {us:List Al} {new:List Fc} {k:Nat} (h:k < us.length):dz (us.take (k + 1)) new=dz (us.take k) new ++ (if new.any (K6 us[k]) then [us[k]] else []):=by
 unfold dz;rw [List.take_succ_eq_append_getElem h,List.filter_append];congr 1;rw [List.filter_cons];rfl
theorem zt (us:List Al) (new:List Fc):(dz us new).length≤us.length:=List.length_filter_le _ _
set_option maxHeartbeats 8000000 in
theorem ni (adU:Option Addr) (capU:Nat) (us:List Al) (adF:Option Addr) (capF:Nat) (new:List Fc) (w:World) (hul:us.length≤1000) (hnl:new.length≤1048576) (hu:dm w adU us) (hf:qZ w adF new) :
  Calls Tryz.prog 68 #[.slice adU us.length capU,.slice adF new.length capF] w fun e w'=>(∃ v,e=.returned v∧w'.ownsRow w.heap.size 45 2 v (dz us new).length (pairs (dz us new)))∧Below w.heap.size w w':=by
 obtain ⟨iO,h0,h1,h2,h3⟩:=mI;have HIO:=aj (And.intro h0 (And.intro h1 (And.intro h2 h3)));have HU:=aj hu;have HF:=aj hf;have HO0:Hid (w.ownsRow w.heap.size 45 2 (.slice none 0 0) (dz (us.take 0) new).length (pairs (dz (us.take 0) new))):=World.ownsRow_nil _ _ _ _;clear hu hf h0 h1 h2 h3;go_enter Tryz.func68,Tryz.ntmps68;go_wp2_with fail;go_loopw [5,10] (fun v i wr=>∃ k:Nat,k≤us.length∧i=.int .i64 k∧Hid (wr.ownsRow w.heap.size 45 2 v (dz (us.take k) new).length (pairs (dz (us.take k) new)))∧Hid (Below w.heap.size w wr)) (fun _ i _=>us.length - (intOf i).toNat);case atStart=>exact ⟨0,Nat.zero_le _,rfl,HO0,Below.refl _ _⟩
 case round =>
  clear HO0;obtain ⟨k,hk,rfl,HO,HB⟩:=hrel;by_cases hlt:k < us.length
  ·obtain ⟨b,off,hadr,⟨t0,t1⟩,hbl⟩:=dm.at0 (HU.out.below HB.out) hlt;have hi1:(0:Int)≤(k:Int):=by omega
   have hi2:(k:Int) < (us.length:Int):=by omega
   have HKT:=aj (EM (new:=new) hlt);have hkl:=zt (us.take k) new;rw [List.length_take] at hkl;obtain ⟨u,hu⟩:∃ u,u=us[k]:=⟨_,rfl⟩;rw [← hu] at t0 t1 HKT;clear hu;obtain ⟨W1,hW1⟩:∃ W1,W1=wr.alloc (.cells #[.string u.t,.string u.s] 45):=⟨_,rfl⟩;have HBr:Hid (Below wr.heap.size wr W1):=by show Below _ _ _; rw [hW1]; exact (Below.refl _ _).alloc (Nat.le_refl _) _
   have HB1:=aj (HB.out.trans (HBr.out.mono HB.out.size));have d0:W1.cell? ⟨wr.heap.size,0,none⟩=some (.string u.t):=by rw [hW1]; simp
   have d1:W1.cell? ⟨wr.heap.size,1,none⟩=some (.string u.s):=by rw [hW1]; simp
   have dl:wr.heap.size < W1.heap.size:=av d0;have HO1:=aj (aI HO.out HBr.out);obtain ⟨ys,hys⟩:∃ ys,ys=dz (us.take k) new:=⟨_,rfl⟩;rw [← hys] at HO1 HKT hkl;obtain ⟨adV,capV,rfl,-⟩:=fU HO1.out;have HCN:=aj (wU 100 #[] #[.pointer (some ⟨wr.heap.size,0,none⟩)] (K6 u) adF capF new W1 hnl (HF.out.below HB1.out) Ms (fun x hx w1 hb=>K7 wr.heap.size u x w1 (Nat.lt_of_lt_of_le dl hb.size) (aG hb dl d0) (aG hb dl d1)));subst hadr;clear hys HO;go_wp2_with fail;rw [← hW1];clear hW1 t0 t1;refine HCN.out.mono ?_;rintro e w2 ⟨rfl,hb2⟩;have HB2:=aj (HB1.out.trans (hb2.mono HB1.out.size));have HO2:=aj (aI HO1.out hb2);replace d0:=aG hb2 dl d0;replace d1:=aG hb2 dl d1;replace dl:=Nat.lt_of_lt_of_le dl hb2.size;clear hb2 HCN HO1 HBr;cases hh:new.any (K6 u) with
   | false =>
    have HR:Hid (w2.ownsRow w.heap.size 45 2 (.slice adV ys.length capV) (dz (us.take (k + 1)) new).length (pairs (dz (us.take (k + 1)) new))):=by
     show World.ownsRow _ _ _ _ _ _ _;rw [HKT.out,hh]; simp only [Bool.false_eq_true,if_false,List.append_nil]; exact HO2.out
    go_wp2;go_roundw;case rel=>exact ⟨k + 1,by omega,by go_num,HR,HB2⟩
    case measure=>simp [intOf] <;> omega
   | true =>
    have HWE:Hid (dz (us.take (k + 1)) new=ys ++ [u]):=by show _=_; rw [HKT.out,hh]; rfl
    obtain ⟨W4,hW4⟩:∃ W4,W4=w2.alloc (.cells #[.string u.t,.string u.s] 45):=⟨_,rfl⟩;have HO4:Hid (W4.ownsRow w.heap.size 45 2 (.slice adV ys.length capV) ys.length (pairs ys)):=by show World.ownsRow _ _ _ _ _ _ _; rw [hW4]; exact HO2.out.alloc _
    have HN4:Hid (∀ j x,[Value.string u.t,Value.string u.s][j]?=some x→W4.cell? ((⟨w2.heap.size,0,none⟩:Addr).add j)=some x):=by rw [hW4]; exact yU w2 u
    have HBW4:Hid (Below w.heap.size w W4):=by show Below _ _ _; rw [hW4]; exact HB2.out.alloc HB2.out.size _
    have hsz4:w.heap.size≤W4.heap.size:=HBW4.out.size;clear hh;go_wp2_with (at_builtin; rw [← hW4]; clear hW4; refine wpList_append_own_at _ rfl _ _ 51 rfl w.heap.size 45 iO (.agg #[.string ⟨#[]⟩,.string ⟨#[]⟩]) 2 32 Tryz.underlying51 HIO.out.1 HIO.out.2.1 HIO.out.2.2.1 HIO.out.2.2.2 rfl (by decide) _ ys.length (pairs ys) rfl HO4.out ⟨w2.heap.size,0,none⟩ 1 1 [.string u.t,.string u.s] rfl rfl HN4.out (by simp [Value.oneCell']) (by unfold maxLen; omega) (by omega) hsz4 ?_);intro v' w5 hown hgr _ _;have HR:Hid (w5.ownsRow w.heap.size 45 2 v' (dz (us.take (k + 1)) new).length (pairs (dz (us.take (k + 1)) new))):=by
     show World.ownsRow _ _ _ _ _ _ _;rw [HWE.out,List.length_append];have:pairs (ys ++ [u])=pairs ys ++ [.string u.t,.string u.s]:=by simp [pairs]
     rw [this]; exact hown
    have HBR:Hid (Below w.heap.size w w5):=HBW4.out.grown hgr HBW4.out.size (fun g hg=>(HO4.out.lt g hg).1);clear hown hgr d0 d1 dl;go_wp2;go_roundw;case rel=>exact ⟨k + 1,by omega,by go_num,HR,HBR⟩
    case measure=>simp [intOf] <;> omega
  ·have HE:Hid (wr.ownsRow w.heap.size 45 2 u5 (dz us new).length (pairs (dz us new))):=by
    have h:=HO.out;rw [List.take_of_length_le (by omega)] at h;exact h
   clear HO;go_wp2;go_ret;exact ⟨⟨_,rfl,HE.out⟩,HB.out⟩
def dI (p:Fc→Bool) (h:Fc→Al) (L:List Fc):List Al:=(L.filter p).map h
theorem zu (p:Fc→Bool) (h:Fc→Al) {L:List Fc} {k:Nat} (hk:k < L.length):dI p h (L.take (k + 1))=dI p h (L.take k) ++ (if p L[k] then [h L[k]] else []):=by
 unfold dI;rw [List.take_succ_eq_append_getElem hk,List.filter_append,List.map_append];congr 1;rw [List.filter_cons];cases p L[k] <;> rfl
theorem wV (p:Fc→Bool) (h:Fc→Al) (L:List Fc):(dI p h L).length≤L.length:=by
 unfold dI;rw [List.length_map];exact List.length_filter_le _ _
def bn (typ rel:ByteArray) (o:Al) (x:Fc):Bool:=(x.a.toList == typ.toList && x.r.toList == rel.toList) && qN x.c x.d o.t o.s
def dN (x:Fc):Al:=⟨x.a,x.b⟩
set_option maxHeartbeats 8000000 in
theorem EN (ad:Option Addr) (n cap:Nat) (ad':Option Addr) (n' cap':Nat) (L:List Fc) (typ rel:ByteArray) (o:Al) (w:World) (hLl:L.length≤115200)
  (hF:∀ W',Below w.heap.size w W'→Calls Tryz.prog 12 #[.slice ad n cap,.slice ad' n' cap'] W' fun e w'=>(∃ v,e=.returned v∧w'.ownsRow W'.heap.size 47 5 v L.length (aB L))∧Below W'.heap.size W' w') :
  Calls Tryz.prog 32 #[.slice ad n cap,.slice ad' n' cap',.string typ,.string rel,.agg #[.string o.t,.string o.s]] w fun e w'=>(∃ v,e=.returned v∧w'.ownsRow w.heap.size 45 2 v (dI (bn typ rel o) dN L).length (pairs (dI (bn typ rel o) dN L)))∧Below w.heap.size w w':=by
 obtain ⟨iO,h0,h1,h2,h3⟩:=mI;have HIO:=aj (And.intro h0 (And.intro h1 (And.intro h2 h3)));obtain ⟨W0,hW0⟩:∃ W0,W0=w.alloc (.cells #[.string o.t,.string o.s] 45):=⟨_,rfl⟩;have HB0:Hid (Below w.heap.size w W0):=by show Below _ _ _; rw [hW0]; exact (Below.refl _ _).alloc (Nat.le_refl _) _
 have d0:W0.cell? ⟨w.heap.size,0,none⟩=some (.string o.t):=by rw [hW0]; simp
 have d1:W0.cell? ⟨w.heap.size,1,none⟩=some (.string o.s):=by rw [hW0]; simp
 have dl:w.heap.size < W0.heap.size:=av d0;have HFC:=aj (hF W0 HB0.out);clear hF h0 h1 h2 h3;go_enter Tryz.func32,Tryz.ntmps32;go_wp2_with fail;rw [← hW0];clear hW0;refine HFC.out.mono ?_;rintro e w1 ⟨⟨v,rfl,hown⟩,hb1⟩;obtain ⟨adL,capL,rfl,hsl⟩:=mM hown;have HSF:=aj hsl;have HB1:Hid (Below w.heap.size w w1):=HB0.out.trans (hb1.mono HB0.out.size);replace d0:=aG hb1 dl d0;replace d1:=aG hb1 dl d1;replace dl:=Nat.lt_of_lt_of_le dl hb1.size;clear hown hsl hb1 HB0 HFC;have HO0:Hid (w1.ownsRow w1.heap.size 45 2 (.slice none 0 0) (dI (bn typ rel o) dN (L.take 0)).length (pairs (dI (bn typ rel o) dN (L.take 0)))):=World.ownsRow_nil _ _ _ _;go_wp2_with fail;go_loopw [11,18] (fun v i wr=>∃ k:Nat,k≤L.length∧i=.int .i64 k∧Hid (wr.ownsRow w1.heap.size 45 2 v (dI (bn typ rel o) dN (L.take k)).length (pairs (dI (bn typ rel o) dN (L.take k))))∧Hid (Below w1.heap.size w1 wr)) (fun _ i _=>L.length - (intOf i).toNat);case atStart=>exact ⟨0,Nat.zero_le _,rfl,HO0,Below.refl _ _⟩
 case round =>
  clear HO0;obtain ⟨k,hk,rfl,HO,HB⟩:=hrel;by_cases hlk:k < L.length
  ·obtain ⟨b,off,hadr,⟨t0,t1,t2,t3,t4⟩,hbl⟩:=qZ.at0 (HSF.out.below HB.out) hlk;have hi1:(0:Int)≤(k:Int):=by omega
   have hi2:(k:Int) < (L.length:Int):=by omega
   have HKT:=aj (zu (bn typ rel o) dN hlk);have hkl:=wV (bn typ rel o) dN (L.take k);rw [List.length_take] at hkl;obtain ⟨x,hx⟩:∃ x,x=L[k]:=⟨_,rfl⟩;rw [← hx] at t0 t1 t2 t3 t4 HKT;clear hx;obtain ⟨W1,hW1⟩:∃ W1,W1=wr.alloc (.cells #[.string x.a,.string x.b,.string x.r,.string x.c,.string x.d] 47):=⟨_,rfl⟩;have HBr:Hid (Below wr.heap.size wr W1):=by show Below _ _ _; rw [hW1]; exact (Below.refl _ _).alloc (Nat.le_refl _) _
   have HBW:=aj (HB.out.trans (HBr.out.mono HB.out.size));have x0:wr.cell? ⟨w.heap.size,0,none⟩=some (.string o.t):=aG HB.out dl d0;have x1:wr.cell? ⟨w.heap.size,1,none⟩=some (.string o.s):=aG HB.out dl d1;have xl:w.heap.size < wr.heap.size:=av x0;have hz1:W1.heap.size=wr.heap.size + 1:=by rw [hW1]; simp
   have HO1:=aj (aI HO.out HBr.out);obtain ⟨ys,hys⟩:∃ ys,ys=dI (bn typ rel o) dN (L.take k):=⟨_,rfl⟩;rw [← hys] at HO1 HKT hkl;obtain ⟨adV,capV,rfl,-⟩:=fU HO1.out;subst hadr;clear hys HO HBr;cases hq0:(x.a.toList == typ.toList) with
   | false =>
    have HR:Hid (W1.ownsRow w1.heap.size 45 2 (.slice adV ys.length capV) (dI (bn typ rel o) dN (L.take (k + 1))).length (pairs (dI (bn typ rel o) dN (L.take (k + 1))))):=by
     show World.ownsRow _ _ _ _ _ _ _;rw [HKT.out,show bn typ rel o x=false from by simp [bn,hq0]]; simp only [Bool.false_eq_true,if_false,List.append_nil]; exact HO1.out
    go_wp2;rw [← hW1];clear hW1;go_roundw;case rel=>exact ⟨k + 1,by omega,by go_num,HR,HBW⟩
    case measure=>simp [intOf] <;> omega
   | true =>
    cases hq1:(x.r.toList == rel.toList) with
    | false =>
     have HR:Hid (W1.ownsRow w1.heap.size 45 2 (.slice adV ys.length capV) (dI (bn typ rel o) dN (L.take (k + 1))).length (pairs (dI (bn typ rel o) dN (L.take (k + 1))))):=by
      show World.ownsRow _ _ _ _ _ _ _;rw [HKT.out,show bn typ rel o x=false from by simp [bn,hq0,hq1]]; simp only [Bool.false_eq_true,if_false,List.append_nil]; exact HO1.out
     go_wp2;rw [← hW1];clear hW1;go_roundw;case rel=>exact ⟨k + 1,by omega,by go_num,HR,HBW⟩
     case measure=>simp [intOf] <;> omega
    | true =>
     cases hq2:qN x.c x.d o.t o.s with
     | false =>
      have HR:Hid (W1.ownsRow w1.heap.size 45 2 (.slice adV ys.length capV) (dI (bn typ rel o) dN (L.take (k + 1))).length (pairs (dI (bn typ rel o) dN (L.take (k + 1))))):=by
       show World.ownsRow _ _ _ _ _ _ _;rw [HKT.out,show bn typ rel o x=false from by simp [bn,hq0,hq1,hq2]]; simp only [Bool.false_eq_true,if_false,List.append_nil]; exact HO1.out
      have hv:=cu _ _ _ _ hq2;clear hq2;go_wp2;rw [← hW1];clear hW1;go_roundw;case rel=>exact ⟨k + 1,by omega,by go_num,HR,HBW⟩
      case measure=>simp [intOf] <;> omega
     | true =>
      have HWE:Hid (dI (bn typ rel o) dN (L.take (k + 1))=ys ++ [⟨x.a,x.b⟩]):=by show _=_; rw [HKT.out,show bn typ rel o x=true from by simp [bn,hq0,hq1,hq2]]; rfl
      obtain ⟨W4,hW4⟩:∃ W4,W4=W1.alloc (.cells #[.string x.a,.string x.b] 45):=⟨_,rfl⟩;have HO4:Hid (W4.ownsRow w1.heap.size 45 2 (.slice adV ys.length capV) ys.length (pairs ys)):=by show World.ownsRow _ _ _ _ _ _ _; rw [hW4]; exact HO1.out.alloc _
      have HN4:Hid (∀ j u,[Value.string x.a,Value.string x.b][j]?=some u→W4.cell? ((⟨wr.heap.size + 1,0,none⟩:Addr).add j)=some u):=by rw [← hz1,hW4]; exact yU W1 ⟨x.a,x.b⟩
      have HBW4:Hid (Below w1.heap.size w1 W4):=by show Below _ _ _; rw [hW4]; exact HBW.out.alloc HBW.out.size _
      have hsz4:w1.heap.size≤W4.heap.size:=HBW4.out.size;have hv:=cu _ _ _ _ hq2;clear hq2;go_wp2_with (at_builtin; rw [← hW1]; rw [← hW4]; clear hW4; refine wpList_append_own_at _ rfl _ _ 51 rfl w1.heap.size 45 iO (.agg #[.string ⟨#[]⟩,.string ⟨#[]⟩]) 2 32 Tryz.underlying51 HIO.out.1 HIO.out.2.1 HIO.out.2.2.1 HIO.out.2.2.2 rfl (by decide) _ ys.length (pairs ys) rfl HO4.out ⟨wr.heap.size + 1,0,none⟩ 1 1 [.string x.a,.string x.b] rfl rfl HN4.out (by simp [Value.oneCell']) (by unfold maxLen; omega) (by omega) hsz4 ?_);intro v' w5 hown hgr _ _;have HR:Hid (w5.ownsRow w1.heap.size 45 2 v' (dI (bn typ rel o) dN (L.take (k + 1))).length (pairs (dI (bn typ rel o) dN (L.take (k + 1))))):=by
       show World.ownsRow _ _ _ _ _ _ _;rw [HWE.out,List.length_append];have:pairs (ys ++ [⟨x.a,x.b⟩])=pairs ys ++ [.string x.a,.string x.b]:=by simp [pairs]
       rw [this]; exact hown
      have HBR:Hid (Below w1.heap.size w1 w5):=HBW4.out.grown hgr HBW4.out.size (fun g hg=>(HO4.out.lt g hg).1);clear hown hgr x0 x1;go_wp2;go_roundw;case rel=>exact ⟨k + 1,by omega,by go_num,HR,HBR⟩
      case measure=>simp [intOf] <;> omega
  ·have HE:Hid (wr.ownsRow w.heap.size 45 2 u11 (dI (bn typ rel o) dN L).length (pairs (dI (bn typ rel o) dN L))):=by
    have h:=HO.out;rw [List.take_of_length_le (by omega)] at h;exact jm h HB1.out.size
   have HBE:Hid (Below w.heap.size w wr):=HB1.out.trans (HB.out.mono HB1.out.size);clear HO;go_wp2;go_ret;exact ⟨⟨_,rfl,HE.out⟩,HBE.out⟩
set_option maxHeartbeats 8000000 in
theorem EO (ad:Option Addr) (n cap:Nat) (ad':Option Addr) (n' cap':Nat) (L:List Fc) (typ rel:ByteArray) (o:Al) (w:World) (hLl:L.length≤115200)
  (hF:∀ W',Below w.heap.size w W'→Calls Tryz.prog 9 #[.slice ad n cap,.slice ad' n' cap'] W' fun e w'=>(∃ v,e=.returned v∧w'.ownsRow W'.heap.size 47 5 v L.length (aB L))∧Below W'.heap.size W' w') :
  Calls Tryz.prog 31 #[.slice ad n cap,.slice ad' n' cap',.string typ,.string rel,.agg #[.string o.t,.string o.s]] w fun e w'=>(∃ v,e=.returned v∧w'.ownsRow w.heap.size 45 2 v (dI (bn typ rel o) dN L).length (pairs (dI (bn typ rel o) dN L)))∧Below w.heap.size w w':=by
 obtain ⟨iO,h0,h1,h2,h3⟩:=mI;have HIO:=aj (And.intro h0 (And.intro h1 (And.intro h2 h3)));obtain ⟨W0,hW0⟩:∃ W0,W0=w.alloc (.cells #[.string o.t,.string o.s] 45):=⟨_,rfl⟩;have HB0:Hid (Below w.heap.size w W0):=by show Below _ _ _; rw [hW0]; exact (Below.refl _ _).alloc (Nat.le_refl _) _
 have d0:W0.cell? ⟨w.heap.size,0,none⟩=some (.string o.t):=by rw [hW0]; simp
 have d1:W0.cell? ⟨w.heap.size,1,none⟩=some (.string o.s):=by rw [hW0]; simp
 have dl:w.heap.size < W0.heap.size:=av d0;have HFC:=aj (hF W0 HB0.out);clear hF h0 h1 h2 h3;go_enter Tryz.func31,Tryz.ntmps31;go_wp2_with fail;rw [← hW0];clear hW0;refine HFC.out.mono ?_;rintro e w1 ⟨⟨v,rfl,hown⟩,hb1⟩;obtain ⟨adL,capL,rfl,hsl⟩:=mM hown;have HSF:=aj hsl;have HB1:Hid (Below w.heap.size w w1):=HB0.out.trans (hb1.mono HB0.out.size);replace d0:=aG hb1 dl d0;replace d1:=aG hb1 dl d1;replace dl:=Nat.lt_of_lt_of_le dl hb1.size;clear hown hsl hb1 HB0 HFC;obtain ⟨W2,hW2⟩:∃ W2,W2=w1.alloc (.cells #[] 45):=⟨_,rfl⟩;have HO0:Hid (W2.ownsRow w1.heap.size 45 2 (.slice (some ⟨w1.heap.size,0,none⟩) 0 0) (dI (bn typ rel o) dN (L.take 0)).length (pairs (dI (bn typ rel o) dN (L.take 0)))):=by
  show World.ownsRow _ _ _ _ _ _ _;rw [hW2];exact World.ownsRow_lit w1 #[] 0 (Nat.le_refl _) (by unfold maxLen; omega) (by simp)
 have HB2:Hid (Below w1.heap.size w1 W2):=by show Below _ _ _; rw [hW2]; exact (Below.refl _ _).alloc (Nat.le_refl _) _
 go_wp2_with fail;rw [← hW2];clear hW2;go_loopw [12,13] (fun v i wr=>∃ k:Nat,k≤L.length∧i=.int .i64 k∧Hid (wr.ownsRow w1.heap.size 45 2 v (dI (bn typ rel o) dN (L.take k)).length (pairs (dI (bn typ rel o) dN (L.take k))))∧Hid (Below w1.heap.size w1 wr)) (fun _ i _=>L.length - (intOf i).toNat);case atStart=>exact ⟨0,Nat.zero_le _,rfl,HO0,HB2.out⟩
 case round =>
  clear HO0 HB2;obtain ⟨k,hk,rfl,HO,HB⟩:=hrel;by_cases hlk:k < L.length
  ·obtain ⟨b,off,hadr,⟨t0,t1,t2,t3,t4⟩,hbl⟩:=qZ.at0 (HSF.out.below HB.out) hlk;have hi1:(0:Int)≤(k:Int):=by omega
   have hi2:(k:Int) < (L.length:Int):=by omega
   have HKT:=aj (zu (bn typ rel o) dN hlk);have hkl:=wV (bn typ rel o) dN (L.take k);rw [List.length_take] at hkl;obtain ⟨x,hx⟩:∃ x,x=L[k]:=⟨_,rfl⟩;rw [← hx] at t0 t1 t2 t3 t4 HKT;clear hx;have x0:wr.cell? ⟨w.heap.size,0,none⟩=some (.string o.t):=aG HB.out dl d0;have x1:wr.cell? ⟨w.heap.size,1,none⟩=some (.string o.s):=aG HB.out dl d1;have HO1:=HO;have HBr:Hid (Below wr.heap.size wr wr):=Below.refl _ _;obtain ⟨ys,hys⟩:∃ ys,ys=dI (bn typ rel o) dN (L.take k):=⟨_,rfl⟩;rw [← hys] at HO1 HKT hkl;obtain ⟨adV,capV,rfl,-⟩:=fU HO1.out;subst hadr;clear hys HO HBr;cases hq0:(x.a.toList == typ.toList) with
   | false =>
    go_wp2_with fail;go_quiet (fail);obtain ⟨W1,hW1⟩:∃ W1,W1=wr.drewN nq:=⟨_,rfl⟩;rw [← hW1];have HBr:Hid (Below wr.heap.size wr W1):=by show Below _ _ _; rw [hW1]; exact below_drewN (Below.refl _ _) _
    have HBW:=aj (HB.out.trans (HBr.out.mono HB.out.size));replace HO1:=aj (aI HO1.out HBr.out);have y0:=aG HBr.out hbl t0;have y1:=aG HBr.out hbl t1;clear hW1 t0 t1 t2 t3 t4 x0 x1;have HR:Hid (W1.ownsRow w1.heap.size 45 2 (.slice adV ys.length capV) (dI (bn typ rel o) dN (L.take (k + 1))).length (pairs (dI (bn typ rel o) dN (L.take (k + 1))))):=by
     show World.ownsRow _ _ _ _ _ _ _;rw [HKT.out,show bn typ rel o x=false from by simp [bn,hq0]]; simp only [Bool.false_eq_true,if_false,List.append_nil]; exact HO1.out
    go_wp2;go_roundw;case rel=>exact ⟨k + 1,by omega,by go_num,HR,HBW⟩
    case measure=>simp [intOf] <;> omega
   | true =>
    cases hq1:(x.r.toList == rel.toList) with
    | false =>
     go_wp2_with fail;go_quiet (fail);obtain ⟨W1,hW1⟩:∃ W1,W1=wr.drewN nq:=⟨_,rfl⟩;rw [← hW1];have HBr:Hid (Below wr.heap.size wr W1):=by show Below _ _ _; rw [hW1]; exact below_drewN (Below.refl _ _) _
     have HBW:=aj (HB.out.trans (HBr.out.mono HB.out.size));replace HO1:=aj (aI HO1.out HBr.out);have y0:=aG HBr.out hbl t0;have y1:=aG HBr.out hbl t1;clear hW1 t0 t1 t2 t3 t4 x0 x1;have HR:Hid (W1.ownsRow w1.heap.size 45 2 (.slice adV ys.length capV) (dI (bn typ rel o) dN (L.take (k + 1))).length (pairs (dI (bn typ rel o) dN (L.take (k + 1))))):=by
      show World.ownsRow _ _ _ _ _ _ _;rw [HKT.out,show bn typ rel o x=false from by simp [bn,hq0,hq1]]; simp only [Bool.false_eq_true,if_false,List.append_nil]; exact HO1.out
     go_wp2;go_roundw;case rel=>exact ⟨k + 1,by omega,by go_num,HR,HBW⟩
     case measure=>simp [intOf] <;> omega
    | true =>
     cases hq2:qN x.c x.d o.t o.s with
     | false =>
      have hv:=cu _ _ _ _ hq2;replace hq2:=aj hq2;go_wp2_with fail;go_quiet (fail);obtain ⟨W1,hW1⟩:∃ W1,W1=wr.drewN nq:=⟨_,rfl⟩;rw [← hW1];have HBr:Hid (Below wr.heap.size wr W1):=by show Below _ _ _; rw [hW1]; exact below_drewN (Below.refl _ _) _
      have HBW:=aj (HB.out.trans (HBr.out.mono HB.out.size));replace HO1:=aj (aI HO1.out HBr.out);have y0:=aG HBr.out hbl t0;have y1:=aG HBr.out hbl t1;clear hW1 t0 t1 t2 t3 t4 x0 x1;have HR:Hid (W1.ownsRow w1.heap.size 45 2 (.slice adV ys.length capV) (dI (bn typ rel o) dN (L.take (k + 1))).length (pairs (dI (bn typ rel o) dN (L.take (k + 1))))):=by
       show World.ownsRow _ _ _ _ _ _ _;rw [HKT.out,show bn typ rel o x=false from by simp [bn,hq0,hq1,hq2.out]]; simp only [Bool.false_eq_true,if_false,List.append_nil]; exact HO1.out
      go_wp2;go_roundw;case rel=>exact ⟨k + 1,by omega,by go_num,HR,HBW⟩
      case measure=>simp [intOf] <;> omega
     | true =>
      have hv:=cu _ _ _ _ hq2;replace hq2:=aj hq2;go_wp2_with fail;go_quiet (fail);obtain ⟨W1,hW1⟩:∃ W1,W1=wr.drewN nq:=⟨_,rfl⟩;rw [← hW1];have HBr:Hid (Below wr.heap.size wr W1):=by show Below _ _ _; rw [hW1]; exact below_drewN (Below.refl _ _) _
      have HBW:=aj (HB.out.trans (HBr.out.mono HB.out.size));replace HO1:=aj (aI HO1.out HBr.out);have y0:=aG HBr.out hbl t0;have y1:=aG HBr.out hbl t1;clear hW1 t0 t1 t2 t3 t4 x0 x1;have HWE:Hid (dI (bn typ rel o) dN (L.take (k + 1))=ys ++ [⟨x.a,x.b⟩]):=by show _=_; rw [HKT.out,show bn typ rel o x=true from by simp [bn,hq0,hq1,hq2.out]]; rfl
      obtain ⟨W4,hW4⟩:∃ W4,W4=W1.alloc (.cells #[.string x.a,.string x.b] 45):=⟨_,rfl⟩;have HO4:Hid (W4.ownsRow w1.heap.size 45 2 (.slice adV ys.length capV) ys.length (pairs ys)):=by show World.ownsRow _ _ _ _ _ _ _; rw [hW4]; exact HO1.out.alloc _
      have HN4:Hid (∀ j u,[Value.string x.a,Value.string x.b][j]?=some u→W4.cell? ((⟨W1.heap.size,0,none⟩:Addr).add j)=some u):=by rw [hW4]; exact yU W1 ⟨x.a,x.b⟩
      have HBW4:Hid (Below w1.heap.size w1 W4):=by show Below _ _ _; rw [hW4]; exact HBW.out.alloc HBW.out.size _
      have hsz4:w1.heap.size≤W4.heap.size:=HBW4.out.size;go_wp2_with (at_builtin; rw [← hW4]; clear hW4; refine wpList_append_own_at _ rfl _ _ 51 rfl w1.heap.size 45 iO (.agg #[.string ⟨#[]⟩,.string ⟨#[]⟩]) 2 32 Tryz.underlying51 HIO.out.1 HIO.out.2.1 HIO.out.2.2.1 HIO.out.2.2.2 rfl (by decide) _ ys.length (pairs ys) rfl HO4.out ⟨W1.heap.size,0,none⟩ 1 1 [.string x.a,.string x.b] rfl rfl HN4.out (by simp [Value.oneCell']) (by unfold maxLen; omega) (by omega) hsz4 ?_);intro v' w5 hown hgr _ _;have HR:Hid (w5.ownsRow w1.heap.size 45 2 v' (dI (bn typ rel o) dN (L.take (k + 1))).length (pairs (dI (bn typ rel o) dN (L.take (k + 1))))):=by
       show World.ownsRow _ _ _ _ _ _ _;rw [HWE.out,List.length_append];have:pairs (ys ++ [⟨x.a,x.b⟩])=pairs ys ++ [.string x.a,.string x.b]:=by simp [pairs]
       rw [this]; exact hown
      have HBR:Hid (Below w1.heap.size w1 w5):=HBW4.out.grown hgr HBW4.out.size (fun g hg=>(HO4.out.lt g hg).1);clear hown hgr y0 y1;go_wp2;go_roundw;case rel=>exact ⟨k + 1,by omega,by go_num,HR,HBR⟩
      case measure=>simp [intOf] <;> omega
  ·have HE:Hid (wr.ownsRow w.heap.size 45 2 u12 (dI (bn typ rel o) dN L).length (pairs (dI (bn typ rel o) dN L))):=by
    have h:=HO.out;rw [List.take_of_length_le (by omega)] at h;exact jm h HB1.out.size
   have HBE:Hid (Below w.heap.size w wr):=HB1.out.trans (HB.out.mono HB1.out.size);clear HO;go_wp2;go_ret;exact ⟨⟨_,rfl,HE.out⟩,HBE.out⟩
theorem dm.chg {S:Nat→Prop} {w w':World} {ad:Option Addr} {xs:List Al} (h:dm w ad xs) (hc:Chg S w w') (hn:∀ g o,xs ≠ []→ad=some ⟨g,o,none⟩→¬ S g):dm w' ad xs:=by
 rcases h with h | ⟨b,off,e,hb,hr⟩
 ·exact .inl h
 ·by_cases hx:xs=[]
  ·exact .inl hx
  ·exact .inr ⟨b,off,e,Nat.lt_of_lt_of_le hb hc.size,fun i hi=>(hr i hi).same fun o=>hc.cell hb (hn b off hx e)⟩
theorem kV.chg {S:Nat→Prop} {w w':World} {ad:Option Addr} {zs:List Int} (h:kV w ad zs) (hc:Chg S w w') (hn:∀ g o,zs ≠ []→ad=some ⟨g,o,none⟩→¬ S g):kV w' ad zs:=by
 rcases h with h | ⟨b,off,e,hb,hr⟩
 ·exact .inl h
 ·by_cases hx:zs=[]
  ·exact .inl hx
  ·exact .inr ⟨b,off,e,Nat.lt_of_lt_of_le hb hc.size,fun i hi=>by rw [hc.cell hb (hn b off hx e)]; exact hr i hi⟩
end Go.Proofs.YtogjfppkbkgaeaaGreat
