/- Contract of the document's reader of schemas: spec.ReadSchema. -/
import Derived.Test.YteoflgocljfgeaaGreatDoorL3Schema
import Derived.Test.YteoflgocljfgeaaGreatDoorSpecSchema11
open Go.Proofs.Tryz
set_option maxHeartbeats 80000000
namespace Go.Proofs.YteoflgocljfgeaaGreatDoor
set_option maxRecDepth 100000
open Go.ChangeShapes Go.WideShapes Go.ChangeAt Go.RowKit
open Pl
def Mq (s:ByteArray) (w:World) (e:Ending) (w':World):Prop :=
 Below w.heap.size w w'∧(((∀ T,dw (s.size + 1) s []=some T→aA T=false)∧e=.returned (.tuple #[.slice none 0 0,.bool false])) ∨ ∃ (v:Value) (rs:List TR),aA (ah rs)=true∧e=.returned (.tuple #[v,.bool true])∧fM w' w.heap.size v rs∧bN (ah rs)=s∧LF (ah rs))
theorem oh (s:ByteArray) (w:World) (hs:s.size≤3000):Calls prog 68 #[.string s] w (Mq s w):=by
 have HL:=dx (Aw s w hs);go_enter func68,ntmps68;go_wp2_with fail;refine HL.out.mono ?_;rintro e w1 ⟨hb1,hcase⟩;have HB1:=dx hb1;rcases hcase with ⟨hno,rfl⟩ | ⟨v,rs,hyes,rfl,hM,htx,hok⟩
 ·have HNO:Hid (∀ T,dw (s.size + 1) s []=some T→aA T=false):=fun T hT=>by rw [hno] at hT; cases hT
  clear hb1 hno HL;go_wp2;exact bodyPost_ret (v:=.tuple #[.slice none 0 0,.bool false]) (by simp [results,Tryz.results68,go_sem]) rfl ⟨HB1.out,.inl ⟨HNO.out,rfl⟩⟩
 ·obtain ⟨ad,cap,hv,hsl,-⟩:=fM.read hM;subst hv;obtain ⟨k1,k2,k3,k4⟩:=rows_ok hok (by rw [htx]; exact hs);have HM:=dx hM;have HTX:=dx htx;have HOK:=dx hok;have HY:=dx hyes;have HSO:=dx (iU ad cap rs w1 (by omega) hsl k3 k4);clear hb1 hM htx hok hyes hsl k1 k2 k3 k4 HL;go_wp2_with fail;refine HSO.out.mono ?_;rintro e w2 ⟨he,hb2⟩;have HB2:=dx (HB1.out.trans (hb2.mono HB1.out.size));have HM2:=dx (HM.out.below kN hb2);clear hb2 HSO HM;cases hd:aA (ah rs) with
  | false =>
   rw [hd] at he; subst he;have HNO:Hid (∀ T,dw (s.size + 1) s []=some T→aA T=false):=fun T hT=>by rw [HY.out] at hT; injection hT with hT; rw [← hT]; exact hd
   clear hd;go_wp2;exact bodyPost_ret (v:=.tuple #[.slice none 0 0,.bool false]) (by simp [results,Tryz.results68,go_sem]) rfl ⟨HB2.out,.inl ⟨HNO.out,rfl⟩⟩
  | true =>
   rw [hd] at he; subst he;have HD:=dx hd;clear hd;go_wp2;exact bodyPost_ret (v:=.tuple #[.slice ad rs.length cap,.bool true]) (by simp [results,Tryz.results68,go_sem]) rfl ⟨HB2.out,.inr ⟨_,rs,HD.out,rfl,HM2.out,HTX.out,HOK.out⟩⟩
def lastT:ByteArray:=⟨#[116,121,112,101,32,100,111,99,10,118,105,101,119,101,114,32,61,32,116,104,105,115,40,117,115,101,114,41,10,116,121,112,101,32,117,115,101,114,10]⟩
def Cb:List Ty:=[⟨⟨#[100,111,99]⟩,[⟨⟨#[118,105,101,119,101,114]⟩,[⟨1,[⟨⟨#[117,115,101,114]⟩,⟨#[]⟩⟩],⟨#[]⟩,⟨#[]⟩,[]⟩]⟩]⟩,⟨⟨#[117,115,101,114]⟩,[]⟩]
theorem DV:dw (lastT.size + 1) lastT []=some Cb:=by kernel_rfl
theorem DW:aA Cb=true:=by
 refine dG.2 ⟨by kernel_rfl,by kernel_rfl,fun _=>0,⟨fun _=>Int.le_refl _,fun k hk d hd=>?_⟩⟩;have h:((az Cb).all fun k=>(fI Cb k).isEmpty)=true:=by kernel_rfl
 have h2:=List.all_eq_true.1 h k hk;rw [List.isEmpty_iff.1 h2] at hd;cases hd
def Pre (t:ByteArray):Prop:=∃ x y z c tl,t.data.toList=116::121::112::101::32::x::y::z::10::c::tl∧x ≠ 10∧y ≠ 10∧z ≠ 10∧c ≠ 116
theorem Pre.app {t:ByteArray} (h:Pre t) (u:ByteArray):Pre (t ++ u):=by
 obtain ⟨x,y,z,c,tl,e,h1⟩:=h;exact ⟨x,y,z,c,tl ++ u.data.toList,by rw [ByteArray.data_append,Array.toList_append,e]; rfl,h1⟩
theorem Jh {n:ByteArray} (h:aU n=true):∀ b ∈ n.data.toList,b ≠ 10:=by
 intro b hb e;unfold aU dh pJ at h;simp only [Bool.and_eq_true] at h;have:=List.all_eq_true.1 h.1.2 b hb;rw [e] at this
 revert this
 decide
theorem Gm {rs:List TR} (hd:aA (ah rs)=true) (h:Pre (bN (ah rs))):∃ t ts q qs x xs,rs=t::ts∧t.rows=q::qs∧q.rows=x::xs:=by
 have hS:=dG.1 hd;obtain ⟨x,y,z,c,tl,e,hx,hy,hz,hc⟩:=h;cases rs with
 | nil=>simp [ah,bN] at e
 | cons t ts =>
  have hn:=Jh (oU hS.1 0 (by simp)).1;simp only [List.getElem_cons_zero] at hn;have e2:(116::121::112::101::32::(t.name.data.toList ++ 10::((dm (dO t.rows)).data.toList ++ (bN (ah ts)).data.toList)))=116::121::112::101::32::x::y::z::10::c::tl:=by
   rw [← e];show _=(bN (⟨t.name,dO t.rows⟩::ah ts)).data.toList;simp [bN,j3,ByteArray.data_append]
  simp only [List.cons.injEq,true_and] at e2;have key:(dm (dO t.rows)).data.toList ++ (bN (ah ts)).data.toList=c::tl:=by
   generalize (dm (dO t.rows)).data.toList ++ (bN (ah ts)).data.toList=rest at e2;generalize t.name.data.toList=nm at e2 hn
   match nm,e2,hn with
   | [],e2,_=>simp at e2; exact absurd e2.1.symm hx
   | [a],e2,_=>simp at e2; exact absurd e2.2.1.symm hy
   | [a,b],e2,_=>simp at e2; exact absurd e2.2.2.1.symm hz
   | [a,b,d],e2,_=>simp at e2; exact e2.2.2.2
   | a::b::d::f::nm,e2,hn=>simp at e2; exact absurd e2.2.2.2.1 (hn f (by simp))
  cases hr:t.rows with
  | nil =>
   rw [hr] at key;cases ts with
   | nil=>simp [dO,dm,ah,bN] at key
   | cons u us =>
    have:(bN (ah (u::us))).data.toList.head?=some 116:=by
     show (bN (⟨u.name,dO u.rows⟩::ah us)).data.toList.head?=_;simp [bN,j3,ByteArray.data_append]
    simp only [dO,List.map_nil,dm] at key;rw [show ((⟨#[]⟩:ByteArray).data.toList ++ (bN (ah (u::us))).data.toList)=(bN (ah (u::us))).data.toList from rfl] at key;rw [key] at this;simp at this;exact absurd this hc
  | cons q qs =>
   obtain ⟨h1,-⟩:=(dF hS.1).2.2 t (by simp) q (by rw [hr]; simp);have h2:=(lw h1).1;rw [bq] at h2;cases hq:q.rows with
   | nil=>rw [hq] at h2; simp at h2
   | cons x xs=>exact ⟨t,ts,q,qs,x,xs,rfl,hr,hq⟩
set_option linter.unusedVariables false
section
variable {α:Type} {T:TypeId} {size:Nat} {cells:α→List Value} {K:World→Nat→α→Prop} {I:α→Nat→Prop} {w w':World} {base:Nat} {v:Value}
theorem xm {q q':α} {rs:List α} (hI:∀ g,I q' g→I q g) (h:∀ (x y:Nat) (hx:x < (q::rs).length) (hy:y < (q::rs).length),x ≠ y→∀ g,I (q::rs)[x] g→¬ I (q::rs)[y] g) :
  ∀ (x y:Nat) (hx:x < (q'::rs).length) (hy:y < (q'::rs).length),x ≠ y→∀ g,I (q'::rs)[x] g→¬ I (q'::rs)[y] g:=by
 intro x y hx hy hxy g h1 h2;cases x with
 | zero =>
  cases y with
  | zero=>exact hxy rfl
  | succ y=>exact h 0 (y + 1) (by simp) (by simpa using hy) (by omega) g (hI g h1) h2
 | succ x =>
  cases y with
  | zero=>exact h (x + 1) 0 (by simpa using hx) (by simp) (by omega) g h1 (hI g h2)
  | succ y=>exact h (x + 1) (y + 1) (by simpa using hx) (by simpa using hy) hxy g h1 h2
theorem LotM.first (kd:Kid K I) {q q':α} {rs:List α} {b n cap j:Nat} {u:Value} (h:LotM T size cells K I w base (.slice (some ⟨b,0,none⟩) n cap) (q::rs)) (hn:n=rs.length + 1)
  (hq':∀ w,K w base q→K w base q') (hI:∀ g,I q' g→I q g) (hset:((q::rs).flatMap cells).set j u=(q'::rs).flatMap cells) :
  LotM T size cells K I (w.setCell ⟨b,j,none⟩ u) base (.slice (some ⟨b,0,none⟩) n cap) (q'::rs):=by
 have own1:w.ownsRow base T size (.slice (some ⟨b,0,none⟩) n cap) n ((q::rs).flatMap cells):=by have:=h.own; rwa [show (q::rs).length=n by simp [hn]] at this
 obtain ⟨own2,hg2⟩:=own1.stored j u;rw [hset] at own2;have hne:∀ p ∈ q::rs,∀ g,I p g→g ≠ b:=fun p hp g hi e=>h.head p hp g hi (by rw [e]; rfl);have keep:∀ p ∈ q::rs,K (w.setCell ⟨b,j,none⟩ u) base p:=fun p hp=>kd.heap w _ base p (h.kid p hp) hg2.size fun g hi=>Below.heap_setCell w _ u g (hne p hp g hi);refine ⟨by simpa [hn] using own2,fun p hp=>?_,fun p hp g hi=>?_,xm hI h.two⟩
 ·rcases List.mem_cons.1 hp with rfl | hp
  ·exact hq' _ (keep q (by simp))
  ·exact keep p (by simp [hp])
 ·rcases List.mem_cons.1 hp with rfl | hp
  ·exact h.head q (by simp) g (hI g hi)
  ·exact h.head p (by simp [hp]) g hi
theorem LotM.firstIn (kd:Kid K I) {q q':α} {rs:List α} (h:LotM T size cells K I w base v (q::rs)) (hs:w.heap.size≤w'.heap.size) (hh:∀ g,¬ I q g→w'.heap[g]?=w.heap[g]?) (hc:cells q'=cells q) (hk:K w' base q') (hI:∀ g,I q' g→I q g) :
  LotM T size cells K I w' base v (q'::rs):=by
 refine ⟨?_,fun p hp=>?_,fun p hp g hi=>?_,xm hI h.two⟩
 ·have h1:=gX (w':=w') h.own fun g hg=>hh g fun hi=>h.head q (by simp) g hi hg;simpa [List.flatMap_cons,hc] using h1
 ·rcases List.mem_cons.1 hp with rfl | hp
  ·exact hk
  ·refine kd.heap w w' base p (h.kid p (by simp [hp])) hs fun g hi=>hh g fun hq=>?_;obtain ⟨i,hi2,rfl⟩:=List.getElem_of_mem hp;exact h.two 0 (i + 1) (by simp) (by simp; omega) (by omega) g hq hi
 ·rcases List.mem_cons.1 hp with rfl | hp
  ·exact h.head q (by simp) g (hI g hi)
  ·exact h.head p (by simp [hp]) g hi
end
def ER.asK (x:ER) (k:Int):ER:={ x with e:={ x.e with kind:=k } }
theorem NodM.kind {w:World} {base b n cap:Nat} {x:ER} {xs:List ER} (k:Int) (h:NodM w base (.slice (some ⟨b,0,none⟩) n cap) (x::xs)) (hn:n=xs.length + 1):NodM (w.setCell ⟨b,0,none⟩ (.int .i64 k)) base (.slice (some ⟨b,0,none⟩) n cap) (x.asK k::xs):=by
 have own1:w.ownsRow base 139 5 (.slice (some ⟨b,0,none⟩) n cap) n (iH (x::xs)):=by have:=h.own; rwa [show (x::xs).length=n by simp [hn]] at this
 obtain ⟨own2,hg2⟩:=own1.stored 0 (.int .i64 k);have hset:(iH (x::xs)).set 0 (.int .i64 k)=iH (x.asK k::xs):=by simp [iH,ER.row,ER.asK]
 rw [hset] at own2;have hb:∀ q ∈ x::xs,∀ g,ny q g→g ≠ b:=fun q hq g hg e=>(h.lie q hq g hg).2.2.2 (by rw [e]; rfl);have hsame:∀ g,g ≠ b→(w.setCell ⟨b,0,none⟩ (.int .i64 k)).heap[g]?=w.heap[g]?:=fun g hg=>Below.heap_setCell w _ _ g hg;have hall:∀ {P:ER→Prop},(∀ q ∈ x::xs,P q)→(P x→P (x.asK k))→∀ q ∈ x.asK k::xs,P q:=fun hP hx q hq=>by
  rcases List.mem_cons.1 hq with rfl | hq
  ·exact hx (hP x (by simp))
  ·exact hP q (by simp [hq])
 refine ⟨by simpa [hn] using own2,hall h.zA id,hall h.zK id,hall (P:=fun q=>q.ok _) (fun q hq=>oL (h.ok q hq) hg2.size (h.zA q hq) (h.zK q hq) fun g hg=>hsame g (hb q hq g hg)) id,hall (P:=fun q=>∀ g,ny q g→base≤g∧g < (w.setCell ⟨b,0,none⟩ (.int .i64 k)).heap.size∧iG (w.setCell ⟨b,0,none⟩ (.int .i64 k)) g∧_) (fun q hq g hg=>by
  obtain ⟨a1,a2,a3,a4⟩:=h.lie q hq g hg;exact ⟨a1,Nat.lt_of_lt_of_le a2 hg2.size,bF a3 (hsame g (hb q hq g hg)),a4⟩) id,hall h.one id,?_,hall h.cA id⟩
 exact xm (I:=ny) (q:=x) (q':=x.asK k) (fun g hg=>hg) h.two
theorem fM.named {w:World} {base b n cap:Nat} {t:TR} {ts:List TR} (nm:ByteArray) (h:fM w base (.slice (some ⟨b,0,none⟩) n cap) (t::ts)) (hn:n=ts.length + 1):fM (w.setCell ⟨b,0,none⟩ (.string nm)) base (.slice (some ⟨b,0,none⟩) n cap) (({ t with name:=nm }:TR)::ts) :=
 LotM.first kN h hn (fun w hk=>hk) (fun g hg=>hg) (by simp [TR.cells,TR.vs])
def TR.asK (t:TR) (q:RR) (qs:List RR) (x:ER) (xs:List ER) (k:Int):TR:={ t with rows:={ q with rows:=x.asK k::xs }::qs }
theorem fM.kind {w:World} {base b:Nat} {v:Value} {t:TR} {ts:List TR} {q:RR} {qs:List RR} {x:ER} {xs:List ER} (k:Int) (h:fM w base v (t::ts)) (ht:t.rows=q::qs) (hq:q.rows=x::xs) (hb:q.ad=some ⟨b,0,none⟩) :
  fM (w.setCell ⟨b,0,none⟩ (.int .i64 k)) base v (t.asK q qs x xs k::ts):=by
 have hkt:=h.kid t (by simp);have hR:yu w base t.vs (q::qs):=by have:=hkt; unfold kT at this; rwa [ht] at this
 have hkq:=hR.kid q (by simp);have hN:NodM w base q.vs (x::xs):=by have:=hkq; unfold kR at this; rwa [hq] at this
 have hvq:q.vs=.slice (some ⟨b,0,none⟩) (xs.length + 1) q.cap:=by unfold RR.vs; rw [hb,hq]; rfl
 rw [hvq] at hN;have hN2:=hN.kind k rfl;have hsz:w.heap.size≤(w.setCell ⟨b,0,none⟩ (.int .i64 k)).heap.size:=by simp
 have hsame:∀ g,g ≠ b→(w.setCell ⟨b,0,none⟩ (.int .i64 k)).heap[g]?=w.heap[g]?:=fun g hg=>Below.heap_setCell w _ _ g hg;have hib:iR q b:=.inl (by rw [hvq]; rfl);have hvq2:({ q with rows:=x.asK k::xs }:RR).vs=q.vs:=by unfold RR.vs; rw [hq]; rfl
 have hiR:∀ g,iR { q with rows:=x.asK k::xs } g→iR q g:=fun g hg=>by
  rcases hg with hg | ⟨y,hy,hg⟩
  ·exact .inl (by rw [← hvq2]; exact hg)
  ·rcases List.mem_cons.1 hy with rfl | hy
   ·exact .inr ⟨x,by rw [hq]; simp,hg⟩
   ·exact .inr ⟨y,by rw [hq]; simp [hy],hg⟩
 have hR2:yu (w.setCell ⟨b,0,none⟩ (.int .i64 k)) base t.vs ({ q with rows:=x.asK k::xs }::qs):=LotM.firstIn Dc hR hsz (fun g hg=>hsame g fun e=>hg (by rw [e]; exact hib)) (by unfold RR.cells; rw [hvq2]) (by show NodM _ _ _ _; rw [hvq2,hvq]; exact hN2) hiR;have hvt:(t.asK q qs x xs k).vs=t.vs:=by unfold TR.vs TR.asK; rw [ht]; rfl
 have hit:iT t b:=.inr ⟨q,by rw [ht]; simp,hib⟩;refine LotM.firstIn kN h hsz (fun g hg=>hsame g fun e=>hg (by rw [e]; exact hit)) (by unfold TR.cells; rw [hvt]; rfl) (by show yu _ _ _ _; rw [hvt]; exact hR2) fun g hg=>?_;rcases hg with hg | ⟨y,hy,hg⟩
 ·exact .inl (by rw [← hvt]; exact hg)
 ·rcases List.mem_cons.1 hy with rfl | hy
  ·exact .inr ⟨q,by rw [ht]; simp,hiR g hg⟩
  ·exact .inr ⟨y,by rw [ht]; simp [hy],hg⟩
end Go.Proofs.YteoflgocljfgeaaGreatDoor
