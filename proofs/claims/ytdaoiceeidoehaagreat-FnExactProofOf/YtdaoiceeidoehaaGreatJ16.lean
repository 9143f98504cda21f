/- The document's rounds over strata in plain words, step by step; and the row of strata in memory that they write. -/
import Derived.Test.YtdaoiceeidoehaaGreatJ15
open Go.Proofs.Tryz
set_option maxHeartbeats 80000000
namespace Go.Proofs.YtdaoiceeidoehaaGreat
open Go.ChangeShapes Go.WideShapes Go.ChangeAt Go.RowKit
open Pl
theorem yw (d:Dp):0≤stepOf d∧stepOf d≤1:=by unfold stepOf; split <;> omega
structure Mid (ts:List Ty) (n:Nat) (oS:List St) (k j:Nat) (mb:Bool) (out:List St):Prop where
 len:out.length=n
 nn:n=(ai ts).length
 round:Round ts out
 le:∀ i (h:i < out.length),i ≠ k→out[i].n≤n
 lek:∀ h:k < out.length,out[k].n≤n + 1 + j
 same:mb=false→out=oS∧(∀ i (h:i < out.length),i < k→OE ts out out[i] (gQ ts out[i].key).length)∧∀ h:k < out.length,OE ts out out[k] j
 grow:kR oS≤kR out∧(mb=true→kR oS < kR out)
theorem Mid.start {ts:List Ty} {n:Nat} {out:List St} (hl:out.length=n) (hn:n=(ai ts).length) (hr:Round ts out) (hle:∀ s ∈ out,s.n≤n):Mid ts n out 0 0 false out where
 len:=hl
 nn:=hn
 round:=hr
 le i h _:=hle _ (RY h)
 lek h:=by have:=hle _ (RY h); omega
 same _:=⟨rfl,fun i _ hi=>by omega,fun _ d hd=>by simp at hd⟩
 grow:=⟨Int.le_refl _,by simp⟩
theorem Mid.key {ts:List Ty} {n k j:Nat} {oS out:List St} {mb:Bool} (h:Mid ts n oS k j mb out) (hk:k < out.length) (hk2:k < (ai ts).length):out[k].key=(ai ts)[k]:=by
 have e:=h.round.keys;have:(gT out)[k]'(by simp [gT,hk])=(ai ts)[k]:=by simp only [e]
 rw [← this]; simp [gT]
def mP (out:List St) (d:Dp):Int:=eP out (d.typ,d.rel) + stepOf d
theorem Mid.at {ts:List Ty} {n k j:Nat} {oS out:List St} {mb:Bool} (h:Mid ts n oS k j mb out) (key:ByteArray × ByteArray) (hk:key ∈ ai ts):∃ i:Nat,∃ hi:i < out.length,fM key.1 key.2 out 0=(i:Int)∧out[i].n=eP out key∧0≤eP out key∧eP out key≤n + 1 + j:=by
 obtain ⟨i,hi,h1,h2,h3⟩:=mo out 0 (k:=key) (by rw [h.round.keys]; exact hk);refine ⟨i,hi,by rw [h1]; congr 1; omega,h3,?_,?_⟩
 ·exact (h.round.at hk).1
 ·rw [← h3];by_cases e:i=k
  ·subst e; exact h.lek hi
  ·have:=h.le i hi e; omega
theorem Mid.no {ts:List Ty} {n k j:Nat} {oS out:List St} {mb:Bool} (h:Mid ts n oS k j mb out) (hk:k < out.length) (d:Dp) (hd:(gQ ts out[k].key)[j]?=some d) (hw:mP out d≤out[k].n):Mid ts n oS k (j + 1) mb out where
 len:=h.len
 nn:=h.nn
 round:=h.round
 le:=h.le
 lek hh:=by have:=h.lek hh; omega
 same hm:=by
  obtain ⟨e,s1,s2⟩:=h.same hm;refine ⟨e,s1,fun hh d' hd'=>?_⟩;obtain ⟨hj,hd2⟩:=List.getElem?_eq_some_iff.1 hd;rw [R5 hj] at hd';rcases Sd.1 hd' with hd' | hd'
  ·exact s2 hh d' hd'
  ·rw [hd2] at hd'; simp at hd'; subst hd'; exact hw
 grow:=h.grow
theorem Mid.yes {ts:List Ty} {n k j:Nat} {oS out:List St} {mb:Bool} (h:Mid ts n oS k j mb out) (hF:Found ts) (hk:k < out.length) (d:Dp) (hd:(gQ ts out[k].key)[j]?=some d) (hw:out[k].n < mP out d):Mid ts n oS k (j + 1) true (out.set k ⟨out[k].typ,out[k].rel,mP out d⟩) where
 len:=by rw [List.length_set]; exact h.len
 nn:=h.nn
 round:=h.round.set hF hk (List.mem_of_getElem? hd)
 le i hi hne:=by
  rw [List.getElem_set_ne (Ne.symm hne)];exact h.le i (by simpa using hi) hne
 lek hh:=by
  rw [List.getElem_set_self];show mP out d≤_;obtain ⟨i,hi,-,-,-,h4⟩:=h.at (d.typ,d.rel) (hF _ (h.round.mem (RY hk)) d (List.mem_of_getElem? hd));have:=yw d;unfold mP; push_cast; omega
 same hm:=by cases hm
 grow:=by
  have:=h.grow.1;rw [LW _ _ hk];exact ⟨by omega,fun _=>by omega⟩
theorem Mid.next {ts:List Ty} {n k j:Nat} {oS out:List St} {mb:Bool} (h:Mid ts n oS k j mb out) (hk:k < out.length) (hj:j=(gQ ts out[k].key).length) (hle:out[k].n≤n):Mid ts n oS (k + 1) 0 mb out where
 len:=h.len
 nn:=h.nn
 round:=h.round
 le i hi _:=by
  by_cases e:i=k
  ·subst e; exact hle
  ·exact h.le i hi e
 lek hh:=by have:=h.le (k + 1) hh (by omega); omega
 same hm:=by
  obtain ⟨e,s1,s2⟩:=h.same hm;refine ⟨e,fun i hi hik=>?_,fun _ d hd=>by simp at hd⟩;by_cases e2:i=k
  ·subst e2; have:=s2 hi; rw [hj] at this; exact this
  ·exact s1 i hi (by omega)
 grow:=h.grow
theorem Mid.over {ts:List Ty} {n k j:Nat} {oS out:List St} {mb:Bool} (h:Mid ts n oS k j mb out) (hF:Found ts) (hk:k < out.length) (hn:(n:Int) < out[k].n):¬ ∃ f,Sol ts f :=
 LU hF (h.round.mem (RY hk)) (h.round.low _ (RY hk)) (by have:=h.nn; omega)
structure Pass (ts:List Ty) (n:Nat) (mb:Bool) (out:List St):Prop where
 len:out.length=n
 nn:n=(ai ts).length
 round:Round ts out
 le:∀ s ∈ out,s.n≤n
 sat:mb=false→∀ s ∈ out,OE ts out s (gQ ts s.key).length
theorem Mid.done {ts:List Ty} {n k j:Nat} {oS out:List St} {mb:Bool} (h:Mid ts n oS k j mb out) (hk:k=n):Pass ts n mb out where
 len:=h.len
 nn:=h.nn
 round:=h.round
 le s hs:=by
  obtain ⟨i,hi,rfl⟩:=List.mem_iff_getElem.1 hs;exact h.le i hi (by have:=h.len; omega)
 sat hm s hs:=by
  obtain ⟨e,s1,s2⟩:=h.same hm;obtain ⟨i,hi,rfl⟩:=List.mem_iff_getElem.1 hs;exact s1 i hi (by have:=h.len; omega)
theorem Pass.least {ts:List Ty} {n:Nat} {out:List St} (h:Pass ts n false out):Least ts (eP out):=h.round.done (h.sat rfl)
theorem Pass.zero {ts:List Ty} {n:Nat} (hn:n=(ai ts).length):Pass ts n true (EE (ai ts)) where
 len:=by rw [Cx,hn]
 nn:=hn
 round:=⟨by unfold gT EE; rw [List.map_map]; exact List.map_id _,fun s hs=>by simp [EE] at hs; obtain ⟨a,b,-,rfl⟩:=hs; exact Int.le_refl _,fun s hs=>by simp [EE] at hs; obtain ⟨a,b,-,rfl⟩:=hs; exact oh.zero _ _⟩
 le s hs:=by simp [EE] at hs; obtain ⟨a,b,-,rfl⟩:=hs; simp
 sat h:=by cases h
theorem OX (n:Int) (out:List St) (h:∀ s ∈ out,s.n≤n):kR out≤n * out.length:=by
 induction out with
 | nil=>simp [kR]
 | cons s xs ih =>
  have h1:=h s (by simp);have h2:=ih fun q hq=>h q (by simp [hq]);simp only [kR,List.length_cons];have:n * ((xs.length + 1:Nat):Int)=n * xs.length + n:=by push_cast; rw [Int.mul_add]; simp
  omega
structure RowS (w wr:World) (ad:Option Addr) (g:Nat) (out:List St):Prop where
 below:Below w.heap.size w wr
 at':out=[] ∨ (ad=some ⟨g,0,none⟩∧w.heap.size≤g∧g < wr.heap.size∧RO wr g out∧∀ j,wr.frozen? ⟨g,j,none⟩=false)
theorem Q4.kept {w w':World} {b off:Nat} {s:St} (h:Q4 w b off s) (hb:b < w.heap.size) (hB:Below w.heap.size w w'):Q4 w' b off s:=⟨aH hB hb h.1,aH hB hb h.2.1,aH hB hb h.2.2⟩
theorem RowS.kept {w wr w2:World} {ad:Option Addr} {g:Nat} {out:List St} (h:RowS w wr ad g out) (hb:Below wr.heap.size wr w2):RowS w w2 ad g out where
 below:=h.below.trans (hb.mono h.below.size)
 at':=by
  rcases h.at' with e | ⟨e,h1,h2,h3,h4⟩
  ·exact .inl e
  ·exact .inr ⟨e,h1,RZ h2 hb.size,fun i hi=>(h3 i hi).kept h2 hb,fun j=>by rw [hb.frozen (p:=⟨g,j,none⟩) h2]; exact h4 j⟩
theorem RowS.slN {w wr:World} {ad:Option Addr} {g:Nat} {out:List St} (h:RowS w wr ad g out):Gg wr ad out:=by
 rcases h.at' with e | ⟨e,h1,h2,h3,h4⟩
 ·exact .inl e
 ·exact .inr ⟨g,0,e,h2,fun i hi=>by rw [Su]; exact h3 i hi⟩
theorem RowS.set {w wr:World} {ad:Option Addr} {g:Nat} {out:List St} (h:RowS w wr ad g out) {k:Nat} (hk:k < out.length) (n:Int):RowS w (wr.setCell ⟨g,k * 3 + 2,none⟩ (.int .i64 n)) ad g (out.set k ⟨out[k].typ,out[k].rel,n⟩):=by
 rcases h.at' with e | ⟨e,h1,h2,h3,h4⟩
 ·rw [e] at hk; simp at hk
 refine ⟨h.below.setCell (p:=⟨g,k * 3 + 2,none⟩) h1 _,.inr ⟨e,h1,by simpa using h2,fun i hi=>?_,fun j=>by simpa using h4 j⟩⟩;have hi':i < out.length:=by simpa using hi
 obtain ⟨c0,c1,c2⟩:=h3 i hi';by_cases ei:i=k
 ·subst ei;rw [List.getElem_set_self];exact ⟨by rw [dF (by omega)]; exact c0,by rw [dF (by omega)]; exact c1,jO c2⟩
 ·rw [List.getElem_set_ne (Ne.symm ei)];exact ⟨by rw [dF (by omega)]; exact c0,by rw [dF (by omega)]; exact c1,by rw [dF (by omega)]; exact c2⟩
def MP (w:World) (g i:Nat):Int:=match w.cell? ⟨g,i * 3 + 2,none⟩ with | some (.int _ x)=>x | _=>0
def GN (w:World) (g:Nat):Nat→Int
 | 0=>0
 | n + 1=>GN w g n + MP w g n
theorem EK (xs ys:List St):kR (xs ++ ys)=kR xs + kR ys:=by
 induction xs with
 | nil=>simp [kR]
 | cons s xs ih=>simp only [List.cons_append,kR,ih]; omega
theorem RO.sum {w:World} {g:Nat} {out:List St} (h:RO w g out):∀ k,k≤out.length→GN w g k=kR (out.take k)
 | 0,_=>by simp [GN,kR]
 | k + 1,hk=>by
  have hlt:k < out.length:=by omega
  rw [R5 hlt,EK];simp only [GN,h.sum k (by omega),kR];have:MP w g k=out[k].n:=by unfold MP; rw [(h k hlt).2.2]
  omega
theorem RowS.sum {w wr:World} {ad:Option Addr} {g:Nat} {out:List St} (h:RowS w wr ad g out):GN wr g out.length=kR out:=by
 rcases h.at' with e | ⟨e,h1,h2,h3,h4⟩
 ·rw [e]; simp [GN,kR]
 ·rw [h3.sum _ (R4 _),Sc]
def MQ:Value→Int
 | .bool true=>1
 | _=>0
def Ba (w:World) (g n:Nat) (m:Value):Nat:=(2 * ((n:Int) * n - GN w g n) + MQ m).toNat
theorem GQ {ts:List Ty} {w wr w2:World} {ad:Option Addr} {g n:Nat} {oS out:List St} {mb:Bool} (hS:RowS w wr ad g oS) (hO:RowS w w2 ad g out) (h:Mid ts n oS n 0 mb out) (hl:oS.length=n):Ba w2 g n (.bool mb) < Ba wr g n (.bool true):=by
 have e1:=hS.sum;have e2:=hO.sum;have h3:=OX n out fun s hs=>(h.done rfl).le s hs;have h2:=h.len;have h4:=h.grow;rw [hl] at e1;rw [h2] at e2 h3;unfold Ba;rw [e1,e2];cases mb with
 | false=>simp only [MQ]; omega
 | true=>have:=h4.2 rfl; simp only [MQ]; omega
theorem OY {w wr:World} {v:Value} {out:List St} (hB:Below w.heap.size w wr) (h:wr.ownsRow w.heap.size 114 3 v out.length (gV out)):∃ ad cp g,v=.slice ad out.length cp∧RowS w wr ad g out:=by
 rcases h.2 with ⟨rfl,h0⟩ | ⟨g,cp,cur,rfl,hbg,hg,hnc,-⟩
 ·exact ⟨none,0,0,by rw [h0],hB,.inl (Si.1 h0)⟩
 ·obtain ⟨ad,cp',e,h0⟩:=Rj h;injection e with e1 e2 e3;refine ⟨some ⟨g,0,none⟩,cp,g,rfl,hB,?_⟩;rcases h0 with h0 | ⟨g',e4,h1,h2,h3⟩
  ·exact .inl (Si.1 h0)
  ·rw [← e1] at e4; injection e4 with e4; injection e4 with e4;subst e4;exact .inr ⟨rfl,h1,h2,h3,fun j=>by simp [World.frozen?,hg]⟩
theorem Qq (ad:Option Addr) (cap n:Nat) (xs:List St) (key:ByteArray × ByteArray) (w:World) (hn:xs.length=n) (hlen:n≤1048576) (hs:Gg w ad xs) (i:Nat) (hat:fM key.1 key.2 xs 0=(i:Int)) :
  Calls prog 85 #[.slice ad n cap,.string key.1,.string key.2] w fun e w'=>e=.returned (.int .i64 (i:Int))∧w'=w:=by
 subst hn;rw [← hat];exact LM ad cap xs key.1 key.2 w hlen hs
theorem AtD.set {w:World} {b off g o:Nat} {d:Dp} {v:Value} (h:AtD w b off d) (hn:g ≠ b):AtD (w.setCell ⟨g,o,none⟩ v) b off d:=⟨by rw [eY hn]; exact h.1,by rw [eY hn]; exact h.2.1,by rw [eY hn]; exact h.2.2⟩
theorem Qa.set {w:World} {lo g o:Nat} {ad:Option Addr} {xs:List Dp} {v:Value} (h:Qa w lo ad xs) (hg:g < lo):Qa (w.setCell ⟨g,o,none⟩ v) lo ad xs:=by
 rcases h with h | ⟨b,e,h1,h2,h3⟩
 ·exact .inl h
 ·exact .inr ⟨b,e,h1,by simpa using h2,fun i hi=>(h3 i hi).set (by omega)⟩
theorem keepD {wr W w':World} {g o1 o2:Nat} {x y:Value} (h:W.cell? ⟨g,o1,none⟩=some x∧W.cell? ⟨g,o2,none⟩=some y∧g < W.heap.size∧Below wr.heap.size wr W) (hb:Below W.heap.size W w') :
  w'.cell? ⟨g,o1,none⟩=some x∧w'.cell? ⟨g,o2,none⟩=some y∧g < w'.heap.size∧Below wr.heap.size wr w' :=
 ⟨aH hb h.2.2.1 h.1,aH hb h.2.2.1 h.2.1,RZ h.2.2.1 hb.size,h.2.2.2.trans (hb.mono h.2.2.2.size)⟩
theorem lH.small {rs:List TR} {ad:Option Addr} {rows:List ER} (h:lH rs ad rows) (hl:∀ r ∈ rs,∀ q ∈ r.rows,q.rows.length≤15∧∀ e ∈ q.rows,dU q.rows.length e.e.kids):rows.length≤15∧∀ e ∈ rows,dU rows.length e.e.kids:=by
 rcases h with rfl | ⟨t,ht,q,hq,rfl,-⟩
 ·exact ⟨by simp,by simp⟩
 ·exact hl t ht q hq
theorem yx (ts:List Ty) (ty over rel:ByteArray):(fT ts ty over rel).length≤(aQ (ax ts ty over)).length:=Gd _ _ _
theorem GR (ts:List Ty) (typ:ByteArray) (es:List Ex) (A G:Nat) (hA:∀ e ∈ es,e.allow.length≤A) (hG:∀ over rel,(fT ts typ over rel).length≤G) (k:Nat):(aK ts typ es k).length≤k * (A + G + 1):=by
 induction k with
 | zero=>simp [aK]
 | succ k ih =>
  simp only [aK,R9];have:(fU ts typ es k).length≤A + G + 1:=by
   unfold fU;split
   ·simp
   ·rename_i e he;have h1:=hA e (List.mem_of_getElem? he);have h2:=Av ((cu es).getD k false) e.allow;have h3:(jP ts typ ((cu es).getD k false) e).length≤G + 1:=by
     unfold jP;split
     ·simp
     ·split
      ·have:=hG e.over e.name; simp; omega
      ·simp
    rw [R9]; omega
  have e:(k + 1) * (A + G + 1)=k * (A + G + 1) + (A + G + 1):=Nat.succ_mul _ _;omega
theorem zM (ts:List Ty) (typ:ByteArray) (es:List Ex) (k:Nat) (h:es.length≤k):fU ts typ es k=[]:=by
 unfold fU;rw [List.getElem?_eq_none h]
theorem GU (ts:List Ty) (typ:ByteArray) (es:List Ex) (B:Nat) (hB:∀ k,k≤es.length→(aK ts typ es k).length≤B) (k:Nat):(aK ts typ es k).length≤B:=by
 induction k with
 | zero=>exact hB 0 (R6 _)
 | succ k ih =>
  by_cases h:k + 1≤es.length
  ·exact hB _ h
  ·simp only [aK];rw [zM _ _ _ _ (by omega),List.append_nil];exact ih
theorem EL (rs:List RR) (n:ByteArray) (es:List Ex) (h:jf (dz rs) n=some es):∃ q ∈ rs,es=ah q.rows:=by
 induction rs with
 | nil=>simp [dz,jf] at h
 | cons r rs ih =>
  simp only [dz,List.map_cons,jf] at h;split at h
  ·injection h with h; exact ⟨r,by simp,h.symm⟩
  ·obtain ⟨q,hq,e⟩:=ih h; exact ⟨q,by simp [hq],e⟩
theorem GV (ts:List TR) (ty n:ByteArray) (es:List Ex) (h:dX (ae ts) ty n=some es):∃ t ∈ ts,∃ q ∈ t.rows,es=ah q.rows:=by
 induction ts with
 | nil=>simp [ae,dX] at h
 | cons t ts ih =>
  simp only [ae,List.map_cons,dX] at h;split at h
  ·rcases Option.or_eq_some_iff.1 h with h | ⟨-,h⟩
   ·obtain ⟨q,hq,e⟩:=EL _ _ _ h; exact ⟨t,by simp,q,hq,e⟩
   ·obtain ⟨t',ht,q,hq,e⟩:=ih h; exact ⟨t',by simp [ht],q,hq,e⟩
  ·obtain ⟨t',ht,q,hq,e⟩:=ih h; exact ⟨t',by simp [ht],q,hq,e⟩
theorem vD (rs:List TR) (hl:∀ r ∈ rs,r.light) (typ over rel:ByteArray):(fT (ae rs) typ over rel).length≤1048576:=by
 refine Sb (yx _ _ _ _) ?_;unfold ax;cases h:dX (ae rs) typ over with
 | none=>simp [aQ]
 | some es =>
  obtain ⟨t,ht,q,hq,rfl⟩:=GV _ _ _ _ h;exact xC q.rows ((hl t ht).2 q hq).2
theorem yz (rs:List TR) (hl:∀ r ∈ rs,r.light) (typ:ByteArray) (rows:List ER) (hle:rows.length≤15) (ZT:∀ q ∈ rows,q.e.light) (k:Nat):(aK (ae rs) typ (ah rows) k).length≤100000000:=by
 refine GU _ _ _ _ (fun k hk=>?_) k;refine Sb (GR _ _ _ 1048576 1048576 (fun e he=>?_) (vD rs hl typ) k) ?_
 ·obtain ⟨q,hq,rfl⟩:=Sa.1 he; exact (ZT q hq).1
 ·rw [aJ] at hk; omega
open Go.Maps
def fB (ts:List Ty) (ty over rel:ByteArray):List ByteArray:=if bi (ax ts ty over) then fT ts ty over rel else []
theorem J9:(prog.info? 9).map (fun i=>(i.zero,i.size,i.bytes))=some (some (.string ⟨#[]⟩),1,16):=by kernel_rfl
theorem GX (r:ER) (h:bi (ah [r])=true):aQ (ah [r])=r.e.allow∧r.e.kind=1:=by
 simp only [ah,List.map_cons,List.map_nil,bi,R7,Sj] at h;exact ⟨by simp [ah,aQ,h.1],h.1⟩
theorem GY {rows:List ER} (h:bi (ah rows)=true):∃ r,rows=[r]:=by
 rcases rows with _ | ⟨r,_ | ⟨r2,rs⟩⟩
 ·simp [ah,bi] at h
 ·exact ⟨r,rfl⟩
 ·simp [ah,bi] at h
set_option maxRecDepth 100000 in
theorem vF (b n:Nat) (rs:List TR) (ad:Option Addr) (M:ByteArray × ByteArray→Option Value) (typ:ByteArray) (x:ER) (w:World) (hV:aD dJ prog 130 w b n M) (hT:Tab rs M) (hs:jd w ad rs) (hl:∀ r ∈ rs,r.light) (hf:∀ r ∈ rs,r.fits) (ht:typ.size≤maxLen) (ho:x.e.over.size≤maxLen) (hn:x.e.name.size≤maxLen) :
  Calls prog 144 #[.map (some b),.string typ,x.val] w fun e w'=>(∃ (SQ:Option Addr) (cap':Nat),e=.returned (.slice SQ (fB (ae rs) typ x.e.over x.e.name).length cap')∧Qi w' SQ (fB (ae rs) typ x.e.over x.e.name)∧∀ p,SQ=some p→w.heap.size≤p.block)∧Below w.heap.size w w':=by
 have HV:Hid (aD dJ prog 130 w b n M):=hV;have HT:=aC hT;have HS:=aC hs;have HL:=aC hl;have Tj:=aC hf;obtain ⟨kl,hkl⟩:=ik (typ,x.e.over) ht ho;have Ur:Hid (keyOf prog 130 (dJ (typ,x.e.over))=some kl):=hkl;clear hkl hV hT hs hl hf;obtain ⟨i0,hi,hz0,hz1,hz2⟩:=info_parts J9;obtain ⟨W0,hW0⟩:∃ W0,W0=w.alloc (.cells #[.int .i64 x.e.kind,.slice x.adA x.e.allow.length x.capA,.string x.e.over,.string x.e.name,.slice x.adK x.e.kids.length x.capK] 166):=⟨_,rfl⟩;have hal:Below w.heap.size w W0:=by rw [hW0]; exact (R3 _ _).alloc (R4 _) _
 have HB0:=aC hal;have WF:=aC (HV.out.below hal);have c3:W0.cell? ⟨w.heap.size,3,none⟩=some (.string x.e.name):=by rw [hW0]; simp
 have hg0:w.heap.size < W0.heap.size:=by rw [hW0]; simp
 -- what lies in the table
 obtain ⟨rows,SN,capE,HM,HE,HF,XH⟩:∃ (rows:List ER) (SN:Option Addr) (capE:Nat),Hid ((M (typ,x.e.over)).getD (.slice none 0 0)=.slice SN rows.length capE)∧Hid (ah rows=ax (ae rs) typ x.e.over)∧Hid (lH rs SN rows)∧Hid (∀ q ∈ rows,q.e.fits):=by
  cases e:M (typ,x.e.over) with
  | none=>exact ⟨[],none,0,rfl,by show _=_; unfold ax; rw [HT.out.no _ e]; rfl,.inl rfl,by show ∀ _,_; simp⟩
  | some v =>
   obtain ⟨t,Yb,q,hq,-,rfl,e1,-⟩:=HT.out.yes _ v e;exact ⟨q.rows,q.ad,q.cap,rfl,by show _=_; unfold ax; rw [e1]; rfl,.inr ⟨t,Yb,q,hq,rfl,rfl⟩,((Tj.out t Yb).2.2 q hq).2.2⟩
 have UX:Hid (eX W0 SN rows):=HF.out.sl (HS.out.below hal);have TG:=HF.out.light HL.out;have HLE1:rows.length≤1048576:=TG.1;have HLE2:Hid (∀ q ∈ rows,q.e.light):=TG.2;clear TG hal;go_enter func144,ntmps144;unfold ER.val;go_wp2_with (at_lookup; rw [← hW0]; refine iY _ rfl _ _ 124 rfl 130 105 ib underlying124 (lV _) b n M rfl WF.out (typ,x.e.over) kl rfl Ur.out ?_; rw [HM.out]; clear hW0);refine (rH SN capE rows _ HLE1 UX.out HLE2.out).mono ?_;rintro e w1 ⟨rfl,hb1⟩;have HB1:=gY HB0 hb1;have HNM:Hid (w1.cell? ⟨w.heap.size,3,none⟩=some (.string x.e.name)∧w.heap.size < w1.heap.size):=⟨aH hb1 hg0 c3,RZ hg0 hb1.size⟩;clear hb1 c3 hg0;cases hd:bi (ah rows) with
 | false =>
  have HG:Hid (fB (ae rs) typ x.e.over x.e.name=[]):=by show _=_; unfold fB; rw [← HE.out,hd]; rfl
  go_wp2;go_ret;refine ⟨⟨none,0,by rw [HG.out]; rfl,by rw [HG.out]; exact .inl rfl,fun p hp=>by cases hp⟩,HB1.out⟩
 | true =>
  obtain ⟨r,rfl⟩:=GY hd;have HG:Hid (fB (ae rs) typ x.e.over x.e.name=gl (ae rs) x.e.name r.e.allow):=by
   show _=_;unfold fB fT;rw [← HE.out,hd,if_pos rfl,(GX r hd).1]
  rcases UX.out with h | ⟨bE,offE,rfl,hbE,ZV,hokE⟩
  ·cases h
  have HSW:Hid (eX w1 (some ⟨bE,offE,none⟩) [r]):=HF.out.sl (HS.out.below HB1.out);rcases HSW.out with h | ⟨bE',offE',heE,hbE1,hrE1,hokE1⟩
  ·cases h
  injection heE with heE; injection heE with heE1 heE2; subst heE1; subst heE2;obtain ⟨s0,s1,s2,s3,s4⟩:=hrE1 0 (by simp);simp only [Nat.zero_mul,Nat.add_zero,List.getElem_cons_zero] at s0 s1 s2 s3 s4;have HOKR:Hid (r.ok w):=by
   have h1:=HF.out.sl HS.out;exact h1.mem (by simp)
  have lgA:r.e.allow.length≤1048576:=(HLE2.out r (by simp)).1;have HFA:Hid (∀ a ∈ r.e.allow,a.fits):=(XH.out r (by simp)).1;have hone:([r]:List ER).length=1:=rfl;rw [hone];clear ZV hokE hrE1 hokE1 HE HM hd hbE;go_wp2_with fail;go_loopw [8,25] (fun v i wr=>∃ k:Nat,k≤r.e.allow.length∧i=.int .i64 k∧Hid (wr.ownsRow w.heap.size 9 1 v (gl (ae rs) x.e.name (r.e.allow.take k)).length (nY (gl (ae rs) x.e.name (r.e.allow.take k))))∧Hid (Below w.heap.size w wr)∧Hid (wr.cell? ⟨w.heap.size,3,none⟩=some (.string x.e.name)∧w.heap.size < wr.heap.size∧v.ownBlock ≠ some w.heap.size)) (fun _ i _=>r.e.allow.length - (intOf i).toNat);case atStart=>exact ⟨0,R6 _,rfl,World.ownsRow_nil _ _ _ _,HB1,HNM.out.1,HNM.out.2,by simp [Value.ownBlock]⟩
  case round =>
   clear HB1 HNM s0 s1 s2 s3 s4;obtain ⟨k,hk,rfl,HOW,HB,HC⟩:=hrel;by_cases hlt:k < r.e.allow.length
   ·rcases (HOKR.out.1).below HB.out with hnil | ⟨ba,Vk,had,hba,hra⟩
    ·rw [hnil] at hlt; simp at hlt
    obtain ⟨t0,t1⟩:=hra k hlt;have hk1:=bn k;have hk2:(k:Int) < (r.e.allow.length:Int):=by omega
    have zA:=HFA.out _ (RY hlt);have z1:r.e.allow[k].t.size≤maxLen:=zA.1;obtain ⟨hc3,hcl,hco⟩:=HC.out;obtain ⟨W1,hW1⟩:∃ W1,W1=wr.alloc (.cells #[.string r.e.allow[k].t,.string r.e.allow[k].s] 163):=⟨_,rfl⟩;have hal:Below wr.heap.size wr W1:=by rw [hW1]; exact (R3 _ _).alloc (R4 _) _
    have S9:=gY HB hal;have HVW:=aC (HV.out.below S9.out);have Vl:Hid (W1.ownsRow w.heap.size 9 1 u8 (gl (ae rs) x.e.name (r.e.allow.take k)).length (nY (gl (ae rs) x.e.name (r.e.allow.take k)))):=own_below HOW.out hal;have g0:W1.cell? ⟨wr.heap.size,0,none⟩=some (.string r.e.allow[k].t):=by rw [hW1]; simp
    have g3:=aH hal hcl hc3;have hgl1:wr.heap.size < W1.heap.size:=by rw [hW1]; simp
    have hgl:=Gd (ae rs) x.e.name (r.e.allow.take k);rw [Sq] at hgl;have HI:=HT.out.some_iff (r.e.allow[k].t,x.e.name);have hwsz:w.heap.size≤W1.heap.size:=S9.out.size;rw [had];clear hra hal HC HOW;go_wp2_with fail;rw [← hW1];refine (wU b n M r.e.allow[k].t x.e.name _ z1 hn HVW.out).mono ?_;rintro e w' ⟨rfl,hw'⟩;rw [hw'];clear hw' w' hW1 t0 t1 hc3;cases hz:(M (r.e.allow[k].t,x.e.name)).isSome with
    | false =>
     have HE:Hid (gl (ae rs) x.e.name (r.e.allow.take (k + 1))=gl (ae rs) x.e.name (r.e.allow.take k)):=by
      refine P6 _ _ _ _ hlt ?_;rw [hz] at HI;simpa using HI.symm
     clear HI;go_wp2;go_roundw;case rel=>exact ⟨k + 1,by omega,by go_num,by rw [HE.out]; exact Vl,S9,g3,by omega,hco⟩
     case measure=>simp [intOf] <;> omega
    | true =>
     have HX:Hid (gl (ae rs) x.e.name (r.e.allow.take (k + 1))=gl (ae rs) x.e.name (r.e.allow.take k) ++ [r.e.allow[k].t]):=by
      refine LG _ _ _ _ hlt ?_;rw [hz] at HI;simpa using HI.symm
     clear HI;go_wp2_with (at_builtin; refine wpList_append_own_at _ rfl _ _ 204 rfl w.heap.size 9 i0 (.string ⟨#[]⟩) 1 16 underlying204 hi hz0 hz1 hz2 rfl (by decide) _ _ _ rfl (Vl.out.alloc _) ⟨W1.heap.size,0,none⟩ 1 1 [.string r.e.allow[k].t] rfl rfl (cell_one_new _ _ _) (by intro u hu; simp at hu; subst hu; rfl) (by unfold maxLen; omega) (by omega) (by simp; omega) ?_);intro v' w3 hown3 hgrow _ hloc;have hb3:Hid (Below w.heap.size w w3):=(S9.out.alloc S9.out.size _).grown hgrow (by simp; omega) (fun i hi=>(Vl.out.lt i hi).1);have Ui:Hid (w3.ownsRow w.heap.size 9 1 v' (gl (ae rs) x.e.name (r.e.allow.take (k + 1))).length (nY (gl (ae rs) x.e.name (r.e.allow.take (k + 1))))):=by
      show World.ownsRow _ _ _ _ _ _ _;rw [HX.out];simpa [nY] using hown3
     have UY:Hid (w3.cell? ⟨w.heap.size,3,none⟩=some (.string x.e.name)∧w.heap.size < w3.heap.size∧v'.ownBlock ≠ some w.heap.size):=by
      refine ⟨?_,?_,?_⟩
      ·rw [hgrow.cell_far _ (by simp; omega) (Ne.symm hco)]; exact aH ((R3 _ _).alloc (R4 _) _) (by omega) g3
      ·have:=hgrow.size; simp at this; omega
      ·rcases hloc with e | e
       ·rw [e]; exact hco
       ·rw [e]; simp; omega
     clear hown3 hgrow hloc Vl g0 g3;go_wp2;go_roundw;case rel=>exact ⟨k + 1,by omega,by go_num,Ui,hb3,UY⟩
     case measure=>simp [intOf] <;> omega
   ·obtain rfl:k=r.e.allow.length:=by omega
    have hown:=HOW.out;rw [Sc] at hown;obtain ⟨SQ,cp,rfl,hS',hN'⟩:=LH hown;have HS2:=aC hS';have UE:Hid (∀ p,SQ=some p→w.heap.size≤p.block):=hN';clear hown HOW hS' hN' HC;go_wp2;go_ret;refine ⟨⟨SQ,cp,by rw [HG.out]; rfl,by rw [HG.out]; exact HS2.out,UE.out⟩,HB.out⟩
theorem Bb (x y:Al):je x y=je y x:=by
 unfold je;rw [Bool.eq_iff_iff];simp only [R7,beq_iff_eq];exact ⟨fun h=>⟨h.1.symm,h.2.symm⟩,fun h=>⟨h.1.symm,h.2.symm⟩⟩
theorem Ka (ad:Option Addr) (n cap:Nat) (xs:List Al) (v:Al) (w:World) (hn:n≤xs.length) (hlen:xs.length≤1048576) (hs:iy w ad xs) :
  Calls prog 149 #[.slice ad n cap,.agg #[.string v.t,.string v.s]] w fun e w'=>(∃ r:Int,e=.returned (.int .i64 r)∧decide (0≤r)=dh xs n v)∧Below w.heap.size w w':=by
 obtain ⟨W,hW⟩:∃ W,W=w.alloc (.cells #[.string v.t,.string v.s] 163):=⟨_,rfl⟩;have HB0:Hid (Below w.heap.size w W):=by show Below _ _ _; rw [hW]; exact (R3 w.heap.size w).alloc (R4 _) _
 have hz:w.heap.size < W.heap.size:=by rw [hW]; simp
 have b0:W.cell? ⟨w.heap.size,0,none⟩=some (.string v.t):=by rw [hW]; simp
 have b1:W.cell? ⟨w.heap.size,1,none⟩=some (.string v.s):=by rw [hW]; simp
 have HS:=aC (hs.below HB0.out);clear hs;go_enter func149,ntmps149;go_wp2_with fail;rw [← hW];clear hW;go_loopw [8] (fun i wr=>∃ k:Nat,k≤n∧i=.int .i64 k∧Hid (dh xs k v=false)∧Below W.heap.size W wr) (fun i _=>n - (intOf i).toNat);case atStart=>exact ⟨0,R6 _,rfl,mr _ _,R3 _ _⟩
 case round =>
  obtain ⟨k,hk,rfl,HP,hB⟩:=hrel;have a0:=kept hB hz b0;have a1:=kept hB hz b1;by_cases hlt:k < n
  ·have hltx:k < xs.length:=by omega
   rcases HS.out.below hB with rfl | ⟨b,off,rfl,hb,hr⟩
   ·simp at hltx
   obtain ⟨t0,t1⟩:=hr k hltx;have hk1:=bn k;have hk2:(k:Int) < (n:Int):=by omega
   clear hr;cases hq:je v xs[k] with
   | true =>
    have HE:=tu v xs[k] hq;have HN:Hid (dh xs n v=true):=tC hlt hltx (by rw [Bb]; exact hq);go_wp2_with fail;go_quiet (fail);go_wp2;go_ret;exact ⟨⟨_,rfl,by rw [HN.out]; simp⟩,HB0.out.trans (below_drewN (hB.mono HB0.out.size) _)⟩
   | false =>
    have HE:=tu v xs[k] hq;have Td:Hid (dh xs (k + 1) v=false):=by show _=_; rw [mq _ _ _ hltx,HP.out,Bb,hq]; rfl
    go_wp2_with fail;go_quiet (fail);go_wp2;go_roundw;case rel=>exact ⟨k + 1,by omega,by go_num,Td,below_drewN hB _⟩
    case measure=>simp [intOf] <;> omega
  ·obtain rfl:k=n:=by omega
   go_wp2;go_ret;exact ⟨⟨-1,rfl,by rw [HP.out]; rfl⟩,HB0.out.trans (hB.mono HB0.out.size)⟩
theorem rJ (ad:Option Addr) (n cap:Nat) (xs:List Al) (v:Al) (w:World) (hn:n≤xs.length) (hlen:xs.length≤1048576) (hs:iy w ad xs) :
  Calls prog 122 #[.slice ad n cap,.agg #[.string v.t,.string v.s]] w fun e w'=>e=.returned (.bool (dh xs n v))∧Below w.heap.size w w':=by
 have HB0:Hid (Below w.heap.size w (w.alloc (.cells #[.string v.t,.string v.s] 163))):=(R3 w.heap.size w).alloc (R4 _) _;have HS:=aC hs;clear hs;go_enter func122,ntmps122;go_wp2_with fail;refine (Ka ad n cap xs v _ hn hlen (HS.out.below HB0.out)).mono ?_;rintro e w1 ⟨⟨r,rfl,hr⟩,hb1⟩;have HR:Hid (decide (0≤r)=dh xs n v):=hr;have HB1:=gY HB0 hb1;clear hr hb1;go_wp2;go_ret;exact ⟨af HR.out,HB1.out⟩
set_option maxRecDepth 8000 in
theorem CG (r:ER) (w:World) (hf:r.e.fits) (h1:r.e.kind ≠ 1) :
  Calls prog 171 #[r.val] w fun e w'=>e=.returned (.bool (az r.e))∧Below w.heap.size w w':=by
 obtain ⟨⟨kind,allow,over,name,kids⟩,adA,capA,adK,capK⟩:=r;obtain ⟨f1,f2,f3,f4,f5⟩:=hf;simp only at f1 f2 f3 f4 f5 h1;simp only [ER.val];unfold maxLen at f4 f5;by_cases h2:kind=2
 ·subst h2;clear h1;go_enter func171,ntmps171;go_wp2_with fail;go_quiet (fail);go_wp2_with (go_at_call 95; refine (aY _ _ (by assumption)).mono ?_; rintro e w' ⟨rfl,rfl⟩)
  all_goals go_ret
  all_goals exact ⟨af (by first | (simp [az, *]; done) | (simp [az, *]; omega) | (simp [az, *]; rw [Bool.eq_iff_iff]; simp; done) | (simp [az, *]; rw [Bool.eq_iff_iff]; simp; omega)),below_drewN ((R3 w.heap.size w).alloc (R4 _) _) _⟩
 by_cases h3:kind=3
 ·subst h3;clear h1;go_enter func171,ntmps171;go_wp2_with fail;go_quiet (fail);go_wp2_with (go_at_call 95; refine (aY _ _ (by assumption)).mono ?_; rintro e w' ⟨rfl,rfl⟩)
  all_goals go_ret
  all_goals exact ⟨af (by first | (simp [az, *]; done) | (simp [az, *]; omega) | (simp [az, *]; rw [Bool.eq_iff_iff]; simp; done) | (simp [az, *]; rw [Bool.eq_iff_iff]; simp; omega)),below_drewN ((R3 w.heap.size w).alloc (R4 _) _) _⟩
 by_cases h4:kind=4
 ·subst h4;clear h1;go_enter func171,ntmps171;go_wp2_with fail;go_quiet (fail);go_wp2_with (go_at_call 95; refine (aY _ _ (by assumption)).mono ?_; rintro e w' ⟨rfl,rfl⟩)
  all_goals go_ret
  all_goals exact ⟨af (by first | (simp [az, *]; done) | (simp [az, *]; omega) | (simp [az, *]; rw [Bool.eq_iff_iff]; simp; done) | (simp [az, *]; rw [Bool.eq_iff_iff]; simp; omega)),below_drewN ((R3 w.heap.size w).alloc (R4 _) _) _⟩
 by_cases h5:kind=5
 ·subst h5;clear h1;go_enter func171,ntmps171;go_wp2_with fail;go_quiet (fail);go_wp2_with (go_at_call 95; refine (aY _ _ (by assumption)).mono ?_; rintro e w' ⟨rfl,rfl⟩)
  all_goals go_ret
  all_goals exact ⟨af (by first | (simp [az, *]; done) | (simp [az, *]; omega) | (simp [az, *]; rw [Bool.eq_iff_iff]; simp; done) | (simp [az, *]; rw [Bool.eq_iff_iff]; simp; omega)),below_drewN ((R3 w.heap.size w).alloc (R4 _) _) _⟩
 by_cases h6:kind=6
 ·subst h6;clear h1;go_enter func171,ntmps171;go_wp2_with fail;go_quiet (fail);go_wp2_with (go_at_call 95; refine (aY _ _ (by assumption)).mono ?_; rintro e w' ⟨rfl,rfl⟩)
  all_goals go_ret
  all_goals exact ⟨af (by first | (simp [az, *]; done) | (simp [az, *]; omega) | (simp [az, *]; rw [Bool.eq_iff_iff]; simp; done) | (simp [az, *]; rw [Bool.eq_iff_iff]; simp; omega)),below_drewN ((R3 w.heap.size w).alloc (R4 _) _) _⟩
 ·go_enter func171,ntmps171;go_wp2_with fail;go_quiet (fail);go_wp2_with (go_at_call 95; refine (aY _ _ (by assumption)).mono ?_; rintro e w' ⟨rfl,rfl⟩)
  all_goals go_ret
  all_goals exact ⟨af (by first | (simp [az, *]; done) | (simp [az, *]; omega) | (simp [az, *]; rw [Bool.eq_iff_iff]; simp; done) | (simp [az, *]; rw [Bool.eq_iff_iff]; simp; omega)),below_drewN ((R3 w.heap.size w).alloc (R4 _) _) _⟩
def lm (a:Al) (e:Ex):Bool:=decide (e.kind=1) && dh e.allow e.allow.length a
def vG (ts:List Ty) (ty rel:ByteArray) (a:Al):Bool:=(ax ts ty rel).any (lm a)
theorem fit_drop (a:Al) (rows:List ER) (k:Nat) (h:k < rows.length):(ah (rows.drop k)).any (lm a)=(lm a rows[k].e || (ah (rows.drop (k + 1))).any (lm a)):=by
 rw [fE _ _ h]; rfl
set_option maxRecDepth 100000 in
theorem MR (b n:Nat) (rs:List TR) (ad:Option Addr) (M:ByteArray × ByteArray→Option Value) (oa ob r c d s:ByteArray) (w:World) (hV:aD dJ prog 130 w b n M) (hT:Tab rs M) (hs:jd w ad rs) (hl:∀ r ∈ rs,r.light) (ho:oa.size≤maxLen) (hr:r.size≤maxLen) :
  Calls prog 90 #[.map (some b),.agg #[.string oa,.string ob,.string r,.string c,.string d,.string s]] w fun e w'=>e=.returned (.bool (vG (ae rs) oa r ⟨c,s⟩))∧Below w.heap.size w w':=by
 have HT:=aC hT;have HS:=aC hs;have HL:=aC hl;obtain ⟨kl,hkl⟩:=ik (oa,r) ho hr;have Ur:Hid (keyOf prog 130 (dJ (oa,r))=some kl):=hkl;obtain ⟨W0,hW0⟩:∃ W0,W0=(w.alloc (.cells #[.string oa,.string ob,.string r,.string c,.string d,.string s] 73)).alloc (.cells #[.string c,.string s] 163):=⟨_,rfl⟩;have hal:Below w.heap.size w W0:=by
  rw [hW0]
  repeat (first | exact R3 _ _ | refine Below.alloc ?_ (by first | (simp; done) | (simp; omega)) _)
 have HB0:=aC hal;have WF:=aC (hV.below hal);have Uk:Hid (W0.cell? ⟨w.heap.size + 1,0,none⟩=some (.string c)∧W0.cell? ⟨w.heap.size + 1,1,none⟩=some (.string s)∧w.heap.size + 1 < W0.heap.size):=⟨by rw [hW0]; simp,by rw [hW0]; simp,by rw [hW0]; simp⟩;obtain ⟨rows,SN,capE,HM,HE,HF⟩:∃ (rows:List ER) (SN:Option Addr) (capE:Nat),Hid ((M (oa,r)).getD (.slice none 0 0)=.slice SN rows.length capE)∧Hid (ah rows=ax (ae rs) oa r)∧Hid (lH rs SN rows):=by
  cases e:M (oa,r) with
  | none=>exact ⟨[],none,0,rfl,by show _=_; unfold ax; rw [HT.out.no _ e]; rfl,.inl rfl⟩
  | some v =>
   obtain ⟨t,Yb,q,hq,-,rfl,e1,-⟩:=HT.out.yes _ v e;exact ⟨q.rows,q.ad,q.cap,rfl,by show _=_; unfold ax; rw [e1]; rfl,.inr ⟨t,Yb,q,hq,rfl,rfl⟩⟩
 have TG:=HF.out.light HL.out;have HLE1:rows.length≤1048576:=TG.1;have HLE2:Hid (∀ q ∈ rows,q.e.light):=TG.2;have UX:Hid (eX w SN rows):=HF.out.sl HS.out;clear hV hT hs hl hkl hal TG;go_enter func90,ntmps90;go_wp2_with (at_lookup; rw [← hW0]; refine iY _ rfl _ _ 124 rfl 130 105 ib underlying124 (lV _) b n M rfl WF.out (oa,r) kl rfl Ur.out ?_; rw [HM.out]; clear hW0);go_loopw [23] (fun i wr=>∃ k:Nat,k≤rows.length∧i=.int .i64 k∧Hid ((ah (rows.drop k)).any (lm ⟨c,s⟩)=(ah rows).any (lm ⟨c,s⟩))∧Hid (Below w.heap.size w wr)∧Hid (wr.cell? ⟨w.heap.size + 1,0,none⟩=some (.string c)∧wr.cell? ⟨w.heap.size + 1,1,none⟩=some (.string s)∧w.heap.size + 1 < wr.heap.size)) (fun i _=>rows.length - (intOf i).toNat);case atStart=>exact ⟨0,R6 _,rfl,rfl,HB0,Uk⟩
 case round =>
  clear HB0 Uk WF;obtain ⟨k,hk,rfl,HP,HB,HC⟩:=hrel;by_cases hlt:k < rows.length
  ·rcases UX.out.below HB.out with hnil | ⟨bE,offE,U7,hbE,ZV,hok⟩
   ·rw [hnil] at hlt; simp at hlt
   obtain ⟨t0,t1,t2,t3,t4⟩:=ZV k hlt;have Ub:Hid (rows[k].ok wr):=hok _ (RY hlt);have lgA:rows[k].e.allow.length≤1048576:=(HLE2.out _ (RY hlt)).1;have hk1:=bn k;have hk2:(k:Int) < (rows.length:Int):=by omega
   obtain ⟨x0,x1,x2⟩:=HC.out;have HD:Hid ((ah rows).any (lm ⟨c,s⟩)=(lm ⟨c,s⟩ rows[k].e || (ah (rows.drop (k + 1))).any (lm ⟨c,s⟩))):=by show _=_; rw [← HP.out]; exact fit_drop _ _ _ hlt
   obtain ⟨W1,hW1⟩:∃ W1,W1=wr.alloc (.cells #[.int .i64 rows[k].e.kind,.slice rows[k].adA rows[k].e.allow.length rows[k].capA,.string rows[k].e.over,.string rows[k].e.name,.slice rows[k].adK rows[k].e.kids.length rows[k].capK] 166):=⟨_,rfl⟩;have hal:Below wr.heap.size wr W1:=by rw [hW1]; exact (R3 _ _).alloc (R4 _) _
   have HB1:=gY HB hal;have TY:Hid (W1.cell? ⟨w.heap.size + 1,0,none⟩=some (.string c)∧W1.cell? ⟨w.heap.size + 1,1,none⟩=some (.string s)∧w.heap.size + 1 < W1.heap.size):=⟨aH hal x2 x0,aH hal x2 x1,RZ x2 hal.size⟩;have HA1:Hid (iy W1 rows[k].adA rows[k].e.allow):=Ub.out.1.below hal;rw [U7];clear ZV hok hal HC;by_cases h1:rows[k].e.kind=1
   ·have hq1:(rows[k].e.kind == 1)=true:=by simpa using h1
    have UV:Hid (lm ⟨c,s⟩ rows[k].e=dh rows[k].e.allow rows[k].e.allow.length ⟨c,s⟩):=by show _=_; unfold lm; simp [h1]
    replace h1:Hid (rows[k].e.kind=1):=h1;go_wp2_with fail;rw [← hW1];refine (rJ rows[k].adA rows[k].e.allow.length rows[k].capA rows[k].e.allow ⟨c,s⟩ _ (R4 _) lgA HA1.out).mono ?_;rintro e w2 ⟨rfl,hb2⟩;have HB2:=gY HB1 hb2;have Tn:Hid (w2.cell? ⟨w.heap.size + 1,0,none⟩=some (.string c)∧w2.cell? ⟨w.heap.size + 1,1,none⟩=some (.string s)∧w.heap.size + 1 < w2.heap.size):=⟨aH hb2 TY.out.2.2 TY.out.1,aH hb2 TY.out.2.2 TY.out.2.1,RZ TY.out.2.2 hb2.size⟩;clear hb2 hW1 t0 t1 t2 t3 t4 x0 x1;cases hz:dh rows[k].e.allow rows[k].e.allow.length ⟨c,s⟩ with
    | true =>
     have HN:Hid (vG (ae rs) oa r ⟨c,s⟩=true):=by show _=_; unfold vG; rw [← HE.out,HD.out,UV.out,hz]; rfl
     go_wp2;go_ret;exact ⟨by rw [HN.out]; rfl,HB2.out⟩
    | false =>
     have Td:Hid ((ah (rows.drop (k + 1))).any (lm ⟨c,s⟩)=(ah rows).any (lm ⟨c,s⟩)):=by show _=_; rw [HD.out,UV.out,hz]; rfl
     go_wp2;go_roundw;case rel=>exact ⟨k + 1,by omega,by go_num,Td,HB2,Tn⟩
     case measure=>simp [intOf] <;> omega
   ·have hq1:(rows[k].e.kind == 1)=false:=by simpa using h1
    have Td:Hid ((ah (rows.drop (k + 1))).any (lm ⟨c,s⟩)=(ah rows).any (lm ⟨c,s⟩)):=by show _=_; rw [HD.out]; simp [lm,h1]
    have T9:Hid (Below w.heap.size w (wr.alloc (.cells #[.int .i64 rows[k].e.kind,.slice rows[k].adA rows[k].e.allow.length rows[k].capA,.string rows[k].e.over,.string rows[k].e.name,.slice rows[k].adK rows[k].e.kids.length rows[k].capK] 166))):=by rw [← hW1]; exact HB1
    have HCX:Hid ((wr.alloc (.cells #[.int .i64 rows[k].e.kind,.slice rows[k].adA rows[k].e.allow.length rows[k].capA,.string rows[k].e.over,.string rows[k].e.name,.slice rows[k].adK rows[k].e.kids.length rows[k].capK] 166)).cell? ⟨w.heap.size + 1,0,none⟩=some (.string c)∧(wr.alloc (.cells #[.int .i64 rows[k].e.kind,.slice rows[k].adA rows[k].e.allow.length rows[k].capA,.string rows[k].e.over,.string rows[k].e.name,.slice rows[k].adK rows[k].e.kids.length rows[k].capK] 166)).cell? ⟨w.heap.size + 1,1,none⟩=some (.string s)∧w.heap.size + 1 < (wr.alloc (.cells #[.int .i64 rows[k].e.kind,.slice rows[k].adA rows[k].e.allow.length rows[k].capA,.string rows[k].e.over,.string rows[k].e.name,.slice rows[k].adK rows[k].e.kids.length rows[k].capK] 166)).heap.size):=by rw [← hW1]; exact TY
    clear hW1;go_wp2;go_roundw;case rel=>exact ⟨k + 1,by omega,by go_num,Td,T9,HCX⟩
    case measure=>simp [intOf] <;> omega
  ·have HN:Hid (vG (ae rs) oa r ⟨c,s⟩=false):=by show _=_; unfold vG; rw [← HE.out,← HP.out,List.drop_of_length_le (by omega)]; rfl
   go_wp2;go_ret;exact ⟨by rw [HN.out]; rfl,HB.out⟩
end Go.Proofs.YtdaoiceeidoehaaGreat
