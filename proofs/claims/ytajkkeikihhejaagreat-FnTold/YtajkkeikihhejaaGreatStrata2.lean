/- The document's rounds over strata in plain words, step by step; and the row of strata in memory that they write. -/
import Derived.Test.YtajkkeikihhejaaGreatSq
import Derived.Test.YtajkkeikihhejaaGreatJ9
open Go.Proofs.Tryz
namespace Go.Proofs.YtajkkeikihhejaaGreat
open Go.ChangeShapes Go.WideShapes Go.ChangeAt Go.RowKit
open Pl
theorem zG (d:Dp):0≤stepOf d∧stepOf d≤1:=by unfold stepOf; split <;> omega
structure Mid (ts:List Ty) (n:Nat) (oS:List St) (k j:Nat) (mb:Bool) (out:List St):Prop where
 len:out.length=n
 nn:n=(ak ts).length
 round:Round ts out
 le:∀ i (h:i < out.length),i ≠ k→out[i].n≤n
 lek:∀ h:k < out.length,out[k].n≤n + 1 + j
 same:mb=false→out=oS∧(∀ i (h:i < out.length),i < k→Qp ts out out[i] (il ts out[i].key).length)∧∀ h:k < out.length,Qp ts out out[k] j
 grow:mG oS≤mG out∧(mb=true→mG oS < mG out)
theorem Mid.start {ts:List Ty} {n:Nat} {out:List St} (hl:out.length=n) (hn:n=(ak ts).length) (hr:Round ts out) (hle:∀ s ∈ out,s.n≤n):Mid ts n out 0 0 false out where
 len:=hl
 nn:=hn
 round:=hr
 le i h _:=hle _ (TQ h)
 lek h:=by have:=hle _ (TQ h); omega
 same _:=⟨rfl,fun i _ hi=>by omega,fun _ d hd=>by simp at hd⟩
 grow:=⟨Int.le_refl _,by simp⟩
theorem Mid.key {ts:List Ty} {n k j:Nat} {oS out:List St} {mb:Bool} (h:Mid ts n oS k j mb out) (hk:k < out.length) (hk2:k < (ak ts).length):out[k].key=(ak ts)[k]:=by
 have e:=h.round.keys;have:(iE out)[k]'(by simp [iE,hk])=(ak ts)[k]:=by simp only [e]
 rw [← this]; simp [iE]
def o7 (out:List St) (d:Dp):Int:=fO out (d.typ,d.rel) + stepOf d
theorem Mid.at {ts:List Ty} {n k j:Nat} {oS out:List St} {mb:Bool} (h:Mid ts n oS k j mb out) (key:ByteArray × ByteArray) (hk:key ∈ ak ts):∃ i:Nat,∃ hi:i < out.length,gP key.1 key.2 out 0=(i:Int)∧out[i].n=fO out key∧0≤fO out key∧fO out key≤n + 1 + j:=by
 obtain ⟨i,hi,h1,h2,h3⟩:=oV out 0 (k:=key) (by rw [h.round.keys]; exact hk);refine ⟨i,hi,by rw [h1]; congr 1; omega,h3,?_,?_⟩
 ·exact (h.round.at hk).1
 rw [← h3];by_cases e:i=k
 ·subst e; exact h.lek hi
 have:=h.le i hi e; omega
theorem Mid.no {ts:List Ty} {n k j:Nat} {oS out:List St} {mb:Bool} (h:Mid ts n oS k j mb out) (hk:k < out.length) (d:Dp) (hd:(il ts out[k].key)[j]?=some d) (hw:o7 out d≤out[k].n):Mid ts n oS k (j + 1) mb out where
 len:=h.len
 nn:=h.nn
 round:=h.round
 le:=h.le
 lek hh:=by have:=h.lek hh; omega
 same hm:=by
  obtain ⟨e,s1,s2⟩:=h.same hm;refine ⟨e,s1,fun hh d' hd'=>?_⟩;obtain ⟨hj,hd2⟩:=List.getElem?_eq_some_iff.1 hd;rw [TV hj] at hd';rcases Uc.1 hd' with hd' | hd'
  ·exact s2 hh d' hd'
  rw [hd2] at hd'; simp at hd'; subst hd'; exact hw
 grow:=h.grow
theorem Mid.yes {ts:List Ty} {n k j:Nat} {oS out:List St} {mb:Bool} (h:Mid ts n oS k j mb out) (hF:Found ts) (hk:k < out.length) (d:Dp) (hd:(il ts out[k].key)[j]?=some d) (hw:out[k].n < o7 out d):Mid ts n oS k (j + 1) true (out.set k ⟨out[k].typ,out[k].rel,o7 out d⟩) where
 len:=by rw [List.length_set]; exact h.len
 nn:=h.nn
 round:=h.round.set hF hk (List.mem_of_getElem? hd)
 le i hi hne:=by
  rw [List.getElem_set_ne (Ne.symm hne)];exact h.le i (by simpa using hi) hne
 lek hh:=by
  rw [List.getElem_set_self];show o7 out d≤_;obtain ⟨i,hi,-,-,-,h4⟩:=h.at (d.typ,d.rel) (hF _ (h.round.mem (TQ hk)) d (List.mem_of_getElem? hd));have:=zG d;unfold o7; push_cast; omega
 same hm:=by cases hm
 grow:=by
  have:=h.grow.1;rw [N8 _ _ hk];exact ⟨by omega,fun _=>by omega⟩
theorem Mid.next {ts:List Ty} {n k j:Nat} {oS out:List St} {mb:Bool} (h:Mid ts n oS k j mb out) (hk:k < out.length) (hj:j=(il ts out[k].key).length) (hle:out[k].n≤n):Mid ts n oS (k + 1) 0 mb out where
 len:=h.len
 nn:=h.nn
 round:=h.round
 le i hi _:=by
  by_cases e:i=k
  ·subst e; exact hle
  exact h.le i hi e
 lek hh:=by have:=h.le (k + 1) hh (by omega); omega
 same hm:=by
  obtain ⟨e,s1,s2⟩:=h.same hm;refine ⟨e,fun i hi hik=>?_,fun _ d hd=>by simp at hd⟩;by_cases e2:i=k
  ·subst e2; have:=s2 hi; rw [hj] at this; exact this
  exact s1 i hi (by omega)
 grow:=h.grow
theorem Mid.over {ts:List Ty} {n k j:Nat} {oS out:List St} {mb:Bool} (h:Mid ts n oS k j mb out) (hF:Found ts) (hk:k < out.length) (hn:(n:Int) < out[k].n):¬ ∃ f,Sol ts f :=
 Im hF (h.round.mem (TQ hk)) (h.round.low _ (TQ hk)) (by have:=h.nn; omega)
structure Pass (ts:List Ty) (n:Nat) (mb:Bool) (out:List St):Prop where
 len:out.length=n
 nn:n=(ak ts).length
 round:Round ts out
 le:∀ s ∈ out,s.n≤n
 sat:mb=false→∀ s ∈ out,Qp ts out s (il ts s.key).length
theorem Mid.done {ts:List Ty} {n k j:Nat} {oS out:List St} {mb:Bool} (h:Mid ts n oS k j mb out) (hk:k=n):Pass ts n mb out where
 len:=h.len
 nn:=h.nn
 round:=h.round
 le s hs:=by
  obtain ⟨i,hi,rfl⟩:=List.mem_iff_getElem.1 hs;exact h.le i hi (by have:=h.len; omega)
 sat hm s hs:=by
  obtain ⟨e,s1,s2⟩:=h.same hm;obtain ⟨i,hi,rfl⟩:=List.mem_iff_getElem.1 hs;exact s1 i hi (by have:=h.len; omega)
theorem Pass.least {ts:List Ty} {n:Nat} {out:List St} (h:Pass ts n false out):Least ts (fO out):=h.round.done (h.sat rfl)
theorem Pass.zero {ts:List Ty} {n:Nat} (hn:n=(ak ts).length):Pass ts n true (FQ (ak ts)) where
 len:=by rw [Ef,hn]
 nn:=hn
 round:=⟨by unfold iE FQ; rw [List.map_map]; exact List.map_id _,fun s hs=>by simp [FQ] at hs; obtain ⟨a,b,-,rfl⟩:=hs; exact Int.le_refl _,fun s hs=>by simp [FQ] at hs; obtain ⟨a,b,-,rfl⟩:=hs; exact qz.zero _ _⟩
 le s hs:=by simp [FQ] at hs; obtain ⟨a,b,-,rfl⟩:=hs; simp
 sat h:=by cases h
theorem Qs (n:Int) (out:List St) (h:∀ s ∈ out,s.n≤n):mG out≤n * out.length:=by
 induction out with
 | nil=>simp [mG]
 | cons s xs ih =>
  have h1:=h s (by simp);have h2:=ih fun q hq=>h q (by simp [hq]);simp only [mG,List.length_cons];have:n * ((xs.length + 1:Nat):Int)=n * xs.length + n:=by push_cast; rw [Int.mul_add]; simp
  omega
structure RowS (w wr:World) (ad:Option Addr) (g:Nat) (out:List St):Prop where
 below:ag w wr
 at':out=[] ∨ (ad=some ⟨g,0,none⟩∧w.heap.size≤g∧g < wr.heap.size∧TF wr g out∧∀ j,wr.frozen? ⟨g,j,none⟩=false)
theorem S9.kept {w w':af} {b off:Nat} {s:St} (h:S9 w b off s) (hb:b < w.heap.size) (hB:ag w w'):S9 w' b off s:=⟨aG hB hb h.1,aG hB hb h.2.1,aG hB hb h.2.2⟩
theorem RowS.kept {w wr w2:af} {ad:Option Addr} {g:Nat} {out:List St} (h:RowS w wr ad g out) (hb:ag wr w2):RowS w w2 ad g out where
 below:=h.below.trans (hb.mono h.below.size)
 at':=by
  rcases h.at' with e | ⟨e,h1,h2,h3,h4⟩
  ·exact .inl e
  exact .inr ⟨e,h1,TP h2 hb.size,fun i hi=>(h3 i hi).kept h2 hb,fun j=>by rw [hb.frozen (p:=⟨g,j,none⟩) h2]; exact h4 j⟩
theorem RowS.slN {w wr:af} {ad:Option Addr} {g:Nat} {out:List St} (h:RowS w wr ad g out):Ik wr ad out:=by
 rcases h.at' with e | ⟨e,h1,h2,h3,h4⟩
 ·exact .inl e
 exact .inr ⟨g,0,e,h2,fun i hi=>by rw [Um]; exact h3 i hi⟩
theorem RowS.set {w wr:af} {ad:Option Addr} {g:Nat} {out:List St} (h:RowS w wr ad g out) {k:Nat} (hk:k < out.length) (n:Int):RowS w (wr.setCell ⟨g,k * 3 + 2,none⟩ (.int .i64 n)) ad g (out.set k ⟨out[k].typ,out[k].rel,n⟩):=by
 rcases h.at' with e | ⟨e,h1,h2,h3,h4⟩
 ·rw [e] at hk; simp at hk
 refine ⟨h.below.setCell (p:=⟨g,k * 3 + 2,none⟩) h1 _,.inr ⟨e,h1,by simpa using h2,fun i hi=>?_,fun j=>by simpa using h4 j⟩⟩;have hi':i < out.length:=by simpa using hi
 obtain ⟨c0,c1,c2⟩:=h3 i hi';by_cases ei:i=k
 ·subst ei;rw [List.getElem_set_self];exact ⟨by rw [lN (by omega)]; exact c0,by rw [lN (by omega)]; exact c1,xq c2⟩
 rw [List.getElem_set_ne (Ne.symm ei)];exact ⟨by rw [lN (by omega)]; exact c0,by rw [lN (by omega)]; exact c1,by rw [lN (by omega)]; exact c2⟩
def Od (w:World) (g i:Nat):Int:=match w.cell? ⟨g,i * 3 + 2,none⟩ with | some (.int _ x)=>x | _=>0
def Iu (w:World) (g:Nat):Nat→Int
 | 0=>0
 | n + 1=>Iu w g n + Od w g n
theorem FU (xs ys:List St):mG (xs ++ ys)=mG xs + mG ys:=by
 induction xs with
 | nil=>simp [mG]
 | cons s xs ih=>simp only [List.cons_append,mG,ih]; omega
theorem TF.sum {w:af} {g:Nat} {out:List St} (h:TF w g out):∀ k,k≤out.length→Iu w g k=mG (out.take k)
 | 0,_=>by simp [Iu,mG]
 | k + 1,hk=>by
  have hlt:k < out.length:=by omega
  rw [TV hlt,FU];simp only [Iu,h.sum k (by omega),mG];have:Od w g k=out[k].n:=by unfold Od; rw [(h k hlt).2.2]
  omega
theorem RowS.sum {w wr:af} {ad:Option Addr} {g:Nat} {out:List St} (h:RowS w wr ad g out):Iu wr g out.length=mG out:=by
 rcases h.at' with e | ⟨e,h1,h2,h3,h4⟩
 ·rw [e]; simp [Iu,mG]
 rw [h3.sum _ (TS _),Ug]
def Oe:Value→Int
 | .bool true=>1
 | _=>0
def CG (w:World) (g n:Nat) (m:Value):Nat:=(2 * ((n:Int) * n - Iu w g n) + Oe m).toNat
theorem Iw {ts:List Ty} {w wr w2:af} {ad:Option Addr} {g n:Nat} {oS out:List St} {mb:Bool} (hS:RowS w wr ad g oS) (hO:RowS w w2 ad g out) (h:Mid ts n oS n 0 mb out) (hl:oS.length=n):CG w2 g n (.bool mb) < CG wr g n (.bool true):=by
 have e1:=hS.sum;have e2:=hO.sum;have h3:=Qs n out fun s hs=>(h.done rfl).le s hs;have h2:=h.len;have h4:=h.grow;rw [hl] at e1;rw [h2] at e2 h3;unfold CG;rw [e1,e2];cases mb;case false=>simp only [Oe]; omega
 have:=h4.2 rfl; simp only [Oe]; omega
theorem Qt {w wr:af} {v:Value} {out:List St} (hB:ag w wr) (h:wr.ownsRow w.heap.size 162 3 v out.length (iG out)):∃ ad cp g,v=.slice ad out.length cp∧RowS w wr ad g out:=by
 rcases h.2 with ⟨rfl,h0⟩ | ⟨g,cp,cur,rfl,hbg,hg,hnc,-⟩
 ·exact ⟨none,0,0,by rw [h0],hB,.inl (Ui.1 h0)⟩
 obtain ⟨ad,cp',e,h0⟩:=Tq h;injection e with e1 e2 e3;refine ⟨some ⟨g,0,none⟩,cp,g,rfl,hB,?_⟩;rcases h0 with h0 | ⟨g',e4,h1,h2,h3⟩
 ·exact .inl (Ui.1 h0)
 rw [← e1] at e4; injection e4 with e4; injection e4 with e4;subst e4;exact .inr ⟨rfl,h1,h2,h3,fun j=>by simp [World.frozen?,hg]⟩
theorem Si (ad:Option Addr) (cap n:Nat) (xs:List St) (key:ByteArray × ByteArray) (w:af) (hn:xs.length=n) (hlen:n≤1048576) (hs:Ik w ad xs) (i:Nat) (hat:gP key.1 key.2 xs 0=(i:Int)) :
  Calls prog 140 #[.slice ad n cap,.string key.1,.string key.2] w fun e w'=>e=.returned (.int .i64 (i:Int))∧w'=w:=by
 subst hn;rw [← hat];exact NW ad cap xs key.1 key.2 w hlen hs
theorem AtD.set {w:af} {b off g o:Nat} {d:Dp} {v:Value} (h:AtD w b off d) (hn:g ≠ b):AtD (w.setCell ⟨g,o,none⟩ v) b off d:=⟨by rw [xw hn]; exact h.1,by rw [xw hn]; exact h.2.1,by rw [xw hn]; exact h.2.2⟩
theorem Rs.set {w:af} {lo g o:Nat} {ad:Option Addr} {xs:List Dp} {v:Value} (h:Rs w lo ad xs) (hg:g < lo):Rs (w.setCell ⟨g,o,none⟩ v) lo ad xs:=by
 rcases h with h | ⟨b,e,h1,h2,h3⟩
 ·exact .inl h
 exact .inr ⟨b,e,h1,by simpa using h2,fun i hi=>(h3 i hi).set (by omega)⟩
theorem keepD {wr W w':af} {g o1 o2:Nat} {x y:Value} (h:W.cell? ⟨g,o1,none⟩=some x∧W.cell? ⟨g,o2,none⟩=some y∧g < W.heap.size∧ag wr W) (hb:ag W w') :
  w'.cell? ⟨g,o1,none⟩=some x∧w'.cell? ⟨g,o2,none⟩=some y∧g < w'.heap.size∧ag wr w' :=
 ⟨aG hb h.2.2.1 h.1,aG hb h.2.2.1 h.2.1,TP h.2.2.1 hb.size,h.2.2.2.trans (hb.mono h.2.2.2.size)⟩
theorem pO.small {rs:List TR} {ad:Option Addr} {rows:List ER} (h:pO rs ad rows) (hl:∀ r ∈ rs,∀ q ∈ r.rows,q.rows.length≤15∧∀ e ∈ q.rows,dV q.rows.length e.e.kids):rows.length≤15∧∀ e ∈ rows,dV rows.length e.e.kids:=by
 rcases h with rfl | ⟨t,ht,q,hq,rfl,-⟩
 ·exact ⟨by simp,by simp⟩
 exact hl t ht q hq
theorem zH (ts:List Ty) (ty over rel:bF):(ig ts ty over rel).length≤(aU (aA ts ty over)).length:=Ii _ _ _
theorem Iy (ts:List Ty) (typ:bF) (es:List Ex) (A G:Nat) (hA:∀ e ∈ es,e.allow.length≤A) (hG:∀ over rel,(ig ts typ over rel).length≤G) (k:Nat):(aN ts typ es k).length≤k * (A + G + 1):=by
 induction k with
 | zero=>simp [aN]
 | succ k ih =>
  simp only [aN,T9];have:(ik ts typ es k).length≤A + G + 1:=by
   unfold ik;split
   ·simp
   rename_i e he;have h1:=hA e (List.mem_of_getElem? he);have h2:=Cw ((dz es).getD k false) e.allow;have h3:(kM ts typ ((dz es).getD k false) e).length≤G + 1:=by
    unfold kM;split
    ·simp
    split
    ·have:=hG e.over e.name; simp; omega
    simp
   rw [T9]; omega
  have e:(k + 1) * (A + G + 1)=k * (A + G + 1) + (A + G + 1):=Nat.succ_mul _ _;omega
theorem BB (ts:List Ty) (typ:bF) (es:List Ex) (k:Nat) (h:es.length≤k):ik ts typ es k=[]:=by
 unfold ik;rw [List.getElem?_eq_none h]
theorem Iz (ts:List Ty) (typ:bF) (es:List Ex) (B:Nat) (hB:∀ k,k≤es.length→(aN ts typ es k).length≤B) (k:Nat):(aN ts typ es k).length≤B:=by
 induction k with
 | zero=>exact hB 0 (TW _)
 | succ k ih =>
  by_cases h:k + 1≤es.length
  ·exact hB _ h
  simp only [aN];rw [BB _ _ _ _ (by omega),List.append_nil];exact ih
theorem FV (rs:List RR) (n:bF) (es:List Ex) (h:jN (eD rs) n=some es):∃ q ∈ rs,es=aj q.rows:=by
 induction rs with
 | nil=>simp [eD,jN] at h
 | cons r rs ih =>
  simp only [eD,List.map_cons,jN] at h;split at h
  ·injection h with h; exact ⟨r,by simp,h.symm⟩
  obtain ⟨q,hq,e⟩:=ih h; exact ⟨q,by simp [hq],e⟩
theorem IA (ts:List TR) (ty n:bF) (es:List Ex) (h:fH (ae ts) ty n=some es):∃ t ∈ ts,∃ q ∈ t.rows,es=aj q.rows:=by
 induction ts with
 | nil=>simp [ae,fH] at h
 | cons t ts ih =>
  simp only [ae,List.map_cons,fH] at h;split at h
  ·rcases Option.or_eq_some_iff.1 h with h | ⟨-,h⟩
   ·obtain ⟨q,hq,e⟩:=FV _ _ _ h; exact ⟨t,by simp,q,hq,e⟩
   obtain ⟨t',ht,q,hq,e⟩:=ih h; exact ⟨t',by simp [ht],q,hq,e⟩
  obtain ⟨t',ht,q,hq,e⟩:=ih h; exact ⟨t',by simp [ht],q,hq,e⟩
theorem xI (rs:List TR) (hl:∀ r ∈ rs,r.light) (typ over rel:bF):(ig (ae rs) typ over rel).length≤1048576:=by
 refine TZ (zH _ _ _ _) ?_;unfold aA;cases h:fH (ae rs) typ over with
 | none=>simp [aU]
 | some es =>
  obtain ⟨t,ht,q,hq,rfl⟩:=IA _ _ _ _ h;exact zw q.rows ((hl t ht).2 q hq).2
theorem zI (rs:List TR) (hl:∀ r ∈ rs,r.light) (typ:bF) (rows:List ER) (hle:rows.length≤15) (ZH:∀ q ∈ rows,q.e.light) (k:Nat):(aN (ae rs) typ (aj rows) k).length≤100000000:=by
 refine Iz _ _ _ _ (fun k hk=>?_) k;refine TZ (Iy _ _ _ 1048576 1048576 (fun e he=>?_) (xI rs hl typ) k) ?_
 ·obtain ⟨q,hq,rfl⟩:=Ue.1 he; exact (ZH q hq).1
 rw [aT] at hk; omega
end Go.Proofs.YtajkkeikihhejaaGreat
