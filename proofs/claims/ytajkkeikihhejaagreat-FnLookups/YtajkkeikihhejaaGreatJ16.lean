/- The document's rounds over strata in plain words, step by step; and the row of strata in memory that they write. -/
import Derived.Test.YtajkkeikihhejaaGreatSq
import Derived.Test.YtajkkeikihhejaaGreatJ14
open Go.Proofs.Tryz
set_option maxHeartbeats 80000000
namespace Go.Proofs.YtajkkeikihhejaaGreat
open Go.ChangeShapes Go.WideShapes Go.ChangeAt Go.RowKit
open Pl
theorem zI (d:Dp):0≤stepOf d∧stepOf d≤1:=by unfold stepOf; split <;> omega
structure Mid (ts:List Ty) (n:Nat) (oS:List St) (k j:Nat) (mb:Bool) (out:List St):Prop where
 len:out.length=n
 nn:n=(au ts).length
 round:Round ts out
 le:∀ i (h:i < out.length),i ≠ k→out[i].n≤n
 lek:∀ h:k < out.length,out[k].n≤n + 1 + j
 same:mb=false→out=oS∧(∀ i (h:i < out.length),i < k→Pq ts out out[i] (iq ts out[i].key).length)∧∀ h:k < out.length,Pq ts out out[k] j
 grow:mF oS≤mF out∧(mb=true→mF oS < mF out)
theorem Mid.start {ts:List Ty} {n:Nat} {out:List St} (hl:out.length=n) (hn:n=(au ts).length) (hr:Round ts out) (hle:∀ s ∈ out,s.n≤n):Mid ts n out 0 0 false out where
 len:=hl
 nn:=hn
 round:=hr
 le i h _:=hle _ (Sw h)
 lek h:=by have:=hle _ (Sw h); omega
 same _:=⟨rfl,fun i _ hi=>by omega,fun _ d hd=>by simp at hd⟩
 grow:=⟨Int.le_refl _,by simp⟩
theorem Mid.key {ts:List Ty} {n k j:Nat} {oS out:List St} {mb:Bool} (h:Mid ts n oS k j mb out) (hk:k < out.length) (hk2:k < (au ts).length):out[k].key=(au ts)[k]:=by
 have e:=h.round.keys;have:(iG out)[k]'(by simp [iG,hk])=(au ts)[k]:=by simp only [e]
 rw [← this]; simp [iG]
def oV (out:List St) (d:Dp):Int:=fH out (d.typ,d.rel) + stepOf d
theorem Mid.at {ts:List Ty} {n k j:Nat} {oS out:List St} {mb:Bool} (h:Mid ts n oS k j mb out) (key:ByteArray × ByteArray) (hk:key ∈ au ts):∃ i:Nat,∃ hi:i < out.length,gY key.1 key.2 out 0=(i:Int)∧out[i].n=fH out key∧0≤fH out key∧fH out key≤n + 1 + j:=by
 obtain ⟨i,hi,h1,h2,h3⟩:=oN out 0 (k:=key) (by rw [h.round.keys]; exact hk);refine ⟨i,hi,by rw [h1]; congr 1; omega,h3,?_,?_⟩
 ·exact (h.round.at hk).1
 rw [← h3];by_cases e:i=k
 ·subst e; exact h.lek hi
 have:=h.le i hi e; omega
theorem Mid.no {ts:List Ty} {n k j:Nat} {oS out:List St} {mb:Bool} (h:Mid ts n oS k j mb out) (hk:k < out.length) (d:Dp) (hd:(iq ts out[k].key)[j]?=some d) (hw:oV out d≤out[k].n):Mid ts n oS k (j + 1) mb out where
 len:=h.len
 nn:=h.nn
 round:=h.round
 le:=h.le
 lek hh:=by have:=h.lek hh; omega
 same hm:=by
  obtain ⟨e,s1,s2⟩:=h.same hm;refine ⟨e,s1,fun hh d' hd'=>?_⟩;obtain ⟨hj,hd2⟩:=List.getElem?_eq_some_iff.1 hd;rw [SA hj] at hd';rcases SI.1 hd' with hd' | hd'
  ·exact s2 hh d' hd'
  rw [hd2] at hd'; simp at hd'; subst hd'; exact hw
 grow:=h.grow
theorem Mid.yes {ts:List Ty} {n k j:Nat} {oS out:List St} {mb:Bool} (h:Mid ts n oS k j mb out) (hF:Found ts) (hk:k < out.length) (d:Dp) (hd:(iq ts out[k].key)[j]?=some d) (hw:out[k].n < oV out d):Mid ts n oS k (j + 1) true (out.set k ⟨out[k].typ,out[k].rel,oV out d⟩) where
 len:=by rw [List.length_set]; exact h.len
 nn:=h.nn
 round:=h.round.set hF hk (List.mem_of_getElem? hd)
 le i hi hne:=by
  rw [List.getElem_set_ne (Ne.symm hne)];exact h.le i (by simpa using hi) hne
 lek hh:=by
  rw [List.getElem_set_self];show oV out d≤_;obtain ⟨i,hi,-,-,-,h4⟩:=h.at (d.typ,d.rel) (hF _ (h.round.mem (Sw hk)) d (List.mem_of_getElem? hd));have:=zI d;unfold oV; push_cast; omega
 same hm:=by cases hm
 grow:=by
  have:=h.grow.1;rw [Nc _ _ hk];exact ⟨by omega,fun _=>by omega⟩
theorem Mid.next {ts:List Ty} {n k j:Nat} {oS out:List St} {mb:Bool} (h:Mid ts n oS k j mb out) (hk:k < out.length) (hj:j=(iq ts out[k].key).length) (hle:out[k].n≤n):Mid ts n oS (k + 1) 0 mb out where
 len:=h.len
 nn:=h.nn
 round:=h.round
 le i hi _:=by
  by_cases e:i=k
  ·subst e; exact hle
  exact h.le i hi e
 lek hh:=by have:=h.le (k + 1) hh (by omega); omega
 same hm:=by
  obtain ⟨e,s1,s2⟩:=h.same hm;refine ⟨e,fun i hi hik=>?_,fun _ d hd=>by simp at hd⟩;by_cases e2:i=k
  ·subst e2; have:=s2 hi; rw [hj] at this; exact this
  exact s1 i hi (by omega)
 grow:=h.grow
theorem Mid.over {ts:List Ty} {n k j:Nat} {oS out:List St} {mb:Bool} (h:Mid ts n oS k j mb out) (hF:Found ts) (hk:k < out.length) (hn:(n:Int) < out[k].n):¬ ∃ f,Sol ts f :=
 Na hF (h.round.mem (Sw hk)) (h.round.low _ (Sw hk)) (by have:=h.nn; omega)
structure Pass (ts:List Ty) (n:Nat) (mb:Bool) (out:List St):Prop where
 len:out.length=n
 nn:n=(au ts).length
 round:Round ts out
 le:∀ s ∈ out,s.n≤n
 sat:mb=false→∀ s ∈ out,Pq ts out s (iq ts s.key).length
theorem Mid.done {ts:List Ty} {n k j:Nat} {oS out:List St} {mb:Bool} (h:Mid ts n oS k j mb out) (hk:k=n):Pass ts n mb out where
 len:=h.len
 nn:=h.nn
 round:=h.round
 le s hs:=by
  obtain ⟨i,hi,rfl⟩:=List.mem_iff_getElem.1 hs;exact h.le i hi (by have:=h.len; omega)
 sat hm s hs:=by
  obtain ⟨e,s1,s2⟩:=h.same hm;obtain ⟨i,hi,rfl⟩:=List.mem_iff_getElem.1 hs;exact s1 i hi (by have:=h.len; omega)
theorem Pass.least {ts:List Ty} {n:Nat} {out:List St} (h:Pass ts n false out):Least ts (fH out):=h.round.done (h.sat rfl)
theorem Pass.zero {ts:List Ty} {n:Nat} (hn:n=(au ts).length):Pass ts n true (EZ (au ts)) where
 len:=by rw [DD,hn]
 nn:=hn
 round:=⟨by unfold iG EZ; rw [List.map_map]; exact List.map_id _,fun s hs=>by simp [EZ] at hs; obtain ⟨a,b,-,rfl⟩:=hs; exact Int.le_refl _,fun s hs=>by simp [EZ] at hs; obtain ⟨a,b,-,rfl⟩:=hs; exact qg.zero _ _⟩
 le s hs:=by simp [EZ] at hs; obtain ⟨a,b,-,rfl⟩:=hs; simp
 sat h:=by cases h
theorem Py (n:Int) (out:List St) (h:∀ s ∈ out,s.n≤n):mF out≤n * out.length:=by
 induction out with
 | nil=>simp [mF]
 | cons s xs ih =>
  have h1:=h s (by simp);have h2:=ih fun q hq=>h q (by simp [hq]);simp only [mF,List.length_cons];have:n * ((xs.length + 1:Nat):Int)=n * xs.length + n:=by push_cast; rw [Int.mul_add]; simp
  omega
structure RowS (w wr:ae) (ad:Option Addr) (g:Nat) (out:List St):Prop where
 below:af w wr
 at':out=[] ∨ (ad=some ⟨g,0,none⟩∧w.heap.size≤g∧g < wr.heap.size∧Si wr g out∧∀ j,wr.frozen? ⟨g,j,none⟩=false)
theorem Rx.kept {w w':ae} {b off:Nat} {s:St} (h:Rx w b off s) (hb:b < w.heap.size) (hB:af w w'):Rx w' b off s:=⟨aI hB hb h.1,aI hB hb h.2.1,aI hB hb h.2.2⟩
theorem RowS.kept {w wr w2:ae} {ad:Option Addr} {g:Nat} {out:List St} (h:RowS w wr ad g out) (hb:af wr w2):RowS w w2 ad g out where
 below:=h.below.trans (hb.mono h.below.size)
 at':=by
  rcases h.at' with e | ⟨e,h1,h2,h3,h4⟩
  ·exact .inl e
  exact .inr ⟨e,h1,Sv h2 hb.size,fun i hi=>(h3 i hi).kept h2 hb,fun j=>by rw [hb.frozen (p:=⟨g,j,none⟩) h2]; exact h4 j⟩
theorem RowS.slN {w wr:ae} {ad:Option Addr} {g:Nat} {out:List St} (h:RowS w wr ad g out):G8 wr ad out:=by
 rcases h.at' with e | ⟨e,h1,h2,h3,h4⟩
 ·exact .inl e
 exact .inr ⟨g,0,e,h2,fun i hi=>by rw [Td]; exact h3 i hi⟩
theorem RowS.set {w wr:ae} {ad:Option Addr} {g:Nat} {out:List St} (h:RowS w wr ad g out) {k:Nat} (hk:k < out.length) (n:Int):RowS w (wr.setCell ⟨g,k * 3 + 2,none⟩ (.int .i64 n)) ad g (out.set k ⟨out[k].typ,out[k].rel,n⟩):=by
 rcases h.at' with e | ⟨e,h1,h2,h3,h4⟩
 ·rw [e] at hk; simp at hk
 refine ⟨h.below.setCell (p:=⟨g,k * 3 + 2,none⟩) h1 _,.inr ⟨e,h1,by simpa using h2,fun i hi=>?_,fun j=>by simpa using h4 j⟩⟩;have hi':i < out.length:=by simpa using hi
 obtain ⟨c0,c1,c2⟩:=h3 i hi';by_cases ei:i=k
 ·subst ei;rw [List.getElem_set_self];exact ⟨by rw [pQ (by omega)]; exact c0,by rw [pQ (by omega)]; exact c1,yG c2⟩
 rw [List.getElem_set_ne (Ne.symm ei)];exact ⟨by rw [pQ (by omega)]; exact c0,by rw [pQ (by omega)]; exact c1,by rw [pQ (by omega)]; exact c2⟩
def NA (w:ae) (g i:Nat):Int:=match w.cell? ⟨g,i * 3 + 2,none⟩ with | some (.int _ x)=>x | _=>0
def Hg (w:ae) (g:Nat):Nat→Int
 | 0=>0
 | n + 1=>Hg w g n + NA w g n
theorem Fg (xs ys:List St):mF (xs ++ ys)=mF xs + mF ys:=by
 induction xs with
 | nil=>simp [mF]
 | cons s xs ih=>simp only [List.cons_append,mF,ih]; omega
theorem Si.sum {w:ae} {g:Nat} {out:List St} (h:Si w g out):∀ k,k≤out.length→Hg w g k=mF (out.take k)
 | 0,_=>by simp [Hg,mF]
 | k + 1,hk=>by
  have hlt:k < out.length:=by omega
  rw [SA hlt,Fg];simp only [Hg,h.sum k (by omega),mF];have:NA w g k=out[k].n:=by unfold NA; rw [(h k hlt).2.2]
  omega
theorem RowS.sum {w wr:ae} {ad:Option Addr} {g:Nat} {out:List St} (h:RowS w wr ad g out):Hg wr g out.length=mF out:=by
 rcases h.at' with e | ⟨e,h1,h2,h3,h4⟩
 ·rw [e]; simp [Hg,mF]
 rw [h3.sum _ (Sy _),SS]
def NC:Value→Int
 | .bool true=>1
 | _=>0
def Ch (w:ae) (g n:Nat) (m:Value):Nat:=(2 * ((n:Int) * n - Hg w g n) + NC m).toNat
theorem Hl {ts:List Ty} {w wr w2:ae} {ad:Option Addr} {g n:Nat} {oS out:List St} {mb:Bool} (hS:RowS w wr ad g oS) (hO:RowS w w2 ad g out) (h:Mid ts n oS n 0 mb out) (hl:oS.length=n):Ch w2 g n (.bool mb) < Ch wr g n (.bool true):=by
 have e1:=hS.sum;have e2:=hO.sum;have h3:=Py n out fun s hs=>(h.done rfl).le s hs;have h2:=h.len;have h4:=h.grow;rw [hl] at e1;rw [h2] at e2 h3;unfold Ch;rw [e1,e2];cases mb;case false=>simp only [NC]; omega
 have:=h4.2 rfl; simp only [NC]; omega
theorem Pz {w wr:ae} {v:Value} {out:List St} (hB:af w wr) (h:wr.ownsRow w.heap.size 162 3 v out.length (iH out)):∃ ad cp g,v=.slice ad out.length cp∧RowS w wr ad g out:=by
 rcases h.2 with ⟨rfl,h0⟩ | ⟨g,cp,cur,rfl,hbg,hg,hnc,-⟩
 ·exact ⟨none,0,0,by rw [h0],hB,.inl (SX.1 h0)⟩
 obtain ⟨ad,cp',e,h0⟩:=RX h;injection e with e1 e2 e3;refine ⟨some ⟨g,0,none⟩,cp,g,rfl,hB,?_⟩;rcases h0 with h0 | ⟨g',e4,h1,h2,h3⟩
 ·exact .inl (SX.1 h0)
 rw [← e1] at e4; injection e4 with e4; injection e4 with e4;subst e4;exact .inr ⟨rfl,h1,h2,h3,fun j=>by simp [World.frozen?,hg]⟩
theorem QW (ad:Option Addr) (cap n:Nat) (xs:List St) (key:ByteArray × ByteArray) (w:ae) (hn:xs.length=n) (hlen:n≤1048576) (hs:G8 w ad xs) (i:Nat) (hat:gY key.1 key.2 xs 0=(i:Int)) :
  Calls prog 140 #[.slice ad n cap,.string key.1,.string key.2] w fun e w'=>e=.returned (.int .i64 (i:Int))∧w'=w:=by
 subst hn;rw [← hat];exact M7 ad cap xs key.1 key.2 w hlen hs
theorem AtD.set {w:ae} {b off g o:Nat} {d:Dp} {v:Value} (h:AtD w b off d) (hn:g ≠ b):AtD (w.setCell ⟨g,o,none⟩ v) b off d:=⟨by rw [wU hn]; exact h.1,by rw [wU hn]; exact h.2.1,by rw [wU hn]; exact h.2.2⟩
theorem Qu.set {w:ae} {lo g o:Nat} {ad:Option Addr} {xs:List Dp} {v:Value} (h:Qu w lo ad xs) (hg:g < lo):Qu (w.setCell ⟨g,o,none⟩ v) lo ad xs:=by
 rcases h with h | ⟨b,e,h1,h2,h3⟩
 ·exact .inl h
 exact .inr ⟨b,e,h1,by simpa using h2,fun i hi=>(h3 i hi).set (by omega)⟩
theorem keepD {wr W w':ae} {g o1 o2:Nat} {x y:Value} (h:W.cell? ⟨g,o1,none⟩=some x∧W.cell? ⟨g,o2,none⟩=some y∧g < W.heap.size∧af wr W) (hb:af W w') :
  w'.cell? ⟨g,o1,none⟩=some x∧w'.cell? ⟨g,o2,none⟩=some y∧g < w'.heap.size∧af wr w' :=
 ⟨aI hb h.2.2.1 h.1,aI hb h.2.2.1 h.2.1,Sv h.2.2.1 hb.size,h.2.2.2.trans (hb.mono h.2.2.2.size)⟩
theorem pz.small {rs:List TR} {ad:Option Addr} {rows:List ER} (h:pz rs ad rows) (hl:∀ r ∈ rs,∀ q ∈ r.rows,q.rows.length≤15∧∀ e ∈ q.rows,eB q.rows.length e.e.kids):rows.length≤15∧∀ e ∈ rows,eB rows.length e.e.kids:=by
 rcases h with rfl | ⟨t,ht,q,hq,rfl,-⟩
 ·exact ⟨by simp,by simp⟩
 exact hl t ht q hq
theorem zJ (ts:List Ty) (ty over rel:aD):(il ts ty over rel).length≤(aX (aL ts ty over)).length:=G6 _ _ _
theorem Hm (ts:List Ty) (typ:aD) (es:List Ex) (A G:Nat) (hA:∀ e ∈ es,e.allow.length≤A) (hG:∀ over rel,(il ts typ over rel).length≤G) (k:Nat):(aR ts typ es k).length≤k * (A + G + 1):=by
 induction k with
 | zero=>simp [aR]
 | succ k ih =>
  simp only [aR,SE];have:(kS ts typ es k).length≤A + G + 1:=by
   unfold kS;split
   ·simp
   rename_i e he;have h1:=hA e (List.mem_of_getElem? he);have h2:=BU ((fw es).getD k false) e.allow;have h3:(nO ts typ ((fw es).getD k false) e).length≤G + 1:=by
    unfold nO;split
    ·simp
    split
    ·have:=hG e.over e.name; simp; omega
    simp
   rw [SE]; omega
  have e:(k + 1) * (A + G + 1)=k * (A + G + 1) + (A + G + 1):=Nat.succ_mul _ _;omega
theorem Bh (ts:List Ty) (typ:aD) (es:List Ex) (k:Nat) (h:es.length≤k):kS ts typ es k=[]:=by
 unfold kS;rw [List.getElem?_eq_none h]
theorem Ho (ts:List Ty) (typ:aD) (es:List Ex) (B:Nat) (hB:∀ k,k≤es.length→(aR ts typ es k).length≤B) (k:Nat):(aR ts typ es k).length≤B:=by
 induction k with
 | zero=>exact hB 0 (SC _)
 | succ k ih =>
  by_cases h:k + 1≤es.length
  ·exact hB _ h
  simp only [aR];rw [Bh _ _ _ _ (by omega),List.append_nil];exact ih
theorem Fh (rs:List RR) (n:aD) (es:List Ex) (h:jK (eu rs) n=some es):∃ q ∈ rs,es=ak q.rows:=by
 induction rs with
 | nil=>simp [eu,jK] at h
 | cons r rs ih =>
  simp only [eu,List.map_cons,jK] at h;split at h
  ·injection h with h; exact ⟨r,by simp,h.symm⟩
  obtain ⟨q,hq,e⟩:=ih h; exact ⟨q,by simp [hq],e⟩
theorem Hq (ts:List TR) (ty n:aD) (es:List Ex) (h:gm (ah ts) ty n=some es):∃ t ∈ ts,∃ q ∈ t.rows,es=ak q.rows:=by
 induction ts with
 | nil=>simp [ah,gm] at h
 | cons t ts ih =>
  simp only [ah,List.map_cons,gm] at h;split at h
  ·rcases Option.or_eq_some_iff.1 h with h | ⟨-,h⟩
   ·obtain ⟨q,hq,e⟩:=Fh _ _ _ h; exact ⟨t,by simp,q,hq,e⟩
   obtain ⟨t',ht,q,hq,e⟩:=ih h; exact ⟨t',by simp [ht],q,hq,e⟩
  obtain ⟨t',ht,q,hq,e⟩:=ih h; exact ⟨t',by simp [ht],q,hq,e⟩
theorem xD (rs:List TR) (hl:∀ r ∈ rs,r.light) (typ over rel:aD):(il (ah rs) typ over rel).length≤1048576:=by
 refine SF (zJ _ _ _ _) ?_;unfold aL;cases h:gm (ah rs) typ over with
 | none=>simp [aX]
 | some es =>
  obtain ⟨t,ht,q,hq,rfl⟩:=Hq _ _ _ _ h;exact zh q.rows ((hl t ht).2 q hq).2
theorem zL (rs:List TR) (hl:∀ r ∈ rs,r.light) (typ:aD) (rows:List ER) (hle:rows.length≤15) (Ze:∀ q ∈ rows,q.e.light) (k:Nat):(aR (ah rs) typ (ak rows) k).length≤100000000:=by
 refine Ho _ _ _ _ (fun k hk=>?_) k;refine SF (Hm _ _ _ 1048576 1048576 (fun e he=>?_) (xD rs hl typ) k) ?_
 ·obtain ⟨q,hq,rfl⟩:=SK.1 he; exact (Ze q hq).1
 rw [bi] at hk; omega
set_option maxRecDepth 100000 in
theorem uF (ad:Option Addr) (cap:Nat) (rs:List TR) (w:ae) (hlen:rs.length≤6) (hs:mD w ad rs) (hl:∀ r ∈ rs,r.light) (hrl:∀ r ∈ rs,r.rows.length≤6) (hel:∀ r ∈ rs,∀ q ∈ r.rows,q.rows.length≤15∧∀ e ∈ q.rows,eB q.rows.length e.e.kids) (hF:Found (ah rs)) :
    Calls prog 96 #[.slice ad rs.length cap] w fun e w'=>((∃ TH cap' out,e=.returned (.tuple #[.slice TH out.length cap',.bool true])∧G8 w' TH out∧iG out=au (ah rs)∧Least (ah rs) (fH out)) ∨ (e=.returned (.tuple #[.slice none 0 0,.bool false])∧¬ ∃ f,Sol (ah rs) f))∧af w w':=by
  have HS:=az hs;have HL:=az hl;have XP:Hid (∀ r ∈ rs,r.rows.length≤6):=hrl;have Vo:Hid (∀ r ∈ rs,∀ q ∈ r.rows,q.rows.length≤15∧∀ e ∈ q.rows,eB q.rows.length e.e.kids):=hel;have HF:=az hF;clear hs hl hrl hel hF;obtain ⟨i0,hi,hz0,hz1,hz2⟩:=info_parts Ps;go_enter func96,ntmps96;have Zd:Hid (af w (w.alloc (.cells #[] 162))):=(Sz _ _).alloc (Sy _) _;have hown1:Hid ((w.alloc (.cells #[] 162)).ownsRow w.heap.size 162 3 (.slice (some ⟨w.heap.size,0,none⟩) 0 0) 0 []):=World.ownsRow_made w #[] 0 (Sy _) (by decide) rfl;go_wp2_with fail;go_loopw [4,5] (fun v i wr=>∃ k:Nat,k≤rs.length∧i=.int .i64 k∧Hid (wr.ownsRow w.heap.size 162 3 v (dw rs k).length (iH (EZ (dw rs k))))∧Hid (af w wr)) (fun _ i _=>rs.length - (intOf i).toNat);case atStart=>exact ⟨0,SC _,rfl,hown1,Zd⟩
  clear hown1 Zd;obtain ⟨k,hk,rfl,HOW,HB⟩:=hrel;by_cases hlt:k < rs.length
  · have hk1:=bq k;have hk2:(k:Int) < (rs.length:Int):=by omega
    have HU:Hid ((dw rs k).length≤k * 6):=vV rs XP.out k;have Vv:Hid (rs[k].rows.length≤6):=XP.out _ (Sw hlt);obtain ⟨wo,hwo⟩:∃ wo,wo=wr:=⟨_,rfl⟩;subst hwo;go_wp2_with fail;go_loopw [4,6] (fun v i w2=>∃ j:Nat,j≤rs[k].rows.length∧i=.int .i64 j∧Hid (w2.ownsRow w.heap.size 162 3 v (dw rs k ++ iP rs[k] j).length (iH (EZ (dw rs k ++ iP rs[k] j))))∧Hid (af w w2)) (fun _ i _=>rs[k].rows.length - (intOf i).toNat);case atStart=>exact ⟨0,SC _,rfl,(by simpa [iP] using HOW),HB⟩
    obtain ⟨j,hj,rfl,Tx,HB2⟩:=hrel;rcases HS.out.below HB2.out with rfl | ⟨b,off,rfl,hb,hr,hok⟩
    · simp at hlt
    have hbw:b < w.heap.size:=by
      rcases HS.out with h | ⟨b',off',e,hb',-⟩
      · rw [h] at hlt; simp at hlt
      · injection e with e; injection e with e1 e2; omega
    obtain ⟨t0,t1⟩:=hr k hlt;have U6:Hid (rs[k].ok _):=hok rs[k] (Sw hlt);have HOKW:Hid (rs[k].ok w):=HS.out.mem (Sw hlt);clear hr hok;by_cases hjl:j < rs[k].rows.length
    · rcases U6.out with hnil | ⟨b2,Uc,had,hb2,hr2,-⟩
      · rw [hnil] at hjl; simp at hjl
      have hbw2:b2 < w.heap.size:=by
        rcases HOKW.out with h | ⟨b',off',e,hb',-⟩
        · rw [h] at hjl; simp at hjl
        · rw [had] at e; injection e with e; injection e with e1 e2; omega
      have t1':=t1;rw [had] at t1';obtain ⟨q0,q1⟩:=hr2 j hjl;have hj1:=bq j;have hj2:(j:Int) < (rs[k].rows.length:Int):=by omega
      have a1:u4.ownBlock ≠ some b:=fun e=>by have:=(Tx.out.lt _ e).1; omega
      have a2:u4.ownBlock ≠ some b2:=fun e=>by have:=(Tx.out.lt _ e).1; omega
      have l4:w.heap.size≤wr.heap.size:=HB2.out.size;obtain ⟨xs,hxs⟩:∃ xs,xs=iH (EZ (dw rs k ++ iP rs[k] j)):=⟨_,rfl⟩;obtain ⟨n,hn⟩:∃ n,n=(dw rs k ++ iP rs[k] j).length:=⟨_,rfl⟩;have hown:=Tx.out;rw [← hxs,← hn] at hown;have hnl:n≤1000:=by
        have h1:=HU.out;have h2:=Ca rs[k] j;have h3:=Vv.out;rw [hn,SE]; omega
      have HFX:Hid (iH (EZ (dw rs k ++ iP rs[k] (j + 1)))=xs ++ [.string rs[k].name,.string rs[k].rows[j].name,.int .i64 0]):=by
        show _=_;rw [sQ _ _ hjl,← List.append_assoc,Nh,zq,← hxs]; rfl
      have VN:Hid ((dw rs k ++ iP rs[k] (j + 1)).length=n + 1):=by show _=_; rw [sQ _ _ hjl,← List.append_assoc,SE,← hn]; rfl
      clear hr2 had t1 hxs hn Tx;go_wp2_with fail
      go_region_held3 (fun w'=>w'.cell? ⟨b,off + k * 2,none⟩=some (.string rs[k].name)∧w'.cell? ⟨b,off + k * 2 + 1,none⟩=some (.slice (some ⟨b2,Uc,none⟩) rs[k].rows.length rs[k].cap)∧w'.cell? ⟨b2,Uc + j * 2,none⟩=some (.string rs[k].rows[j].name))
        (first
          | go_keep
          | (go_split_ands
             refine ⟨?_,?_,?_⟩
             · (rw [hgrow.cell_far _ (by simp; omega) (Ne.symm a1)]; assumption)
             · (rw [hgrow.cell_far _ (by simp; omega) (Ne.symm a1)]; assumption)
             · (rw [hgrow.cell_far _ (by simp; omega) (Ne.symm a2)]; assumption)))
        ((refine step_append_lies _ (by rfl) _ _ _ (by rfl) w.heap.size 162 i0 _ 3 40 underlying158 hi hz0 hz1 hz2 rfl (by omega) u4 n xs (by rfl) ((hown.alloc _).drew)
            ⟨wr.heap.size,0,none⟩ 1 1 [.string rs[k].name,.string rs[k].rows[j].name,.int .i64 0] (by rfl) (by rfl) (World.news_of_block (cs:=#[.string rs[k].name,.string rs[k].rows[j].name,.int .i64 0]) (t:=162) (fr:=(0,0)) (heap_alloc_new wr _)) (by simp [Value.oneCell'])
            (by omega) (by unfold maxLen; omega) (by omega) (by simp; omega) (wr.heap.size + 1) (by simp) ?_; intro gg cp w5 hown5 hgrow hat hlt5))
      have hb5:Hid (af w w5):=((HB2.out.alloc HB2.out.size _).drew).grown hgrow (by simp; omega) (fun i hi=>(hown.lt i hi).1);have TK:Hid (w5.ownsRow w.heap.size 162 3 (.slice (some ⟨gg,0,none⟩) (n + 1) cp) (dw rs k ++ iP rs[k] (j + 1)).length (iH (EZ (dw rs k ++ iP rs[k] (j + 1))))):=by
        show World.ownsRow _ _ _ _ _ _ _;rw [HFX.out,VN.out]; exact hown5
      have h6:=Vv.out;clear hown5 hgrow hat hown;go_wp2;go_roundw;case rel=>exact ⟨j + 1,by omega,by go_num,TK,hb5⟩
      simp [intOf] <;> omega
    · obtain rfl:j=rs[k].rows.length:=by omega
      have TK:Hid (wr.ownsRow w.heap.size 162 3 u4 (dw rs (k + 1)).length (iH (EZ (dw rs (k + 1))))):=by
        show World.ownsRow _ _ _ _ _ _ _;rw [oQ _ _ hlt]; exact Tx.out
      clear Tx;go_wp2;go_roundw;case rel=>exact ⟨k + 1,by omega,by go_num,TK,HB2⟩
      simp [intOf] <;> omega
  · obtain rfl:k=rs.length:=by omega
    have VS:Hid (dw rs rs.length=au (ah rs)):=by show _=_; unfold dw; rw [SS]
    have HN36:Hid ((au (ah rs)).length≤36):=by
      have h1:=vV rs XP.out rs.length;have h2:=VS.out;show _≤_;rw [← h2]; omega
    obtain ⟨n,hn⟩:∃ n,n=(au (ah rs)).length:=⟨_,rfl⟩;have hown:=HOW.out;rw [VS.out,← DD] at hown;obtain ⟨UZ,cpO,g,rfl,hrow⟩:=Pz HB.out hown;have HP0:Hid (Pass (ah rs) n true (EZ (au (ah rs)))):=Pass.zero hn;have UN:=az hrow;have hn36:n≤36:=by rw [hn]; exact HN36.out
    have VN:Hid (n=(au (ah rs)).length):=hn;rw [DD,← hn];clear hown HOW hrow hn VS HN36 HB;go_wp2_with fail;go_loopw [7] (fun m w1=>∃ (mb:Bool) (out:List St),m=.bool mb∧Hid (Pass (ah rs) n mb out)∧Hid (RowS w w1 UZ g out)) (fun m w1=>Ch w1 g n m);case atStart=>exact ⟨true,_,rfl,HP0,UN⟩
    clear HP0 UN;obtain ⟨mb,oS,rfl,Yj,HRS⟩:=hrel;cases mb;case false=>
      go_wp2;exact bodyPost_ret (v:=.tuple #[.slice UZ n cpO,.bool true]) (by simp [results,Tryz.results96,go_sem]) rfl ⟨.inl ⟨UZ,cpO,oS,by rw [Yj.out.len],HRS.out.slN,Yj.out.round.keys,Yj.out.least⟩,HRS.out.below⟩
    have VM:Hid (oS.length=n):=Yj.out.len;have HM0:Hid (Mid (ah rs) n oS 0 0 false oS):=Mid.start Yj.out.len Yj.out.nn Yj.out.round Yj.out.le;obtain ⟨w0,hw0⟩:∃ w0,w0=wr:=⟨_,rfl⟩;subst hw0;go_wp2_with fail;go_loopw [7,8] (fun m i w1=>∃ (mb:Bool) (k:Nat) (out:List St),m=.bool mb∧k≤n∧i=.int .i64 k∧Hid (Mid (ah rs) n oS k 0 mb out)∧Hid (RowS w w1 UZ g out)) (fun _ i _=>n - (intOf i).toNat);case atStart=>exact ⟨false,0,oS,rfl,SC _,rfl,HM0,HRS⟩
    clear HM0;obtain ⟨mb,k,out,rfl,hk,rfl,HM,HR⟩:=hrel;by_cases hlt:k < n
    · have hko:k < out.length:=by rw [HM.out.len]; exact hlt
      have hke:k < (au (ah rs)).length:=by rw [← VN.out]; exact hlt
      have hk1:=bq k;have hk2:(k:Int) < (n:Int):=by omega
      rcases HR.out.at' with e | ⟨rfl,hgw,hgl,hO,-⟩
      · rw [e] at hko; simp at hko
      obtain ⟨c0,c1,c2⟩:=hO k hko;have Yk:Hid (out[k].key=(au (ah rs))[k]):=HM.out.key hko hke;have TB:∀ w',af wr w'→mD w' ad rs:=fun w' h=>HS.out.below (HR.out.below.trans (h.mono HR.out.below.size));have c3:wr.drew.cell? ⟨g,k * 3,none⟩=some (.string out[k].typ)∧wr.drew.cell? ⟨g,k * 3 + 1,none⟩=some (.string out[k].rel)∧g < wr.drew.heap.size∧af wr wr.drew:=⟨c0,c1,hgl,(Sz _ _).drew⟩;clear hO c2;go_wp2_with fail
      go_region_held3 (fun w'=>w'.cell? ⟨g,k * 3,none⟩=some (.string out[k].typ)∧w'.cell? ⟨g,k * 3 + 1,none⟩=some (.string out[k].rel)∧g < w'.heap.size∧af wr w')
        (first | exact c3 | assumption | exact keepD (by assumption) hbx)
        (first | (go_at_call 97; refine (jc ad cap rs _ _ _ (by omega) (TB _ (by first | assumption | exact c3.2.2.2)) HL.out).mono ?_; rintro e w' ⟨⟨rows,TA,capE,rfl,hex,hse,hfs⟩,rfl⟩) | (go_at_call 139; refine (Ha ad TA cap capE rs _ rows _ (by omega) (TB _ (by first | assumption | exact c3.2.2.2)) HL.out (hfs.small Vo.out).1 hse (hfs.light HL.out).2 (hfs.small Vo.out).2 (zL rs HL.out _ rows (hfs.small Vo.out).1 (hfs.light HL.out).2)).mono ?_; rintro e w' ⟨⟨v,rfl,hown⟩,hbx⟩))
      rename_i hHeld;have Vk:Hid (af wr w'):=hHeld.2.2.2;have TU:Hid (RowS w w' (some ⟨g,0,none⟩) g out):=HR.out.kept hHeld.2.2.2;have HDK:Hid (qd (ah rs) out[k].typ (ak rows)=iq (ah rs) (au (ah rs))[k]):=by
        show _=_;rw [← Yk.out,hex]; rfl
      obtain ⟨ds,hds⟩:∃ ds,ds=iq (ah rs) (au (ah rs))[k]:=⟨_,rfl⟩;rw [HDK.out,← hds] at hown;obtain ⟨adD,cpD,rfl,hD⟩:=RV hown;have HD5:=az hD;have hdl:ds.length≤100000000:=by
        have:=zL rs HL.out out[k].typ rows (hfs.small Vo.out).1 (hfs.light HL.out).2 (ak rows).length;have e:=HDK.out;unfold qd at e;rw [e,← hds] at this;exact this
      have HDS:Hid (ds=iq (ah rs) (au (ah rs))[k]):=hds;have HKM:Hid ((au (ah rs))[k] ∈ au (ah rs)):=Sw hke;clear hHeld hown hD hds HDK c0 c1 c3 hex hse hfs hbx TB Yk;obtain ⟨wq,hwq⟩:∃ wq,wq=wr:=⟨_,rfl⟩;subst hwq;go_wp2_with fail;go_loopw [7,10] (fun m i w2=>∃ (mb:Bool) (j:Nat) (o2:List St),m=.bool mb∧j≤ds.length∧i=.int .i64 j∧Hid (Mid (ah rs) n oS k j mb o2)∧Hid (RowS w w2 (some ⟨g,0,none⟩) g o2)∧Hid (Qu w2 wq.heap.size adD ds)) (fun _ i _=>ds.length - (intOf i).toNat);case atStart=>exact ⟨mb,0,out,rfl,SC _,rfl,HM,TU,HD5⟩
      clear HM HR TU HD5 Vk;obtain ⟨mc,j,o2,rfl,hj,rfl,Un,HR2,HD2⟩:=hrel;have UQ:k < o2.length:=by rw [Un.out.len]; exact hlt
      rcases HR2.out.at' with e | ⟨-,hgw2,hgl2,hO2,Xl⟩
      · rw [e] at UQ; simp at UQ
      have f2:=Xl (k * 3 + 2);obtain ⟨z0,z1,z2⟩:=hO2 k UQ;by_cases hjl:j < ds.length
      · rcases HD2.out with e | ⟨bd,rfl,hbd,hbl,hDc⟩
        · rw [e] at hjl; simp at hjl
        obtain ⟨x0,x1,x2⟩:=hDc j hjl;have HKE2:Hid (o2[k].key=(au (ah rs))[k]):=Un.out.key UQ hke;have HDJ:Hid ((iq (ah rs) o2[k].key)[j]?=some ds[j]):=by
          show _=_;rw [HKE2.out,← HDS.out]; exact SH hjl
        have HDF:Hid ((ds[j].typ,ds[j].rel) ∈ au (ah rs)):=HF.out _ HKM.out ds[j] (by rw [← HDS.out]; exact Sw hjl);obtain ⟨i,hi2,hat,hin,hpos,hub⟩:=Un.out.at _ HDF.out;obtain ⟨y0,y1,y2⟩:=hO2 i hi2;have hi3:i < n:=by rw [← Un.out.len]; exact hi2
        have HW:Hid (oV o2 ds[j]=fH o2 (ds[j].typ,ds[j].rel) + stepOf ds[j]):=rfl;have HL2:Hid (o2.length=n):=Un.out.len;have HSN:Hid (G8 wr (some ⟨g,0,none⟩) o2):=HR2.out.slN;rw [hin] at y2;obtain ⟨x,hx⟩:∃ x,x=fH o2 (ds[j].typ,ds[j].rel):=⟨_,rfl⟩;have HX:Hid (oV o2 ds[j]=x + stepOf ds[j]):=by rw [hx]; exact HW
        rw [← hx] at hpos hub y2;obtain ⟨kn,hkn⟩:∃ kn,kn=o2[k].n:=⟨_,rfl⟩;rw [← hkn] at z2;have YE:Hid (kn=o2[k].n):=hkn;have hkn1:0≤kn:=by rw [hkn]; exact Un.out.round.pos _ (Sw UQ)
        have hkn2:kn≤n + 1 + j:=by rw [hkn]; exact Un.out.lek UQ
        have hj1:=bq j;have hj2:(j:Int) < (ds.length:Int):=by omega
        have hi4:=bq i;have hi5:(i:Int) < (n:Int):=by omega
        have HAT:Hid (gY ds[j].typ ds[j].rel o2 0=(i:Int)):=hat;have hx5:(2:Int) < 5:=by omega
        clear Xl hO2 hDc hx hkn hin y0 y1 hi2 HW hat z0 z1;go_wp2_with fail
        go_region_held3 (fun w'=>w'.cell? ⟨bd,j * 3,none⟩=some (.string ds[j].typ)∧w'.cell? ⟨bd,j * 3 + 1,none⟩=some (.string ds[j].rel)∧w'.cell? ⟨g,i * 3 + 2,none⟩=some (.int .i64 x))
          (first | assumption | exact ⟨x0,x1,y2⟩)
          (first | (go_at_call 140; refine (QW (some ⟨g,0,none⟩) cpO n o2 (ds[j].typ,ds[j].rel) _ HL2.out (by omega) (by first | exact HSN.out | assumption) i HAT.out).mono ?_; rintro e w' ⟨rfl,rfl⟩))
        rename_i hHeld2;have HR3:Hid (RowS w wr.drew (some ⟨g,0,none⟩) g o2):=HR2.out.kept ((Sz _ _).drew);have HD3:Hid (Qu wr.drew wq.heap.size (some ⟨bd,0,none⟩) ds):=HD2.out;clear hHeld2 x0 x1 y2;cases hneg:ds[j].neg;case true=>
          have Wi:Hid (oV o2 ds[j]=x + 1):=by show _=_; rw [HX.out]; simp [stepOf,hneg]
          rw [hneg] at x2;by_cases hgt:kn < x + 1
          · have WQ:Hid (Mid (ah rs) n oS k (j + 1) true (o2.set k ⟨o2[k].typ,o2[k].rel,x + 1⟩)):=by
              have:=Un.out.yes HF.out UQ ds[j] HDJ.out (by rw [Wi.out,← YE.out]; exact hgt);rw [Wi.out] at this; exact this
            have HR4:Hid (RowS w (wr.drew.setCell ⟨g,k * 3 + 2,none⟩ (.int .i64 (x + 1))) (some ⟨g,0,none⟩) g (o2.set k ⟨o2[k].typ,o2[k].rel,x + 1⟩)):=HR3.out.set UQ (x + 1);have HD4:Hid (Qu (wr.drew.setCell ⟨g,k * 3 + 2,none⟩ (.int .i64 (x + 1))) wq.heap.size (some ⟨bd,0,none⟩) ds):=HD3.out.set hgl;clear Un HR2 HR3 HD2 HD3;go_wp2;go_roundw;case rel=>exact ⟨true,j + 1,_,rfl,by omega,by go_num,WQ,HR4,HD4⟩
            simp [intOf] <;> omega
          · have WQ:Hid (Mid (ah rs) n oS k (j + 1) mc o2):=Un.out.no UQ ds[j] HDJ.out (by rw [Wi.out,← YE.out]; omega);clear Un HR2 HD2;go_wp2;go_roundw;case rel=>exact ⟨mc,j + 1,o2,rfl,by omega,by go_num,WQ,HR3,HD3⟩
            simp [intOf] <;> omega
        have Wi:Hid (oV o2 ds[j]=x):=by show _=_; rw [HX.out]; simp [stepOf,hneg]
        rw [hneg] at x2;by_cases hgt:kn < x
        · have WQ:Hid (Mid (ah rs) n oS k (j + 1) true (o2.set k ⟨o2[k].typ,o2[k].rel,x⟩)):=by
            have:=Un.out.yes HF.out UQ ds[j] HDJ.out (by rw [Wi.out,← YE.out]; exact hgt);rw [Wi.out] at this; exact this
          have HR4:Hid (RowS w (wr.drew.setCell ⟨g,k * 3 + 2,none⟩ (.int .i64 (x))) (some ⟨g,0,none⟩) g (o2.set k ⟨o2[k].typ,o2[k].rel,x⟩)):=HR3.out.set UQ (x);have HD4:Hid (Qu (wr.drew.setCell ⟨g,k * 3 + 2,none⟩ (.int .i64 (x))) wq.heap.size (some ⟨bd,0,none⟩) ds):=HD3.out.set hgl;clear Un HR2 HR3 HD2 HD3;go_wp2;go_roundw;case rel=>exact ⟨true,j + 1,_,rfl,by omega,by go_num,WQ,HR4,HD4⟩
          simp [intOf] <;> omega
        · have WQ:Hid (Mid (ah rs) n oS k (j + 1) mc o2):=Un.out.no UQ ds[j] HDJ.out (by rw [Wi.out,← YE.out]; omega);clear Un HR2 HD2;go_wp2;go_roundw;case rel=>exact ⟨mc,j + 1,o2,rfl,by omega,by go_num,WQ,HR3,HD3⟩
          simp [intOf] <;> omega
      · obtain rfl:j=ds.length:=by omega
        have HKE2:Hid (o2[k].key=(au (ah rs))[k]):=Un.out.key UQ hke;have HJ:Hid (ds.length=(iq (ah rs) o2[k].key).length):=by show _=_; rw [HKE2.out,← HDS.out]
        clear z0 z1 hO2 Xl f2;by_cases hov:(n:Int) < o2[k].n
        · have VF:Hid (¬ ∃ f,Sol (ah rs) f):=Un.out.over HF.out UQ hov;have hkn2:o2[k].n≤n + 1 + ds.length:=Un.out.lek UQ;go_wp2;exact bodyPost_ret (v:=.tuple #[.slice none 0 0,.bool false]) (by simp [results,Tryz.results96,go_sem]) rfl ⟨.inr ⟨rfl,VF.out⟩,HR2.out.below⟩
        · have WQ:Hid (Mid (ah rs) n oS (k + 1) 0 mc o2):=Un.out.next UQ HJ.out (by omega);clear Un;go_wp2;go_roundw;case rel=>exact ⟨mc,k + 1,o2,rfl,by omega,by go_num,WQ,HR2⟩
          simp [intOf] <;> omega
    · obtain rfl:k=n:=by omega
      have TG:Hid (Pass (ah rs) k mb out):=HM.out.done rfl;have HLS:Hid (Ch wr g k (.bool mb) < Ch w0 g k (.bool true)):=Hl HRS.out HR.out HM.out VM.out;go_wp2;go_roundw;case rel=>exact ⟨mb,out,rfl,TG,HR⟩
      exact HLS.out
end Go.Proofs.YtajkkeikihhejaaGreat
