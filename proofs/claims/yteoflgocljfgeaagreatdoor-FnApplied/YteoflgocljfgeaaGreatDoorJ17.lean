/- The document's rounds over strata in plain words, step by step; and the row of strata in memory that they write. -/
import Derived.Test.YteoflgocljfgeaaGreatDoorJ15
open Go.Proofs.Tryz
set_option maxHeartbeats 80000000
namespace Go.Proofs.YteoflgocljfgeaaGreatDoor
open Go.ChangeShapes Go.WideShapes Go.ChangeAt Go.RowKit
open Pl
theorem wX (d:Dp):0≤stepOf d∧stepOf d≤1:=by unfold stepOf; split <;> omega
structure Mid (ts:List Ty) (n:Nat) (oS:List St) (k j:Nat) (mb:Bool) (out:List St):Prop where
 len:out.length=n
 nn:n=(az ts).length
 round:Round ts out
 le:∀ i (h:i < out.length),i ≠ k→out[i].n≤n
 lek:∀ h:k < out.length,out[k].n≤n + 1 + j
 same:mb=false→out=oS∧(∀ i (h:i < out.length),i < k→KN ts out out[i] (fI ts out[i].key).length)∧∀ h:k < out.length,KN ts out out[k] j
 grow:kE oS≤kE out∧(mb=true→kE oS < kE out)
theorem Mid.start {ts:List Ty} {n:Nat} {out:List St} (hl:out.length=n) (hn:n=(az ts).length) (hr:Round ts out) (hle:∀ s ∈ out,s.n≤n):Mid ts n out 0 0 false out where
 len:=hl
 nn:=hn
 round:=hr
 le i h _:=hle _ (List.getElem_mem h)
 lek h:=by have:=hle _ (List.getElem_mem h); omega
 same _:=⟨rfl,fun i _ hi=>by omega,fun _ d hd=>by simp at hd⟩
 grow:=⟨Int.le_refl _,by simp⟩
theorem Mid.key {ts:List Ty} {n k j:Nat} {oS out:List St} {mb:Bool} (h:Mid ts n oS k j mb out) (hk:k < out.length) (hk2:k < (az ts).length):out[k].key=(az ts)[k]:=by
 have e:=h.round.keys;have:(jZ out)[k]'(by simp [jZ,hk])=(az ts)[k]:=by simp only [e]
 rw [← this]; simp [jZ]
def mE (out:List St) (d:Dp):Int:=gu out (d.typ,d.rel) + stepOf d
theorem Mid.at {ts:List Ty} {n k j:Nat} {oS out:List St} {mb:Bool} (h:Mid ts n oS k j mb out) (key:ByteArray × ByteArray) (hk:key ∈ az ts):∃ i:Nat,∃ hi:i < out.length,fB key.1 key.2 out 0=(i:Int)∧out[i].n=gu out key∧0≤gu out key∧gu out key≤n + 1 + j:=by
 obtain ⟨i,hi,h1,h2,h3⟩:=mo out 0 (k:=key) (by rw [h.round.keys]; exact hk);refine ⟨i,hi,by rw [h1]; congr 1; omega,h3,?_,?_⟩
 ·exact (h.round.at hk).1
 ·rw [← h3];by_cases e:i=k
  ·subst e; exact h.lek hi
  ·have:=h.le i hi e; omega
theorem Mid.no {ts:List Ty} {n k j:Nat} {oS out:List St} {mb:Bool} (h:Mid ts n oS k j mb out) (hk:k < out.length) (d:Dp) (hd:(fI ts out[k].key)[j]?=some d) (hw:mE out d≤out[k].n):Mid ts n oS k (j + 1) mb out where
 len:=h.len
 nn:=h.nn
 round:=h.round
 le:=h.le
 lek hh:=by have:=h.lek hh; omega
 same hm:=by
  obtain ⟨e,s1,s2⟩:=h.same hm;refine ⟨e,s1,fun hh d' hd'=>?_⟩;obtain ⟨hj,hd2⟩:=List.getElem?_eq_some_iff.1 hd;rw [List.take_succ_eq_append_getElem hj] at hd';rcases List.mem_append.1 hd' with hd' | hd'
  ·exact s2 hh d' hd'
  ·rw [hd2] at hd'; simp at hd'; subst hd'; exact hw
 grow:=h.grow
theorem Mid.yes {ts:List Ty} {n k j:Nat} {oS out:List St} {mb:Bool} (h:Mid ts n oS k j mb out) (hF:Found ts) (hk:k < out.length) (d:Dp) (hd:(fI ts out[k].key)[j]?=some d) (hw:out[k].n < mE out d):Mid ts n oS k (j + 1) true (out.set k ⟨out[k].typ,out[k].rel,mE out d⟩) where
 len:=by rw [List.length_set]; exact h.len
 nn:=h.nn
 round:=h.round.set hF hk (List.mem_of_getElem? hd)
 le i hi hne:=by
  rw [List.getElem_set_ne (Ne.symm hne)];exact h.le i (by simpa using hi) hne
 lek hh:=by
  rw [List.getElem_set_self];show mE out d≤_;obtain ⟨i,hi,-,-,-,h4⟩:=h.at (d.typ,d.rel) (hF _ (h.round.mem (List.getElem_mem hk)) d (List.mem_of_getElem? hd));have:=wX d;unfold mE; push_cast; omega
 same hm:=by cases hm
 grow:=by
  have:=h.grow.1;rw [IU _ _ hk];exact ⟨by omega,fun _=>by omega⟩
theorem Mid.next {ts:List Ty} {n k j:Nat} {oS out:List St} {mb:Bool} (h:Mid ts n oS k j mb out) (hk:k < out.length) (hj:j=(fI ts out[k].key).length) (hle:out[k].n≤n):Mid ts n oS (k + 1) 0 mb out where
 len:=h.len
 nn:=h.nn
 round:=h.round
 le i hi _:=by
  by_cases e:i=k
  ·subst e; exact hle
  ·exact h.le i hi e
 lek hh:=by have:=h.le (k + 1) hh (by omega); omega
 same hm:=by
  obtain ⟨e,s1,s2⟩:=h.same hm;refine ⟨e,fun i hi hik=>?_,fun _ d hd=>by simp at hd⟩;by_cases e2:i=k
  ·subst e2; have:=s2 hi; rw [hj] at this; exact this
  ·exact s1 i hi (by omega)
 grow:=h.grow
theorem Mid.over {ts:List Ty} {n k j:Nat} {oS out:List St} {mb:Bool} (h:Mid ts n oS k j mb out) (hF:Found ts) (hk:k < out.length) (hn:(n:Int) < out[k].n):¬ ∃ f,Sol ts f :=
 IQ hF (h.round.mem (List.getElem_mem hk)) (h.round.low _ (List.getElem_mem hk)) (by have:=h.nn; omega)
structure Pass (ts:List Ty) (n:Nat) (mb:Bool) (out:List St):Prop where
 len:out.length=n
 nn:n=(az ts).length
 round:Round ts out
 le:∀ s ∈ out,s.n≤n
 sat:mb=false→∀ s ∈ out,KN ts out s (fI ts s.key).length
theorem Mid.done {ts:List Ty} {n k j:Nat} {oS out:List St} {mb:Bool} (h:Mid ts n oS k j mb out) (hk:k=n):Pass ts n mb out where
 len:=h.len
 nn:=h.nn
 round:=h.round
 le s hs:=by
  obtain ⟨i,hi,rfl⟩:=List.mem_iff_getElem.1 hs;exact h.le i hi (by have:=h.len; omega)
 sat hm s hs:=by
  obtain ⟨e,s1,s2⟩:=h.same hm;obtain ⟨i,hi,rfl⟩:=List.mem_iff_getElem.1 hs;exact s1 i hi (by have:=h.len; omega)
theorem Pass.least {ts:List Ty} {n:Nat} {out:List St} (h:Pass ts n false out):Least ts (gu out):=h.round.done (h.sat rfl)
theorem Pass.zero {ts:List Ty} {n:Nat} (hn:n=(az ts).length):Pass ts n true (Bb (az ts)) where
 len:=by rw [Ak,hn]
 nn:=hn
 round:=⟨by unfold jZ Bb; rw [List.map_map]; exact List.map_id _,fun s hs=>by simp [Bb] at hs; obtain ⟨a,b,-,rfl⟩:=hs; exact Int.le_refl _,fun s hs=>by simp [Bb] at hs; obtain ⟨a,b,-,rfl⟩:=hs; exact lu.zero _ _⟩
 le s hs:=by simp [Bb] at hs; obtain ⟨a,b,-,rfl⟩:=hs; simp
 sat h:=by cases h
theorem KU (n:Int) (out:List St) (h:∀ s ∈ out,s.n≤n):kE out≤n * out.length:=by
 induction out with
 | nil=>simp [kE]
 | cons s xs ih =>
  have h1:=h s (by simp);have h2:=ih fun q hq=>h q (by simp [hq]);simp only [kE,List.length_cons];have:n * ((xs.length + 1:Nat):Int)=n * xs.length + n:=by push_cast; rw [Int.mul_add]; simp
  omega
structure RowS (w wr:World) (ad:Option Addr) (g:Nat) (out:List St):Prop where
 below:Below w.heap.size w wr
 at':out=[] ∨ (ad=some ⟨g,0,none⟩∧w.heap.size≤g∧g < wr.heap.size∧NB wr g out∧∀ j,wr.frozen? ⟨g,j,none⟩=false)
theorem Nh.kept {w w':World} {b off:Nat} {s:St} (h:Nh w b off s) (hb:b < w.heap.size) (hB:Below w.heap.size w w'):Nh w' b off s:=⟨ak hB hb h.1,ak hB hb h.2.1,ak hB hb h.2.2⟩
theorem RowS.kept {w wr w2:World} {ad:Option Addr} {g:Nat} {out:List St} (h:RowS w wr ad g out) (hb:Below wr.heap.size wr w2):RowS w w2 ad g out where
 below:=h.below.trans (hb.mono h.below.size)
 at':=by
  rcases h.at' with e | ⟨e,h1,h2,h3,h4⟩
  ·exact .inl e
  ·exact .inr ⟨e,h1,Nat.lt_of_lt_of_le h2 hb.size,fun i hi=>(h3 i hi).kept h2 hb,fun j=>by rw [hb.frozen (p:=⟨g,j,none⟩) h2]; exact h4 j⟩
theorem RowS.slN {w wr:World} {ad:Option Addr} {g:Nat} {out:List St} (h:RowS w wr ad g out):LB wr ad out:=by
 rcases h.at' with e | ⟨e,h1,h2,h3,h4⟩
 ·exact .inl e
 ·exact .inr ⟨g,0,e,h2,fun i hi=>by rw [Nat.zero_add]; exact h3 i hi⟩
theorem RowS.set {w wr:World} {ad:Option Addr} {g:Nat} {out:List St} (h:RowS w wr ad g out) {k:Nat} (hk:k < out.length) (n:Int):RowS w (wr.setCell ⟨g,k * 3 + 2,none⟩ (.int .i64 n)) ad g (out.set k ⟨out[k].typ,out[k].rel,n⟩):=by
 rcases h.at' with e | ⟨e,h1,h2,h3,h4⟩
 ·rw [e] at hk; simp at hk
 refine ⟨h.below.setCell (p:=⟨g,k * 3 + 2,none⟩) h1 _,.inr ⟨e,h1,by simpa using h2,fun i hi=>?_,fun j=>by simpa using h4 j⟩⟩;have hi':i < out.length:=by simpa using hi
 obtain ⟨c0,c1,c2⟩:=h3 i hi';by_cases ei:i=k
 ·subst ei;rw [List.getElem_set_self];exact ⟨by rw [nA (by omega)]; exact c0,by rw [nA (by omega)]; exact c1,vI c2⟩
 ·rw [List.getElem_set_ne (Ne.symm ei)];exact ⟨by rw [nA (by omega)]; exact c0,by rw [nA (by omega)]; exact c1,by rw [nA (by omega)]; exact c2⟩
def Jf (w:World) (g i:Nat):Int:=match w.cell? ⟨g,i * 3 + 2,none⟩ with | some (.int _ x)=>x | _=>0
def DK (w:World) (g:Nat):Nat→Int
 | 0=>0
 | n + 1=>DK w g n + Jf w g n
theorem BV (xs ys:List St):kE (xs ++ ys)=kE xs + kE ys:=by
 induction xs with
 | nil=>simp [kE]
 | cons s xs ih=>simp only [List.cons_append,kE,ih]; omega
theorem NB.sum {w:World} {g:Nat} {out:List St} (h:NB w g out):∀ k,k≤out.length→DK w g k=kE (out.take k)
 | 0,_=>by simp [DK,kE]
 | k + 1,hk=>by
  have hlt:k < out.length:=by omega
  rw [List.take_succ_eq_append_getElem hlt,BV];simp only [DK,h.sum k (by omega),kE];have:Jf w g k=out[k].n:=by unfold Jf; rw [(h k hlt).2.2]
  omega
theorem RowS.sum {w wr:World} {ad:Option Addr} {g:Nat} {out:List St} (h:RowS w wr ad g out):DK wr g out.length=kE out:=by
 rcases h.at' with e | ⟨e,h1,h2,h3,h4⟩
 ·rw [e]; simp [DK,kE]
 ·rw [h3.sum _ (Nat.le_refl _),List.take_length]
def Jg:Value→Int
 | .bool true=>1
 | _=>0
def zn (w:World) (g n:Nat) (m:Value):Nat:=(2 * ((n:Int) * n - DK w g n) + Jg m).toNat
theorem DL {ts:List Ty} {w wr w2:World} {ad:Option Addr} {g n:Nat} {oS out:List St} {mb:Bool} (hS:RowS w wr ad g oS) (hO:RowS w w2 ad g out) (h:Mid ts n oS n 0 mb out) (hl:oS.length=n):zn w2 g n (.bool mb) < zn wr g n (.bool true):=by
 have e1:=hS.sum;have e2:=hO.sum;have h3:=KU n out fun s hs=>(h.done rfl).le s hs;have h2:=h.len;have h4:=h.grow;rw [hl] at e1;rw [h2] at e2 h3;unfold zn;rw [e1,e2];cases mb with
 | false=>simp only [Jg]; omega
 | true=>have:=h4.2 rfl; simp only [Jg]; omega
theorem KV {w wr:World} {v:Value} {out:List St} (hB:Below w.heap.size w wr) (h:wr.ownsRow w.heap.size 205 3 v out.length (fT out)):∃ ad cp g,v=.slice ad out.length cp∧RowS w wr ad g out:=by
 rcases h.2 with ⟨rfl,h0⟩ | ⟨g,cp,cur,rfl,hbg,hg,hnc,-⟩
 ·exact ⟨none,0,0,by rw [h0],hB,.inl (List.length_eq_zero_iff.1 h0)⟩
 ·obtain ⟨ad,cp',e,h0⟩:=Nj h;injection e with e1 e2 e3;refine ⟨some ⟨g,0,none⟩,cp,g,rfl,hB,?_⟩;rcases h0 with h0 | ⟨g',e4,h1,h2,h3⟩
  ·exact .inl (List.length_eq_zero_iff.1 h0)
  ·rw [← e1] at e4; injection e4 with e4; injection e4 with e4;subst e4;exact .inr ⟨rfl,h1,h2,h3,fun j=>by simp [World.frozen?,hg]⟩
theorem Mo (ad:Option Addr) (cap n:Nat) (xs:List St) (key:ByteArray × ByteArray) (w:World) (hn:xs.length=n) (hlen:n≤1048576) (hs:LB w ad xs) (i:Nat) (hat:fB key.1 key.2 xs 0=(i:Int)) :
  Calls prog 119 #[.slice ad n cap,.string key.1,.string key.2] w fun e w'=>e=.returned (.int .i64 (i:Int))∧w'=w:=by
 subst hn;rw [← hat];exact IL ad cap xs key.1 key.2 w hlen hs
theorem AtD.set {w:World} {b off g o:Nat} {d:Dp} {v:Value} (h:AtD w b off d) (hn:g ≠ b):AtD (w.setCell ⟨g,o,none⟩ v) b off d:=⟨by rw [tV hn]; exact h.1,by rw [tV hn]; exact h.2.1,by rw [tV hn]; exact h.2.2⟩
theorem KO.set {w:World} {lo g o:Nat} {ad:Option Addr} {xs:List Dp} {v:Value} (h:KO w lo ad xs) (hg:g < lo):KO (w.setCell ⟨g,o,none⟩ v) lo ad xs:=by
 rcases h with h | ⟨b,e,h1,h2,h3⟩
 ·exact .inl h
 ·exact .inr ⟨b,e,h1,by simpa using h2,fun i hi=>(h3 i hi).set (by omega)⟩
theorem keepD {wr W w':World} {g o1 o2:Nat} {x y:Value} (h:W.cell? ⟨g,o1,none⟩=some x∧W.cell? ⟨g,o2,none⟩=some y∧g < W.heap.size∧Below wr.heap.size wr W) (hb:Below W.heap.size W w') :
  w'.cell? ⟨g,o1,none⟩=some x∧w'.cell? ⟨g,o2,none⟩=some y∧g < w'.heap.size∧Below wr.heap.size wr w' :=
 ⟨ak hb h.2.2.1 h.1,ak hb h.2.2.1 h.2.1,Nat.lt_of_lt_of_le h.2.2.1 hb.size,h.2.2.2.trans (hb.mono h.2.2.2.size)⟩
theorem pV.small {rs:List TR} {ad:Option Addr} {rows:List ER} (h:pV rs ad rows) (hl:∀ r ∈ rs,∀ q ∈ r.rows,q.rows.length≤15∧∀ e ∈ q.rows,bY q.rows.length e.e.kids):rows.length≤15∧∀ e ∈ rows,bY rows.length e.e.kids:=by
 rcases h with rfl | ⟨t,ht,q,hq,rfl,-⟩
 ·exact ⟨by simp,by simp⟩
 ·exact hl t ht q hq
theorem wY (ts:List Ty) (ty over rel:ByteArray):(fH ts ty over rel).length≤(aT (aN ts ty over)).length:=Dy _ _ _
theorem DN (ts:List Ty) (typ:ByteArray) (es:List Ex) (A G:Nat) (hA:∀ e ∈ es,e.allow.length≤A) (hG:∀ over rel,(fH ts typ over rel).length≤G) (k:Nat):(aK ts typ es k).length≤k * (A + G + 1):=by
 induction k with
 | zero=>simp [aK]
 | succ k ih =>
  simp only [aK,List.length_append];have:(jD ts typ es k).length≤A + G + 1:=by
   unfold jD;split
   ·simp
   ·rename_i e he;have h1:=hA e (List.mem_of_getElem? he);have h2:=za ((dD es).getD k false) e.allow;have h3:(lq ts typ ((dD es).getD k false) e).length≤G + 1:=by
     unfold lq;split
     ·simp
     ·split
      ·have:=hG e.over e.name; simp; omega
      ·simp
    rw [List.length_append]; omega
  have e:(k + 1) * (A + G + 1)=k * (A + G + 1) + (A + G + 1):=Nat.succ_mul _ _;omega
theorem yB (ts:List Ty) (typ:ByteArray) (es:List Ex) (k:Nat) (h:es.length≤k):jD ts typ es k=[]:=by
 unfold jD;rw [List.getElem?_eq_none h]
theorem DR (ts:List Ty) (typ:ByteArray) (es:List Ex) (B:Nat) (hB:∀ k,k≤es.length→(aK ts typ es k).length≤B) (k:Nat):(aK ts typ es k).length≤B:=by
 induction k with
 | zero=>exact hB 0 (Nat.zero_le _)
 | succ k ih =>
  by_cases h:k + 1≤es.length
  ·exact hB _ h
  ·simp only [aK];rw [yB _ _ _ _ (by omega),List.append_nil];exact ih
theorem BX (rs:List RR) (n:ByteArray) (es:List Ex) (h:iJ (dO rs) n=some es):∃ q ∈ rs,es=au q.rows:=by
 induction rs with
 | nil=>simp [dO,iJ] at h
 | cons r rs ih =>
  simp only [dO,List.map_cons,iJ] at h;split at h
  ·injection h with h; exact ⟨r,by simp,h.symm⟩
  ·obtain ⟨q,hq,e⟩:=ih h; exact ⟨q,by simp [hq],e⟩
theorem DT (ts:List TR) (ty n:ByteArray) (es:List Ex) (h:fE (ah ts) ty n=some es):∃ t ∈ ts,∃ q ∈ t.rows,es=au q.rows:=by
 induction ts with
 | nil=>simp [ah,fE] at h
 | cons t ts ih =>
  simp only [ah,List.map_cons,fE] at h;split at h
  ·rcases Option.or_eq_some_iff.1 h with h | ⟨-,h⟩
   ·obtain ⟨q,hq,e⟩:=BX _ _ _ h; exact ⟨t,by simp,q,hq,e⟩
   ·obtain ⟨t',ht,q,hq,e⟩:=ih h; exact ⟨t',by simp [ht],q,hq,e⟩
  ·obtain ⟨t',ht,q,hq,e⟩:=ih h; exact ⟨t',by simp [ht],q,hq,e⟩
theorem uC (rs:List TR) (hl:∀ r ∈ rs,r.light) (typ over rel:ByteArray):(fH (ah rs) typ over rel).length≤1048576:=by
 refine Nat.le_trans (wY _ _ _ _) ?_;unfold aN;cases h:fE (ah rs) typ over with
 | none=>simp [aT]
 | some es =>
  obtain ⟨t,ht,q,hq,rfl⟩:=DT _ _ _ _ h;exact wE q.rows ((hl t ht).2 q hq).2
theorem wZ (rs:List TR) (hl:∀ r ∈ rs,r.light) (typ:ByteArray) (rows:List ER) (hle:rows.length≤15) (hlE:∀ q ∈ rows,q.e.light) (k:Nat):(aK (ah rs) typ (au rows) k).length≤100000000:=by
 refine DR _ _ _ _ (fun k hk=>?_) k;refine Nat.le_trans (DN _ _ _ 1048576 1048576 (fun e he=>?_) (uC rs hl typ) k) ?_
 ·obtain ⟨q,hq,rfl⟩:=List.mem_map.1 he; exact (hlE q hq).1
 ·rw [bq] at hk; omega
set_option maxRecDepth 100000 in
theorem Ay (ad:Option Addr) (cap:Nat) (rs:List TR) (w:World) (hlen:rs.length≤6) (hs:gp w ad rs) (hl:∀ r ∈ rs,r.light) (hrl:∀ r ∈ rs,r.rows.length≤6) (hel:∀ r ∈ rs,∀ q ∈ r.rows,q.rows.length≤15∧∀ e ∈ q.rows,bY q.rows.length e.e.kids) (hF:Found (ah rs)) :
    Calls prog 81 #[.slice ad rs.length cap] w fun e w'=>((∃ ad' cap' out,e=.returned (.tuple #[.slice ad' out.length cap',.bool true])∧LB w' ad' out∧jZ out=az (ah rs)∧Least (ah rs) (gu out)) ∨ (e=.returned (.tuple #[.slice none 0 0,.bool false])∧¬ ∃ f,Sol (ah rs) f))∧Below w.heap.size w w':=by
  have HS:Hid (gp w ad rs):=hs;have HL:Hid (∀ r ∈ rs,r.light):=hl;have HRL:Hid (∀ r ∈ rs,r.rows.length≤6):=hrl;have HEL:Hid (∀ r ∈ rs,∀ q ∈ r.rows,q.rows.length≤15∧∀ e ∈ q.rows,bY q.rows.length e.e.kids):=hel;have HF:Hid (Found (ah rs)):=hF;clear hs hl hrl hel hF;obtain ⟨i0,hi,hz0,hz1,hz2⟩:=info_parts KP;go_enter func81,ntmps81;have hbA:Hid (Below w.heap.size w (w.alloc (.cells #[] 205))):=(Below.refl _ _).alloc (Nat.le_refl _) _;have hown1:Hid ((w.alloc (.cells #[] 205)).ownsRow w.heap.size 205 3 (.slice (some ⟨w.heap.size,0,none⟩) 0 0) 0 []):=World.ownsRow_made w #[] 0 (Nat.le_refl _) (by decide) rfl;go_wp2_with fail;go_loopw [4,5] (fun v i wr=>∃ k:Nat,k≤rs.length∧i=.int .i64 k∧Hid (wr.ownsRow w.heap.size 205 3 v (bP rs k).length (fT (Bb (bP rs k))))∧Hid (Below w.heap.size w wr)) (fun _ i _=>rs.length - (intOf i).toNat);case atStart=>exact ⟨0,Nat.zero_le _,rfl,hown1,hbA⟩
  case round =>
    clear hown1 hbA;obtain ⟨k,hk,rfl,HOW,HB⟩:=hrel;by_cases hlt:k < rs.length
    · have hk1:=bR k;have hk2:(k:Int) < (rs.length:Int):=by omega
      have HU:Hid ((bP rs k).length≤k * 6):=sN rs HRL.out k;have HR6:Hid (rs[k].rows.length≤6):=HRL.out _ (List.getElem_mem hlt);obtain ⟨wo,hwo⟩:∃ wo,wo=wr:=⟨_,rfl⟩;subst hwo;go_wp2_with fail;go_loopw [4,6] (fun v i w2=>∃ j:Nat,j≤rs[k].rows.length∧i=.int .i64 j∧Hid (w2.ownsRow w.heap.size 205 3 v (bP rs k ++ gy rs[k] j).length (fT (Bb (bP rs k ++ gy rs[k] j))))∧Hid (Below w.heap.size w w2)) (fun _ i _=>rs[k].rows.length - (intOf i).toNat);case atStart=>exact ⟨0,Nat.zero_le _,rfl,(by simpa [gy] using HOW),HB⟩
      case round =>
        obtain ⟨j,hj,rfl,HO2,HB2⟩:=hrel;rcases HS.out.below HB2.out with rfl | ⟨b,off,rfl,hb,hr,hok⟩
        · simp at hlt
        have hbw:b < w.heap.size:=by
          rcases HS.out with h | ⟨b',off',e,hb',-⟩
          · rw [h] at hlt; simp at hlt
          · injection e with e; injection e with e1 e2; omega
        obtain ⟨t0,t1⟩:=hr k hlt;have HOK:Hid (rs[k].ok _):=hok rs[k] (List.getElem_mem hlt);have HOKW:Hid (rs[k].ok w):=HS.out.mem (List.getElem_mem hlt);clear hr hok;by_cases hjl:j < rs[k].rows.length
        · rcases HOK.out with hnil | ⟨b2,off2,had,hb2,hr2,-⟩
          · rw [hnil] at hjl; simp at hjl
          have hbw2:b2 < w.heap.size:=by
            rcases HOKW.out with h | ⟨b',off',e,hb',-⟩
            · rw [h] at hjl; simp at hjl
            · rw [had] at e; injection e with e; injection e with e1 e2; omega
          have t1':=t1;rw [had] at t1';obtain ⟨q0,q1⟩:=hr2 j hjl;have hj1:=bR j;have hj2:(j:Int) < (rs[k].rows.length:Int):=by omega
          have a1:u4.ownBlock ≠ some b:=fun e=>by have:=(HO2.out.lt _ e).1; omega
          have a2:u4.ownBlock ≠ some b2:=fun e=>by have:=(HO2.out.lt _ e).1; omega
          have l4:w.heap.size≤wr.heap.size:=HB2.out.size;obtain ⟨xs,hxs⟩:∃ xs,xs=fT (Bb (bP rs k ++ gy rs[k] j)):=⟨_,rfl⟩;obtain ⟨n,hn⟩:∃ n,n=(bP rs k ++ gy rs[k] j).length:=⟨_,rfl⟩;have hown:=HO2.out;rw [← hxs,← hn] at hown;have hnl:n≤1000:=by
            have h1:=HU.out;have h2:=zg rs[k] j;have h3:=HR6.out;rw [hn,List.length_append]; omega
          have HFX:Hid (fT (Bb (bP rs k ++ gy rs[k] (j + 1)))=xs ++ [.string rs[k].name,.string rs[k].rows[j].name,.int .i64 0]):=by
            show _=_;rw [qD _ _ hjl,← List.append_assoc,IX,wL,← hxs]; rfl
          have HNN:Hid ((bP rs k ++ gy rs[k] (j + 1)).length=n + 1):=by show _=_; rw [qD _ _ hjl,← List.append_assoc,List.length_append,← hn]; rfl
          clear hr2 had t1 hxs hn HO2;go_wp2_with fail
          go_region_held3 (fun w'=>w'.cell? ⟨b,off + k * 2,none⟩=some (.string rs[k].name)∧w'.cell? ⟨b,off + k * 2 + 1,none⟩=some (.slice (some ⟨b2,off2,none⟩) rs[k].rows.length rs[k].cap)∧w'.cell? ⟨b2,off2 + j * 2,none⟩=some (.string rs[k].rows[j].name))
            (first
              | go_keep
              | (go_split_ands
                 refine ⟨?_,?_,?_⟩
                 · (rw [hgrow.cell_far _ (by simp; omega) (Ne.symm a1)]; assumption)
                 · (rw [hgrow.cell_far _ (by simp; omega) (Ne.symm a1)]; assumption)
                 · (rw [hgrow.cell_far _ (by simp; omega) (Ne.symm a2)]; assumption)))
            ((refine step_append_lies _ (by rfl) _ _ _ (by rfl) w.heap.size 205 i0 _ 3 40 underlying158 hi hz0 hz1 hz2 rfl (by omega) u4 n xs (by rfl) ((hown.alloc _).drew)
                ⟨wr.heap.size,0,none⟩ 1 1 [.string rs[k].name,.string rs[k].rows[j].name,.int .i64 0] (by rfl) (by rfl) (World.news_of_block (cs:=#[.string rs[k].name,.string rs[k].rows[j].name,.int .i64 0]) (t:=205) (fr:=(0,0)) (heap_alloc_new wr _)) (by simp [Value.oneCell'])
                (by omega) (by unfold maxLen; omega) (by omega) (by simp; omega) (wr.heap.size + 1) (by simp) ?_; intro gg cp w5 hown5 hgrow hat hlt5))
          have hb5:Hid (Below w.heap.size w w5):=((HB2.out.alloc HB2.out.size _).drew).grown hgrow (by simp; omega) (fun i hi=>(hown.lt i hi).1);have HO5:Hid (w5.ownsRow w.heap.size 205 3 (.slice (some ⟨gg,0,none⟩) (n + 1) cp) (bP rs k ++ gy rs[k] (j + 1)).length (fT (Bb (bP rs k ++ gy rs[k] (j + 1))))):=by
            show World.ownsRow _ _ _ _ _ _ _;rw [HFX.out,HNN.out]; exact hown5
          have h6:=HR6.out;clear hown5 hgrow hat hown;go_wp2;go_roundw;case rel=>exact ⟨j + 1,by omega,by go_num,HO5,hb5⟩
          case measure=>simp [intOf] <;> omega
        · obtain rfl:j=rs[k].rows.length:=by omega
          have HO5:Hid (wr.ownsRow w.heap.size 205 3 u4 (bP rs (k + 1)).length (fT (Bb (bP rs (k + 1))))):=by
            show World.ownsRow _ _ _ _ _ _ _;rw [mq _ _ hlt]; exact HO2.out
          clear HO2;go_wp2;go_roundw;case rel=>exact ⟨k + 1,by omega,by go_num,HO5,HB2⟩
          case measure=>simp [intOf] <;> omega
    · obtain rfl:k=rs.length:=by omega
      have HE0:Hid (bP rs rs.length=az (ah rs)):=by show _=_; unfold bP; rw [List.take_length]
      have HN36:Hid ((az (ah rs)).length≤36):=by
        have h1:=sN rs HRL.out rs.length;have h2:=HE0.out;show _≤_;rw [← h2]; omega
      obtain ⟨n,hn⟩:∃ n,n=(az (ah rs)).length:=⟨_,rfl⟩;have hown:=HOW.out;rw [HE0.out,← Ak] at hown;obtain ⟨adO,cpO,g,rfl,hrow⟩:=KV HB.out hown;have HP0:Hid (Pass (ah rs) n true (Bb (az (ah rs)))):=Pass.zero hn;have HR0:Hid (RowS w wr adO g (Bb (az (ah rs)))):=hrow;have hn36:n≤36:=by rw [hn]; exact HN36.out
      have HNN:Hid (n=(az (ah rs)).length):=hn;rw [Ak,← hn];clear hown HOW hrow hn HE0 HN36 HB;go_wp2_with fail;go_loopw [7] (fun m w1=>∃ (mb:Bool) (out:List St),m=.bool mb∧Hid (Pass (ah rs) n mb out)∧Hid (RowS w w1 adO g out)) (fun m w1=>zn w1 g n m);case atStart=>exact ⟨true,_,rfl,HP0,HR0⟩
      case round =>
        clear HP0 HR0;obtain ⟨mb,oS,rfl,HPS,HRS⟩:=hrel;cases mb with
        | false =>
          go_wp2;exact bodyPost_ret (v:=.tuple #[.slice adO n cpO,.bool true]) (by simp [results,Tryz.results81,go_sem]) rfl ⟨.inl ⟨adO,cpO,oS,by rw [HPS.out.len],HRS.out.slN,HPS.out.round.keys,HPS.out.least⟩,HRS.out.below⟩
        | true =>
          have HSL:Hid (oS.length=n):=HPS.out.len;have HM0:Hid (Mid (ah rs) n oS 0 0 false oS):=Mid.start HPS.out.len HPS.out.nn HPS.out.round HPS.out.le;obtain ⟨w0,hw0⟩:∃ w0,w0=wr:=⟨_,rfl⟩;subst hw0;go_wp2_with fail;go_loopw [7,8] (fun m i w1=>∃ (mb:Bool) (k:Nat) (out:List St),m=.bool mb∧k≤n∧i=.int .i64 k∧Hid (Mid (ah rs) n oS k 0 mb out)∧Hid (RowS w w1 adO g out)) (fun _ i _=>n - (intOf i).toNat);case atStart=>exact ⟨false,0,oS,rfl,Nat.zero_le _,rfl,HM0,HRS⟩
          case round =>
            clear HM0;obtain ⟨mb,k,out,rfl,hk,rfl,HM,HR⟩:=hrel;by_cases hlt:k < n
            · have hko:k < out.length:=by rw [HM.out.len]; exact hlt
              have hke:k < (az (ah rs)).length:=by rw [← HNN.out]; exact hlt
              have hk1:=bR k;have hk2:(k:Int) < (n:Int):=by omega
              rcases HR.out.at' with e | ⟨rfl,hgw,hgl,hO,-⟩
              · rw [e] at hko; simp at hko
              obtain ⟨c0,c1,c2⟩:=hO k hko;have HKE:Hid (out[k].key=(az (ah rs))[k]):=HM.out.key hko hke;have HBW:∀ w',Below wr.heap.size wr w'→gp w' ad rs:=fun w' h=>HS.out.below (HR.out.below.trans (h.mono HR.out.below.size));have c3:wr.drew.cell? ⟨g,k * 3,none⟩=some (.string out[k].typ)∧wr.drew.cell? ⟨g,k * 3 + 1,none⟩=some (.string out[k].rel)∧g < wr.drew.heap.size∧Below wr.heap.size wr wr.drew:=⟨c0,c1,hgl,(Below.refl _ _).drew⟩;clear hO c2;go_wp2_with fail
              go_region_held3 (fun w'=>w'.cell? ⟨g,k * 3,none⟩=some (.string out[k].typ)∧w'.cell? ⟨g,k * 3 + 1,none⟩=some (.string out[k].rel)∧g < w'.heap.size∧Below wr.heap.size wr w')
                (first | exact c3 | assumption | exact keepD (by assumption) hbx)
                (first | (go_at_call 84; refine (iQ ad cap rs _ _ _ (by omega) (HBW _ (by first | assumption | exact c3.2.2.2)) HL.out).mono ?_; rintro e w' ⟨⟨rows,adE,capE,rfl,hex,hse,hfs⟩,rfl⟩) | (go_at_call 118; refine (DD ad adE cap capE rs _ rows _ (by omega) (HBW _ (by first | assumption | exact c3.2.2.2)) HL.out (hfs.small HEL.out).1 hse (hfs.light HL.out).2 (hfs.small HEL.out).2 (wZ rs HL.out _ rows (hfs.small HEL.out).1 (hfs.light HL.out).2)).mono ?_; rintro e w' ⟨⟨v,rfl,hown⟩,hbx⟩))
              rename_i hHeld;have HB5:Hid (Below wr.heap.size wr w'):=hHeld.2.2.2;have HR5:Hid (RowS w w' (some ⟨g,0,none⟩) g out):=HR.out.kept hHeld.2.2.2;have HDK:Hid (nN (ah rs) out[k].typ (au rows)=fI (ah rs) (az (ah rs))[k]):=by
                show _=_;rw [← HKE.out,hex]; rfl
              obtain ⟨ds,hds⟩:∃ ds,ds=fI (ah rs) (az (ah rs))[k]:=⟨_,rfl⟩;rw [HDK.out,← hds] at hown;obtain ⟨adD,cpD,rfl,hD⟩:=Ni hown;have HD5:Hid (KO w' wr.heap.size adD ds):=hD;have hdl:ds.length≤100000000:=by
                have:=wZ rs HL.out out[k].typ rows (hfs.small HEL.out).1 (hfs.light HL.out).2 (au rows).length;have e:=HDK.out;unfold nN at e;rw [e,← hds] at this;exact this
              have HDS:Hid (ds=fI (ah rs) (az (ah rs))[k]):=hds;have HKM:Hid ((az (ah rs))[k] ∈ az (ah rs)):=List.getElem_mem hke;clear hHeld hown hD hds HDK c0 c1 c3 hex hse hfs hbx HBW HKE;obtain ⟨wq,hwq⟩:∃ wq,wq=wr:=⟨_,rfl⟩;subst hwq;go_wp2_with fail;go_loopw [7,10] (fun m i w2=>∃ (mb:Bool) (j:Nat) (o2:List St),m=.bool mb∧j≤ds.length∧i=.int .i64 j∧Hid (Mid (ah rs) n oS k j mb o2)∧Hid (RowS w w2 (some ⟨g,0,none⟩) g o2)∧Hid (KO w2 wq.heap.size adD ds)) (fun _ i _=>ds.length - (intOf i).toNat);case atStart=>exact ⟨mb,0,out,rfl,Nat.zero_le _,rfl,HM,HR5,HD5⟩
              case round =>
                clear HM HR HR5 HD5 HB5;obtain ⟨mc,j,o2,rfl,hj,rfl,HM2,HR2,HD2⟩:=hrel;have hko2:k < o2.length:=by rw [HM2.out.len]; exact hlt
                rcases HR2.out.at' with e | ⟨-,hgw2,hgl2,hO2,hfz2⟩
                · rw [e] at hko2; simp at hko2
                have f2:=hfz2 (k * 3 + 2);obtain ⟨z0,z1,z2⟩:=hO2 k hko2;by_cases hjl:j < ds.length
                · rcases HD2.out with e | ⟨bd,rfl,hbd,hbl,hDc⟩
                  · rw [e] at hjl; simp at hjl
                  obtain ⟨x0,x1,x2⟩:=hDc j hjl;have HKE2:Hid (o2[k].key=(az (ah rs))[k]):=HM2.out.key hko2 hke;have HDJ:Hid ((fI (ah rs) o2[k].key)[j]?=some ds[j]):=by
                    show _=_;rw [HKE2.out,← HDS.out]; exact List.getElem?_eq_getElem hjl
                  have HDF:Hid ((ds[j].typ,ds[j].rel) ∈ az (ah rs)):=HF.out _ HKM.out ds[j] (by rw [← HDS.out]; exact List.getElem_mem hjl);obtain ⟨i,hi2,hat,hin,hpos,hub⟩:=HM2.out.at _ HDF.out;obtain ⟨y0,y1,y2⟩:=hO2 i hi2;have hi3:i < n:=by rw [← HM2.out.len]; exact hi2
                  have HW:Hid (mE o2 ds[j]=gu o2 (ds[j].typ,ds[j].rel) + stepOf ds[j]):=rfl;have HL2:Hid (o2.length=n):=HM2.out.len;have HSN:Hid (LB wr (some ⟨g,0,none⟩) o2):=HR2.out.slN;rw [hin] at y2;obtain ⟨x,hx⟩:∃ x,x=gu o2 (ds[j].typ,ds[j].rel):=⟨_,rfl⟩;have HX:Hid (mE o2 ds[j]=x + stepOf ds[j]):=by rw [hx]; exact HW
                  rw [← hx] at hpos hub y2;obtain ⟨kn,hkn⟩:∃ kn,kn=o2[k].n:=⟨_,rfl⟩;rw [← hkn] at z2;have HKN:Hid (kn=o2[k].n):=hkn;have hkn1:0≤kn:=by rw [hkn]; exact HM2.out.round.pos _ (List.getElem_mem hko2)
                  have hkn2:kn≤n + 1 + j:=by rw [hkn]; exact HM2.out.lek hko2
                  have hj1:=bR j;have hj2:(j:Int) < (ds.length:Int):=by omega
                  have hi4:=bR i;have hi5:(i:Int) < (n:Int):=by omega
                  have HAT:Hid (fB ds[j].typ ds[j].rel o2 0=(i:Int)):=hat;have hx5:(2:Int) < 5:=by omega
                  clear hfz2 hO2 hDc hx hkn hin y0 y1 hi2 HW hat z0 z1;go_wp2_with fail
                  go_region_held3 (fun w'=>w'.cell? ⟨bd,j * 3,none⟩=some (.string ds[j].typ)∧w'.cell? ⟨bd,j * 3 + 1,none⟩=some (.string ds[j].rel)∧w'.cell? ⟨g,i * 3 + 2,none⟩=some (.int .i64 x))
                    (first | assumption | exact ⟨x0,x1,y2⟩)
                    (first | (go_at_call 119; refine (Mo (some ⟨g,0,none⟩) cpO n o2 (ds[j].typ,ds[j].rel) _ HL2.out (by omega) (by first | exact HSN.out | assumption) i HAT.out).mono ?_; rintro e w' ⟨rfl,rfl⟩))
                  rename_i hHeld2;have HR3:Hid (RowS w wr.drew (some ⟨g,0,none⟩) g o2):=HR2.out.kept ((Below.refl _ _).drew);have HD3:Hid (KO wr.drew wq.heap.size (some ⟨bd,0,none⟩) ds):=HD2.out;clear hHeld2 x0 x1 y2;cases hneg:ds[j].neg with
                  | true =>
                    have HX2:Hid (mE o2 ds[j]=x + 1):=by show _=_; rw [HX.out]; simp [stepOf,hneg]
                    rw [hneg] at x2;by_cases hgt:kn < x + 1
                    · have HM3:Hid (Mid (ah rs) n oS k (j + 1) true (o2.set k ⟨o2[k].typ,o2[k].rel,x + 1⟩)):=by
                        have:=HM2.out.yes HF.out hko2 ds[j] HDJ.out (by rw [HX2.out,← HKN.out]; exact hgt);rw [HX2.out] at this; exact this
                      have HR4:Hid (RowS w (wr.drew.setCell ⟨g,k * 3 + 2,none⟩ (.int .i64 (x + 1))) (some ⟨g,0,none⟩) g (o2.set k ⟨o2[k].typ,o2[k].rel,x + 1⟩)):=HR3.out.set hko2 (x + 1);have HD4:Hid (KO (wr.drew.setCell ⟨g,k * 3 + 2,none⟩ (.int .i64 (x + 1))) wq.heap.size (some ⟨bd,0,none⟩) ds):=HD3.out.set hgl;clear HM2 HR2 HR3 HD2 HD3;go_wp2;go_roundw;case rel=>exact ⟨true,j + 1,_,rfl,by omega,by go_num,HM3,HR4,HD4⟩
                      case measure=>simp [intOf] <;> omega
                    · have HM3:Hid (Mid (ah rs) n oS k (j + 1) mc o2):=HM2.out.no hko2 ds[j] HDJ.out (by rw [HX2.out,← HKN.out]; omega);clear HM2 HR2 HD2;go_wp2;go_roundw;case rel=>exact ⟨mc,j + 1,o2,rfl,by omega,by go_num,HM3,HR3,HD3⟩
                      case measure=>simp [intOf] <;> omega
                  | false =>
                    have HX2:Hid (mE o2 ds[j]=x):=by show _=_; rw [HX.out]; simp [stepOf,hneg]
                    rw [hneg] at x2;by_cases hgt:kn < x
                    · have HM3:Hid (Mid (ah rs) n oS k (j + 1) true (o2.set k ⟨o2[k].typ,o2[k].rel,x⟩)):=by
                        have:=HM2.out.yes HF.out hko2 ds[j] HDJ.out (by rw [HX2.out,← HKN.out]; exact hgt);rw [HX2.out] at this; exact this
                      have HR4:Hid (RowS w (wr.drew.setCell ⟨g,k * 3 + 2,none⟩ (.int .i64 (x))) (some ⟨g,0,none⟩) g (o2.set k ⟨o2[k].typ,o2[k].rel,x⟩)):=HR3.out.set hko2 (x);have HD4:Hid (KO (wr.drew.setCell ⟨g,k * 3 + 2,none⟩ (.int .i64 (x))) wq.heap.size (some ⟨bd,0,none⟩) ds):=HD3.out.set hgl;clear HM2 HR2 HR3 HD2 HD3;go_wp2;go_roundw;case rel=>exact ⟨true,j + 1,_,rfl,by omega,by go_num,HM3,HR4,HD4⟩
                      case measure=>simp [intOf] <;> omega
                    · have HM3:Hid (Mid (ah rs) n oS k (j + 1) mc o2):=HM2.out.no hko2 ds[j] HDJ.out (by rw [HX2.out,← HKN.out]; omega);clear HM2 HR2 HD2;go_wp2;go_roundw;case rel=>exact ⟨mc,j + 1,o2,rfl,by omega,by go_num,HM3,HR3,HD3⟩
                      case measure=>simp [intOf] <;> omega
                · obtain rfl:j=ds.length:=by omega
                  have HKE2:Hid (o2[k].key=(az (ah rs))[k]):=HM2.out.key hko2 hke;have HJ:Hid (ds.length=(fI (ah rs) o2[k].key).length):=by show _=_; rw [HKE2.out,← HDS.out]
                  clear z0 z1 hO2 hfz2 f2;by_cases hov:(n:Int) < o2[k].n
                  · have HNO:Hid (¬ ∃ f,Sol (ah rs) f):=HM2.out.over HF.out hko2 hov;have hkn2:o2[k].n≤n + 1 + ds.length:=HM2.out.lek hko2;go_wp2;exact bodyPost_ret (v:=.tuple #[.slice none 0 0,.bool false]) (by simp [results,Tryz.results81,go_sem]) rfl ⟨.inr ⟨rfl,HNO.out⟩,HR2.out.below⟩
                  · have HM3:Hid (Mid (ah rs) n oS (k + 1) 0 mc o2):=HM2.out.next hko2 HJ.out (by omega);clear HM2;go_wp2;go_roundw;case rel=>exact ⟨mc,k + 1,o2,rfl,by omega,by go_num,HM3,HR2⟩
                    case measure=>simp [intOf] <;> omega
            · obtain rfl:k=n:=by omega
              have HP2:Hid (Pass (ah rs) k mb out):=HM.out.done rfl;have HLS:Hid (zn wr g k (.bool mb) < zn w0 g k (.bool true)):=DL HRS.out HR.out HM.out HSL.out;go_wp2;go_roundw;case rel=>exact ⟨mb,out,rfl,HP2,HR⟩
              case measure=>exact HLS.out
end Go.Proofs.YteoflgocljfgeaaGreatDoor
