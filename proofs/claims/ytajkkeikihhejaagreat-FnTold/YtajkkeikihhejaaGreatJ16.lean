/- The document's rounds over strata in plain words, step by step; and the row of strata in memory that they write. -/
import Derived.Test.YtajkkeikihhejaaGreatSq
import Derived.Test.YtajkkeikihhejaaGreatJ14
open Go.Proofs.Tryz
set_option maxHeartbeats 80000000
namespace Go.Proofs.YtajkkeikihhejaaGreat
open Go.ChangeShapes Go.WideShapes Go.ChangeAt Go.RowKit
open Pl
theorem zW (d:Dp):0≤stepOf d∧stepOf d≤1:=by unfold stepOf; split <;> omega
structure Mid (ts:List Ty) (n:Nat) (oS:List St) (k j:Nat) (mb:Bool) (out:List St):Prop where
 len:out.length=n
 nn:n=(au ts).length
 round:Round ts out
 le:∀ i (h:i < out.length),i ≠ k→out[i].n≤n
 lek:∀ h:k < out.length,out[k].n≤n + 1 + j
 same:mb=false→out=oS∧(∀ i (h:i < out.length),i < k→Qq ts out out[i] (il ts out[i].key).length)∧∀ h:k < out.length,Qq ts out out[k] j
 grow:mI oS≤mI out∧(mb=true→mI oS < mI out)
theorem Mid.start {ts:List Ty} {n:Nat} {out:List St} (hl:out.length=n) (hn:n=(au ts).length) (hr:Round ts out) (hle:∀ s ∈ out,s.n≤n):Mid ts n out 0 0 false out where
 len:=hl
 nn:=hn
 round:=hr
 le i h _:=hle _ (TQ h)
 lek h:=by have:=hle _ (TQ h); omega
 same _:=⟨rfl,fun i _ hi=>by omega,fun _ d hd=>by simp at hd⟩
 grow:=⟨Int.le_refl _,by simp⟩
theorem Mid.key {ts:List Ty} {n k j:Nat} {oS out:List St} {mb:Bool} (h:Mid ts n oS k j mb out) (hk:k < out.length) (hk2:k < (au ts).length):out[k].key=(au ts)[k]:=by
 have e:=h.round.keys;have:(iE out)[k]'(by simp [iE,hk])=(au ts)[k]:=by simp only [e]
 rw [← this]; simp [iE]
def pg (out:List St) (d:Dp):Int:=fO out (d.typ,d.rel) + stepOf d
theorem Mid.at {ts:List Ty} {n k j:Nat} {oS out:List St} {mb:Bool} (h:Mid ts n oS k j mb out) (key:ByteArray × ByteArray) (hk:key ∈ au ts):∃ i:Nat,∃ hi:i < out.length,gT key.1 key.2 out 0=(i:Int)∧out[i].n=fO out key∧0≤fO out key∧fO out key≤n + 1 + j:=by
 obtain ⟨i,hi,h1,h2,h3⟩:=oZ out 0 (k:=key) (by rw [h.round.keys]; exact hk);refine ⟨i,hi,by rw [h1]; congr 1; omega,h3,?_,?_⟩
 ·exact (h.round.at hk).1
 rw [← h3];by_cases e:i=k
 ·subst e; exact h.lek hi
 have:=h.le i hi e; omega
theorem Mid.no {ts:List Ty} {n k j:Nat} {oS out:List St} {mb:Bool} (h:Mid ts n oS k j mb out) (hk:k < out.length) (d:Dp) (hd:(il ts out[k].key)[j]?=some d) (hw:pg out d≤out[k].n):Mid ts n oS k (j + 1) mb out where
 len:=h.len
 nn:=h.nn
 round:=h.round
 le:=h.le
 lek hh:=by have:=h.lek hh; omega
 same hm:=by
  obtain ⟨e,s1,s2⟩:=h.same hm;refine ⟨e,s1,fun hh d' hd'=>?_⟩;obtain ⟨hj,hd2⟩:=List.getElem?_eq_some_iff.1 hd;rw [TV hj] at hd';rcases Uc.1 hd' with hd' | hd'
  ·exact s2 hh d' hd'
  rw [hd2] at hd'; simp at hd'; subst hd'; exact hw
 grow:=h.grow
theorem Mid.yes {ts:List Ty} {n k j:Nat} {oS out:List St} {mb:Bool} (h:Mid ts n oS k j mb out) (hF:Found ts) (hk:k < out.length) (d:Dp) (hd:(il ts out[k].key)[j]?=some d) (hw:out[k].n < pg out d):Mid ts n oS k (j + 1) true (out.set k ⟨out[k].typ,out[k].rel,pg out d⟩) where
 len:=by rw [List.length_set]; exact h.len
 nn:=h.nn
 round:=h.round.set hF hk (List.mem_of_getElem? hd)
 le i hi hne:=by
  rw [List.getElem_set_ne (Ne.symm hne)];exact h.le i (by simpa using hi) hne
 lek hh:=by
  rw [List.getElem_set_self];show pg out d≤_;obtain ⟨i,hi,-,-,-,h4⟩:=h.at (d.typ,d.rel) (hF _ (h.round.mem (TQ hk)) d (List.mem_of_getElem? hd));have:=zW d;unfold pg; push_cast; omega
 same hm:=by cases hm
 grow:=by
  have:=h.grow.1;rw [NZ _ _ hk];exact ⟨by omega,fun _=>by omega⟩
theorem Mid.next {ts:List Ty} {n k j:Nat} {oS out:List St} {mb:Bool} (h:Mid ts n oS k j mb out) (hk:k < out.length) (hj:j=(il ts out[k].key).length) (hle:out[k].n≤n):Mid ts n oS (k + 1) 0 mb out where
 len:=h.len
 nn:=h.nn
 round:=h.round
 le i hi _:=by
  by_cases e:i=k
  ·subst e; exact hle
  exact h.le i hi e
 lek hh:=by have:=h.le (k + 1) hh (by omega); omega
 same hm:=by
  obtain ⟨e,s1,s2⟩:=h.same hm;refine ⟨e,fun i hi hik=>?_,fun _ d hd=>by simp at hd⟩;by_cases e2:i=k
  ·subst e2; have:=s2 hi; rw [hj] at this; exact this
  exact s1 i hi (by omega)
 grow:=h.grow
theorem Mid.over {ts:List Ty} {n k j:Nat} {oS out:List St} {mb:Bool} (h:Mid ts n oS k j mb out) (hF:Found ts) (hk:k < out.length) (hn:(n:Int) < out[k].n):¬ ∃ f,Sol ts f :=
 IB hF (h.round.mem (TQ hk)) (h.round.low _ (TQ hk)) (by have:=h.nn; omega)
structure Pass (ts:List Ty) (n:Nat) (mb:Bool) (out:List St):Prop where
 len:out.length=n
 nn:n=(au ts).length
 round:Round ts out
 le:∀ s ∈ out,s.n≤n
 sat:mb=false→∀ s ∈ out,Qq ts out s (il ts s.key).length
theorem Mid.done {ts:List Ty} {n k j:Nat} {oS out:List St} {mb:Bool} (h:Mid ts n oS k j mb out) (hk:k=n):Pass ts n mb out where
 len:=h.len
 nn:=h.nn
 round:=h.round
 le s hs:=by
  obtain ⟨i,hi,rfl⟩:=List.mem_iff_getElem.1 hs;exact h.le i hi (by have:=h.len; omega)
 sat hm s hs:=by
  obtain ⟨e,s1,s2⟩:=h.same hm;obtain ⟨i,hi,rfl⟩:=List.mem_iff_getElem.1 hs;exact s1 i hi (by have:=h.len; omega)
theorem Pass.least {ts:List Ty} {n:Nat} {out:List St} (h:Pass ts n false out):Least ts (fO out):=h.round.done (h.sat rfl)
theorem Pass.zero {ts:List Ty} {n:Nat} (hn:n=(au ts).length):Pass ts n true (FQ (au ts)) where
 len:=by rw [Ej,hn]
 nn:=hn
 round:=⟨by unfold iE FQ; rw [List.map_map]; exact List.map_id _,fun s hs=>by simp [FQ] at hs; obtain ⟨a,b,-,rfl⟩:=hs; exact Int.le_refl _,fun s hs=>by simp [FQ] at hs; obtain ⟨a,b,-,rfl⟩:=hs; exact qw.zero _ _⟩
 le s hs:=by simp [FQ] at hs; obtain ⟨a,b,-,rfl⟩:=hs; simp
 sat h:=by cases h
theorem Qx (n:Int) (out:List St) (h:∀ s ∈ out,s.n≤n):mI out≤n * out.length:=by
 induction out with
 | nil=>simp [mI]
 | cons s xs ih =>
  have h1:=h s (by simp);have h2:=ih fun q hq=>h q (by simp [hq]);simp only [mI,List.length_cons];have:n * ((xs.length + 1:Nat):Int)=n * xs.length + n:=by push_cast; rw [Int.mul_add]; simp
  omega
structure RowS (w wr:World) (ad:Option Addr) (g:Nat) (out:List St):Prop where
 below:ag w wr
 at':out=[] ∨ (ad=some ⟨g,0,none⟩∧w.heap.size≤g∧g < wr.heap.size∧TF wr g out∧∀ j,wr.frozen? ⟨g,j,none⟩=false)
theorem SY.kept {w w':af} {b off:Nat} {s:St} (h:SY w b off s) (hb:b < w.heap.size) (hB:ag w w'):SY w' b off s:=⟨aG hB hb h.1,aG hB hb h.2.1,aG hB hb h.2.2⟩
theorem RowS.kept {w wr w2:af} {ad:Option Addr} {g:Nat} {out:List St} (h:RowS w wr ad g out) (hb:ag wr w2):RowS w w2 ad g out where
 below:=h.below.trans (hb.mono h.below.size)
 at':=by
  rcases h.at' with e | ⟨e,h1,h2,h3,h4⟩
  ·exact .inl e
  exact .inr ⟨e,h1,TP h2 hb.size,fun i hi=>(h3 i hi).kept h2 hb,fun j=>by rw [hb.frozen (p:=⟨g,j,none⟩) h2]; exact h4 j⟩
theorem RowS.slN {w wr:af} {ad:Option Addr} {g:Nat} {out:List St} (h:RowS w wr ad g out):Iz wr ad out:=by
 rcases h.at' with e | ⟨e,h1,h2,h3,h4⟩
 ·exact .inl e
 exact .inr ⟨g,0,e,h2,fun i hi=>by rw [Um]; exact h3 i hi⟩
theorem RowS.set {w wr:af} {ad:Option Addr} {g:Nat} {out:List St} (h:RowS w wr ad g out) {k:Nat} (hk:k < out.length) (n:Int):RowS w (wr.setCell ⟨g,k * 3 + 2,none⟩ (.int .i64 n)) ad g (out.set k ⟨out[k].typ,out[k].rel,n⟩):=by
 rcases h.at' with e | ⟨e,h1,h2,h3,h4⟩
 ·rw [e] at hk; simp at hk
 refine ⟨h.below.setCell (p:=⟨g,k * 3 + 2,none⟩) h1 _,.inr ⟨e,h1,by simpa using h2,fun i hi=>?_,fun j=>by simpa using h4 j⟩⟩;have hi':i < out.length:=by simpa using hi
 obtain ⟨c0,c1,c2⟩:=h3 i hi';by_cases ei:i=k
 ·subst ei;rw [List.getElem_set_self];exact ⟨by rw [lV (by omega)]; exact c0,by rw [lV (by omega)]; exact c1,xq c2⟩
 rw [List.getElem_set_ne (Ne.symm ei)];exact ⟨by rw [lV (by omega)]; exact c0,by rw [lV (by omega)]; exact c1,by rw [lV (by omega)]; exact c2⟩
def Ov (w:World) (g i:Nat):Int:=match w.cell? ⟨g,i * 3 + 2,none⟩ with | some (.int _ x)=>x | _=>0
def IJ (w:World) (g:Nat):Nat→Int
 | 0=>0
 | n + 1=>IJ w g n + Ov w g n
theorem FZ (xs ys:List St):mI (xs ++ ys)=mI xs + mI ys:=by
 induction xs with
 | nil=>simp [mI]
 | cons s xs ih=>simp only [List.cons_append,mI,ih]; omega
theorem TF.sum {w:af} {g:Nat} {out:List St} (h:TF w g out):∀ k,k≤out.length→IJ w g k=mI (out.take k)
 | 0,_=>by simp [IJ,mI]
 | k + 1,hk=>by
  have hlt:k < out.length:=by omega
  rw [TV hlt,FZ];simp only [IJ,h.sum k (by omega),mI];have:Ov w g k=out[k].n:=by unfold Ov; rw [(h k hlt).2.2]
  omega
theorem RowS.sum {w wr:af} {ad:Option Addr} {g:Nat} {out:List St} (h:RowS w wr ad g out):IJ wr g out.length=mI out:=by
 rcases h.at' with e | ⟨e,h1,h2,h3,h4⟩
 ·rw [e]; simp [IJ,mI]
 rw [h3.sum _ (TS _),Ug]
def Ow:Value→Int
 | .bool true=>1
 | _=>0
def CQ (w:World) (g n:Nat) (m:Value):Nat:=(2 * ((n:Int) * n - IJ w g n) + Ow m).toNat
theorem IK {ts:List Ty} {w wr w2:af} {ad:Option Addr} {g n:Nat} {oS out:List St} {mb:Bool} (hS:RowS w wr ad g oS) (hO:RowS w w2 ad g out) (h:Mid ts n oS n 0 mb out) (hl:oS.length=n):CQ w2 g n (.bool mb) < CQ wr g n (.bool true):=by
 have e1:=hS.sum;have e2:=hO.sum;have h3:=Qx n out fun s hs=>(h.done rfl).le s hs;have h2:=h.len;have h4:=h.grow;rw [hl] at e1;rw [h2] at e2 h3;unfold CQ;rw [e1,e2];cases mb;case false=>simp only [Ow]; omega
 have:=h4.2 rfl; simp only [Ow]; omega
theorem Qy {w wr:af} {v:Value} {out:List St} (hB:ag w wr) (h:wr.ownsRow w.heap.size 162 3 v out.length (iG out)):∃ ad cp g,v=.slice ad out.length cp∧RowS w wr ad g out:=by
 rcases h.2 with ⟨rfl,h0⟩ | ⟨g,cp,cur,rfl,hbg,hg,hnc,-⟩
 ·exact ⟨none,0,0,by rw [h0],hB,.inl (Ui.1 h0)⟩
 obtain ⟨ad,cp',e,h0⟩:=Tn h;injection e with e1 e2 e3;refine ⟨some ⟨g,0,none⟩,cp,g,rfl,hB,?_⟩;rcases h0 with h0 | ⟨g',e4,h1,h2,h3⟩
 ·exact .inl (Ui.1 h0)
 rw [← e1] at e4; injection e4 with e4; injection e4 with e4;subst e4;exact .inr ⟨rfl,h1,h2,h3,fun j=>by simp [World.frozen?,hg]⟩
theorem Sd (ad:Option Addr) (cap n:Nat) (xs:List St) (key:ByteArray × ByteArray) (w:af) (hn:xs.length=n) (hlen:n≤1048576) (hs:Iz w ad xs) (i:Nat) (hat:gT key.1 key.2 xs 0=(i:Int)) :
  Calls prog 140 #[.slice ad n cap,.string key.1,.string key.2] w fun e w'=>e=.returned (.int .i64 (i:Int))∧w'=w:=by
 subst hn;rw [← hat];exact NU ad cap xs key.1 key.2 w hlen hs
theorem AtD.set {w:af} {b off g o:Nat} {d:Dp} {v:Value} (h:AtD w b off d) (hn:g ≠ b):AtD (w.setCell ⟨g,o,none⟩ v) b off d:=⟨by rw [xw hn]; exact h.1,by rw [xw hn]; exact h.2.1,by rw [xw hn]; exact h.2.2⟩
theorem Rt.set {w:af} {lo g o:Nat} {ad:Option Addr} {xs:List Dp} {v:Value} (h:Rt w lo ad xs) (hg:g < lo):Rt (w.setCell ⟨g,o,none⟩ v) lo ad xs:=by
 rcases h with h | ⟨b,e,h1,h2,h3⟩
 ·exact .inl h
 exact .inr ⟨b,e,h1,by simpa using h2,fun i hi=>(h3 i hi).set (by omega)⟩
theorem keepD {wr W w':af} {g o1 o2:Nat} {x y:Value} (h:W.cell? ⟨g,o1,none⟩=some x∧W.cell? ⟨g,o2,none⟩=some y∧g < W.heap.size∧ag wr W) (hb:ag W w') :
  w'.cell? ⟨g,o1,none⟩=some x∧w'.cell? ⟨g,o2,none⟩=some y∧g < w'.heap.size∧ag wr w' :=
 ⟨aG hb h.2.2.1 h.1,aG hb h.2.2.1 h.2.1,TP h.2.2.1 hb.size,h.2.2.2.trans (hb.mono h.2.2.2.size)⟩
theorem pO.small {rs:List TR} {ad:Option Addr} {rows:List ER} (h:pO rs ad rows) (hl:∀ r ∈ rs,∀ q ∈ r.rows,q.rows.length≤15∧∀ e ∈ q.rows,dW q.rows.length e.e.kids):rows.length≤15∧∀ e ∈ rows,dW rows.length e.e.kids:=by
 rcases h with rfl | ⟨t,ht,q,hq,rfl,-⟩
 ·exact ⟨by simp,by simp⟩
 exact hl t ht q hq
theorem zX (ts:List Ty) (ty over rel:bH):(ig ts ty over rel).length≤(aU (aA ts ty over)).length:=Iw _ _ _
theorem IL (ts:List Ty) (typ:bH) (es:List Ex) (A G:Nat) (hA:∀ e ∈ es,e.allow.length≤A) (hG:∀ over rel,(ig ts typ over rel).length≤G) (k:Nat):(aN ts typ es k).length≤k * (A + G + 1):=by
 induction k with
 | zero=>simp [aN]
 | succ k ih =>
  simp only [aN,T9];have:(ik ts typ es k).length≤A + G + 1:=by
   unfold ik;split
   ·simp
   rename_i e he;have h1:=hA e (List.mem_of_getElem? he);have h2:=Cz ((dz es).getD k false) e.allow;have h3:(kP ts typ ((dz es).getD k false) e).length≤G + 1:=by
    unfold kP;split
    ·simp
    split
    ·have:=hG e.over e.name; simp; omega
    simp
   rw [T9]; omega
  have e:(k + 1) * (A + G + 1)=k * (A + G + 1) + (A + G + 1):=Nat.succ_mul _ _;omega
theorem BF (ts:List Ty) (typ:bH) (es:List Ex) (k:Nat) (h:es.length≤k):ik ts typ es k=[]:=by
 unfold ik;rw [List.getElem?_eq_none h]
theorem IM (ts:List Ty) (typ:bH) (es:List Ex) (B:Nat) (hB:∀ k,k≤es.length→(aN ts typ es k).length≤B) (k:Nat):(aN ts typ es k).length≤B:=by
 induction k with
 | zero=>exact hB 0 (TW _)
 | succ k ih =>
  by_cases h:k + 1≤es.length
  ·exact hB _ h
  simp only [aN];rw [BF _ _ _ _ (by omega),List.append_nil];exact ih
theorem F3 (rs:List RR) (n:bH) (es:List Ex) (h:jN (eF rs) n=some es):∃ q ∈ rs,es=ak q.rows:=by
 induction rs with
 | nil=>simp [eF,jN] at h
 | cons r rs ih =>
  simp only [eF,List.map_cons,jN] at h;split at h
  ·injection h with h; exact ⟨r,by simp,h.symm⟩
  obtain ⟨q,hq,e⟩:=ih h; exact ⟨q,by simp [hq],e⟩
theorem IP (ts:List TR) (ty n:bH) (es:List Ex) (h:fI (ae ts) ty n=some es):∃ t ∈ ts,∃ q ∈ t.rows,es=ak q.rows:=by
 induction ts with
 | nil=>simp [ae,fI] at h
 | cons t ts ih =>
  simp only [ae,List.map_cons,fI] at h;split at h
  ·rcases Option.or_eq_some_iff.1 h with h | ⟨-,h⟩
   ·obtain ⟨q,hq,e⟩:=F3 _ _ _ h; exact ⟨t,by simp,q,hq,e⟩
   obtain ⟨t',ht,q,hq,e⟩:=ih h; exact ⟨t',by simp [ht],q,hq,e⟩
  obtain ⟨t',ht,q,hq,e⟩:=ih h; exact ⟨t',by simp [ht],q,hq,e⟩
theorem xR (rs:List TR) (hl:∀ r ∈ rs,r.light) (typ over rel:bH):(ig (ae rs) typ over rel).length≤1048576:=by
 refine TZ (zX _ _ _ _) ?_;unfold aA;cases h:fI (ae rs) typ over with
 | none=>simp [aU]
 | some es =>
  obtain ⟨t,ht,q,hq,rfl⟩:=IP _ _ _ _ h;exact zz q.rows ((hl t ht).2 q hq).2
theorem zY (rs:List TR) (hl:∀ r ∈ rs,r.light) (typ:bH) (rows:List ER) (hle:rows.length≤15) (ZU:∀ q ∈ rows,q.e.light) (k:Nat):(aN (ae rs) typ (ak rows) k).length≤100000000:=by
 refine IM _ _ _ _ (fun k hk=>?_) k;refine TZ (IL _ _ _ 1048576 1048576 (fun e he=>?_) (xR rs hl typ) k) ?_
 ·obtain ⟨q,hq,rfl⟩:=Ue.1 he; exact (ZU q hq).1
 rw [aT] at hk; omega
set_option maxRecDepth 100000 in
theorem uL (ad:Option Addr) (cap:Nat) (rs:List TR) (w:af) (hlen:rs.length≤6) (hs:kX w ad rs) (hl:∀ r ∈ rs,r.light) (hrl:∀ r ∈ rs,r.rows.length≤6) (hel:∀ r ∈ rs,∀ q ∈ r.rows,q.rows.length≤15∧∀ e ∈ q.rows,dW q.rows.length e.e.kids) (hF:Found (ae rs)) :
    Calls prog 96 #[.slice ad rs.length cap] w fun e w'=>((∃ UJ cap' out,e=.returned (.tuple #[.slice UJ out.length cap',.bool true])∧Iz w' UJ out∧iE out=au (ae rs)∧Least (ae rs) (fO out)) ∨ (e=.returned (.tuple #[.slice none 0 0,.bool false])∧¬ ∃ f,Sol (ae rs) f))∧ag w w':=by
  have HS:=az hs;have HL:=az hl;have YI:Hid (∀ r ∈ rs,r.rows.length≤6):=hrl;have Wi:Hid (∀ r ∈ rs,∀ q ∈ r.rows,q.rows.length≤15∧∀ e ∈ q.rows,dW q.rows.length e.e.kids):=hel;have HF:=az hF;clear hs hl hrl hel hF;obtain ⟨i0,hi,hz0,hz1,hz2⟩:=info_parts Qs;go_enter func96,ntmps96;have Zn:Hid (ag w (w.alloc (.cells #[] 162))):=(TT _ _).alloc (TS _) _;have hown1:Hid ((w.alloc (.cells #[] 162)).ownsRow w.heap.size 162 3 (.slice (some ⟨w.heap.size,0,none⟩) 0 0) 0 []):=World.ownsRow_made w #[] 0 (TS _) (by decide) rfl;go_wp2_with fail;go_loopw [4,5] (fun v i wr=>∃ k:Nat,k≤rs.length∧i=.int .i64 k∧Hid (wr.ownsRow w.heap.size 162 3 v (dA rs k).length (iG (FQ (dA rs k))))∧Hid (ag w wr)) (fun _ i _=>rs.length - (intOf i).toNat);case atStart=>exact ⟨0,TW _,rfl,hown1,Zn⟩
  clear hown1 Zn;obtain ⟨k,hk,rfl,HOW,HB⟩:=hrel;by_cases hlt:k < rs.length
  · have hk1:=bB k;have hk2:(k:Int) < (rs.length:Int):=by omega
    have HU:Hid ((dA rs k).length≤k * 6):=ww rs YI.out k;have We:Hid (rs[k].rows.length≤6):=YI.out _ (TQ hlt);obtain ⟨wo,hwo⟩:∃ wo,wo=wr:=⟨_,rfl⟩;subst hwo;go_wp2_with fail;go_loopw [4,6] (fun v i w2=>∃ j:Nat,j≤rs[k].rows.length∧i=.int .i64 j∧Hid (w2.ownsRow w.heap.size 162 3 v (dA rs k ++ iU rs[k] j).length (iG (FQ (dA rs k ++ iU rs[k] j))))∧Hid (ag w w2)) (fun _ i _=>rs[k].rows.length - (intOf i).toNat);case atStart=>exact ⟨0,TW _,rfl,(by simpa [iU] using HOW),HB⟩
    obtain ⟨j,hj,rfl,UB,HB2⟩:=hrel;rcases HS.out.below HB2.out with rfl | ⟨b,off,rfl,hb,hr,hok⟩
    · simp at hlt
    have hbw:b < w.heap.size:=by
      rcases HS.out with h | ⟨b',off',e,hb',-⟩
      · rw [h] at hlt; simp at hlt
      · injection e with e; injection e with e1 e2; omega
    obtain ⟨t0,t1⟩:=hr k hlt;have VF:Hid (rs[k].ok _):=hok rs[k] (TQ hlt);have HOKW:Hid (rs[k].ok w):=HS.out.mem (TQ hlt);clear hr hok;by_cases hjl:j < rs[k].rows.length
    · rcases VF.out with hnil | ⟨b2,U0,had,hb2,hr2,-⟩
      · rw [hnil] at hjl; simp at hjl
      have hbw2:b2 < w.heap.size:=by
        rcases HOKW.out with h | ⟨b',off',e,hb',-⟩
        · rw [h] at hjl; simp at hjl
        · rw [had] at e; injection e with e; injection e with e1 e2; omega
      have t1':=t1;rw [had] at t1';obtain ⟨q0,q1⟩:=hr2 j hjl;have hj1:=bB j;have hj2:(j:Int) < (rs[k].rows.length:Int):=by omega
      have a1:u4.ownBlock ≠ some b:=fun e=>by have:=(UB.out.lt _ e).1; omega
      have a2:u4.ownBlock ≠ some b2:=fun e=>by have:=(UB.out.lt _ e).1; omega
      have l4:w.heap.size≤wr.heap.size:=HB2.out.size;obtain ⟨xs,hxs⟩:∃ xs,xs=iG (FQ (dA rs k ++ iU rs[k] j)):=⟨_,rfl⟩;obtain ⟨n,hn⟩:∃ n,n=(dA rs k ++ iU rs[k] j).length:=⟨_,rfl⟩;have hown:=UB.out;rw [← hxs,← hn] at hown;have hnl:n≤1000:=by
        have h1:=HU.out;have h2:=CG rs[k] j;have h3:=We.out;rw [hn,T9]; omega
      have HFX:Hid (iG (FQ (dA rs k ++ iU rs[k] (j + 1)))=xs ++ [.string rs[k].name,.string rs[k].rows[j].name,.int .i64 0]):=by
        show _=_;rw [sZ _ _ hjl,← List.append_assoc,N8,zH,← hxs]; rfl
      have WC:Hid ((dA rs k ++ iU rs[k] (j + 1)).length=n + 1):=by show _=_; rw [sZ _ _ hjl,← List.append_assoc,T9,← hn]; rfl
      clear hr2 had t1 hxs hn UB;go_wp2_with fail
      go_region_held3 (fun w'=>w'.cell? ⟨b,off + k * 2,none⟩=some (.string rs[k].name)∧w'.cell? ⟨b,off + k * 2 + 1,none⟩=some (.slice (some ⟨b2,U0,none⟩) rs[k].rows.length rs[k].cap)∧w'.cell? ⟨b2,U0 + j * 2,none⟩=some (.string rs[k].rows[j].name))
        (first
          | go_keep
          | (go_split_ands
             refine ⟨?_,?_,?_⟩
             · (rw [hgrow.cell_far _ (by simp; omega) (Ne.symm a1)]; assumption)
             · (rw [hgrow.cell_far _ (by simp; omega) (Ne.symm a1)]; assumption)
             · (rw [hgrow.cell_far _ (by simp; omega) (Ne.symm a2)]; assumption)))
        ((refine step_append_lies _ (by rfl) _ _ _ (by rfl) w.heap.size 162 i0 _ 3 40 underlying158 hi hz0 hz1 hz2 rfl (by omega) u4 n xs (by rfl) ((hown.alloc _).drew)
            ⟨wr.heap.size,0,none⟩ 1 1 [.string rs[k].name,.string rs[k].rows[j].name,.int .i64 0] (by rfl) (by rfl) (World.news_of_block (cs:=#[.string rs[k].name,.string rs[k].rows[j].name,.int .i64 0]) (t:=162) (fr:=(0,0)) (heap_alloc_new wr _)) (by simp [Value.oneCell'])
            (by omega) (by unfold maxLen; omega) (by omega) (by simp; omega) (wr.heap.size + 1) (by simp) ?_; intro gg cp w5 hown5 hgrow hat hlt5))
      have hb5:Hid (ag w w5):=((HB2.out.alloc HB2.out.size _).drew).grown hgrow (by simp; omega) (fun i hi=>(hown.lt i hi).1);have UK:Hid (w5.ownsRow w.heap.size 162 3 (.slice (some ⟨gg,0,none⟩) (n + 1) cp) (dA rs k ++ iU rs[k] (j + 1)).length (iG (FQ (dA rs k ++ iU rs[k] (j + 1))))):=by
        show World.ownsRow _ _ _ _ _ _ _;rw [HFX.out,WC.out]; exact hown5
      have h6:=We.out;clear hown5 hgrow hat hown;go_wp2;go_roundw;case rel=>exact ⟨j + 1,by omega,by go_num,UK,hb5⟩
      simp [intOf] <;> omega
    · obtain rfl:j=rs[k].rows.length:=by omega
      have UK:Hid (wr.ownsRow w.heap.size 162 3 u4 (dA rs (k + 1)).length (iG (FQ (dA rs (k + 1))))):=by
        show World.ownsRow _ _ _ _ _ _ _;rw [o8 _ _ hlt]; exact UB.out
      clear UB;go_wp2;go_roundw;case rel=>exact ⟨k + 1,by omega,by go_num,UK,HB2⟩
      simp [intOf] <;> omega
  · obtain rfl:k=rs.length:=by omega
    have WJ:Hid (dA rs rs.length=au (ae rs)):=by show _=_; unfold dA; rw [Ug]
    have HN36:Hid ((au (ae rs)).length≤36):=by
      have h1:=ww rs YI.out rs.length;have h2:=WJ.out;show _≤_;rw [← h2]; omega
    obtain ⟨n,hn⟩:∃ n,n=(au (ae rs)).length:=⟨_,rfl⟩;have hown:=HOW.out;rw [WJ.out,← Ej] at hown;obtain ⟨Wj,cpO,g,rfl,hrow⟩:=Qy HB.out hown;have HP0:Hid (Pass (ae rs) n true (FQ (au (ae rs)))):=Pass.zero hn;have VD:=az hrow;have hn36:n≤36:=by rw [hn]; exact HN36.out
    have WC:Hid (n=(au (ae rs)).length):=hn;rw [Ej,← hn];clear hown HOW hrow hn WJ HN36 HB;go_wp2_with fail;go_loopw [7] (fun m w1=>∃ (mb:Bool) (out:List St),m=.bool mb∧Hid (Pass (ae rs) n mb out)∧Hid (RowS w w1 Wj g out)) (fun m w1=>CQ w1 g n m);case atStart=>exact ⟨true,_,rfl,HP0,VD⟩
    clear HP0 VD;obtain ⟨mb,oS,rfl,WY,HRS⟩:=hrel;cases mb;case false=>
      go_wp2;exact bodyPost_ret (v:=.tuple #[.slice Wj n cpO,.bool true]) (by simp [results,Tryz.results96,go_sem]) rfl ⟨.inl ⟨Wj,cpO,oS,by rw [WY.out.len],HRS.out.slN,WY.out.round.keys,WY.out.least⟩,HRS.out.below⟩
    have WQ:Hid (oS.length=n):=WY.out.len;have HM0:Hid (Mid (ae rs) n oS 0 0 false oS):=Mid.start WY.out.len WY.out.nn WY.out.round WY.out.le;obtain ⟨w0,hw0⟩:∃ w0,w0=wr:=⟨_,rfl⟩;subst hw0;go_wp2_with fail;go_loopw [7,8] (fun m i w1=>∃ (mb:Bool) (k:Nat) (out:List St),m=.bool mb∧k≤n∧i=.int .i64 k∧Hid (Mid (ae rs) n oS k 0 mb out)∧Hid (RowS w w1 Wj g out)) (fun _ i _=>n - (intOf i).toNat);case atStart=>exact ⟨false,0,oS,rfl,TW _,rfl,HM0,HRS⟩
    clear HM0;obtain ⟨mb,k,out,rfl,hk,rfl,HM,HR⟩:=hrel;by_cases hlt:k < n
    · have hko:k < out.length:=by rw [HM.out.len]; exact hlt
      have hke:k < (au (ae rs)).length:=by rw [← WC.out]; exact hlt
      have hk1:=bB k;have hk2:(k:Int) < (n:Int):=by omega
      rcases HR.out.at' with e | ⟨rfl,hgw,hgl,hO,-⟩
      · rw [e] at hko; simp at hko
      obtain ⟨c0,c1,c2⟩:=hO k hko;have Y6:Hid (out[k].key=(au (ae rs))[k]):=HM.out.key hko hke;have UG:∀ w',ag wr w'→kX w' ad rs:=fun w' h=>HS.out.below (HR.out.below.trans (h.mono HR.out.below.size));have c3:wr.drew.cell? ⟨g,k * 3,none⟩=some (.string out[k].typ)∧wr.drew.cell? ⟨g,k * 3 + 1,none⟩=some (.string out[k].rel)∧g < wr.drew.heap.size∧ag wr wr.drew:=⟨c0,c1,hgl,(TT _ _).drew⟩;clear hO c2;go_wp2_with fail
      go_region_held3 (fun w'=>w'.cell? ⟨g,k * 3,none⟩=some (.string out[k].typ)∧w'.cell? ⟨g,k * 3 + 1,none⟩=some (.string out[k].rel)∧g < w'.heap.size∧ag wr w')
        (first | exact c3 | assumption | exact keepD (by assumption) hbx)
        (first | (go_at_call 97; refine (jd ad cap rs _ _ _ (by omega) (UG _ (by first | assumption | exact c3.2.2.2)) HL.out).mono ?_; rintro e w' ⟨⟨rows,UD,capE,rfl,hex,hse,hfs⟩,rfl⟩) | (go_at_call 139; refine (IC ad UD cap capE rs _ rows _ (by omega) (UG _ (by first | assumption | exact c3.2.2.2)) HL.out (hfs.small Wi.out).1 hse (hfs.light HL.out).2 (hfs.small Wi.out).2 (zY rs HL.out _ rows (hfs.small Wi.out).1 (hfs.light HL.out).2)).mono ?_; rintro e w' ⟨⟨v,rfl,hown⟩,hbx⟩))
      rename_i hHeld;have VS:Hid (ag wr w'):=hHeld.2.2.2;have UU:Hid (RowS w w' (some ⟨g,0,none⟩) g out):=HR.out.kept hHeld.2.2.2;have HDK:Hid (pR (ae rs) out[k].typ (ak rows)=il (ae rs) (au (ae rs))[k]):=by
        show _=_;rw [← Y6.out,hex]; rfl
      obtain ⟨ds,hds⟩:∃ ds,ds=il (ae rs) (au (ae rs))[k]:=⟨_,rfl⟩;rw [HDK.out,← hds] at hown;obtain ⟨adD,cpD,rfl,hD⟩:=Tm hown;have HD5:=az hD;have hdl:ds.length≤100000000:=by
        have:=zY rs HL.out out[k].typ rows (hfs.small Wi.out).1 (hfs.light HL.out).2 (ak rows).length;have e:=HDK.out;unfold pR at e;rw [e,← hds] at this;exact this
      have HDS:Hid (ds=il (ae rs) (au (ae rs))[k]):=hds;have HKM:Hid ((au (ae rs))[k] ∈ au (ae rs)):=TQ hke;clear hHeld hown hD hds HDK c0 c1 c3 hex hse hfs hbx UG Y6;obtain ⟨wq,hwq⟩:∃ wq,wq=wr:=⟨_,rfl⟩;subst hwq;go_wp2_with fail;go_loopw [7,10] (fun m i w2=>∃ (mb:Bool) (j:Nat) (o2:List St),m=.bool mb∧j≤ds.length∧i=.int .i64 j∧Hid (Mid (ae rs) n oS k j mb o2)∧Hid (RowS w w2 (some ⟨g,0,none⟩) g o2)∧Hid (Rt w2 wq.heap.size adD ds)) (fun _ i _=>ds.length - (intOf i).toNat);case atStart=>exact ⟨mb,0,out,rfl,TW _,rfl,HM,UU,HD5⟩
      clear HM HR UU HD5 VS;obtain ⟨mc,j,o2,rfl,hj,rfl,Vf,HR2,HD2⟩:=hrel;have VM:k < o2.length:=by rw [Vf.out.len]; exact hlt
      rcases HR2.out.at' with e | ⟨-,hgw2,hgl2,hO2,hfz2⟩
      · rw [e] at VM; simp at VM
      have f2:=hfz2 (k * 3 + 2);obtain ⟨z0,z1,z2⟩:=hO2 k VM;by_cases hjl:j < ds.length
      · rcases HD2.out with e | ⟨bd,rfl,hbd,hbl,hDc⟩
        · rw [e] at hjl; simp at hjl
        obtain ⟨x0,x1,x2⟩:=hDc j hjl;have HKE2:Hid (o2[k].key=(au (ae rs))[k]):=Vf.out.key VM hke;have HDJ:Hid ((il (ae rs) o2[k].key)[j]?=some ds[j]):=by
          show _=_;rw [HKE2.out,← HDS.out]; exact TY hjl
        have HDF:Hid ((ds[j].typ,ds[j].rel) ∈ au (ae rs)):=HF.out _ HKM.out ds[j] (by rw [← HDS.out]; exact TQ hjl);obtain ⟨i,hi2,hat,hin,hpos,hub⟩:=Vf.out.at _ HDF.out;obtain ⟨y0,y1,y2⟩:=hO2 i hi2;have hi3:i < n:=by rw [← Vf.out.len]; exact hi2
        have HW:Hid (pg o2 ds[j]=fO o2 (ds[j].typ,ds[j].rel) + stepOf ds[j]):=rfl;have HL2:Hid (o2.length=n):=Vf.out.len;have HSN:Hid (Iz wr (some ⟨g,0,none⟩) o2):=HR2.out.slN;rw [hin] at y2;obtain ⟨x,hx⟩:∃ x,x=fO o2 (ds[j].typ,ds[j].rel):=⟨_,rfl⟩;have HX:Hid (pg o2 ds[j]=x + stepOf ds[j]):=by rw [hx]; exact HW
        rw [← hx] at hpos hub y2;obtain ⟨kn,hkn⟩:∃ kn,kn=o2[k].n:=⟨_,rfl⟩;rw [← hkn] at z2;have ZW:Hid (kn=o2[k].n):=hkn;have hkn1:0≤kn:=by rw [hkn]; exact Vf.out.round.pos _ (TQ VM)
        have hkn2:kn≤n + 1 + j:=by rw [hkn]; exact Vf.out.lek VM
        have hj1:=bB j;have hj2:(j:Int) < (ds.length:Int):=by omega
        have hi4:=bB i;have hi5:(i:Int) < (n:Int):=by omega
        have HAT:Hid (gT ds[j].typ ds[j].rel o2 0=(i:Int)):=hat;have hx5:(2:Int) < 5:=by omega
        clear hfz2 hO2 hDc hx hkn hin y0 y1 hi2 HW hat z0 z1;go_wp2_with fail
        go_region_held3 (fun w'=>w'.cell? ⟨bd,j * 3,none⟩=some (.string ds[j].typ)∧w'.cell? ⟨bd,j * 3 + 1,none⟩=some (.string ds[j].rel)∧w'.cell? ⟨g,i * 3 + 2,none⟩=some (.int .i64 x))
          (first | assumption | exact ⟨x0,x1,y2⟩)
          (first | (go_at_call 140; refine (Sd (some ⟨g,0,none⟩) cpO n o2 (ds[j].typ,ds[j].rel) _ HL2.out (by omega) (by first | exact HSN.out | assumption) i HAT.out).mono ?_; rintro e w' ⟨rfl,rfl⟩))
        rename_i hHeld2;have HR3:Hid (RowS w wr.drew (some ⟨g,0,none⟩) g o2):=HR2.out.kept ((TT _ _).drew);have HD3:Hid (Rt wr.drew wq.heap.size (some ⟨bd,0,none⟩) ds):=HD2.out;clear hHeld2 x0 x1 y2;cases hneg:ds[j].neg
        case' true =>
          have Xm:Hid (pg o2 ds[j]=x + 1):=by show _=_; rw [HX.out]; simp [stepOf,hneg]
          rw [hneg] at x2;by_cases hgt:kn < x + 1
          · have Yc:Hid (Mid (ae rs) n oS k (j + 1) true (o2.set k ⟨o2[k].typ,o2[k].rel,x + 1⟩)):=by
              have:=Vf.out.yes HF.out VM ds[j] HDJ.out (by rw [Xm.out,← ZW.out]; exact hgt);rw [Xm.out] at this; exact this
            have HR4:Hid (RowS w (wr.drew.setCell ⟨g,k * 3 + 2,none⟩ (.int .i64 (x + 1))) (some ⟨g,0,none⟩) g (o2.set k ⟨o2[k].typ,o2[k].rel,x + 1⟩)):=HR3.out.set VM (x + 1);have HD4:Hid (Rt (wr.drew.setCell ⟨g,k * 3 + 2,none⟩ (.int .i64 (x + 1))) wq.heap.size (some ⟨bd,0,none⟩) ds):=HD3.out.set hgl;clear Vf HR2 HR3 HD2 HD3;go_wp2;go_roundw;case rel=>exact ⟨true,j + 1,_,rfl,by omega,by go_num,Yc,HR4,HD4⟩
            simp [intOf] <;> omega
        case' false =>
          have Xm:Hid (pg o2 ds[j]=x):=by show _=_; rw [HX.out]; simp [stepOf,hneg]
          rw [hneg] at x2;by_cases hgt:kn < x
          · have Yc:Hid (Mid (ae rs) n oS k (j + 1) true (o2.set k ⟨o2[k].typ,o2[k].rel,x⟩)):=by
              have:=Vf.out.yes HF.out VM ds[j] HDJ.out (by rw [Xm.out,← ZW.out]; exact hgt);rw [Xm.out] at this; exact this
            have HR4:Hid (RowS w (wr.drew.setCell ⟨g,k * 3 + 2,none⟩ (.int .i64 (x))) (some ⟨g,0,none⟩) g (o2.set k ⟨o2[k].typ,o2[k].rel,x⟩)):=HR3.out.set VM (x);have HD4:Hid (Rt (wr.drew.setCell ⟨g,k * 3 + 2,none⟩ (.int .i64 (x))) wq.heap.size (some ⟨bd,0,none⟩) ds):=HD3.out.set hgl;clear Vf HR2 HR3 HD2 HD3;go_wp2;go_roundw;case rel=>exact ⟨true,j + 1,_,rfl,by omega,by go_num,Yc,HR4,HD4⟩
            simp [intOf] <;> omega
        all_goals
          · have Yc:Hid (Mid (ae rs) n oS k (j + 1) mc o2):=Vf.out.no VM ds[j] HDJ.out (by rw [Xm.out,← ZW.out]; omega);clear Vf HR2 HD2;go_wp2;go_roundw;case rel=>exact ⟨mc,j + 1,o2,rfl,by omega,by go_num,Yc,HR3,HD3⟩
            simp [intOf] <;> omega
      · obtain rfl:j=ds.length:=by omega
        have HKE2:Hid (o2[k].key=(au (ae rs))[k]):=Vf.out.key VM hke;have HJ:Hid (ds.length=(il (ae rs) o2[k].key).length):=by show _=_; rw [HKE2.out,← HDS.out]
        clear z0 z1 hO2 hfz2 f2;by_cases hov:(n:Int) < o2[k].n
        · have Wz:Hid (¬ ∃ f,Sol (ae rs) f):=Vf.out.over HF.out VM hov;have hkn2:o2[k].n≤n + 1 + ds.length:=Vf.out.lek VM;go_wp2;exact bodyPost_ret (v:=.tuple #[.slice none 0 0,.bool false]) (by simp [results,Tryz.results96,go_sem]) rfl ⟨.inr ⟨rfl,Wz.out⟩,HR2.out.below⟩
        · have Yc:Hid (Mid (ae rs) n oS (k + 1) 0 mc o2):=Vf.out.next VM HJ.out (by omega);clear Vf;go_wp2;go_roundw;case rel=>exact ⟨mc,k + 1,o2,rfl,by omega,by go_num,Yc,HR2⟩
          simp [intOf] <;> omega
    · obtain rfl:k=n:=by omega
      have UI:Hid (Pass (ae rs) k mb out):=HM.out.done rfl;have HLS:Hid (CQ wr g k (.bool mb) < CQ w0 g k (.bool true)):=IK HRS.out HR.out HM.out WQ.out;go_wp2;go_roundw;case rel=>exact ⟨mb,out,rfl,UI,HR⟩
      exact HLS.out
end Go.Proofs.YtajkkeikihhejaaGreat
