/- An expression that was answered: it may be marked, and its marks are held; it is not touched by what is done to older blocks. -/
import Derived.Test.YtdaoiceeidoehaaGreatToOwn
import Derived.Test.YtdaoiceeidoehaaGreatSzW
import Derived.OpenShut
import Derived.ShutString
import Derived.ChangeOld
import Derived.Lib.SmallJoins
import Derived.ChangeSlices
import Derived.Deep.Slices
import Derived.Deep.Strs
open Go.Proofs.Tryz
set_option maxHeartbeats 80000000
namespace Go.Proofs.YtdaoiceeidoehaaGreat
open Go.ChangeShapes Go.WideShapes Go.ChangeAt Go.RowKit
open Pl
def IP (m:Nat) (w:World) (ad:Option Addr) (qs:List ER):Prop:=qs ≠ []→∃ b,ad=some ⟨b,0,none⟩∧m≤b∧b < w.heap.size∧uQ b w qs∧dL w b
theorem IP.chg {S:Nat→Prop} {m:Nat} {w w':World} {ad:Option Addr} {qs:List ER} (h:IP m w ad qs) (hc:Chg S w w'):IP m w' ad qs:=fun hne=>by
 obtain ⟨b,e,h1,h2,h3,h4⟩:=h hne;exact ⟨b,e,h1,RZ h2 hc.size,h3.chg hc,hc.free b h2 h4⟩
theorem Oj:∀ {xs ys:List ER},ah xs=ah ys→wE xs=wE ys
 | [],[],_=>rfl
 | [],y::ys,h=>by simp [ah] at h
 | x::xs,[],h=>by simp [ah] at h
 | x::xs,y::ys,h=>by
  simp only [ah,List.map_cons,List.cons.injEq] at h;simp only [wE];rw [h.1,Oj (xs:=xs) (ys:=ys) h.2]
theorem Ol:∀ {xs ys:List RR},dz xs=dz ys→wR xs=wR ys
 | [],[],_=>rfl
 | [],y::ys,h=>by simp [dz] at h
 | x::xs,[],h=>by simp [dz] at h
 | x::xs,y::ys,h=>by
  simp only [dz,List.map_cons,List.cons.injEq] at h;simp only [wR];have e:ah x.rows=ah y.rows:=by have:=h.1; simp only [RR.p,Rl.mk.injEq] at this; exact this.2
  rw [Oj e,Ol (xs:=xs) (ys:=ys) h.2]
theorem IQ:∀ {xs ys:List TR},ae xs=ae ys→wT xs=wT ys
 | [],[],_=>rfl
 | [],y::ys,h=>by simp [ae] at h
 | x::xs,[],h=>by simp [ae] at h
 | x::xs,y::ys,h=>by
  simp only [ae,List.map_cons,List.cons.injEq] at h;simp only [wT];have e:dz x.rows=dz y.rows:=by have:=h.1; simp only [TR.p,Ty.mk.injEq] at this; exact this.2
  rw [Ol e,IQ (xs:=xs) (ys:=ys) h.2]
theorem PW (b cap:Nat) (rs:List TR) (w:World) (hs:jd w (some ⟨b,0,none⟩) rs) (hb:b < w.heap.size) (ho:uR b w rs) (hf:dL w b) (hl:∀ r ∈ rs,r.light) (hlen:rs.length≤1048576) (h1:1 + wT rs≤1000000000) :
  Calls prog 23 #[.slice (some ⟨b,0,none⟩) rs.length cap,.int .i64 1] w fun e w'=>e=.returned (.int .i64 ((1 + wT rs:Nat):Int))∧Chg (IK b rs) w w':=by
 by_cases hz:rs=[]
 ·subst hz;refine (Ae 1 _ cap w).mono ?_;rintro e w' ⟨rfl,rfl⟩;exact ⟨rfl,Chg.refl _ _⟩
 rcases hs with h | ⟨b',off,e',hb',hr,hk⟩
 ·exact absurd h hz
 injection e' with e'; injection e' with e1 e2;subst e1; subst e2;exact Af b cap rs 1 w hb (fun x hx=>⟨by have:=hr x hx; rwa [Su] at this,hk _ (RY hx)⟩) ho.1 (fun g hg=>by
  rcases hg with rfl | ⟨q,hq,h2⟩
  ·exact ⟨hb,hf⟩
  ·exact (ho.2 q hq g h2).2) hl hlen (by omega) h1
open Go.Deep Go.Joins
theorem l8 (b off x:Nat):(⟨b,off,none⟩:Addr).add x=⟨b,off + x,none⟩:=by
 unfold Addr.add;by_cases h:x=0
 ·subst h; simp
 ·simp [h]
theorem pV:prog.cellsOf 9=1:=by kernel_rfl
theorem FV:prog.cellsOf 2=1:=by kernel_rfl
theorem JA:prog.cellsOf 260=2:=by kernel_rfl
theorem Om:prog.cellsOf 228=1:=by kernel_rfl
theorem Oo:prog.cellsOf 164=1:=by kernel_rfl
theorem JB:prog.cellsOf 230=5:=by kernel_rfl
section
variable {H:Type} {enc:TypeId × Value→H} {W:World} {base:Nat} {sp:Nat→Bool} {held:Bool}
theorem Dy {P:Program} {w:World} {t:TypeId} {f0 f1 f2 f3 f4:Field} {fuel:Nat} {cs:List Value} {x:DataW H × List MemPlace} (ht:P.underlying t=some (.struct #[f0,f1,f2,f3,f4])) (h:DataW.trod enc P w base sp held fuel t cs=some x) :
  ∃ (y0 y1 y2 y3 y4:DataW H × List MemPlace) (n:Nat),cs.length=P.cellsOf t ∧
   DataW.trod enc P w base sp held n f0.type ((cs.drop f0.offset).take (P.cellsOf f0.type))=some y0 ∧
   DataW.trod enc P w base sp held n f1.type ((cs.drop f1.offset).take (P.cellsOf f1.type))=some y1 ∧
   DataW.trod enc P w base sp held n f2.type ((cs.drop f2.offset).take (P.cellsOf f2.type))=some y2 ∧
   DataW.trod enc P w base sp held n f3.type ((cs.drop f3.offset).take (P.cellsOf f3.type))=some y3 ∧
   DataW.trod enc P w base sp held n f4.type ((cs.drop f4.offset).take (P.cellsOf f4.type))=some y4:=by
 obtain ⟨xs,n,_,rfl,hl,hlen,hf⟩:=DataW.trod_struct ht h
 match xs,hlen with
 | [y0,y1,y2,y3,y4],_=>exact ⟨y0,y1,y2,y3,y4,n,hl,by simpa using hf 0 f0 rfl,by simpa using hf 1 f1 rfl,by simpa using hf 2 f2 rfl,by simpa using hf 3 f3 rfl,by simpa using hf 4 f4 rfl⟩
set_option maxRecDepth 100000 in
theorem PX {fuel:Nat} {cs:List Value} {x:DataW H × List MemPlace} (h:DataW.trod enc prog W base sp held fuel 260 cs=some x):∃ a:Al,cs=[.string a.t,.string a.s]∧a.fits:=by
 obtain ⟨y0,y1,n,-,hl,h0,h1⟩:=trod_struct2 underlying260 h;rw [JA] at hl
 match cs,hl with
 | [c0,c1],_ =>
  simp only [pV,List.drop_zero,List.drop_succ_cons,List.take_succ_cons,List.take_zero] at h0 h1;obtain ⟨a,e0,-,wa⟩:=DataW.trod_string underlying9 h0;obtain ⟨b,e1,-,wb⟩:=DataW.trod_string underlying9 h1;simp at e0 e1;subst e0 e1;exact ⟨⟨a,b⟩,rfl,wa,wb⟩
theorem Oq {fuel:Nat} {cs:List Value} {x:DataW H × List MemPlace} (h:DataW.trod enc prog W base sp held fuel 228 cs=some x) :
  ∃ (ad:Option Addr) (cap:Nat) (xs:List Al),cs=[.slice ad xs.length cap]∧iy W ad xs∧(∀ a ∈ xs,a.fits)∧xs.length≤maxLen:=by
 rcases open_slice underlying228 h with ⟨hcs,-⟩ | ⟨a,len,cap,m,n,D,Pl,hcs,-,hlc,hcm,hm,-,hel⟩
 ·exact ⟨none,0,[],hcs,.inl rfl,(fun a ha=>by cases ha),by unfold maxLen; simp⟩
 ·have hle:len≤m:=by rw [hm]; split <;> omega
  by_cases h0:len=0
  ·subst h0;exact ⟨some a,cap,[],hcs,.inl rfl,(fun a ha=>by cases ha),by unfold maxLen; simp⟩
  have key:∀ i,i < len→∃ t:Al,(∀ j,j < 2→W.cell? ((a.add (i * 2)).add j)=[Value.string t.t,.string t.s][j]?)∧t.fits:=by
   intro i hi;obtain ⟨cs',hc,hd⟩:=hel i (by omega);rw [JA] at hc;obtain ⟨t,rfl,hh⟩:=PX hd;exact ⟨t,fun j hj=>(World.cells?_some hc).2.2 j hj,hh⟩
  have hspot:a.spot=none:=by
   obtain ⟨t,ht,-⟩:=key 0 (by omega);have:=ht 0 (by omega);have e:(a.add (0 * 2)).add 0=a:=by simp [Addr.add]
   rw [e] at this;exact World.cell?_spot this
  obtain ⟨b,off,spot⟩:=a;simp only at hspot;subst hspot;obtain ⟨f,hf⟩:=@choose_lt Al ⟨⟨⟨#[]⟩,⟨#[]⟩⟩⟩ len _ key;have at2:∀ i,i < len→OB W b (off + i * 2) (f i):=by
   intro i hi;obtain ⟨hc,-⟩:=hf i hi;simp only [l8] at hc;exact ⟨hc 0 (by omega),hc 1 (by omega)⟩
  refine ⟨some ⟨b,off,none⟩,cap,(List.range len).map f,by simpa using hcs,.inr ⟨b,off,rfl,?_,?_⟩,?_,by simp; omega⟩
  ·exact World.block_lt_of_cell? W ⟨b,off + 0 * 2,none⟩ (at2 0 (by omega)).1
  ·intro i hi;have hi':i < len:=by simpa using hi
   simpa using at2 i hi'
  ·intro t ht;simp only [Sa,List.mem_range] at ht;obtain ⟨i,hi,rfl⟩:=ht;exact (hf i hi).2
theorem Lh {fuel:Nat} {cs:List Value} {x:DataW H × List MemPlace} (h:DataW.trod enc prog W base sp held fuel 164 cs=some x) :
  ∃ (ad:Option Addr) (cap:Nat) (zs:List Int),cs=[.slice ad zs.length cap]∧lF W ad zs∧zs.length≤maxLen:=by
 rcases open_ints underlying164 underlying2 FV h with ⟨hcs,-⟩ | ⟨a,len,cap,zs,hcs,-,hlc,hcm,hm,-,hel,-⟩
 ·exact ⟨none,0,[],hcs,.inl rfl,by unfold maxLen; simp⟩
 ·have hle:len≤zs.length:=by rw [hm]; split <;> omega
  by_cases h0:len=0
  ·subst h0;exact ⟨some a,cap,[],hcs,.inl rfl,by unfold maxLen; simp⟩
  have hspot:a.spot=none:=by
   have:=hel 0 (by omega);have e:a.add 0=a:=by simp [Addr.add]
   rw [e] at this;exact World.cell?_spot this
  obtain ⟨b,off,spot⟩:=a;simp only at hspot;subst hspot;simp only [l8] at hel;have hl:(zs.take len).length=len:=by simp; omega
  refine ⟨some ⟨b,off,none⟩,cap,zs.take len,by rw [hl]; exact hcs,.inr ⟨b,off,rfl,?_,?_⟩,by omega⟩
  ·exact World.block_lt_of_cell? W ⟨b,off + 0,none⟩ (hel 0 (by omega))
  ·intro i hi;have hi':i < zs.length:=by omega
   rw [hel i hi',List.getElem_take];simp [hi']
set_option maxRecDepth 100000 in
theorem PY {fuel:Nat} {cs:List Value} {x:DataW H × List MemPlace} (h:DataW.trod enc prog W base sp held fuel 230 cs=some x) :
  ∃ r:ER,cs=[.int .i64 r.e.kind,.slice r.adA r.e.allow.length r.capA,.string r.e.over,.string r.e.name,.slice r.adK r.e.kids.length r.capK]∧r.ok W∧r.e.fits:=by
 obtain ⟨y0,y1,y2,y3,y4,n,hl,h0,h1,h2,h3,h4⟩:=Dy underlying230 h;rw [JB] at hl
 match cs,hl with
 | [c0,c1,c2,c3,c4],_ =>
  simp only [pV,FV,Om,Oo,List.drop_zero,List.drop_succ_cons,List.take_succ_cons,List.take_zero] at h0 h1 h2 h3 h4;obtain ⟨k,e0,-,-⟩:=DataW.trod_int underlying2 h0;obtain ⟨adA,capA,xs,e1,hA,fA,lA⟩:=Oq h1;obtain ⟨o,e2,-,wo⟩:=DataW.trod_string underlying9 h2;obtain ⟨nm,e3,-,wn⟩:=DataW.trod_string underlying9 h3;obtain ⟨adK,capK,zs,e4,hK,lK⟩:=Lh h4;simp at e0 e1 e2 e3 e4;subst e0 e1 e2 e3 e4;exact ⟨⟨⟨k,xs,o,nm,zs⟩,adA,capA,adK,capK⟩,rfl,⟨hA,hK⟩,fA,wo,wn,lA,lK⟩
theorem IR {fuel:Nat} {ad:Option Addr} {len cap:Nat} {x:DataW H × List MemPlace} (h:DataW.trod enc prog W base sp held fuel 155 [.slice ad len cap]=some x) :
  ∃ rs:List ER,rs.length=len∧eX W ad rs∧(∀ r ∈ rs,r.e.fits)∧len≤maxLen:=by
 rcases open_slice underlying155 h with ⟨hcs,-⟩ | ⟨a,l,c,m,n,D,Pl,hcs,-,hlc,hcm,hm,-,hel⟩
 ·simp at hcs;obtain ⟨rfl,rfl,rfl⟩:=hcs;exact ⟨[],rfl,.inl rfl,(fun t ht=>by cases ht),by unfold maxLen; omega⟩
 ·simp at hcs;obtain ⟨rfl,rfl,rfl⟩:=hcs;have hle:len≤m:=by rw [hm]; split <;> omega
  by_cases h0:len=0
  ·subst h0;exact ⟨[],rfl,.inl rfl,(fun t ht=>by cases ht),by omega⟩
  have key:∀ i,i < len→∃ r:ER,(∀ j,j < 5→W.cell? ((a.add (i * 5)).add j)=[Value.int .i64 r.e.kind,.slice r.adA r.e.allow.length r.capA,.string r.e.over,.string r.e.name,.slice r.adK r.e.kids.length r.capK][j]?)∧r.ok W∧r.e.fits:=by
   intro i hi;obtain ⟨cs',hc,hd⟩:=hel i (by omega);rw [JB] at hc;obtain ⟨r,rfl,hh⟩:=PY hd;exact ⟨r,fun j hj=>(World.cells?_some hc).2.2 j hj,hh⟩
  have hspot:a.spot=none:=by
   obtain ⟨t,ht,-⟩:=key 0 (by omega);have:=ht 0 (by omega);have e:(a.add (0 * 5)).add 0=a:=by simp [Addr.add]
   rw [e] at this;exact World.cell?_spot this
  obtain ⟨b,off,spot⟩:=a;simp only at hspot;subst hspot;obtain ⟨f,hf⟩:=@choose_lt ER ⟨⟨⟨0,[],⟨#[]⟩,⟨#[]⟩,[]⟩,none,0,none,0⟩⟩ len _ key;have at5:∀ i,i < len→sP W b (off + i * 5) (f i):=by
   intro i hi;obtain ⟨hc,-⟩:=hf i hi;simp only [l8] at hc;exact ⟨hc 0 (by omega),hc 1 (by omega),hc 2 (by omega),hc 3 (by omega),hc 4 (by omega)⟩
  refine ⟨(List.range len).map f,by simp,.inr ⟨b,off,rfl,?_,?_,?_⟩,?_,by omega⟩
  ·exact World.block_lt_of_cell? W ⟨b,off + 0 * 5,none⟩ (at5 0 (by omega)).1
  ·intro i hi;have hi':i < len:=by simpa using hi
   simpa using at5 i hi'
  ·intro t ht;simp only [Sa,List.mem_range] at ht;obtain ⟨i,hi,rfl⟩:=ht;exact (hf i hi).2.1
  ·intro t ht;simp only [Sa,List.mem_range] at ht;obtain ⟨i,hi,rfl⟩:=ht;exact (hf i hi).2.2
end
section
variable {H:Type} {enc:TypeId × Value→H} {W:World} {base:Nat} {sp:Nat→Bool} {held:Bool}
theorem JC:prog.cellsOf 157=2:=by kernel_rfl
theorem Li:prog.cellsOf 155=1:=by kernel_rfl
set_option maxRecDepth 100000 in
theorem QV {fuel:Nat} {cs:List Value} {x:DataW H × List MemPlace} (h:DataW.trod enc prog W base sp held fuel 157 cs=some x) :
  ∃ r:RR,cs=[.string r.name,.slice r.ad r.rows.length r.cap]∧r.ok W∧r.fits:=by
 obtain ⟨y0,y1,n,-,hl,h0,h1⟩:=trod_struct2 underlying157 h;rw [JC] at hl
 match cs,hl with
 | [c0,c1],_ =>
  simp only [pV,Li,List.drop_zero,List.drop_succ_cons,List.take_succ_cons,List.take_zero] at h0 h1;obtain ⟨a,e0,-,wa⟩:=DataW.trod_string underlying9 h0;obtain ⟨ad,len,cap,e1⟩:∃ ad len cap,c1=.slice ad len cap:=by
   rcases open_slice underlying155 h1 with ⟨hcs,-⟩ | ⟨a,l,c,m,n,D,Pl,hcs,-⟩
   ·simp at hcs; exact ⟨_,_,_,hcs⟩
   ·simp at hcs; exact ⟨_,_,_,hcs⟩
  simp at e0;subst e0 e1;obtain ⟨rs,rfl,hs,hf,hm⟩:=IR h1;exact ⟨⟨a,rs,ad,cap⟩,rfl,hs,wa,hm,hf⟩
theorem Lj {fuel:Nat} {ad:Option Addr} {len cap:Nat} {x:DataW H × List MemPlace} (h:DataW.trod enc prog W base sp held fuel 57 [.slice ad len cap]=some x) :
  ∃ rs:List RR,rs.length=len∧zz W ad rs∧(∀ r ∈ rs,r.fits)∧len≤maxLen:=by
 rcases open_slice underlying57 h with ⟨hcs,-⟩ | ⟨a,l,c,m,n,D,Pl,hcs,-,hlc,hcm,hm,-,hel⟩
 ·simp at hcs;obtain ⟨rfl,rfl,rfl⟩:=hcs;exact ⟨[],rfl,.inl rfl,(fun t ht=>by cases ht),by unfold maxLen; omega⟩
 ·simp at hcs;obtain ⟨rfl,rfl,rfl⟩:=hcs;have hle:len≤m:=by rw [hm]; split <;> omega
  by_cases h0:len=0
  ·subst h0;exact ⟨[],rfl,.inl rfl,(fun t ht=>by cases ht),by omega⟩
  have key:∀ i,i < len→∃ r:RR,(∀ j,j < 2→W.cell? ((a.add (i * 2)).add j)=[Value.string r.name,.slice r.ad r.rows.length r.cap][j]?)∧r.ok W∧r.fits:=by
   intro i hi;obtain ⟨cs',hc,hd⟩:=hel i (by omega);rw [JC] at hc;obtain ⟨r,rfl,hh⟩:=QV hd;exact ⟨r,fun j hj=>(World.cells?_some hc).2.2 j hj,hh⟩
  have hspot:a.spot=none:=by
   obtain ⟨t,ht,-⟩:=key 0 (by omega);have:=ht 0 (by omega);have e:(a.add (0 * 2)).add 0=a:=by simp [Addr.add]
   rw [e] at this;exact World.cell?_spot this
  obtain ⟨b,off,spot⟩:=a;simp only at hspot;subst hspot;obtain ⟨f,hf⟩:=@choose_lt RR ⟨⟨⟨#[]⟩,[],none,0⟩⟩ len _ key;have at2:∀ i,i < len→AtR W b (off + i * 2) (f i):=by
   intro i hi;obtain ⟨hc,-⟩:=hf i hi;simp only [l8] at hc;exact ⟨hc 0 (by omega),hc 1 (by omega)⟩
  refine ⟨(List.range len).map f,by simp,.inr ⟨b,off,rfl,?_,?_,?_⟩,?_,by omega⟩
  ·exact World.block_lt_of_cell? W ⟨b,off + 0 * 2,none⟩ (at2 0 (by omega)).1
  ·intro i hi;have hi':i < len:=by simpa using hi
   simpa using at2 i hi'
  ·intro t ht;simp only [Sa,List.mem_range] at ht;obtain ⟨i,hi,rfl⟩:=ht;exact (hf i hi).2.1
  ·intro t ht;simp only [Sa,List.mem_range] at ht;obtain ⟨i,hi,rfl⟩:=ht;exact (hf i hi).2.2
theorem JD:prog.cellsOf 59=2:=by kernel_rfl
theorem Ll:prog.cellsOf 57=1:=by kernel_rfl
set_option maxRecDepth 100000 in
theorem QW {fuel:Nat} {cs:List Value} {x:DataW H × List MemPlace} (h:DataW.trod enc prog W base sp held fuel 59 cs=some x) :
  ∃ r:TR,cs=[.string r.name,.slice r.ad r.rows.length r.cap]∧r.ok W∧r.fits:=by
 obtain ⟨y0,y1,n,-,hl,h0,h1⟩:=trod_struct2 underlying59 h;rw [JD] at hl
 match cs,hl with
 | [c0,c1],_ =>
  simp only [pV,Ll,List.drop_zero,List.drop_succ_cons,List.take_succ_cons,List.take_zero] at h0 h1;obtain ⟨a,e0,-,wa⟩:=DataW.trod_string underlying9 h0;obtain ⟨ad,len,cap,e1⟩:∃ ad len cap,c1=.slice ad len cap:=by
   rcases open_slice underlying57 h1 with ⟨hcs,-⟩ | ⟨a,l,c,m,n,D,Pl,hcs,-⟩
   ·simp at hcs; exact ⟨_,_,_,hcs⟩
   ·simp at hcs; exact ⟨_,_,_,hcs⟩
  simp at e0;subst e0 e1;obtain ⟨rs,rfl,hs,hf,hm⟩:=Lj h1;exact ⟨⟨a,rs,ad,cap⟩,rfl,hs,wa,hm,hf⟩
theorem IU {fuel:Nat} {ad:Option Addr} {len cap:Nat} {x:DataW H × List MemPlace} (h:DataW.trod enc prog W base sp held fuel 22 [.slice ad len cap]=some x) :
  ∃ rs:List TR,rs.length=len∧jd W ad rs∧(∀ r ∈ rs,r.fits)∧len≤maxLen:=by
 rcases open_slice underlying22 h with ⟨hcs,-⟩ | ⟨a,l,c,m,n,D,Pl,hcs,-,hlc,hcm,hm,-,hel⟩
 ·simp at hcs;obtain ⟨rfl,rfl,rfl⟩:=hcs;exact ⟨[],rfl,.inl rfl,(fun t ht=>by cases ht),by unfold maxLen; omega⟩
 ·simp at hcs;obtain ⟨rfl,rfl,rfl⟩:=hcs;have hle:len≤m:=by rw [hm]; split <;> omega
  by_cases h0:len=0
  ·subst h0;exact ⟨[],rfl,.inl rfl,(fun t ht=>by cases ht),by omega⟩
  have key:∀ i,i < len→∃ r:TR,(∀ j,j < 2→W.cell? ((a.add (i * 2)).add j)=[Value.string r.name,.slice r.ad r.rows.length r.cap][j]?)∧r.ok W∧r.fits:=by
   intro i hi;obtain ⟨cs',hc,hd⟩:=hel i (by omega);rw [JD] at hc;obtain ⟨r,rfl,hh⟩:=QW hd;exact ⟨r,fun j hj=>(World.cells?_some hc).2.2 j hj,hh⟩
  have hspot:a.spot=none:=by
   obtain ⟨t,ht,-⟩:=key 0 (by omega);have:=ht 0 (by omega);have e:(a.add (0 * 2)).add 0=a:=by simp [Addr.add]
   rw [e] at this;exact World.cell?_spot this
  obtain ⟨b,off,spot⟩:=a;simp only at hspot;subst hspot;obtain ⟨f,hf⟩:=@choose_lt TR ⟨⟨⟨#[]⟩,[],none,0⟩⟩ len _ key;have at2:∀ i,i < len→LD W b (off + i * 2) (f i):=by
   intro i hi;obtain ⟨hc,-⟩:=hf i hi;simp only [l8] at hc;exact ⟨hc 0 (by omega),hc 1 (by omega)⟩
  refine ⟨(List.range len).map f,by simp,.inr ⟨b,off,rfl,?_,?_,?_⟩,?_,by omega⟩
  ·exact World.block_lt_of_cell? W ⟨b,off + 0 * 2,none⟩ (at2 0 (by omega)).1
  ·intro i hi;have hi':i < len:=by simpa using hi
   simpa using at2 i hi'
  ·intro t ht;simp only [Sa,List.mem_range] at ht;obtain ⟨i,hi,rfl⟩:=ht;exact (hf i hi).2.1
  ·intro t ht;simp only [Sa,List.mem_range] at ht;obtain ⟨i,hi,rfl⟩:=ht;exact (hf i hi).2.2
end
theorem wL (r r':RR) (w:World) (he:r'.p=r.p) (hr:r.ok w) (hr':r'.ok w) (hl:r.light) :
  Calls prog 101 #[r.val,r'.val] w fun e w'=>e=.returned (.bool true)∧Below w.heap.size w w':=by
 obtain ⟨name,rows,ad,cap⟩:=r;obtain ⟨name',rows',SQ,cap'⟩:=r';simp only [RR.p,Rl.mk.injEq] at he;obtain ⟨rfl,he⟩:=he;obtain ⟨l1,l2⟩:=hl;have HO:=aC hr;have HO':=aC hr';have HL:=aC l2;have HE:Hid (ah rows'=ah rows):=he;simp only at l1;simp only [RR.val];clear hr hr' l2 he;have HB:Hid (Below w.heap.size w ((w.alloc (.cells #[.string name',.slice ad rows.length cap] 152)).alloc (.cells #[.string name',.slice SQ rows'.length cap'] 152))):=((R3 w.heap.size w).alloc (R4 _) _).alloc (by simp) _;go_enter func101,ntmps101;go_wp2_with fail;refine (BZ ad SQ cap cap' rows rows' _ l1 HE.out (eX.below HO.out HB.out) (eX.below HO'.out HB.out) HL.out).mono ?_;rintro e w1 ⟨rfl,hb1⟩;have HB1:=gY HB hb1;clear hb1 HB;go_wp2;go_ret;exact ⟨rfl,HB1.out⟩
theorem QX {wr W w':World} {b b' o o':Nat} {x0 x1 y0 y1:Value} (h:W.cell? ⟨b,o,none⟩=some x0∧W.cell? ⟨b,o + 1,none⟩=some x1∧W.cell? ⟨b',o',none⟩=some y0∧W.cell? ⟨b',o' + 1,none⟩=some y1∧b < W.heap.size∧b' < W.heap.size∧Below wr.heap.size wr W) (hb:Below W.heap.size W w') :
  w'.cell? ⟨b,o,none⟩=some x0∧w'.cell? ⟨b,o + 1,none⟩=some x1∧w'.cell? ⟨b',o',none⟩=some y0∧w'.cell? ⟨b',o' + 1,none⟩=some y1∧b < w'.heap.size∧b' < w'.heap.size∧Below wr.heap.size wr w':=LC h hb
theorem JE {wr W:World} {b b' o o':Nat} {x0 x1 y0 y1:Value} (h:W.cell? ⟨b,o,none⟩=some x0∧W.cell? ⟨b,o + 1,none⟩=some x1∧W.cell? ⟨b',o',none⟩=some y0∧W.cell? ⟨b',o' + 1,none⟩=some y1∧b < W.heap.size∧b' < W.heap.size∧Below wr.heap.size wr W):Below wr.heap.size wr W:=h.2.2.2.2.2.2
theorem uS (ad SQ:Option Addr) (cap cap':Nat) (rs rs':List RR) (w:World) (hlen:rs.length≤1048576) (he:dz rs'=dz rs) (hs:zz w ad rs) (hs':zz w SQ rs') (hl:∀ r ∈ rs,r.light) :
  Calls prog 68 #[.slice ad rs.length cap,.slice SQ rs'.length cap'] w fun e w'=>e=.returned (.bool true)∧Below w.heap.size w w':=by
 have hll:rs'.length=rs.length:=by rw [← gF,he,gF]
 have Uh:=aC hs;have X9:=aC hs';have U4:=aC hl;have HEE:Hid (dz rs'=dz rs):=he;have Vj:Hid (rs'.length=rs.length):=hll;rw [hll];clear hs hs' hl he hll;go_enter func68,ntmps68;go_wp2;go_loopw [5] (fun i wr=>∃ k:Nat,k≤rs.length∧i=.int .i64 k∧Below w.heap.size w wr) (fun i _=>rs.length - (intOf i).toNat);case atStart=>exact ⟨0,R6 _,rfl,R3 _ _⟩
 case round =>
  obtain ⟨k,hk,rfl,hB⟩:=hrel;by_cases hlt:k < rs.length
  ·have hlt':k < rs'.length:=by rw [Vj.out]; exact hlt
   rcases Uh.out.below hB with rfl | ⟨b,off,rfl,hb,hr,hok⟩
   ·simp at hlt
   rcases X9.out.below hB with rfl | ⟨b',off',rfl,hb',hr',hok'⟩
   ·simp at hlt'
   obtain ⟨t0,t1⟩:=hr k hlt;obtain ⟨q0,q1⟩:=hr' k hlt';have ZQ:Hid (rs[k].ok wr):=hok rs[k] (RY hlt);have HK2:Hid (rs'[k].ok wr):=hok' rs'[k] (RY hlt');have Ya:Hid (rs'[k].p=rs[k].p):=by
    have h1:(dz rs')[k]?=(dz rs)[k]?:=by rw [HEE.out]
    show _=_;simpa [dz,hlt,hlt'] using h1
   have HK4:Hid (rs[k].light):=U4.out rs[k] (RY hlt);have hk1:=bn k;have hk2:(k:Int) < (rs.length:Int):=by omega
   clear hr hr' hok hok';go_wp2_with fail
   go_region_held3 (fun w'=>w'.cell? ⟨b,off + k * 2,none⟩=some (.string rs[k].name)∧w'.cell? ⟨b,off + k * 2 + 1,none⟩=some (.slice rs[k].ad rs[k].rows.length rs[k].cap)∧w'.cell? ⟨b',off' + k * 2,none⟩=some (.string rs'[k].name)∧w'.cell? ⟨b',off' + k * 2 + 1,none⟩=some (.slice rs'[k].ad rs'[k].rows.length rs'[k].cap)∧b < w'.heap.size∧b' < w'.heap.size∧Below wr.heap.size wr w')
    (first | assumption | exact QX (by assumption) hbx | exact ⟨t0,t1,q0,q1,hb,hb',(R3 _ _).drew⟩)
    (first | (go_at_call 101; refine (wL rs[k] rs'[k] _ Ya.out (ZQ.out.below (JE (by assumption))) (HK2.out.below (JE (by assumption))) HK4.out).mono ?_; rintro e w' ⟨rfl,hbx⟩))
   rename_i hH;obtain ⟨-,-,-,-,-,-,gB⟩:=hH;clear t0 t1 q0 q1 hb hb';go_wp2;go_roundw;case rel=>exact ⟨k + 1,by omega,by go_num,hB.trans (gB.mono hB.size)⟩
   case measure=>simp [intOf]; omega
  ·go_wp2;go_ret;exact ⟨rfl,hB⟩
theorem FW (r r':TR) (w:World) (he:r'.p=r.p) (hr:r.ok w) (hr':r'.ok w) (hl:r.light) :
  Calls prog 42 #[r.val,r'.val] w fun e w'=>e=.returned (.bool true)∧Below w.heap.size w w':=by
 obtain ⟨name,rows,ad,cap⟩:=r;obtain ⟨name',rows',SQ,cap'⟩:=r';simp only [TR.p,Ty.mk.injEq] at he;obtain ⟨rfl,he⟩:=he;obtain ⟨l1,l2⟩:=hl;have HO:=aC hr;have HO':=aC hr';have HL:=aC l2;have HE:Hid (dz rows'=dz rows):=he;simp only at l1;simp only [TR.val];clear hr hr' l2 he;have HB:Hid (Below w.heap.size w ((w.alloc (.cells #[.string name',.slice ad rows.length cap] 70)).alloc (.cells #[.string name',.slice SQ rows'.length cap'] 70))):=((R3 w.heap.size w).alloc (R4 _) _).alloc (by simp) _;go_enter func42,ntmps42;go_wp2_with fail;refine (uS ad SQ cap cap' rows rows' _ l1 HE.out (zz.below HO.out HB.out) (zz.below HO'.out HB.out) HL.out).mono ?_;rintro e w1 ⟨rfl,hb1⟩;have HB1:=gY HB hb1;clear hb1 HB;go_wp2;go_ret;exact ⟨rfl,HB1.out⟩
theorem QY {wr W w':World} {b b' o o':Nat} {x0 x1 y0 y1:Value} (h:W.cell? ⟨b,o,none⟩=some x0∧W.cell? ⟨b,o + 1,none⟩=some x1∧W.cell? ⟨b',o',none⟩=some y0∧W.cell? ⟨b',o' + 1,none⟩=some y1∧b < W.heap.size∧b' < W.heap.size∧Below wr.heap.size wr W) (hb:Below W.heap.size W w') :
  w'.cell? ⟨b,o,none⟩=some x0∧w'.cell? ⟨b,o + 1,none⟩=some x1∧w'.cell? ⟨b',o',none⟩=some y0∧w'.cell? ⟨b',o' + 1,none⟩=some y1∧b < w'.heap.size∧b' < w'.heap.size∧Below wr.heap.size wr w':=LC h hb
theorem JF {wr W:World} {b b' o o':Nat} {x0 x1 y0 y1:Value} (h:W.cell? ⟨b,o,none⟩=some x0∧W.cell? ⟨b,o + 1,none⟩=some x1∧W.cell? ⟨b',o',none⟩=some y0∧W.cell? ⟨b',o' + 1,none⟩=some y1∧b < W.heap.size∧b' < W.heap.size∧Below wr.heap.size wr W):Below wr.heap.size wr W:=h.2.2.2.2.2.2
theorem Dz (ad SQ:Option Addr) (cap cap':Nat) (rs rs':List TR) (w:World) (hlen:rs.length≤1048576) (he:ae rs'=ae rs) (hs:jd w ad rs) (hs':jd w SQ rs') (hl:∀ r ∈ rs,r.light) :
  Calls prog 16 #[.slice ad rs.length cap,.slice SQ rs'.length cap'] w fun e w'=>e=.returned (.bool true)∧Below w.heap.size w w':=by
 have hll:rs'.length=rs.length:=by rw [← fO,he,fO]
 have Uh:=aC hs;have X9:=aC hs';have U4:=aC hl;have HEE:Hid (ae rs'=ae rs):=he;have Vj:Hid (rs'.length=rs.length):=hll;rw [hll];clear hs hs' hl he hll;go_enter func16,ntmps16;go_wp2;go_loopw [5] (fun i wr=>∃ k:Nat,k≤rs.length∧i=.int .i64 k∧Below w.heap.size w wr) (fun i _=>rs.length - (intOf i).toNat);case atStart=>exact ⟨0,R6 _,rfl,R3 _ _⟩
 case round =>
  obtain ⟨k,hk,rfl,hB⟩:=hrel;by_cases hlt:k < rs.length
  ·have hlt':k < rs'.length:=by rw [Vj.out]; exact hlt
   rcases Uh.out.below hB with rfl | ⟨b,off,rfl,hb,hr,hok⟩
   ·simp at hlt
   rcases X9.out.below hB with rfl | ⟨b',off',rfl,hb',hr',hok'⟩
   ·simp at hlt'
   obtain ⟨t0,t1⟩:=hr k hlt;obtain ⟨q0,q1⟩:=hr' k hlt';have ZQ:Hid (rs[k].ok wr):=hok rs[k] (RY hlt);have HK2:Hid (rs'[k].ok wr):=hok' rs'[k] (RY hlt');have Ya:Hid (rs'[k].p=rs[k].p):=by
    have h1:(ae rs')[k]?=(ae rs)[k]?:=by rw [HEE.out]
    show _=_;simpa [ae,hlt,hlt'] using h1
   have HK4:Hid (rs[k].light):=U4.out rs[k] (RY hlt);have hk1:=bn k;have hk2:(k:Int) < (rs.length:Int):=by omega
   clear hr hr' hok hok';go_wp2_with fail
   go_region_held3 (fun w'=>w'.cell? ⟨b,off + k * 2,none⟩=some (.string rs[k].name)∧w'.cell? ⟨b,off + k * 2 + 1,none⟩=some (.slice rs[k].ad rs[k].rows.length rs[k].cap)∧w'.cell? ⟨b',off' + k * 2,none⟩=some (.string rs'[k].name)∧w'.cell? ⟨b',off' + k * 2 + 1,none⟩=some (.slice rs'[k].ad rs'[k].rows.length rs'[k].cap)∧b < w'.heap.size∧b' < w'.heap.size∧Below wr.heap.size wr w')
    (first | assumption | exact QY (by assumption) hbx | exact ⟨t0,t1,q0,q1,hb,hb',(R3 _ _).drew⟩)
    (first | (go_at_call 42; refine (FW rs[k] rs'[k] _ Ya.out (ZQ.out.below (JF (by assumption))) (HK2.out.below (JF (by assumption))) HK4.out).mono ?_; rintro e w' ⟨rfl,hbx⟩))
   rename_i hH;obtain ⟨-,-,-,-,-,-,gB⟩:=hH;clear t0 t1 q0 q1 hb hb';go_wp2;go_roundw;case rel=>exact ⟨k + 1,by omega,by go_num,hB.trans (gB.mono hB.size)⟩
   case measure=>simp [intOf]; omega
  ·go_wp2;go_ret;exact ⟨rfl,hB⟩
theorem RG {α:Type} {l:List α} (h:l.length=2):∃ a b,l=[a,b]:=by
 match l,h with
 | [a,b],_=>exact ⟨a,b,rfl⟩
theorem RH {α:Type} {l:List α} (h:l.length=6):∃ a b c d e f,l=[a,b,c,d,e,f]:=by
 match l,h with
 | [a,b,c,d,e,f],_=>exact ⟨a,b,c,d,e,f,rfl⟩
theorem FX:prog.cellsOf 26=2:=by kernel_rfl
theorem FY:prog.cellsOf 62=6:=by kernel_rfl
theorem FZ:prog.cellsOf 9=1:=by kernel_rfl
theorem F3 {H:Type} {enc:TypeId × Value→H} {w:World} {base:Nat} {sp:Nat→Bool} {held:Bool} {fuel:Nat} {cs:List Value} {x:DataW H × List MemPlace}
  (h:DataW.trod enc prog w base sp held fuel 26 cs=some x):∃ a b:ByteArray,cs=[.string a,.string b]∧a.size≤maxLen∧b.size≤maxLen:=by
 obtain ⟨y0,y1,n,-,hl,h0,h1⟩:=trod_struct2 underlying26 h;rw [FX] at hl;obtain ⟨c0,c1,rfl⟩:=RG hl;simp only [FZ,List.drop_zero,List.drop_succ_cons,List.take_succ_cons,List.take_zero] at h0 h1;obtain ⟨a,e0,-,wa⟩:=DataW.trod_string underlying9 h0;obtain ⟨b,e1,-,wb⟩:=DataW.trod_string underlying9 h1;simp at e0 e1;subst e0 e1;exact ⟨a,b,rfl,wa,wb⟩
theorem Ot {H:Type} {enc:TypeId × Value→H} {w:World} {base:Nat} {sp:Nat→Bool} {held:Bool} {fuel:Nat} {cs:List Value} {x:DataW H × List MemPlace}
  (h:DataW.trod enc prog w base sp held fuel 62 cs=some x):∃ a b r c d s:ByteArray,cs=[.string a,.string b,.string r,.string c,.string d,.string s] ∧
   a.size≤maxLen∧b.size≤maxLen∧r.size≤maxLen∧c.size≤maxLen∧d.size≤maxLen∧s.size≤maxLen:=by
 obtain ⟨y0,y1,y2,y3,n,-,hl,h0,h1,h2,h3⟩:=trod_struct4 underlying62 h;rw [FY] at hl;obtain ⟨c0,c1,c2,c3,c4,c5,rfl⟩:=RH hl;simp only [FZ,FX,List.drop_zero,List.drop_succ_cons,List.take_succ_cons,List.take_zero] at h0 h1 h2 h3;obtain ⟨a,b,e0,wa,wb⟩:=F3 h0;obtain ⟨r,e1,-,wr⟩:=DataW.trod_string underlying9 h1;obtain ⟨c,d,e2,wc,wd⟩:=F3 h2;obtain ⟨s,e3,-,ws⟩:=DataW.trod_string underlying9 h3;simp at e0 e1 e2 e3;obtain ⟨rfl,rfl⟩:=e0;obtain ⟨rfl,rfl⟩:=e2;subst e1 e3;exact ⟨a,b,r,c,d,s,rfl,wa,wb,wr,wc,wd,ws⟩
theorem Lm (b off x:Nat):(⟨b,off,none⟩:Addr).add x=⟨b,off + x,none⟩:=by
 unfold Addr.add;by_cases h:x=0
 ·subst h; simp
 ·simp [h]
theorem Lp {H:Type} {enc:TypeId × Value→H} {W:World} {base:Nat} {sp:Nat→Bool} {held:Bool} {fuel:Nat} {ad:Option Addr} {len cap:Nat} {x:DataW H × List MemPlace}
  (h:DataW.trod enc prog W base sp held fuel 23 [.slice ad len cap]=some x):∃ ts:List Tp,ts.length=len∧Sl W ad ts∧(∀ t ∈ ts,t.fits)∧len≤maxLen:=by
 rcases open_slice underlying23 h with ⟨hcs,-⟩ | ⟨a,l,c,m,n,D,Pl,hcs,-,hlc,hcm,hm,-,hel⟩
 ·simp at hcs;obtain ⟨rfl,rfl,rfl⟩:=hcs;exact ⟨[],rfl,.inl rfl,(fun t ht=>by cases ht),by unfold maxLen; omega⟩
 ·simp at hcs;obtain ⟨rfl,rfl,rfl⟩:=hcs;have hle:len≤m:=by rw [hm]; split <;> omega
  by_cases h0:len=0
  ·subst h0;exact ⟨[],rfl,.inl rfl,(fun t ht=>by cases ht),by omega⟩
  have key:∀ i,i < len→∃ t:Tp,(∀ j,j < 6→W.cell? ((a.add (i * 6)).add j)=[Value.string t.a,.string t.b,.string t.r,.string t.c,.string t.d,.string t.s][j]?)∧t.fits:=by
   intro i hi;obtain ⟨cs',hc,hd⟩:=hel i (by omega);rw [FY] at hc;obtain ⟨ta,tb,tr,tc,td,ts,rfl,hh⟩:=Ot hd;exact ⟨⟨ta,tb,tr,tc,td,ts⟩,fun j hj=>(World.cells?_some hc).2.2 j hj,hh⟩
  have hspot:a.spot=none:=by
   obtain ⟨t,ht,-⟩:=key 0 (by omega);have:=ht 0 (by omega);have e:(a.add (0 * 6)).add 0=a:=by simp [Addr.add]
   rw [e] at this;exact World.cell?_spot this
  obtain ⟨b,off,spot⟩:=a;simp only at hspot;subst hspot;obtain ⟨f,hf⟩:=@choose_lt Tp ⟨⟨⟨#[]⟩,⟨#[]⟩,⟨#[]⟩,⟨#[]⟩,⟨#[]⟩,⟨#[]⟩⟩⟩ len _ key;have at6:∀ i,i < len→Md W b (off + i * 6) (f i):=by
   intro i hi;obtain ⟨hc,-⟩:=hf i hi;simp only [Lm] at hc;exact ⟨hc 0 (by omega),hc 1 (by omega),hc 2 (by omega),hc 3 (by omega),hc 4 (by omega),hc 5 (by omega)⟩
  refine ⟨(List.range len).map f,by simp,.inr ⟨b,off,rfl,?_,?_⟩,?_,by omega⟩
  ·exact World.block_lt_of_cell? W ⟨b,off + 0 * 6,none⟩ (at6 0 (by omega)).1
  ·intro i hi;have hi':i < len:=by simpa using hi
   simpa using at6 i hi'
  ·intro t ht;simp only [Sa,List.mem_range] at ht;obtain ⟨i,hi,rfl⟩:=ht;exact (hf i hi).2
theorem pW (t i:ByteArray) (left:Int):dw t i left≤left ∨ dw t i left=-1:=by
 unfold dw; split
 ·exact .inr rfl
 ·split
  ·exact .inr rfl
  ·exact .inl (by omega)
def pq (a b r c d:ByteArray) (left:Int):Int :=
 if dw a b left < 0 then -1 else if dw a b left - r.size < 0 then -1
 else if dw c d (dw a b left - r.size) < 0 then -1 else dw c d (dw a b left - r.size)
theorem Ou (a b r c d:ByteArray) (left:Int):pq a b r c d left≤left ∨ pq a b r c d left=-1:=by
 unfold pq;split
 ·exact .inr rfl
 split
 ·exact .inr rfl
 split
 ·exact .inr rfl
 ·refine .inl ?_;have h1:=pW a b left;have h2:=pW c d (dw a b left - r.size);omega
theorem IV (a b r c d:ByteArray) (left:Int) (w:World) (ha:a.size≤maxLen) (hb:b.size≤maxLen) (hr:r.size≤maxLen) (hc:c.size≤maxLen) (hd:d.size≤maxLen) (h0:0≤left) (h1:left≤1048576) :
  Calls prog 9 #[.agg #[.string a,.string b,.string r,.string c,.string d],.int .i64 left] w fun e w'=>e=.returned (.int .i64 (pq a b r c d left))∧Below w.heap.size w w':=by
 have hr':=hr;unfold maxLen at hr';have e1:=pW a b left;have e2:=pW c d (dw a b left - r.size);go_enter func9,ntmps9;go_wp2_with fail;refine (jY _ _ _ _ ha hb h0 h1).mono ?_;rintro e w1 ⟨rfl,hb1⟩;obtain ⟨hc1,hf1⟩:=ed hb1;have hz1:w.heap.size < w1.heap.size:=by have:=hb1.size; simp at this; omega
 have HB1:Below w.heap.size w w1:=((R3 _ _).alloc (R4 _) _).trans (hb1.mono (by simp));by_cases n1:dw a b left < 0
 ·go_wp2;go_ret;exact ⟨jy (by rw [pq,if_pos (by omega)]),HB1⟩
 by_cases n2:dw a b left - r.size < 0
 ·go_wp2;go_ret;exact ⟨jy (by rw [pq,if_neg (by omega),if_pos (by omega)]),HB1⟩
 go_wp2_with fail;refine (jY _ _ _ _ hc hd (by omega) (by omega)).mono ?_;rintro e w2 ⟨rfl,hb2⟩;obtain ⟨hc2,hf2⟩:=ed hb2;have hz2:w.heap.size < w2.heap.size:=by have:=hb2.size; omega
 by_cases n3:dw c d (dw a b left - r.size) < 0
 ·go_wp2;go_ret;exact ⟨jy (by rw [pq,if_neg (by omega),if_neg (by omega),if_pos (by omega)]),HB1.trans (hb2.mono (by omega))⟩
 go_wp2;go_ret;exact ⟨jy (by rw [pq,if_neg (by omega),if_neg (by omega),if_neg (by omega)]),HB1.trans (hb2.mono (by omega))⟩
theorem qO (a b r c d:ByteArray) (w:World) :
  Calls prog 14 #[.agg #[.string a,.string b,.string r,.string c,.string d]] w fun e w'=>e=.returned (.agg #[.string a,.string b,.string r,.string c,.string d])∧Below w.heap.size w w':=by
 go_enter func14,ntmps14;go_wp2_with fail;refine (jZ _ _ _).mono ?_;rintro e w1 ⟨rfl,hb1⟩;obtain ⟨hc1,hf1⟩:=ed hb1;have hz1:w.heap.size + 1 + 1 < w1.heap.size:=by have:=hb1.size; simp at this; omega
 have hy1:w.heap.size + 1 < w1.heap.size:=by omega
 have hx1:w.heap.size < w1.heap.size:=by omega
 go_wp2_with fail;refine (jZ _ _ _).mono ?_;rintro e w2 ⟨rfl,hb2⟩;obtain ⟨hc2,hf2⟩:=ed hb2;have hz2:w.heap.size + 1 + 1 < w2.heap.size:=by have:=hb2.size; simp at this; omega
 have hy2:w.heap.size + 1 < w2.heap.size:=by omega
 have hx2:w.heap.size < w2.heap.size:=by omega
 have HB1:Below w.heap.size w w1:=Below.trans (by
  repeat (first | exact R3 _ _ | refine Below.setCell ?_ (by first | (simp; done) | (simp; omega)) _ | refine Below.alloc ?_ (by first | (simp; done) | (simp; omega)) _)) (hb1.mono (by simp; omega))
 have HB2:Below w.heap.size w w2:=Below.trans (by
  repeat (first | refine Below.setCell ?_ (by first | (simp; done) | (simp; omega)) _ | with_reducible exact HB1)) (hb2.mono (by simp; omega))
 clear hb1 hb2;go_wp2;exact bodyPost_ret (v:=.agg #[.string a,.string b,.string r,.string c,.string d]) (by simp [results,Tryz.results14,go_sem, *]) rfl ⟨rfl,by
  repeat (first | refine Below.setCell ?_ (by first | (simp; done) | (simp; omega)) _ | with_reducible exact HB2)⟩
theorem QZ {α:Type} {l:List α} (h:l.length=2):∃ a b,l=[a,b]:=by
 match l,h with
 | [a,b],_=>exact ⟨a,b,rfl⟩
theorem Q0 {α:Type} {l:List α} (h:l.length=5):∃ a b c d e,l=[a,b,c,d,e]:=by
 match l,h with
 | [a,b,c,d,e],_=>exact ⟨a,b,c,d,e,rfl⟩
theorem BR:prog.cellsOf 26=2:=by kernel_rfl
theorem Ov:prog.cellsOf 28=5:=by kernel_rfl
theorem BS:prog.cellsOf 9=1:=by kernel_rfl
theorem BU {H:Type} {enc:TypeId × Value→H} {w:World} {base:Nat} {sp:Nat→Bool} {held:Bool} {fuel:Nat} {cs:List Value} {x:DataW H × List MemPlace}
  (h:DataW.trod enc prog w base sp held fuel 26 cs=some x):∃ a b:ByteArray,cs=[.string a,.string b]∧a.size≤maxLen∧b.size≤maxLen:=by
 obtain ⟨y0,y1,n,-,hl,h0,h1⟩:=trod_struct2 underlying26 h;rw [BR] at hl;obtain ⟨c0,c1,rfl⟩:=QZ hl;simp only [BS,List.drop_zero,List.drop_succ_cons,List.take_succ_cons,List.take_zero] at h0 h1;obtain ⟨a,e0,-,wa⟩:=DataW.trod_string underlying9 h0;obtain ⟨b,e1,-,wb⟩:=DataW.trod_string underlying9 h1;simp at e0 e1;subst e0 e1;exact ⟨a,b,rfl,wa,wb⟩
theorem Ow {H:Type} {enc:TypeId × Value→H} {w:World} {base:Nat} {sp:Nat→Bool} {held:Bool} {fuel:Nat} {cs:List Value} {x:DataW H × List MemPlace}
  (h:DataW.trod enc prog w base sp held fuel 28 cs=some x):∃ a b r c d:ByteArray,cs=[.string a,.string b,.string r,.string c,.string d] ∧
   a.size≤maxLen∧b.size≤maxLen∧r.size≤maxLen∧c.size≤maxLen∧d.size≤maxLen:=by
 obtain ⟨y0,y1,y2,n,-,hl,h0,h1,h2⟩:=Go.Deep.trod_struct3 underlying28 h;rw [Ov] at hl;obtain ⟨c0,c1,c2,c3,c4,rfl⟩:=Q0 hl;simp only [BS,BR,List.drop_zero,List.drop_succ_cons,List.take_succ_cons,List.take_zero] at h0 h1 h2;obtain ⟨a,b,e0,wa,wb⟩:=BU h0;obtain ⟨r,e1,-,wr⟩:=DataW.trod_string underlying9 h1;obtain ⟨c,d,e2,wc,wd⟩:=BU h2;simp at e0 e1 e2;obtain ⟨rfl,rfl⟩:=e0;obtain ⟨rfl,rfl⟩:=e2;subst e1;exact ⟨a,b,r,c,d,rfl,wa,wb,wr,wc,wd⟩
set_option maxRecDepth 100000 in
theorem Ox {H:Type} {enc:TypeId × Value→H} {W w:World} {r0:Reach} {b0 base:Nat} {sp:Nat→Bool} {held:Bool} {v:Value} {d0:DataW H} {p:List MemPlace}
  (hv:Value.okWide prog W r0 b0 28 v) (h:DataW.Trod enc prog w base sp held 28 v d0 p):∃ a b r c d:ByteArray,v=.agg #[.string a,.string b,.string r,.string c,.string d] ∧
   a.size≤maxLen∧b.size≤maxLen∧r.size≤maxLen∧c.size≤maxLen∧d.size≤maxLen:=by
 obtain ⟨cs,rfl,hsz⟩:=okWide_struct underlying28 hv;obtain ⟨fuel,hf⟩:=h;obtain ⟨a,b,r,c,d,e,hh⟩:=Ow hf;refine ⟨a,b,r,c,d,?_,hh⟩;simp only [Value.cells] at e;rw [← Array.toArray_toList (xs:=cs),e]
set_option maxRecDepth 100000
theorem Ai (ad SQ:Option Addr) (cap cap':Nat) (w:World) :
  Calls prog 17 #[.slice ad 0 cap,.slice SQ 0 cap'] w fun e w'=>e=.returned (.bool true)∧Below w.heap.size w w':=by
 go_enter func17,ntmps17;go_wp2;refine wp_loop_rounds 1 ?_;rw [rounds_succ];go_wp2;go_ret;exact ⟨rfl,R3 _ _⟩
theorem DC (ad SQ:Option Addr) (cap cap':Nat) (ts:List Tp) (w:World) (hlen:ts.length≤maxLen) (hs:Sl w ad ts) (hs':Sl w SQ ts) :
  Calls prog 17 #[.slice ad ts.length cap,.slice SQ ts.length cap'] w fun e w'=>e=.returned (.bool true)∧Below w.heap.size w w':=by
 by_cases h:ts=[]
 ·subst h; exact Ai ad SQ cap cap' w
 ·rcases hs with h1 | ⟨b,off,rfl,hb,hr⟩
  ·exact absurd h1 h
  rcases hs' with h1 | ⟨b',off',rfl,hb',hr'⟩
  ·exact absurd h1 h
  exact zS b b' off off' cap cap' ts w hlen hr hb hr' hb'
end Go.Proofs.YtdaoiceeidoehaaGreat
