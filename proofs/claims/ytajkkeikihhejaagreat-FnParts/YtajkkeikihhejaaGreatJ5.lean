/- Contracts of the law's helpers that weigh a schema. -/
import Derived.Test.YtajkkeikihhejaaGreatSq
import Derived.Test.YtajkkeikihhejaaGreatSchemas
import Derived.Deep.DrawnRows
import Derived.Test.YtajkkeikihhejaaGreatJ4
import Derived.Lib.Join
open Go.Proofs.Tryz
set_option maxHeartbeats 80000000
namespace Go.Proofs.YtajkkeikihhejaaGreat
open Go.ChangeShapes Go.WideShapes Go.ChangeAt Go.RowKit
open Pl
def RR.row (r:RR):List Value:=[.string r.name,.slice r.ad r.rows.length r.cap]
def TR.row (r:TR):List Value:=[.string r.name,.slice r.ad r.rows.length r.cap]
theorem mO {w:af}{g i j:Nat}{v:Value}(h:i≠j):(w.setCell ⟨g,i,none⟩ v).cell? ⟨g,j,none⟩=w.cell? ⟨g,j,none⟩:=by
 apply World.cell?_setCell_other;intro e;exact h (congrArg Addr.off e)
theorem mS {w:af}{a:Addr}{v u:Value}(h:w.cell? a=some u):(w.setCell a v).cell? a=some v:=by
 apply World.cell?_setCell_same;exact h
theorem mK {W w1:af}{n o:Nat}{v:Value}(hb:ag W w1)(hn:n<W.heap.size)(h:W.cell? ⟨n,o,none⟩=some v):w1.cell? ⟨n,o,none⟩=some v:=by
 rw [hb.cell (p:=⟨n,o,none⟩) hn];exact h
def gY (w:World)(g:Nat):Prop:=∀ j,w.frozen? ⟨g,j,none⟩=false
structure Chg (S:Nat->Prop)(w w':World):Prop where
 base:Below 0 w w'
 block:∀ k,k<w.heap.size->¬ S k->w'.heap[k]?=w.heap[k]?
 free:∀ g,g<w.heap.size->gY w g->gY w' g
theorem Chg.refl (S:Nat->Prop)(w:af):Chg S w w:=⟨Uf _ _,fun _ _ _=>rfl,fun _ _ h=>h⟩
theorem Chg.size {S:Nat->Prop}{w w':af}(h:Chg S w w'):w.heap.size<=w'.heap.size:=h.base.size
theorem Chg.trans {S:Nat->Prop}{a b c:af}(h:Chg S a b)(k:Chg S b c):Chg S a c :=
 ⟨h.base.trans k.base,fun i hi hs=>(k.block i (Uc hi h.size) hs).trans (h.block i hi hs),fun g hg hf=>k.free g (Uc hg h.size) (h.free g hg hf)⟩
theorem Chg.mono {S T:Nat->Prop}{a b:af}(h:Chg S a b)(hs:∀ g,S g->T g):Chg T a b :=
 ⟨h.base,fun i hi hn=>h.block i hi fun e=>hn (hs i e),h.free⟩
theorem Chg.of {S:Nat->Prop}{w w':af}(h:ag w w'):Chg S w w' :=
 ⟨h.mono (Ui _),fun k hk _=>h.block k hk,fun g hg hf j=>by rw [h.frozen (p:=⟨g,j,none⟩) hg];exact hf j⟩
theorem Chg.set {S:Nat->Prop}{w:af}{g j:Nat}(v:Value)(hs:S g):Chg S w (w.setCell ⟨g,j,none⟩ v) :=
 ⟨(Uf 0 w).setCell (Ui _) v,fun k _ hk=>Below.heap_setCell _ _ _ _ (fun e=>hk (by rw [e];exact hs)),fun g' _ hf j'=>by simpa using hf j'⟩
theorem Chg.below {S:Nat->Prop}{w w':af}{m:Nat}(h:Chg S w w')(hm:∀ g,S g->m<=g)(hw:m<=w.heap.size):Below m w w' :=
 ⟨h.base.os,h.base.tape,h.base.output,h.base.size,fun k hk=>h.block k (Uc hk hw) fun e=>by have:=hm k e;omega⟩
theorem Chg.cell {S:Nat->Prop}{w w':af}(h:Chg S w w'){g o:Nat}(hg:g<w.heap.size)(hs:¬ S g):w'.cell? ⟨g,o,none⟩=w.cell? ⟨g,o,none⟩:=by
 have:=h.block g hg hs;unfold World.cell?;simp only [this]
theorem jM.chg {S:Nat->Prop}{w w':af}{ad:Option Addr}{xs:List Al}(h:jM w ad xs)(hc:Chg S w w')(hn:∀ g o,xs≠[]->ad=some ⟨g,o,none⟩->¬ S g):jM w' ad xs:=by
 rcases h with h|⟨b,off,e,hb,hr⟩
 ·exact .inl h
 by_cases hx:xs=[]
 ·exact .inl hx
 exact .inr ⟨b,off,e,Uc hb hc.size,fun i hi=>(hr i hi).same fun o=>hc.cell hb (hn b off hx e)⟩
theorem p8.chg {S:Nat->Prop}{w w':af}{ad:Option Addr}{zs:List Int}(h:p8 w ad zs)(hc:Chg S w w')(hn:∀ g o,zs≠[]->ad=some ⟨g,o,none⟩->¬ S g):p8 w' ad zs:=by
 rcases h with h|⟨b,off,e,hb,hr⟩
 ·exact .inl h
 by_cases hx:zs=[]
 ·exact .inl hx
 exact .inr ⟨b,off,e,Uc hb hc.size,fun i hi=>by rw [hc.cell hb (hn b off hx e)];exact hr i hi⟩
def bA (r:ER)(g:Nat):Prop:=r.e.allow≠[]/\r.adA=some ⟨g,0,none⟩
def bK (r:ER)(g:Nat):Prop:=r.e.kids≠[]/\r.adK=some ⟨g,0,none⟩
def oM (r:ER)(g:Nat):Prop:=bA r g\/bK r g
structure SepE (b:Nat)(rs:List ER):Prop where
 zeroA:∀ r∈rs,r.e.allow≠[]->∃ g,r.adA=some ⟨g,0,none⟩
 zeroK:∀ r∈rs,r.e.kids≠[]->∃ g,r.adK=some ⟨g,0,none⟩
 head:∀ r∈rs,¬ oM r b
 one:∀ r∈rs,∀ g,bA r g->¬ bK r g
 two:∀ (x y:Nat) (hx:x<rs.length) (hy:y<rs.length),x≠y->∀ g,oM rs[x] g->¬ oM rs[y] g
def Nt (w:World)(b:Nat)(rs:List ER):Prop:=(b<w.heap.size/\gY w b)/\∀ r∈rs,∀ g,oM r g->g<w.heap.size/\gY w g
theorem Nt.chg {S:Nat->Prop}{w w':af}{b:Nat}{rs:List ER}(h:Nt w b rs)(hc:Chg S w w'):Nt w' b rs :=
 ⟨⟨Uc h.1.1 hc.size,hc.free b h.1.1 h.1.2⟩,fun r hr g hg=>⟨Uc (h.2 r hr g hg).1 hc.size,hc.free g (h.2 r hr g hg).1 (h.2 r hr g hg).2⟩⟩
theorem ER.ok.chg {S:Nat->Prop}{w w':af}{r:ER}(h:r.ok w)(hc:Chg S w w')(hA:∀ g o,r.e.allow≠[]->r.adA=some ⟨g,o,none⟩->¬ S g)(hK:∀ g o,r.e.kids≠[]->r.adK=some ⟨g,o,none⟩->¬ S g):r.ok w' :=
 ⟨h.1.chg hc hA,h.2.chg hc hK⟩
def Cj (w:World)(P:Nat->Prop):Prop:=∀ g,P g->g<w.heap.size/\gY w g
theorem Cj.chg {S P:Nat->Prop}{w w':af}(h:Cj w P)(hc:Chg S w w'):Cj w' P:=fun g hg=>⟨Uc (h g hg).1 hc.size,hc.free g (h g hg).1 (h g hg).2⟩
theorem Cj.mono {P Q:Nat->Prop}{w:af}(h:Cj w P)(hq:∀ g,Q g->P g):Cj w Q:=fun g hg=>h g (hq g hg)
def H7 (r:RR)(g:Nat):Prop:=(r.rows≠[]/\r.ad=some ⟨g,0,none⟩) \/ ∃ q∈r.rows,oM q g
def Nu (r:RR):Prop:=r.rows≠[]->∃ b,r.ad=some ⟨b,0,none⟩/\SepE b r.rows
structure SepR (b:Nat)(rs:List RR):Prop where
 good:∀ r∈rs,Nu r
 head:∀ r∈rs,¬ H7 r b
 two:∀ (x y:Nat) (hx:x<rs.length) (hy:y<rs.length),x≠y->∀ g,H7 rs[x] g->¬ H7 rs[y] g
theorem RR.ok.chg {S:Nat->Prop}{w w':af}{r:RR}(h:r.ok w)(hc:Chg S w w')(hg:Nu r)(hn:∀ g,H7 r g->¬ S g):r.ok w':=by
 by_cases hz:r.rows=[]
 ·exact .inl hz
 obtain ⟨b,e,hsep⟩:=hg hz;rcases h with h|⟨b',off,e',hb,hr,hk⟩
 ·exact .inl h
 rw [e]at e';injection e' with e';injection e' with e1 e2;subst e1;subst e2;refine .inr ⟨b,0,e,Uc hb hc.size,fun i hi=>(hr i hi).same fun o=>hc.cell hb (hn b (.inl ⟨hz,e⟩)),fun q hq=>?_⟩;refine (hk q hq).chg hc (fun g o hne e2=>?_) (fun g o hne e2=>?_)
 ·obtain ⟨g0,e0⟩:=hsep.zeroA q hq hne;rw [e0]at e2;injection e2 with e2;injection e2 with e3 e4;subst e3;exact hn g0 (.inr ⟨q,hq,.inl ⟨hne,e0⟩⟩)
 obtain ⟨g0,e0⟩:=hsep.zeroK q hq hne;rw [e0]at e2;injection e2 with e2;injection e2 with e3 e4;subst e3;exact hn g0 (.inr ⟨q,hq,.inr ⟨hne,e0⟩⟩)
def KQ (r:TR)(g:Nat):Prop:=(r.rows≠[]/\r.ad=some ⟨g,0,none⟩) \/ ∃ q∈r.rows,H7 q g
def Nv (r:TR):Prop:=r.rows≠[]->∃ b,r.ad=some ⟨b,0,none⟩/\SepR b r.rows
structure SepT (b:Nat)(rs:List TR):Prop where
 good:∀ r∈rs,Nv r
 head:∀ r∈rs,¬ KQ r b
 two:∀ (x y:Nat) (hx:x<rs.length) (hy:y<rs.length),x≠y->∀ g,KQ rs[x] g->¬ KQ rs[y] g
theorem TR.ok.chg {S:Nat->Prop}{w w':af}{r:TR}(h:r.ok w)(hc:Chg S w w')(hg:Nv r)(hn:∀ g,KQ r g->¬ S g):r.ok w':=by
 by_cases hz:r.rows=[]
 ·exact .inl hz
 obtain ⟨b,e,hsep⟩:=hg hz;rcases h with h|⟨b',off,e',hb,hr,hk⟩
 ·exact .inl h
 rw [e]at e';injection e' with e';injection e' with e1 e2;subst e1;subst e2;refine .inr ⟨b,0,e,Uc hb hc.size,fun i hi=>(hr i hi).same fun o=>hc.cell hb (hn b (.inl ⟨hz,e⟩)),fun q hq=>?_⟩;exact (hk q hq).chg hc (hsep.good q hq) fun g hg=>hn g (.inr ⟨q,hq,hg⟩)
theorem jd {a b:ByteArray}(h:a.data.toList=b.data.toList):a=b:=by
 cases a;cases b;congr;exact Array.toList_inj.1 h
def fB (sep:ByteArray)(xs:List ByteArray):ByteArray:=⟨(Lib.join (xs.map (·.data.toList)) sep.data.toList).toArray⟩
theorem Ck (sep:bI):fB sep []=⟨#[]⟩:=rfl
theorem inter_snoc {α:Type}(s:List α):∀ (l:List (List α)) (x:List α),s.intercalate (l++[x])=if l=[] then x else s.intercalate l++(s++x)
 | [],x=>by simp [List.intercalate]
 | [a],x=>by simp [List.intercalate]
 | a::b::l,x=>by
  have ih:=inter_snoc s (b::l) x;simp only [List.cons_append,List.intercalate,List.intersperse,reduceCtorEq,if_false]at ih ⊢;simp only [List.flatten_cons]at ih ⊢;rw [ih];simp
theorem oO (sep:bI)(xs:List ByteArray)(x:bI):fB sep (xs++[x])=if xs=[] then x else fB sep xs++sep++x:=by
 apply jd;unfold fB Lib.join;rw [List.map_append,List.map_cons,List.map_nil,inter_snoc];by_cases h:xs=[]
 ·simp [h]
 simp [h,ByteArray.data_append]
theorem oP (sep:bI)(b:Nat):∀ (n:Nat) (xs:List ByteArray),xs.length=n->(∀ x∈xs,x.size<=b)->(fB sep xs).size<=n*(b+sep.size)
 | 0,xs,hn,_=>by
  have:xs=[]:=List.eq_nil_of_length_eq_zero hn;subst this;simp [Ck];rfl
 | n+1,xs,hn,hx=>by
  obtain ⟨ys,y,rfl⟩:∃ ys y,xs=ys++[y]:=by
   have hne:xs≠[]:=by intro e;simp [e]at hn
   exact ⟨xs.dropLast,xs.getLast hne,(List.dropLast_concat_getLast hne).symm⟩
  have hl:ys.length=n:=by simp at hn;exact hn
  have ih:=oP sep b n ys hl (fun x h=>hx x (by simp [h]));have hy:=hx y (by simp);rw [oO,Nat.succ_mul];by_cases h:ys=[]
  ·rw [if_pos h];omega
  rw [if_neg h,Uv,Uv];omega
def fG (a:Al):ByteArray:=if a.s.toList.isEmpty then a.t else a.t++⟨#[35]⟩++a.s
def uA (xs:List Al):ByteArray:=⟨#[116,104,105,115,40]⟩++fB ⟨#[44]⟩ (xs.map fG)++⟨#[41]⟩
def gG (k:Int):ByteArray:=if k=4 then ⟨#[32,124,32]⟩ else if k=5 then ⟨#[32,38,32]⟩ else ⟨#[32,45,32]⟩
theorem lT (k:Int):(gG k).size=3:=by
 unfold gG;split
 ·rfl
 split <;> rfl
def lV (f:Int->ByteArray)(e:Ex):ByteArray :=
 if e.kind=1 then uA e.allow else if e.kind=2 then e.name else if e.kind=3 then e.over++⟨#[45,62]⟩++e.name else fB (gG e.kind) (e.kids.map f)
def inT (e:Ex)(inside:Bool)(t:ByteArray):ByteArray:=if inside && !(decide (e.kind=1) || decide (e.kind=2) || decide (e.kind=3)) then ⟨#[40]⟩++t++⟨#[41]⟩ else t
def DV (es:List Ex)(n:Nat):Ex:=es[n]?.getD ⟨0,[],⟨#[]⟩,⟨#[]⟩,[]⟩
def txt (es:List Ex)(n:Nat):ByteArray:=inT (DV es n) true (lV (fun x=>if _h:x.toNat<n then txt es x.toNat else ⟨#[]⟩) (DV es n))
def jy (es:List Ex)(n:Nat)(x:Int):ByteArray:=if x.toNat<n then txt es x.toNat else ⟨#[]⟩
def iU (es:List Ex)(n:Nat)(inside:Bool):ByteArray:=inT (DV es n) inside (lV (jy es n) (DV es n))
theorem DW (es:List Ex)(n:Nat):txt es n=iU es n true:=by
 rw [txt];rfl
def yZ:Nat->Nat
 | 0=>200
 | n+1=>yZ n*6
theorem J7 (n:Nat):200<=yZ n:=by
 induction n with
 | zero=>exact Ue _
 | succ n ih=>simp only [yZ];omega
theorem Cm {m n:Nat}(h:m<=n):yZ m<=yZ n:=by
 induction h with
 | refl=>exact Ue _
 | step _ ih=>simp only [yZ];omega
theorem Qn:yZ 14<=20000000000000:=by decide
theorem bR {s:ByteArray}(h:aR s=true):s.size<=12:=by
 simp only [aR,dN,nI,Ug,Um]at h;exact h.1.1.2
theorem za {s:ByteArray}(h:uu s=true):s.size<=12:=by
 unfold uu at h;rw [Bool.or_eq_true]at h;rcases h with h|h
 ·have h2:s.data.toList=[]:=by rw [Go.ByteArray.toList_eq]at h;simpa using h
  have h3:s.data.toList.length=0:=by rw [h2];rfl
  have:s.size=s.data.toList.length:=rfl;omega
 exact bR h
theorem yJ {xs:List Al}:∀ {k:Nat},DU xs k=true->∀ (i:Nat) (h:i<xs.length),i<k->Fq xs[i]=true
 | 0,_,i,_,hi=>by omega
 | k+1,hk,i,h,hi=>by
  unfold DU at hk;rw [Ug]at hk;by_cases e:i=k
  ·subst e;have:=hk.2;simp only [Uj h,Option.map_some,Option.getD_some,Ug]at this;exact this.1
  exact yJ hk.1 i h (by omega)
theorem qd {a:Al}(h:Fq a=true):(fG a).size<=25:=by
 unfold Fq at h;rw [Ug]at h;have h1:=bR h.1;have h2:=za h.2;have e1:(⟨#[35]⟩:ByteArray).size=1:=rfl;unfold fG;split
 ·omega
 simp only [Uv];omega
theorem jW {xs:List Al}(h:ed xs=true):(uA xs).size<=190:=by
 unfold ed at h;simp only [Ug,Um]at h;have hj:=oP ⟨#[44]⟩ 25 _ (xs.map fG) rfl (fun x hx=>by
  obtain ⟨a,ha,rfl⟩:=Ur.1 hx;obtain ⟨i,hi,rfl⟩:=UE ha;exact qd (yJ h.2 i hi hi))
 have e1:(⟨#[116,104,105,115,40]⟩:ByteArray).size=5:=rfl;have e2:(⟨#[41]⟩:ByteArray).size=1:=rfl;have e3:(⟨#[44]⟩:ByteArray).size=1:=rfl;have e4:(xs.map fG).length<=6:=by simp;exact h.1.2
 unfold uA;simp only [Uv];rw [e3]at hj;have:(xs.map fG).length*(25+1)<=6*26:=Nat.mul_le_mul_right _ e4;omega
def RB (es:List Ex):Prop:=es.length<=15/\(∀ (i:Nat) (h:i<es.length),av es[i]=true)/\∀ i,i<es.length->kI es i=true
theorem Nw {es:List Ex}(h:aK es=true):RB es:=by
 unfold aK at h;simp only [Ug,Um]at h;refine ⟨h.1.1.1.1.2,fun i hi=>?_,fun i hi=>?_⟩
 ·have:=h.1.1.1.2;rw [Un]at this;exact this _ (Ud hi)
 have:=h.1.1.2;unfold ja at this;rw [Un]at this;exact this i (by simpa using hi)
theorem qg {e:Ex}(h:av e=true):e.kids.length<=5/\(e.kind=1\/e.kind=2\/e.kind=3\/e.kind=4\/e.kind=5\/e.kind=6):=by
 unfold av at h;split at h
 ·rename_i k;simp at h;exact ⟨by simp [h.2],.inl k⟩
 split at h
 ·rename_i k;simp at h;exact ⟨by simp [h.2],.inr (.inl k)⟩
 split at h
 ·rename_i k;simp at h;exact ⟨by simp [h.2],.inr (.inr (.inl k))⟩
 split at h
 ·rename_i k;simp at h;exact ⟨by omega,by omega⟩
 split at h
 ·rename_i k;simp at h;exact ⟨by omega,by omega⟩
 cases h
theorem zb {es:List Ex}(hes:RB es){n:Nat}(hn:n<es.length)(b:Nat)(hb:200<=b)(f:Int->ByteArray)(hf:∀ k∈es[n].kids,(f k).size<=b):(lV f es[n]).size<=b*5+20:=by
 have UM:=hes.2.1 n hn;obtain ⟨hk,hkind⟩:=qg UM;unfold lV;unfold av at UM;split
 ·rename_i k;rw [if_pos k]at UM;simp only [Ug]at UM;have:=jW UM.1.1.1;omega
 rename_i k1;rw [if_neg k1]at UM;split
 ·rename_i k2;rw [if_pos k2]at UM;simp only [Ug]at UM;have:=bR UM.1.1.1;omega
 rename_i k2;rw [if_neg k2]at UM;split
 ·rename_i k3;rw [if_pos k3]at UM;simp only [Ug]at UM;have h1:=bR UM.1.1.1;have h2:=bR UM.1.1.2;have e1:(⟨#[45,62]⟩:ByteArray).size=2:=rfl;simp only [Uv];omega
 have hj:=oP (gG es[n].kind) b _ (es[n].kids.map f) rfl (fun x hx=>by obtain ⟨k,hk,rfl⟩:=Ur.1 hx;exact hf k hk);rw [lT]at hj;have:(es[n].kids.map f).length*(b+3)<=5*(b+3):=Nat.mul_le_mul_right _ (by simp;exact hk);omega
theorem Fu (e:Ex)(i:Bool)(t:bI):(inT e i t).size<=t.size+2:=by
 have e1:(⟨#[40]⟩:ByteArray).size=1:=rfl;have e2:(⟨#[41]⟩:ByteArray).size=1:=rfl;unfold inT;split
 ·simp only [Uv];omega
 omega
theorem DX {es:List Ex}{n:Nat}(h:n<es.length):DV es n=es[n]:=by simp [DV,h]
theorem uC {es:List Ex}(hes:RB es){n:Nat}(hn:n<es.length):∀ k∈es[n].kids,0<=k/\k.toNat<n:=by
 intro k hk;have:=hes.2.2 n hn;unfold kI at this;rw [Un]at this;have h1:=this k (by simp [dx,hn,hk]);simp at h1;omega
theorem H8 {es:List Ex}(hes:RB es)(n:Nat):n<es.length->∀ i,(iU es n i).size<=yZ n:=by
 induction n using Nat.strongRecOn with
 | ind n ih =>
  intro hn i;unfold iU;rw [DX hn];have h1:=Fu es[n] i (lV (jy es n) es[n]);cases n with
  | zero =>
   have h2:=zb hes hn 200 (Ue _) (jy es 0) (fun k hk=>by have:=uC hes hn k hk;omega);have hno:es[0].kids=[]:=by
    cases hk:es[0].kids with
    | nil=>rfl
    | cons k ks=>have:=uC hes hn k (by rw [hk];simp);omega
   have UM:=hes.2.1 0 hn;have h3:(lV (jy es 0) es[0]).size<=195:=by
    unfold lV;unfold av at UM;split
    ·rename_i k;rw [if_pos k]at UM;simp only [Ug]at UM;have:=jW UM.1.1.1;omega
    rename_i k1;rw [if_neg k1]at UM;split
    ·rename_i k2;rw [if_pos k2]at UM;simp only [Ug]at UM;have:=bR UM.1.1.1;omega
    rename_i k2;rw [if_neg k2]at UM;split
    ·rename_i k3;rw [if_pos k3]at UM;simp only [Ug]at UM;have h1:=bR UM.1.1.1;have h2:=bR UM.1.1.2;have e1:(⟨#[45,62]⟩:ByteArray).size=2:=rfl;simp only [Uv];omega
    rw [hno];have:(fB (gG es[0].kind) (List.map (jy es 0) [])).size=0:=rfl;omega
   simp only [yZ];omega
  | succ m =>
   have h2:=zb hes hn (yZ m) (J7 m) (jy es (m+1)) (fun k hk=>by
    have hlt:=uC hes hn k hk;unfold jy;rw [if_pos hlt.2,DW];exact Uk (ih k.toNat hlt.2 (by omega) true) (Cm (by omega)))
   have:=J7 m;simp only [yZ];omega
structure RS where
 p:Nat
 bad:Bool
 out:List Ex
def fP:ByteArray:=⟨#[116,104,105,115,40]⟩
def uD:ByteArray:=⟨#[35]⟩
def fu:ByteArray:=⟨#[41]⟩
def lW:ByteArray:=⟨#[44]⟩
def jA:ByteArray:=⟨#[40]⟩
def oQ:ByteArray:=⟨#[45,62]⟩
def aX (k:Int):ByteArray:=if k=4 then ⟨#[32,124,32]⟩ else if k=5 then ⟨#[32,38,32]⟩ else ⟨#[32,45,32]⟩
def dX (s w:ByteArray)(p:Nat):Bool:=decide (p+w.size<=s.size)&&(s.extract p (p+w.size)).toList==w.toList
def kZ (s w:ByteArray)(st:RS):Bool:=!st.bad&&dX s w st.p
def j6 (w:ByteArray)(st:RS):RS:=⟨st.p+w.size,st.bad,st.out⟩
def au (s:ByteArray)(p:Nat):Nat:=((s.data.toList.drop p).takeWhile eH).length
def ay (s:ByteArray)(p:Nat):ByteArray:=s.extract p (p+au s p)
def rX (x:Ex)(st:RS):RS:=⟨st.p,st.bad || decide (15<st.out.length+1),st.out++[x]⟩
def uE (st:RS):RS:=⟨st.p,true,st.out⟩
def yn (s:ByteArray)(st:RS):ByteArray:=if kZ s uD st then ay s (st.p+1) else ⟨#[]⟩
def aW (s:ByteArray)(st:RS):RS:=if kZ s uD st then ⟨st.p+1+au s (st.p+1),st.bad,st.out⟩ else st
def bB (s:ByteArray)(st:RS):RS:=⟨st.p+au s st.p,st.bad,st.out⟩
def dF (s:ByteArray):Nat->List Al->RS->Option (List Al)×RS
 | 0,_,st=>(none,st)
 | n+1,xs,st =>
  if st.bad then (none,st)
  else if kZ s fu (aW s (bB s st)) then (some (xs++[⟨ay s st.p,yn s (bB s st)⟩]),j6 fu (aW s (bB s st)))
  else if kZ s lW (aW s (bB s st)) then dF s n (xs++[⟨ay s st.p,yn s (bB s st)⟩]) (j6 lW (aW s (bB s st)))
  else dF s n (xs++[⟨ay s st.p,yn s (bB s st)⟩]) (uE (aW s (bB s st)))
def eZ (s:ByteArray)(st:RS):Ex :=
 if kZ s oQ (bB s st) then ⟨3,[],ay s st.p,ay s (st.p+au s st.p+2),[]⟩ else ⟨2,[],⟨#[]⟩,ay s st.p,[]⟩
def aJ (s:ByteArray)(st:RS):RS :=
 if kZ s oQ (bB s st) then ⟨st.p+au s st.p+2+au s (st.p+au s st.p+2),st.bad,st.out⟩ else bB s st
def judged (x:Ex)(st:RS):RS:=if av x then st else uE st
def dG (s:ByteArray)(p:Nat):Int:=if dX s (aX 4) p then 4 else if dX s (aX 5) p then 5 else if dX s (aX 6) p then 6 else 0
def ib (s:ByteArray)(it:RS->Int×RS)(k:Int):Nat->List Int->RS->List Int×RS
 | 0,zs,st=>(zs,st)
 | n+1,zs,st=>if kZ s (aX k) st then ib s it k n (zs++[(it (j6 (aX k) st)).1]) (it (j6 (aX k) st)).2 else (zs,st)
def ze (s:ByteArray):Nat->Bool->RS->Int×RS
 | 0,_,st=>(0,st)
 | n+1,false,st =>
  if kZ s fP st then
   match dF s (s.size+1) [] (j6 fP st) with
   | (some xs,st')=>((st'.out.length:Int),rX ⟨1,xs,⟨#[]⟩,⟨#[]⟩,[]⟩ st')
   | (none,st')=>(0,st')
  else if kZ s jA st then
   let x:=ze s n true (j6 jA st)
   if kZ s fu x.2 then (x.1,j6 fu x.2) else (x.1,uE x.2)
  else ((st.out.length:Int),rX (eZ s st) (judged (eZ s st) (aJ s st)))
 | n+1,true,st =>
  let x:=ze s n false st
  if dG s x.2.p=0\/x.2.bad=true then x
  else
   let y:=ib s (ze s n false) (dG s x.2.p) (s.size+1) [x.1] x.2
   ((y.2.out.length:Int),rX ⟨dG s x.2.p,[],⟨#[]⟩,⟨#[]⟩,y.1⟩ y.2)
theorem ko (s:bI)(p:Nat)(hp:p<=s.size):p+au s p<=s.size:=by
 unfold au;have h1:((s.data.toList.drop p).takeWhile eH).length<=(s.data.toList.drop p).length:=(List.takeWhile_prefix (p:=eH) (l:=s.data.toList.drop p)).length_le;have h2:(s.data.toList.drop p).length=s.size-p:=by rw [List.length_drop];simp
 omega
theorem zf (s:bI)(p:Nat)(hp:p<=s.size):(ay s p).size=au s p:=by
 unfold ay;rw [ByteArray.size_extract];have:=ko s p hp;omega
theorem Fv {s w:ByteArray}{p:Nat}(h:dX s w p=true):p+w.size<=s.size:=by
 unfold dX at h;simp only [Ug,Um]at h;exact h.1
theorem kJ {s w:ByteArray}{st:RS}(h:kZ s w st=true):st.p+w.size<=s.size:=by
 unfold kZ at h;simp only [Ug]at h;exact Fv h.2
set_option maxRecDepth 100000
theorem ai {p:Prop}(h:p):Hid p:=h
structure RdC (w:World)(R:Nat)(s:ByteArray)(p:Nat)(bad:Bool)(v:Value):Prop where
 lt:R<w.heap.size
 c0:w.cell? ⟨R,0,none⟩=some (.string s)
 c1:w.cell? ⟨R,1,none⟩=some (.int .i64 (p:Int))
 c2:w.cell? ⟨R,2,none⟩=some (.bool bad)
 c3:w.cell? ⟨R,3,none⟩=some v
 fr:gY w R
theorem RdC.grown {w w':af}{R:Nat}{s:ByteArray}{p:Nat}{bad:Bool}{v:Value}{row:Option Nat}(h:RdC w R s p bad v)(hg:w.grownBy w' row)(hR:some R≠row):RdC w' R s p bad v :=
 ⟨Uc h.lt hg.size,hg.cell h.c0 hR,hg.cell h.c1 hR,hg.cell h.c2 hR,hg.cell h.c3 hR,fun j=>(World.frozen?_of_block (w:=w) (a:=⟨R,j,none⟩) (hg.block R h.lt hR)).trans (h.fr j)⟩
theorem RdC.drewN {w:af}{R:Nat}{s:ByteArray}{p:Nat}{bad:Bool}{v:Value}(h:RdC w R s p bad v)(n:Nat):RdC (w.drewN n) R s p bad v:=⟨h.lt,h.c0,h.c1,h.c2,h.c3,h.fr⟩
theorem RdC.on {w:af}{R:Nat}{s:ByteArray}{p:Nat}{bad:Bool}{v:Value}(h:RdC w R s p bad v)(q:Nat):RdC (w.setCell ⟨R,1,none⟩ (.int .i64 (q:Int))) R s q bad v :=
 ⟨by simpa using h.lt,by rw [mO (by omega)];exact h.c0,mS h.c1,by rw [mO (by omega)];exact h.c2,by rw [mO (by omega)];exact h.c3,fun j=>by simpa using h.fr j⟩
theorem Fw (w:af)(R o:Nat)(v:Value)(n:Nat):w.grownBy ((w.drewN n).setCell ⟨R,o,none⟩ v) (some R) :=
 ⟨rfl,rfl,rfl,by simp,fun k _ hk=>Below.heap_setCell _ _ _ k (fun e=>hk (by rw [e]))⟩
theorem H9 {w w':af}{R o:Nat}{v:Value}(h:w.grownBy w' (some R)):w.grownBy (w'.setCell ⟨R,o,none⟩ v) (some R) :=
 ⟨h.os,h.tape,h.output,by simpa using h.size,fun k hk hne=>(Below.heap_setCell w' _ _ k (fun e=>hne (by rw [e]))).trans (h.block k hk hne)⟩
def mP (s t:ByteArray)(p:Nat)(bad:Bool):Bool:=!bad&&dX s t p
def Qo (s t:ByteArray)(p:Nat)(bad:Bool):Nat:=if mP s t p bad then p+t.size else p
theorem uF {s t:ByteArray}{p:Nat}{bad:Bool}(h:mP s t p bad=true):Qo s t p bad=p+t.size:=by simp [Qo,h]
theorem zg {s t:ByteArray}{p:Nat}{bad:Bool}(h:mP s t p bad=false):Qo s t p bad=p:=by simp [Qo,h]
theorem lX (R:Nat)(s t:bI)(p:Nat)(bad:Bool)(v:Value)(w:af)(h:RdC w R s p bad v)(hs:s.size<=1000)(hp:p<=s.size)(ht:t.size<=100) :
  Calls prog 236 #[.pointer (some ⟨R,0,none⟩),.string t] w fun e w'=>e=.returned (.bool (mP s t p bad))/\RdC w' R s (Qo s t p bad) bad v/\w.grownBy w' (some R):=by
 have H:=ai h;have c0:=h.c0;have c1:=h.c1;have c2:=h.c2;have f1:=h.fr 1;have hlt:=h.lt;have h0:=h;clear h H;have hwr:IntKind.i64.wrap ((p:Int)+(t.size:Int))=(p:Int)+(t.size:Int):=by simp [IntKind.wrap,IntKind.bits,IntKind.signed];omega
 have no:∀ {n:Nat} {e:Ending},mP s t p bad=false->e=.returned (.bool false)->e=.returned (.bool (mP s t p bad))/\RdC (w.drewN n) R s (Qo s t p bad) bad v/\w.grownBy (w.drewN n) (some R):=fun hb he=>⟨by rw [hb];exact he,by rw [zg hb];exact h0.drewN _,⟨rfl,rfl,rfl,Ue _,fun _ _ _=>rfl⟩⟩;have yes:∀ {n:Nat} {e:Ending},mP s t p bad=true->e=.returned (.bool true)->e=.returned (.bool (mP s t p bad))/\RdC ((w.drewN n).setCell ⟨R,1,none⟩ (.int .i64 ((p:Int)+(t.size:Int)))) R s (Qo s t p bad) bad v/\w.grownBy ((w.drewN n).setCell ⟨R,1,none⟩ (.int .i64 ((p:Int)+(t.size:Int)))) (some R):=fun hb he=>⟨by rw [hb];exact he,by rw [uF hb];exact (h0.drewN _).on (p+t.size),Fw _ _ _ _ _⟩;have NO:Hid (∀ {n:Nat} {e:Ending},_):=@no;have YES:Hid (∀ {n:Nat} {e:Ending},_):=@yes;clear no yes h0;cases bad;case true=>
  have HB:Hid (mP s t p true=false):=rfl;clear hwr;go_enter func236,ntmps236;go_wp2_with fail;go_quiet (fail);go_wp2;go_ret;exact NO.out HB.out rfl
 by_cases hl:p+t.size<=s.size
 ·have hd:decide ((s.size:Int)<(p:Int)+(t.size:Int))=false:=by simp;omega
  have hp1:(p:Int)<=(p:Int)+(t.size:Int):=by omega
  have hp2:(p:Int)+(t.size:Int)<=(s.size:Int):=by omega
  have hnn:=bF p;have hla:dX s t p=((s.extract p (p+t.size)).toList==t.toList):=by simp [dX,hl]
  cases he:(s.extract p (p+t.size)).toList==t.toList;case true=>
   have HB:Hid (mP s t p false=true):=by show _=_;simp only [mP,hla,he];rfl
   have hq:(!(s.extract p (p+t.size)).toList==t.toList)=false:=by rw [he];rfl
   clear he hla;go_enter func236,ntmps236;go_wp2_with fail;go_quiet (fail);go_wp2;go_ret;exact YES.out HB.out rfl
  have HB:Hid (mP s t p false=false):=by show _=_;simp only [mP,hla,he];rfl
  have hq:(!(s.extract p (p+t.size)).toList==t.toList)=true:=by rw [he];rfl
  clear he hla;go_enter func236,ntmps236;go_wp2_with fail;go_quiet (fail);go_wp2;go_ret;exact NO.out HB.out rfl
 have hd:decide ((s.size:Int)<(p:Int)+(t.size:Int))=true:=by simp;omega
 have HB:Hid (mP s t p false=false):=by show _=_;simp [mP,dX,hl]
 clear hl;go_enter func236,ntmps236;go_wp2_with fail;go_quiet (fail);go_wp2;go_ret;exact NO.out HB.out rfl
def wat (R:Nat)(w:World):Nat:=match w.cell? ⟨R,1,none⟩ with
 | some (.int _ z)=>z.toNat
 | _=>0
theorem RdC.place {w:af}{R:Nat}{s:ByteArray}{p:Nat}{bad:Bool}{v:Value}(h:RdC w R s p bad v):wat R w=p:=by
 simp [Go.Proofs.YtajkkeikihhejaaGreat.wat,h.c1]
theorem DY (l:List UInt8)(n:Nat)(h1:∀ i (h:i<l.length),i<n->eH l[i]=true)(h2:∀ h:n<l.length,eH l[n]=false)(hn:n<=l.length):(l.takeWhile eH).length=n:=by
 induction l generalizing n with
 | nil=>simp at hn;simp [hn]
 | cons x xs ih =>
  cases n with
  | zero =>
   have:=h2 (by simp);simp at this;simp [List.takeWhile,this]
  | succ n =>
   have hx:=h1 0 (by simp) (by omega);simp at hx;have:=ih n (fun i hi hin=>by have:=h1 (i+1) (by simpa using hi) (by omega);simpa using this) (fun h=>by have:=h2 (by simpa using h);simpa using this) (by simpa using hn);simp [List.takeWhile,hx,this]
theorem Ny (s:bI)(p q:Nat)(hpq:p<=q)(hq:q<=s.size)(h1:∀ i (h:i<s.size),p<=i->i<q->eH s[i]=true)(h2:∀ h:q<s.size,eH s[q]=false):au s p=q-p:=by
 unfold au;have hl:s.data.toList.length=s.size:=by simp
 refine DY _ _ (fun i hi hin=>?_) (fun h=>?_) (by rw [List.length_drop,hl];omega)
 ·rw [List.length_drop,hl]at hi;have:=h1 (p+i) (by omega) (by omega) (by omega);simp only [List.getElem_drop,Array.getElem_toList];exact this
 rw [List.length_drop,hl]at h;have:=h2 (by omega);simp only [List.getElem_drop,Array.getElem_toList];have e:p+(q-p)=q:=by omega
 simp only [e];exact this
theorem uG (R:Nat)(s:bI)(p:Nat)(bad:Bool)(v:Value)(w:af)(h:RdC w R s p bad v)(hs:s.size<=1000)(hp:p<=s.size) :
  Calls prog 250 #[.pointer (some ⟨R,0,none⟩)] w fun e w'=>e=.returned (.string (ay s p))/\RdC w' R s (p+au s p) bad v/\w.grownBy w' (some R):=by
 have H:=ai h;have c1:=h.c1;clear h;go_enter func250,ntmps250;go_wp2_with fail;clear c1;go_loopw [8] (fun _ wr=>∃ q:Nat,p<=q/\q<=s.size/\Hid (∀ i (h:i<s.size),p<=i->i<q->eH s[i]=true)/\Hid (RdC wr R s q bad v)/\Hid (w.grownBy wr (some R))) (fun _ wr=>s.size-wat R wr);case atStart=>exact ⟨p,Ue _,hp,fun i h h1 h2=>by omega,H,⟨rfl,rfl,rfl,Ue _,fun _ _ _=>rfl⟩⟩
 obtain ⟨q,hq1,hq2,HL,HR,HG⟩:=hrel;have c0:=HR.out.c0;have c1:=HR.out.c1;have f1:=HR.out.fr 1;have hlt:=HR.out.lt;have hq0:=bF q;have stop:∀ n m,(∀ h:q<s.size,eH s[q]=false)->Ending.returned (.string (s.extract p q))=.returned (.string (ay s p))/\RdC ((wr.drewN n).drewN m) R s (p+au s p) bad v/\w.grownBy ((wr.drewN n).drewN m) (some R):=fun n m hn=>by
  have e:=Ny s p q hq1 hq2 HL.out hn;have e2:p+au s p=q:=by omega
  exact ⟨by unfold ay;rw [e2],by rw [e2];exact (HR.out.drewN n).drewN m,⟨HG.out.os,HG.out.tape,HG.out.output,HG.out.size,HG.out.block⟩⟩
 have STOP:=ai stop;clear stop;have hx1:(p:Int)<=(q:Int):=by omega
 have hx2:(q:Int)<=(s.size:Int):=by omega
 have hx3:=bF p;by_cases hlt2:q<s.size
 ·have hq3:(q:Int)<(s.size:Int):=by omega
  have hd:decide ((q:Int)<(s.size:Int))=true:=by simpa using hq3
  by_cases hb1:(97:Int)<=(s[q].toNat:Int)
  ·have hd1:decide ((97:Int)<=(s[q].toNat:Int))=true:=by simpa using hb1
   by_cases hb2:(s[q].toNat:Int)<=122
   ·have hd2:decide ((s[q].toNat:Int)<=122)=true:=by simpa using hb2
    have HL2:Hid (∀ i (h:i<s.size),p<=i->i<q+1->eH s[i]=true):=fun i h h1 h2=>by
     by_cases e:i=q
     ·subst e;simp [eH];omega
     exact HL.out i h h1 (by omega)
    have hwr2:IntKind.i64.wrap ((q:Int)+1)=(q:Int)+1:=by simp [IntKind.wrap,IntKind.bits,IntKind.signed];omega
    go_wp2_with fail;go_quiet (fail);have HR2:Hid (RdC ((wr.drewN nq).setCell ⟨R,1,none⟩ (.int .i64 ((q:Int)+1))) R s (q+1) bad v):=(HR.out.drewN nq).on (q+1);have HG2:Hid (w.grownBy ((wr.drewN nq).setCell ⟨R,1,none⟩ (.int .i64 ((q:Int)+1))) (some R)):=H9 (w':=wr.drewN nq) ⟨HG.out.os,HG.out.tape,HG.out.output,HG.out.size,HG.out.block⟩;have hm1:=HR.out.place;have hm2:=HR2.out.place;have HM:Hid (s.size-wat R ((wr.drewN nq).setCell ⟨R,1,none⟩ (.int .i64 ((q:Int)+1)))<s.size-wat R wr):=by show _<_;rw [hm1,hm2];omega
    clear hm1 hm2;go_wp2;go_roundw;case rel=>exact ⟨q+1,by omega,by omega,HL2,HR2,HG2⟩
    exact HM.out
   have hd2:decide ((s[q].toNat:Int)<=122)=false:=by simpa using hb2
   have HN:Hid (∀ h:q<s.size,eH s[q]=false):=fun h=>by simp [eH];omega
   go_wp2_with fail;go_quiet (fail);go_wp2_with fail;go_quiet (fail);go_wp2;go_ret;exact STOP.out _ _ HN.out
  have hd1:decide ((97:Int)<=(s[q].toNat:Int))=false:=by simpa using hb1
  have HN:Hid (∀ h:q<s.size,eH s[q]=false):=fun h=>by simp [eH];omega
  go_wp2_with fail;go_quiet (fail);go_wp2_with fail;go_quiet (fail);go_wp2;go_ret;exact STOP.out _ _ HN.out
 have hd:decide ((q:Int)<(s.size:Int))=false:=by simp;omega
 have HN:Hid (∀ h:q<s.size,eH s[q]=false):=fun h=>absurd h hlt2;go_wp2_with fail;go_quiet (fail);go_wp2_with fail;go_quiet (fail);go_wp2;go_ret;exact STOP.out _ _ HN.out
end Go.Proofs.YtajkkeikihhejaaGreat
