/- What the document's reader leaves is an expression in memory. -/
import Derived.Test.YtajkkeikihhejaaGreatSq
import Derived.Test.YtajkkeikihhejaaGreatJ19
import Derived.Test.YtajkkeikihhejaaGreatJ24
import Derived.Test.YtajkkeikihhejaaGreatJ23
open Go.Proofs.Tryz
namespace Go.Proofs.YtajkkeikihhejaaGreat
set_option maxRecDepth 100000
open Go.ChangeShapes Go.WideShapes Go.ChangeAt Go.RowKit
open Pl
theorem RdF.nod {w:af} {R:Nat} {s:ByteArray} {st:RS} {base:Nat} {v:Value} {qs:List ER} (h:RdF w R s st base v qs):NodM w base v qs:=⟨h.own,h.zA,h.zK,h.ok,h.lie,h.one,h.two,h.cA⟩
def sm:List Nat→Nat
 | []=>0
 | x::xs=>x + sm xs
theorem Dt:∀ xs ys:List Nat,sm (xs ++ ys)=sm xs + sm ys
 | [],ys=>by simp [sm]
 | x::xs,ys=>by rw [List.cons_append]; simp only [sm]; rw [Dt xs ys]; omega
theorem Ml (sep:bH) (xs:List ByteArray):(fu sep xs).size≤sm (xs.map fun x=>x.size + sep.size):=by
 suffices h:∀ ys:List ByteArray,(fu sep ys.reverse).size≤sm (ys.reverse.map fun x=>x.size + sep.size) by
  have:=h xs.reverse;rwa [List.reverse_reverse] at this
 intro ys
 induction ys with
 | nil=>exact TS _
 | cons y ys ih =>
  rw [List.reverse_cons,oL,List.map_append,Dt];simp only [List.map_cons,List.map_nil,sm];split
  ·omega
  simp only [Uh]; omega
def kS (f:Int→Int):List Int→Int
 | []=>0
 | k::ks=>(k - f k + 1) + kS f ks
theorem vI (f:Int→Int):∀ xs ys:List Int,kS f (xs ++ ys)=kS f xs + kS f ys
 | [],ys=>by simp [kS]
 | x::xs,ys=>by rw [List.cons_append]; simp only [kS]; rw [vI f xs ys]; omega
theorem su (f:Int→Int):∀ xs:List Int,kS f xs.reverse=kS f xs
 | []=>rfl
 | x::xs=>by rw [List.reverse_cons,vI,su f xs]; simp only [kS]; omega
theorem xR {f:Int→Int}:∀ (ks:List Int) (a:Int),0≤di f ks a→kS f ks=a + 1 - di f ks a
 | [],a,_=>by simp [kS,di]
 | k::ks,a,h=>by
  unfold di at h ⊢;split at h
  ·omega
  rename_i h1;rw [if_neg h1];split at h
  ·omega
  rename_i h2;rw [if_neg h2];have hk:k=a:=Decidable.byContradiction fun e=>h1 (.inr e);subst hk;simp only [kS];rw [xR ks _ h];omega
theorem QT {es:List Ex} (hes:Rn es) (ht:∀ j,j < es.length→0≤ay es j) (n:Nat):n < es.length→∀ i,((iN es n i).size:Int)≤250 * ((n:Int) - ay es n + 1):=by
 induction n using Nat.strongRecOn with
 | ind n ih =>
  intro hn i;have hle:=iB es n;have h1:=Fp (DR es n) i (lT (jw es n) (DR es n));unfold iN
  suffices h:((lT (jw es n) (DR es n)).size:Int)≤250 * ((n:Int) - ay es n + 1) - 10 by omega
  have UA:=hes.2.1 n hn;obtain ⟨hk5,-⟩:=p8 UA;rw [DU hn];unfold lT;unfold av at UA;split
  ·rename_i k;rw [if_pos k] at UA;simp only [TU] at UA;have:=jW UA.1.1.1;omega
  rename_i k1;rw [if_neg k1] at UA;split
  ·rename_i k2;rw [if_pos k2] at UA;simp only [TU] at UA;have:=bQ UA.1.1.1;omega
  rename_i k2;rw [if_neg k2] at UA;split
  ·rename_i k3;rw [if_pos k3] at UA;simp only [TU] at UA;have h1:=bQ UA.1.1.1;have h2:=bQ UA.1.1.2;have e1:(⟨#[45,62]⟩:ByteArray).size=2:=rfl;simp only [Uh];omega
  have hj:=Ml (gG es[n].kind) (es[n].kids.map (jw es n));rw [lQ,List.map_map] at hj;have hspan:kS (dx es n) es[n].kids=(n:Int) - ay es n:=by
   have h0:=ht n hn;rw [jb] at h0;have h2:=xR _ _ h0;rw [su,← jb] at h2;have e:dC es n=es[n].kids:=by simp [dC,hn]
   rw [e] at h2;omega
  have hsum:∀ ks:List Int,(∀ k ∈ ks,0≤k∧k.toNat < n)→(sm (ks.map ((fun x:ByteArray=>x.size + 3) ∘ jw es n)):Int)≤250 * kS (dx es n) ks + 3 * (ks.length:Int):=by
   intro ks
   induction ks with
   | nil=>intro _; simp [sm,kS]
   | cons k ks ih2 =>
    intro hks;obtain ⟨hk0,hk1⟩:=hks k (Us ..);have h3:=ih2 fun x hx=>hks x (Uq _ hx);have h4:=ih k.toNat hk1 (by omega) true;have e1:jw es n k=iN es k.toNat true:=by unfold jw; rw [if_pos hk1,DT]
    have e2:dx es n k=ay es k.toNat:=by unfold dx; rw [if_pos ⟨hk0,hk1⟩]
    have e3:((k.toNat:Nat):Int)=k:=by omega
    simp only [List.map_cons,sm,kS,Function.comp_apply,List.length_cons];rw [e1,e2];rw [e3] at h4;omega
  have h5:=hsum es[n].kids (ut hes hn);rw [hspan] at h5;have:(es[n].kids.length:Int)≤5:=by omega
  omega
theorem Pq {es:List Ex} (h:aK es=true):∀ j,j < es.length→0≤ay es j:=by
 rw [vY] at h;unfold kL at h;simp only [TU,Ud] at h;have h1:=h.2.1;unfold jv at h1;rw [Ub] at h1;intro j hj;simpa using h1 j (by simpa using hj)
theorem EL (es:List Ex):(gQ es).size≤3750:=by
 by_cases h:aK es=true
 ·have ht:=Pq h;have hf:=lm h;have h1:=QT (Nj h) ht (es.length - 1) (by omega) false;have h2:=ht (es.length - 1) (by omega);rw [Ar h];omega
 rw [Df (by simpa using h)];show 0≤3750;omega
def GK (r:Rl):ByteArray:=((r.name ++ ⟨#[32,61,32]⟩) ++ gQ r.expr) ++ ⟨#[10]⟩
def dN:List Rl→ByteArray
 | []=>⟨#[]⟩
 | r::rs=>GK r ++ dN rs
def mD (n:ByteArray):ByteArray:=(⟨#[116,121,112,101,32]⟩ ++ n) ++ ⟨#[10]⟩
def dw:List Ty→ByteArray
 | []=>⟨#[]⟩
 | t::ts=>(mD t.name ++ dN t.rels) ++ dw ts
theorem vJ (a:bH):a ++ (⟨#[]⟩:ByteArray)=a:=by apply jc; simp [ByteArray.data_append]
theorem qP:∀ (xs:List Rl) (r:Rl),dN (xs ++ [r])=dN xs ++ GK r
 | [],r=>by simp only [List.nil_append,dN,vJ,rH]
 | x::xs,r=>by rw [List.cons_append]; simp only [dN]; rw [qP xs r,← ByteArray.append_assoc]
theorem mE:∀ (xs:List Ty) (t:Ty),dw (xs ++ [t])=dw xs ++ (mD t.name ++ dN t.rels)
 | [],t=>by simp only [List.nil_append,dw,vJ,rH]
 | x::xs,t=>by rw [List.cons_append]; simp only [dw]; rw [mE xs t,← ByteArray.append_assoc]
theorem Mm (rs:List RR) (k:Nat) (h:k < rs.length):eD (rs.take (k + 1))=eD (rs.take k) ++ [⟨rs[k].name,aj rs[k].rows⟩]:=by
 rw [TV h]; unfold eD; rw [List.map_append]; rfl
theorem Mo (rs:List TR) (k:Nat) (h:k < rs.length):ae (rs.take (k + 1))=ae (rs.take k) ++ [⟨rs[k].name,eD rs[k].rows⟩]:=by
 rw [TV h]; unfold ae; rw [List.map_append]; rfl
theorem xS (n:bH):(mD n).size=n.size + 6:=by
 have e1:(⟨#[116,121,112,101,32]⟩:ByteArray).size=5:=rfl;have e2:(⟨#[10]⟩:ByteArray).size=1:=rfl;unfold mD;simp only [Uh];omega
def Ps:ByteArray:=⟨#[116,121,112,101,32]⟩
def TA:ByteArray:=⟨#[61,32]⟩
def TB:ByteArray:=⟨#[10]⟩
def A8 (l:ByteArray):Bool:=decide (5 < l.size) && (l.extract 0 5).toList == Ps.toList
def xU (t:ByteArray):Bool:=decide (2≤t.size) && (t.extract 0 2).toList == TA.toList
def Du (l:ByteArray):ByteArray:=(iJ 32 l).extract 2 (iJ 32 l).size
def EM (acc:List Ty) (r:Rl):List Ty:=match acc.getLast? with
 | none=>[]
 | some t=>acc.dropLast ++ [⟨t.name,t.rels ++ [r]⟩]
theorem qQ (xs:List Ty) (t:Ty) (r:Rl):EM (xs ++ [t]) r=xs ++ [⟨t.name,t.rels ++ [r]⟩]:=by
 unfold EM; simp
def ni (acc:List Ty) (l:ByteArray):Option (List Ty) :=
 if A8 l then some (acc ++ [⟨l.extract 5 l.size,[]⟩])
 else if !acc.isEmpty && xU (iJ 32 l) && mq (Du l) then some (EM acc ⟨ko 32 l,(kD (Du l)).out⟩) else none
def dO:Nat→ByteArray→List Ty→Option (List Ty)
 | 0,_,acc=>some acc
 | n + 1,rest,acc =>
  if rest.toList.isEmpty then some acc
  else if oO 10 rest then
   match ni acc (ko 10 rest) with
   | none=>none
   | some a=>dO n (iJ 10 rest) a
  else none
theorem mF (b:bH):b.toList=b.data.toList:=Go.ByteArray.toList_eq b
theorem Mq (c:UInt8) (l:List UInt8) (h:(iP c l).2.2=true):l=(iP c l).1 ++ c::(iP c l).2.1:=by
 induction l with
 | nil=>simp [iP] at h
 | cons b l ih =>
  unfold iP at h ⊢;split
  ·rename_i e; simp [e]
  rename_i e;rw [if_neg e] at h;simp only [List.cons_append,List.cons.injEq,true_and];exact ih h
theorem A9 {c:UInt8} {s:ByteArray} (h:oO c s=true):s=(ko c s ++ ⟨#[c]⟩) ++ iJ c s:=by
 apply jc;have:=Mq c s.data.toList h;simpa [ko,iJ,ByteArray.data_append] using this
theorem GL {c:UInt8} {s:ByteArray} (h:oO c s=true):(iJ c s).size < s.size:=by
 have:=congrArg ByteArray.size (A9 h);have e1:(⟨#[c]⟩:ByteArray).size=1:=rfl;simp only [Uh,e1] at this;omega
theorem GM (l:bH) (k:Nat) (hk:k≤l.size):l=l.extract 0 k ++ l.extract k l.size:=by
 apply jc;rw [ByteArray.data_append,ByteArray.data_extract,ByteArray.data_extract];have hk':k≤l.data.size:=hk;have h2:l.size=l.data.size:=rfl;rw [h2];simp;rw [show max k l.size=l.data.toList.length by simp [Nat.max_def]; omega,Ug]
theorem toList_inj {a b:ByteArray} (h:a.toList=b.toList):a=b:=by
 rw [mF,mF] at h; exact jc h
theorem Pt {l:ByteArray} (h:A8 l=true):l=Ps ++ l.extract 5 l.size:=by
 unfold A8 at h;simp only [TU,Ud,beq_iff_eq] at h;have e:=toList_inj h.2
 conv=>lhs; rw [GM l 5 (by omega),e]
theorem Pv {l:ByteArray} (h:xU (iJ 32 l)=true):l=((ko 32 l ++ ⟨#[32,61,32]⟩) ++ Du l):=by
 unfold xU at h;simp only [TU,Ud,beq_iff_eq] at h;have hf:oO 32 l=true:=by
  cases e:oO 32 l;case true=>rfl
  rw [Nw e] at h; exact absurd h.1 (by decide)
 have e:=toList_inj h.2;have e2:iJ 32 l=TA ++ Du l:=by
  conv=>lhs; rw [GM (iJ 32 l) 2 h.1,e]
  rfl
 have e3:(⟨#[32,61,32]⟩:ByteArray)=⟨#[32]⟩ ++ TA:=by apply jc; simp [ByteArray.data_append,TA]
 conv=>lhs; rw [A9 hf,e2]
 rw [e3];simp only [ByteArray.append_assoc]
theorem Ba {s:ByteArray} (h:mq s=true):gQ (kD s).out=s∧s.size≤1000∧aK (kD s).out=true:=by
 unfold mq at h;simp only [TU,Ud,beq_iff_eq] at h;exact ⟨toList_inj h.2,h.1.1.1.1,h.1.2⟩
theorem Ms {acc acc':List Ty} {l:ByteArray} (h:ni acc l=some acc'):dw acc'=dw acc ++ (l ++ TB):=by
 unfold ni at h;split at h
 ·rename_i ht;injection h with h;subst h;rw [mE]
  conv=>rhs; rw [Pt ht]
  simp only [mD,dN,vJ];rfl
 split at h
 ·rename_i h2;injection h with h;subst h;simp only [TU,Bool.not_eq_true'] at h2;obtain ⟨⟨h3,h4⟩,h5⟩:=h2;have hne:acc ≠ []:=fun e=>by rw [e] at h3; simp at h3
  have e1:=List.dropLast_concat_getLast hne;rw [← e1,qQ,mE,mE,qP]
  conv=>rhs; rw [Pv h4]
  have e2:=(Ba h5).1;simp only [GK,e2,ByteArray.append_assoc];rfl
 cases h
def RJ (T:List Ty):Prop:=∀ t ∈ T,∀ r ∈ t.rels,r.expr.length≤15∧∀ e ∈ r.expr,e.light∧e.fits
theorem QU {acc acc':List Ty} {l:ByteArray} (h:ni acc l=some acc') (hk:RJ acc):RJ acc':=by
 unfold ni at h;split at h
 ·injection h with h;subst h;intro t ht r hr;rcases Uc.1 ht with ht | ht
  ·exact hk t ht r hr
  rw [Ua] at ht; subst ht; cases hr
 split at h
 ·rename_i h2;injection h with h;subst h;simp only [TU,Bool.not_eq_true'] at h2;obtain ⟨⟨h3,h4⟩,h5⟩:=h2;have hne:acc ≠ []:=fun e=>by rw [e] at h3; simp at h3
  have e1:=List.dropLast_concat_getLast hne;obtain ⟨-,hs,hsp⟩:=Ba h5;intro t ht r hr;rw [← e1,qQ] at ht;rcases Uc.1 ht with ht | ht
  ·exact hk t (by rw [← e1]; exact List.mem_append_left _ ht) r hr
  rw [Ua] at ht; subst ht;rcases Uc.1 hr with hr | hr
  ·exact hk (acc.getLast hne) (List.getLast_mem hne) r hr
  rw [Ua] at hr; subst hr;refine ⟨(lm hsp).2,fun e he=>?_⟩;exact (OW (s:=Du l) _ true ⟨0,false,[]⟩ (TW _) (fun e he=>by cases he) e he).light hs
 cases h
theorem xV:∀ (rs:List Rl),rs.length * 4≤(dN rs).size∧∀ r ∈ rs,r.name.size + 4≤(dN rs).size
 | []=>⟨by simp,fun r hr=>by cases hr⟩
 | r::rs=>by
  obtain ⟨h1,h2⟩:=xV rs;have e1:(⟨#[32,61,32]⟩:ByteArray).size=3:=rfl;have e2:(⟨#[10]⟩:ByteArray).size=1:=rfl;have h3:(dN (r::rs)).size=r.name.size + 3 + (gQ r.expr).size + 1 + (dN rs).size:=by simp only [dN,GK,Uh,e1,e2]
  refine ⟨by rw [h3,List.length_cons]; omega,fun q hq=>?_⟩;rcases List.mem_cons.1 hq with rfl | hq
  ·omega
  have:=h2 q hq; omega
theorem Bb:∀ (T:List Ty),T.length * 6≤(dw T).size∧∀ t ∈ T,t.name.size + 6 + (dN t.rels).size≤(dw T).size
 | []=>⟨by simp,fun r hr=>by cases hr⟩
 | t::ts=>by
  obtain ⟨h1,h2⟩:=Bb ts;have h3:(dw (t::ts)).size=t.name.size + 6 + (dN t.rels).size + (dw ts).size:=by simp only [dw,Uh,xS]
  refine ⟨by rw [h3,List.length_cons]; omega,fun q hq=>?_⟩;rcases List.mem_cons.1 hq with rfl | hq
  ·omega
  have:=h2 q hq; omega
theorem rows_ok {rs:List TR} (hk:RJ (ae rs)) (hz:(dw (ae rs)).size≤3000):rs.length≤500∧(∀ r ∈ rs,r.rows.length≤750∧r.name.size≤3000∧∀ q ∈ r.rows,q.name.size≤3000)∧(∀ r ∈ rs,r.light)∧∀ r ∈ rs,r.fits:=by
 obtain ⟨h1,h2⟩:=Bb (ae rs);rw [kX] at h1;have key:∀ r ∈ rs,r.rows.length≤750∧r.name.size≤3000∧∀ q ∈ r.rows,q.name.size≤3000:=fun r hr=>by
  have h3:=h2 r.p (Ue.2 ⟨r,hr,rfl⟩);obtain ⟨h4,h5⟩:=xV (eD r.rows);rw [q8] at h4;have h6:r.name.size + 6 + (dN (eD r.rows)).size≤(dw (ae rs)).size:=h3;refine ⟨by omega,by omega,fun q hq=>?_⟩;have:=h5 q.p (Ue.2 ⟨q,hq,rfl⟩);have h7:q.name.size + 4≤(dN (eD r.rows)).size:=this;omega
 have kex:∀ r ∈ rs,∀ q ∈ r.rows,q.rows.length≤15∧∀ x ∈ q.rows,x.e.light∧x.e.fits:=fun r hr q hq=>by
  have:=hk r.p (Ue.2 ⟨r,hr,rfl⟩) q.p (Ue.2 ⟨q,hq,rfl⟩);exact ⟨by rw [← aT]; exact this.1,fun x hx=>this.2 x.e (Ue.2 ⟨x,hx,rfl⟩)⟩
 refine ⟨by omega,key,fun r hr=>⟨by have:=(key r hr).1; omega,fun q hq=>⟨by have:=(kex r hr q hq).1; omega,fun x hx=>((kex r hr q hq).2 x hx).1⟩⟩,fun r hr=>⟨by have:=(key r hr).2.1; unfold maxLen; omega,by have:=(key r hr).1; unfold maxLen; omega,fun q hq=>⟨by have:=(key r hr).2.2 q hq; unfold maxLen; omega,by have:=(kex r hr q hq).1; unfold maxLen; omega,fun x hx=>((kex r hr q hq).2 x hx).2⟩⟩⟩
def lastT:ByteArray:=⟨#[116,121,112,101,32,100,111,99,10,118,105,101,119,101,114,32,61,32,116,104,105,115,40,117,115,101,114,41,10,116,121,112,101,32,117,115,101,114,10]⟩
def GN:List Ty:=[⟨⟨#[100,111,99]⟩,[⟨⟨#[118,105,101,119,101,114]⟩,[⟨1,[⟨⟨#[117,115,101,114]⟩,⟨#[]⟩⟩],⟨#[]⟩,⟨#[]⟩,[]⟩]⟩]⟩,⟨⟨#[117,115,101,114]⟩,[]⟩]
theorem JH:dO (lastT.size + 1) lastT []=some GN:=by kernel_rfl
theorem JI:aJ GN=true:=by
 refine aY.2 ⟨by kernel_rfl,by kernel_rfl,fun _=>0,⟨fun _=>Int.le_refl _,fun k hk d hd=>?_⟩⟩;have h:((ak GN).all fun k=>(il GN k).isEmpty)=true:=by kernel_rfl
 have h2:=Ub.1 h k hk;rw [List.isEmpty_iff.1 h2] at hd;cases hd
def Pre (t:ByteArray):Prop:=∃ x y z c tl,t.data.toList=116::121::112::101::32::x::y::z::10::c::tl∧x ≠ 10∧y ≠ 10∧z ≠ 10∧c ≠ 116
theorem Pre.app {t:ByteArray} (h:Pre t) (u:bH):Pre (t ++ u):=by
 obtain ⟨x,y,z,c,tl,e,h1⟩:=h;exact ⟨x,y,z,c,tl ++ u.data.toList,by rw [ByteArray.data_append,Array.toList_append,e]; rfl,h1⟩
theorem Pw {n:ByteArray} (h:aP n=true):∀ b ∈ n.data.toList,b ≠ 10:=by
 intro b hb e;unfold aP dL rR at h;simp only [TU] at h;have:=Ub.1 h.1.2 b hb;rw [e] at this
 revert this
 decide
theorem Mt {rs:List TR} (hd:aJ (ae rs)=true) (h:Pre (dw (ae rs))):∃ t ts q qs x xs,rs=t::ts∧t.rows=q::qs∧q.rows=x::xs:=by
 have hS:=aY.1 hd;obtain ⟨x,y,z,c,tl,e,hx,hy,hz,hc⟩:=h;cases rs with
 | nil=>simp [ae,dw] at e
 | cons t ts =>
  have hn:=Pw (lw hS.1 0 (by simp)).1;simp only [List.getElem_cons_zero] at hn;have e2:(116::121::112::101::32::(t.name.data.toList ++ 10::((dN (eD t.rows)).data.toList ++ (dw (ae ts)).data.toList)))=116::121::112::101::32::x::y::z::10::c::tl:=by
   rw [← e];show _=(dw (⟨t.name,eD t.rows⟩::ae ts)).data.toList;simp [dw,mD,ByteArray.data_append]
  simp only [List.cons.injEq,true_and] at e2;have key:(dN (eD t.rows)).data.toList ++ (dw (ae ts)).data.toList=c::tl:=by
   generalize (dN (eD t.rows)).data.toList ++ (dw (ae ts)).data.toList=rest at e2;generalize t.name.data.toList=nm at e2 hn
   match nm,e2,hn with
   | [],e2,_=>simp at e2; exact absurd e2.1.symm hx
   | [a],e2,_=>simp at e2; exact absurd e2.2.1.symm hy
   | [a,b],e2,_=>simp at e2; exact absurd e2.2.2.1.symm hz
   | [a,b,d],e2,_=>simp at e2; exact e2.2.2.2
   | a::b::d::f::nm,e2,hn=>simp at e2; exact absurd e2.2.2.2.1 (hn f (by simp))
  cases hr:t.rows with
  | nil =>
   rw [hr] at key;cases ts with
   | nil=>simp [eD,dN,ae,dw] at key
   | cons u us =>
    have:(dw (ae (u::us))).data.toList.head?=some 116:=by
     show (dw (⟨u.name,eD u.rows⟩::ae us)).data.toList.head?=_;simp [dw,mD,ByteArray.data_append]
    simp only [eD,List.map_nil,dN] at key;rw [show ((⟨#[]⟩:ByteArray).data.toList ++ (dw (ae (u::us))).data.toList)=(dw (ae (u::us))).data.toList from rfl] at key;rw [key] at this;simp at this;exact absurd this hc
  | cons q qs =>
   obtain ⟨h1,-⟩:=(bq hS.1).2.2 t (by simp) q (by rw [hr]; simp);have h2:=(lm h1).1;rw [aT] at h2;cases hq:q.rows with
   | nil=>rw [hq] at h2; simp at h2
   | cons x xs=>exact ⟨t,ts,q,qs,x,xs,rfl,hr,hq⟩
open Go.Maps
set_option linter.unusedVariables false
structure WP (rows:List ER):Prop where
 len:rows.length≤1000
 kids:∀ q ∈ rows,q.e.kids.length≤1000
 low:Ku (aj rows)
 two:∀ e ∈ aj rows,e.kind=6→2≤e.kids.length
theorem WP.kid {rows:List ER} (h:WP rows) {n:Nat} (hn:n < rows.length) {i:Int} (hi:i ∈ rows[n].e.kids):0≤i∧i < (n:Int):=by
 have:=h.low n (by rw [aT]; exact hn) i;have e:(aj rows)[n]'(by rw [aT]; exact hn)=rows[n].e:=by simp [aj]
 rw [e] at this;exact this hi
theorem xW (v0:Value) (V8:Option Addr) (VN:Nat) (ts:List Tp) (UC:Option Addr) (capE:Nat) (rows:List ER) (V9:Option Addr) (VO:Nat) (truth:List Fc) (f:Fc) (htl:ts.length≤1048576) (hN:WP rows) (htr:truth.length≤1048576) :
  ∀ (k n:Nat) (adK:Option Addr) (capK:Nat) (known:List Fc) (w:World),n < k→n < rows.length→known.length≤1048576→HW w V8 ts UC rows adK known V9 truth →
  Calls prog 98 #[v0,.slice V8 ts.length VN,.slice UC rows.length capE,.int .i64 (n:Int),.slice adK known.length capK,.slice V9 truth.length VO,.agg #[.string f.a,.string f.b,.string f.r,.string f.c,.string f.d]] w fun e w'=>e=.returned (.bool (dS ts (aj rows) truth f k known n))∧ag w w'
 | 0,_,_,_,_,_,h,_,_,_=>absurd h (Uw _)
 | k + 1,n,adK,capK,known,w,hk,hn,hkn,hW=>by
  have e:(aj rows)[n]?=some rows[n].e:=by simp [aj,hn]
  have Vf:∀ (adK':Option Addr) (Zw:Nat) (known':List Fc),known'.length≤1048576→HW w V8 ts UC rows adK' known' V9 truth→∀ i ∈ rows[n].e.kids,Pe v0 (.slice V8 ts.length VN) (.slice UC rows.length capE) (.slice adK' known'.length Zw) (.slice V9 truth.length VO) f w i (dS ts (aj rows) truth f k known' i.toNat):=fun adK' Zw known' hl hW' i hi w1 hb1=>by
   have h1:=hN.kid hn hi;have h2:=xW v0 V8 VN ts UC capE rows V9 VO truth f htl hN htr k i.toNat adK' Zw known' w1 (by omega) (by omega) hl (hW'.below hb1);have e2:((i.toNat:Nat):Int)=i:=by omega
   rw [e2] at h2;exact h2
  unfold dS;rw [e];have hm:rows[n] ∈ rows:=TQ hn;have hme:rows[n].e ∈ aj rows:=Ue.2 ⟨_,hm,rfl⟩;by_cases k1:rows[n].e.kind=1
  ·simp only [if_pos k1];exact EH v0 V8 VN ts UC capE rows n adK capK known V9 VO truth f w hW hn hN.len hkn htl k1
  by_cases k2:rows[n].e.kind=2
  ·simp only [if_neg k1,if_pos k2];exact Gx v0 V8 VN ts UC capE rows n adK capK known V9 VO truth f w hW hn hN.len hkn k2
  by_cases k3:rows[n].e.kind=3
  ·simp only [if_neg k1,if_neg k2,if_pos k3];exact EJ v0 V8 VN ts UC capE rows n adK capK known V9 VO truth f w hW hn hN.len hkn htl k3
  by_cases k4:rows[n].e.kind=4
  ·simp only [if_neg k1,if_neg k2,if_neg k3,if_pos k4];exact BJ (fun i=>dS ts (aj rows) truth f k known i.toNat) v0 _ UC capE rows n _ _ f w hW.ex hn hN.len (hN.kids _ hm) k4 (Vf adK capK known hkn hW)
  by_cases k5:rows[n].e.kind=5
  ·simp only [if_neg k1,if_neg k2,if_neg k3,if_neg k4,if_pos k5];exact EK (fun i=>dS ts (aj rows) truth f k known i.toNat) v0 _ UC capE rows n _ _ f w hW.ex hn hN.len (hN.kids _ hm) k5 (Vf adK capK known hkn hW)
  by_cases k6:rows[n].e.kind=6
  ·simp only [if_neg k1,if_neg k2,if_neg k3,if_neg k4,if_neg k5,if_pos k6];have h2:=hN.two _ hme k6;have hg:∀ q,q < 2→rows[n].e.kids.getD q 0 ∈ rows[n].e.kids:=fun q hq=>by
    rw [List.getD_eq_getElem?_getD,TY (by omega)];exact TQ _
   exact Gy _ _ v0 _ UC capE rows n _ _ f w hW.ex hn hN.len (hN.kids _ hm) h2 k6 (Vf adK capK known hkn hW _ (hg 0 (by omega))) (Vf V9 VO truth htr ⟨hW.tup,hW.ex,hW.tr,hW.tr⟩ _ (hg 1 (by omega)))
  simp only [if_neg k1,if_neg k2,if_neg k3,if_neg k4,if_neg k5,if_neg k6];exact JE v0 V8 VN ts UC capE rows n _ _ f w hW.ex hn hN.len k1 k2 k3 k4 k5 k6
end Go.Proofs.YtajkkeikihhejaaGreat
