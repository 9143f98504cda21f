/- A schema's text, in plain words, and how long it can be. -/
import Derived.Test.YtajkkeikihhejaaGreatSq
import Derived.Test.YtajkkeikihhejaaGreatJ25
open Go.Proofs.Tryz
set_option maxHeartbeats 80000000
namespace Go.Proofs.YtajkkeikihhejaaGreat
open Pl
def sm:List Nat→Nat
 | []=>0
 | x::xs=>x + sm xs
theorem Dh:∀ xs ys:List Nat,sm (xs ++ ys)=sm xs + sm ys
 | [],ys=>by simp [sm]
 | x::xs,ys=>by rw [List.cons_append]; simp only [sm]; rw [Dh xs ys]; omega
theorem Mh (sep:bF) (xs:List ByteArray):(fw sep xs).size≤sm (xs.map fun x=>x.size + sep.size):=by
 suffices h:∀ ys:List ByteArray,(fw sep ys.reverse).size≤sm (ys.reverse.map fun x=>x.size + sep.size) by
  have:=h xs.reverse;rwa [List.reverse_reverse] at this
 intro ys
 induction ys with
 | nil=>exact TS _
 | cons y ys ih =>
  rw [List.reverse_cons,oN,List.map_append,Dh];simp only [List.map_cons,List.map_nil,sm];split
  ·omega
  simp only [Uh]; omega
def kP (f:Int→Int):List Int→Int
 | []=>0
 | k::ks=>(k - f k + 1) + kP f ks
theorem vC (f:Int→Int):∀ xs ys:List Int,kP f (xs ++ ys)=kP f xs + kP f ys
 | [],ys=>by simp [kP]
 | x::xs,ys=>by rw [List.cons_append]; simp only [kP]; rw [vC f xs ys]; omega
theorem sD (f:Int→Int):∀ xs:List Int,kP f xs.reverse=kP f xs
 | []=>rfl
 | x::xs=>by rw [List.reverse_cons,vC,sD f xs]; simp only [kP]; omega
theorem xQ {f:Int→Int}:∀ (ks:List Int) (a:Int),0≤di f ks a→kP f ks=a + 1 - di f ks a
 | [],a,_=>by simp [kP,di]
 | k::ks,a,h=>by
  unfold di at h ⊢;split at h
  ·omega
  rename_i h1;rw [if_neg h1];split at h
  ·omega
  rename_i h2;rw [if_neg h2];have hk:k=a:=Decidable.byContradiction fun e=>h1 (.inr e);subst hk;simp only [kP];rw [xQ ks _ h];omega
theorem QI {es:List Ex} (hes:Ro es) (ht:∀ j,j < es.length→0≤ay es j) (n:Nat):n < es.length→∀ i,((iU es n i).size:Int)≤250 * ((n:Int) - ay es n + 1):=by
 induction n using Nat.strongRecOn with
 | ind n ih =>
  intro hn i;have hle:=iC es n;have h1:=FH (D5 es n) i (lW (jC es n) (D5 es n));unfold iU
  suffices h:((lW (jC es n) (D5 es n)).size:Int)≤250 * ((n:Int) - ay es n + 1) - 10 by omega
  have UA:=hes.2.1 n hn;obtain ⟨hk5,-⟩:=qi UA;rw [D7 hn];unfold lW;unfold av at UA;split
  ·rename_i k;rw [if_pos k] at UA;simp only [TU] at UA;have:=jW UA.1.1.1;omega
  rename_i k1;rw [if_neg k1] at UA;split
  ·rename_i k2;rw [if_pos k2] at UA;simp only [TU] at UA;have:=bQ UA.1.1.1;omega
  rename_i k2;rw [if_neg k2] at UA;split
  ·rename_i k3;rw [if_pos k3] at UA;simp only [TU] at UA;have h1:=bQ UA.1.1.1;have h2:=bQ UA.1.1.2;have e1:(⟨#[45,62]⟩:ByteArray).size=2:=rfl;simp only [Uh];omega
  have hj:=Mh (gH es[n].kind) (es[n].kids.map (jC es n));rw [lV,List.map_map] at hj;have hspan:kP (dx es n) es[n].kids=(n:Int) - ay es n:=by
   have h0:=ht n hn;rw [jb] at h0;have h2:=xQ _ _ h0;rw [sD,← jb] at h2;have e:dC es n=es[n].kids:=by simp [dC,hn]
   rw [e] at h2;omega
  have hsum:∀ ks:List Int,(∀ k ∈ ks,0≤k∧k.toNat < n)→(sm (ks.map ((fun x:ByteArray=>x.size + 3) ∘ jC es n)):Int)≤250 * kP (dx es n) ks + 3 * (ks.length:Int):=by
   intro ks
   induction ks with
   | nil=>intro _; simp [sm,kP]
   | cons k ks ih2 =>
    intro hks;obtain ⟨hk0,hk1⟩:=hks k (Us ..);have h3:=ih2 fun x hx=>hks x (Uq _ hx);have h4:=ih k.toNat hk1 (by omega) true;have e1:jC es n k=iU es k.toNat true:=by unfold jC; rw [if_pos hk1,D6]
    have e2:dx es n k=ay es k.toNat:=by unfold dx; rw [if_pos ⟨hk0,hk1⟩]
    have e3:((k.toNat:Nat):Int)=k:=by omega
    simp only [List.map_cons,sm,kP,Function.comp_apply,List.length_cons];rw [e1,e2];rw [e3] at h4;omega
  have h5:=hsum es[n].kids (uC hes hn);rw [hspan] at h5;have:(es[n].kids.length:Int)≤5:=by omega
  omega
theorem O7 {es:List Ex} (h:aK es=true):∀ j,j < es.length→0≤ay es j:=by
 rw [vY] at h;unfold kL at h;simp only [TU,Ud] at h;have h1:=h.2.1;unfold jv at h1;rw [Ub] at h1;intro j hj;simpa using h1 j (by simpa using hj)
theorem EK (es:List Ex):(gQ es).size≤3750:=by
 by_cases h:aK es=true
 ·have ht:=O7 h;have hf:=lm h;have h1:=QI (NJ h) ht (es.length - 1) (by omega) false;have h2:=ht (es.length - 1) (by omega);rw [Ap h];omega
 rw [Db (by simpa using h)];show 0≤3750;omega
def Gx (r:Rl):ByteArray:=((r.name ++ ⟨#[32,61,32]⟩) ++ gQ r.expr) ++ ⟨#[10]⟩
def dN:List Rl→ByteArray
 | []=>⟨#[]⟩
 | r::rs=>Gx r ++ dN rs
def mr (n:ByteArray):ByteArray:=(⟨#[116,121,112,101,32]⟩ ++ n) ++ ⟨#[10]⟩
def dw:List Ty→ByteArray
 | []=>⟨#[]⟩
 | t::ts=>(mr t.name ++ dN t.rels) ++ dw ts
theorem vD (a:bF):a ++ (⟨#[]⟩:ByteArray)=a:=by apply jc; simp [ByteArray.data_append]
theorem qO:∀ (xs:List Rl) (r:Rl),dN (xs ++ [r])=dN xs ++ Gx r
 | [],r=>by simp only [List.nil_append,dN,vD,rJ]
 | x::xs,r=>by rw [List.cons_append]; simp only [dN]; rw [qO xs r,← ByteArray.append_assoc]
theorem mD:∀ (xs:List Ty) (t:Ty),dw (xs ++ [t])=dw xs ++ (mr t.name ++ dN t.rels)
 | [],t=>by simp only [List.nil_append,dw,vD,rJ]
 | x::xs,t=>by rw [List.cons_append]; simp only [dw]; rw [mD xs t,← ByteArray.append_assoc]
theorem Mi (rs:List RR) (k:Nat) (h:k < rs.length):eD (rs.take (k + 1))=eD (rs.take k) ++ [⟨rs[k].name,aj rs[k].rows⟩]:=by
 rw [TV h]; unfold eD; rw [List.map_append]; rfl
theorem Mj (rs:List TR) (k:Nat) (h:k < rs.length):ae (rs.take (k + 1))=ae (rs.take k) ++ [⟨rs[k].name,eD rs[k].rows⟩]:=by
 rw [TV h]; unfold ae; rw [List.map_append]; rfl
theorem xR (n:bF):(mr n).size=n.size + 6:=by
 have e1:(⟨#[116,121,112,101,32]⟩:ByteArray).size=5:=rfl;have e2:(⟨#[10]⟩:ByteArray).size=1:=rfl;unfold mr;simp only [Uh];omega
def O8:ByteArray:=⟨#[116,121,112,101,32]⟩
def Tw:ByteArray:=⟨#[61,32]⟩
def Tx:ByteArray:=⟨#[10]⟩
def AL (l:ByteArray):Bool:=decide (5 < l.size) && (l.extract 0 5).toList == O8.toList
def xS (t:ByteArray):Bool:=decide (2≤t.size) && (t.extract 0 2).toList == Tw.toList
def Di (l:ByteArray):ByteArray:=(iJ 32 l).extract 2 (iJ 32 l).size
def EL (acc:List Ty) (r:Rl):List Ty:=match acc.getLast? with
 | none=>[]
 | some t=>acc.dropLast ++ [⟨t.name,t.rels ++ [r]⟩]
theorem qP (xs:List Ty) (t:Ty) (r:Rl):EL (xs ++ [t]) r=xs ++ [⟨t.name,t.rels ++ [r]⟩]:=by
 unfold EL; simp
def mZ (acc:List Ty) (l:ByteArray):Option (List Ty) :=
 if AL l then some (acc ++ [⟨l.extract 5 l.size,[]⟩])
 else if !acc.isEmpty && xS (iJ 32 l) && mq (Di l) then some (EL acc ⟨j5 32 l,(kC (Di l)).out⟩) else none
def dO:Nat→ByteArray→List Ty→Option (List Ty)
 | 0,_,acc=>some acc
 | n + 1,rest,acc =>
  if rest.toList.isEmpty then some acc
  else if oK 10 rest then
   match mZ acc (j5 10 rest) with
   | none=>none
   | some a=>dO n (iJ 10 rest) a
  else none
theorem mE (b:bF):b.toList=b.data.toList:=Go.ByteArray.toList_eq b
theorem Mk (c:UInt8) (l:List UInt8) (h:(iN c l).2.2=true):l=(iN c l).1 ++ c::(iN c l).2.1:=by
 induction l with
 | nil=>simp [iN] at h
 | cons b l ih =>
  unfold iN at h ⊢;split
  ·rename_i e; simp [e]
  rename_i e;rw [if_neg e] at h;simp only [List.cons_append,List.cons.injEq,true_and];exact ih h
theorem AO {c:UInt8} {s:ByteArray} (h:oK c s=true):s=(j5 c s ++ ⟨#[c]⟩) ++ iJ c s:=by
 apply jc;have:=Mk c s.data.toList h;simpa [j5,iJ,ByteArray.data_append] using this
theorem Gy {c:UInt8} {s:ByteArray} (h:oK c s=true):(iJ c s).size < s.size:=by
 have:=congrArg ByteArray.size (AO h);have e1:(⟨#[c]⟩:ByteArray).size=1:=rfl;simp only [Uh,e1] at this;omega
theorem Gz (l:bF) (k:Nat) (hk:k≤l.size):l=l.extract 0 k ++ l.extract k l.size:=by
 apply jc;rw [ByteArray.data_append,ByteArray.data_extract,ByteArray.data_extract];have hk':k≤l.data.size:=hk;have h2:l.size=l.data.size:=rfl;rw [h2];simp;rw [show max k l.size=l.data.toList.length by simp [Nat.max_def]; omega,Ug]
theorem toList_inj {a b:ByteArray} (h:a.toList=b.toList):a=b:=by
 rw [mE,mE] at h; exact jc h
theorem O9 {l:ByteArray} (h:AL l=true):l=O8 ++ l.extract 5 l.size:=by
 unfold AL at h;simp only [TU,Ud,beq_iff_eq] at h;have e:=toList_inj h.2
 conv=>lhs; rw [Gz l 5 (by omega),e]
theorem Pb {l:ByteArray} (h:xS (iJ 32 l)=true):l=((j5 32 l ++ ⟨#[32,61,32]⟩) ++ Di l):=by
 unfold xS at h;simp only [TU,Ud,beq_iff_eq] at h;have hf:oK 32 l=true:=by
  cases e:oK 32 l;case true=>rfl
  rw [Nh e] at h; exact absurd h.1 (by decide)
 have e:=toList_inj h.2;have e2:iJ 32 l=Tw ++ Di l:=by
  conv=>lhs; rw [Gz (iJ 32 l) 2 h.1,e]
  rfl
 have e3:(⟨#[32,61,32]⟩:ByteArray)=⟨#[32]⟩ ++ Tw:=by apply jc; simp [ByteArray.data_append,Tw]
 conv=>lhs; rw [AO hf,e2]
 rw [e3];simp only [ByteArray.append_assoc]
theorem AP {s:ByteArray} (h:mq s=true):gQ (kC s).out=s∧s.size≤1000∧aK (kC s).out=true:=by
 unfold mq at h;simp only [TU,Ud,beq_iff_eq] at h;exact ⟨toList_inj h.2,h.1.1.1.1,h.1.2⟩
theorem Ml {acc acc':List Ty} {l:ByteArray} (h:mZ acc l=some acc'):dw acc'=dw acc ++ (l ++ Tx):=by
 unfold mZ at h;split at h
 ·rename_i ht;injection h with h;subst h;rw [mD]
  conv=>rhs; rw [O9 ht]
  simp only [mr,dN,vD];rfl
 split at h
 ·rename_i h2;injection h with h;subst h;simp only [TU,Bool.not_eq_true'] at h2;obtain ⟨⟨h3,h4⟩,h5⟩:=h2;have hne:acc ≠ []:=fun e=>by rw [e] at h3; simp at h3
  have e1:=List.dropLast_concat_getLast hne;rw [← e1,qP,mD,mD,qO]
  conv=>rhs; rw [Pb h4]
  have e2:=(AP h5).1;simp only [Gx,e2,ByteArray.append_assoc];rfl
 cases h
def RH (T:List Ty):Prop:=∀ t ∈ T,∀ r ∈ t.rels,r.expr.length≤15∧∀ e ∈ r.expr,e.light∧e.fits
theorem QJ {acc acc':List Ty} {l:ByteArray} (h:mZ acc l=some acc') (hk:RH acc):RH acc':=by
 unfold mZ at h;split at h
 ·injection h with h;subst h;intro t ht r hr;rcases Uc.1 ht with ht | ht
  ·exact hk t ht r hr
  rw [Ua] at ht; subst ht; cases hr
 split at h
 ·rename_i h2;injection h with h;subst h;simp only [TU,Bool.not_eq_true'] at h2;obtain ⟨⟨h3,h4⟩,h5⟩:=h2;have hne:acc ≠ []:=fun e=>by rw [e] at h3; simp at h3
  have e1:=List.dropLast_concat_getLast hne;obtain ⟨-,hs,hsp⟩:=AP h5;intro t ht r hr;rw [← e1,qP] at ht;rcases Uc.1 ht with ht | ht
  ·exact hk t (by rw [← e1]; exact List.mem_append_left _ ht) r hr
  rw [Ua] at ht; subst ht;rcases Uc.1 hr with hr | hr
  ·exact hk (acc.getLast hne) (List.getLast_mem hne) r hr
  rw [Ua] at hr; subst hr;refine ⟨(lm hsp).2,fun e he=>?_⟩;exact (O5 (s:=Di l) _ true ⟨0,false,[]⟩ (TW _) (fun e he=>by cases he) e he).light hs
 cases h
theorem xU:∀ (rs:List Rl),rs.length * 4≤(dN rs).size∧∀ r ∈ rs,r.name.size + 4≤(dN rs).size
 | []=>⟨by simp,fun r hr=>by cases hr⟩
 | r::rs=>by
  obtain ⟨h1,h2⟩:=xU rs;have e1:(⟨#[32,61,32]⟩:ByteArray).size=3:=rfl;have e2:(⟨#[10]⟩:ByteArray).size=1:=rfl;have h3:(dN (r::rs)).size=r.name.size + 3 + (gQ r.expr).size + 1 + (dN rs).size:=by simp only [dN,Gx,Uh,e1,e2]
  refine ⟨by rw [h3,List.length_cons]; omega,fun q hq=>?_⟩;rcases List.mem_cons.1 hq with rfl | hq
  ·omega
  have:=h2 q hq; omega
theorem AQ:∀ (T:List Ty),T.length * 6≤(dw T).size∧∀ t ∈ T,t.name.size + 6 + (dN t.rels).size≤(dw T).size
 | []=>⟨by simp,fun r hr=>by cases hr⟩
 | t::ts=>by
  obtain ⟨h1,h2⟩:=AQ ts;have h3:(dw (t::ts)).size=t.name.size + 6 + (dN t.rels).size + (dw ts).size:=by simp only [dw,Uh,xR]
  refine ⟨by rw [h3,List.length_cons]; omega,fun q hq=>?_⟩;rcases List.mem_cons.1 hq with rfl | hq
  ·omega
  have:=h2 q hq; omega
theorem rows_ok {rs:List TR} (hk:RH (ae rs)) (hz:(dw (ae rs)).size≤3000):rs.length≤500∧(∀ r ∈ rs,r.rows.length≤750∧r.name.size≤3000∧∀ q ∈ r.rows,q.name.size≤3000)∧(∀ r ∈ rs,r.light)∧∀ r ∈ rs,r.fits:=by
 obtain ⟨h1,h2⟩:=AQ (ae rs);rw [kX] at h1;have key:∀ r ∈ rs,r.rows.length≤750∧r.name.size≤3000∧∀ q ∈ r.rows,q.name.size≤3000:=fun r hr=>by
  have h3:=h2 r.p (Ue.2 ⟨r,hr,rfl⟩);obtain ⟨h4,h5⟩:=xU (eD r.rows);rw [q9] at h4;have h6:r.name.size + 6 + (dN (eD r.rows)).size≤(dw (ae rs)).size:=h3;refine ⟨by omega,by omega,fun q hq=>?_⟩;have:=h5 q.p (Ue.2 ⟨q,hq,rfl⟩);have h7:q.name.size + 4≤(dN (eD r.rows)).size:=this;omega
 have kex:∀ r ∈ rs,∀ q ∈ r.rows,q.rows.length≤15∧∀ x ∈ q.rows,x.e.light∧x.e.fits:=fun r hr q hq=>by
  have:=hk r.p (Ue.2 ⟨r,hr,rfl⟩) q.p (Ue.2 ⟨q,hq,rfl⟩);exact ⟨by rw [← aT]; exact this.1,fun x hx=>this.2 x.e (Ue.2 ⟨x,hx,rfl⟩)⟩
 refine ⟨by omega,key,fun r hr=>⟨by have:=(key r hr).1; omega,fun q hq=>⟨by have:=(kex r hr q hq).1; omega,fun x hx=>((kex r hr q hq).2 x hx).1⟩⟩,fun r hr=>⟨by have:=(key r hr).2.1; unfold maxLen; omega,by have:=(key r hr).1; unfold maxLen; omega,fun q hq=>⟨by have:=(key r hr).2.2 q hq; unfold maxLen; omega,by have:=(kex r hr q hq).1; unfold maxLen; omega,fun x hx=>((kex r hr q hq).2 x hx).2⟩⟩⟩
open Go.ChangeAt Go.ChangeShapes Go.RowKit Go.WideShapes
theorem Sw (o n e:bF):(((o ++ n) ++ ⟨#[32,61,32]⟩) ++ e) ++ ⟨#[10]⟩=o ++ (((n ++ ⟨#[32,61,32]⟩) ++ e) ++ ⟨#[10]⟩):=by
 simp only [ByteArray.append_assoc]
theorem Pd (o n:bF):((o ++ ⟨#[116,121,112,101,32]⟩) ++ n) ++ ⟨#[10]⟩=o ++ mr n:=by
 unfold mr; simp only [ByteArray.append_assoc]
structure Small3 (rs:List TR):Prop where
 six:rs.length≤500
 rels:∀ r ∈ rs,r.rows.length≤750
 name:∀ r ∈ rs,r.name.size≤3000
 names:∀ r ∈ rs,∀ q ∈ r.rows,q.name.size≤3000
set_option maxRecDepth 100000 in
theorem EM (ad:Option Addr) (cap:Nat) (rs:List TR) (w:af) (hm:Small3 rs) (hs:kW w ad rs) (hl:∀ r ∈ rs,r.light) (hf:∀ r ∈ rs,r.fits) :
  Calls prog 179 #[.slice ad rs.length cap] w fun e w'=>e=.returned (.string (dw (ae rs)))∧ag w w':=by
 have HS:=az hs;have HL:=az hl;have UL:=az hf;have HM:=az hm;have h6:=hm.six;clear hs hl hf hm;go_enter func179,ntmps179;go_wp2;go_loopw [3,4] (fun o i wr=>∃ (k:Nat) (out:ByteArray),k≤rs.length∧o=.string out∧i=.int .i64 k∧Hid (out=dw (ae (rs.take k)))∧out.size≤k * 5100000∧Hid (ag w wr)) (fun _ i _=>rs.length - (intOf i).toNat);case atStart=>exact ⟨0,⟨#[]⟩,TW _,rfl,rfl,rfl,TW _,TT _ _⟩
 case round =>
  obtain ⟨k,out,hk,rfl,rfl,HP,hz,HB⟩:=hrel;obtain ⟨wo,rfl⟩:∃ x,x=wr:=⟨_,rfl⟩;by_cases hlt:k < rs.length
  ·rcases HS.out.below HB.out with rfl | ⟨b,off,rfl,hb,hr,hok⟩
   ·simp at hlt
   obtain ⟨t0,t1⟩:=hr k hlt;have Vz:Hid (rs[k].ok wo):=hok rs[k] (TQ hlt);have hn12:=HM.out.name rs[k] (TQ hlt);have We:=HM.out.rels rs[k] (TQ hlt);have HN12:Hid (∀ q ∈ rs[k].rows,q.name.size≤3000):=HM.out.names rs[k] (TQ hlt);have WE:Hid (rs[k].light):=HL.out _ (TQ hlt);have WH:Hid (rs[k].fits):=UL.out _ (TQ hlt);have hk1:=bB k;have hk2:(k:Int) < (rs.length:Int):=by omega
   have hrl:(rs[k].rows.length:Int)≤750:=by omega
   clear hr hok;go_wp2;go_loopw [3,5] (fun o i wr=>∃ (j:Nat) (o2:ByteArray),j≤rs[k].rows.length∧o=.string o2∧i=.int .i64 j∧Hid (o2=(out ++ mr rs[k].name) ++ dN (eD (rs[k].rows.take j)))∧o2.size≤k * 5100000 + 3010 + j * 6760∧Hid (ag wo wr)) (fun _ i _=>rs[k].rows.length - (intOf i).toNat);case atStart=>exact ⟨0,_,TW _,rfl,rfl,by show _=_; rw [Pd,List.take_zero,show eD []=[] from rfl]; simp only [dN,vD],by rw [Pd,Uh,xR]; omega,TT _ _⟩
   case round =>
    obtain ⟨j,o2,hj,rfl,rfl,HI,hz2,HB2⟩:=hrel;replace t0:=aG HB2.out hb t0;replace t1:=aG HB2.out hb t1;have hbw:b < wr.heap.size:=TP hb HB2.out.size;by_cases hjl:j < rs[k].rows.length
    ·rcases Vz.out.below HB2.out with hnil | ⟨b2,UZ,had,hb2,hr2,hok2⟩
     ·rw [hnil] at hjl; simp at hjl
     rw [had] at t1;obtain ⟨u0,u1⟩:=hr2 j hjl;have HOQ:Hid (rs[k].rows[j].ok wr):=hok2 rs[k].rows[j] (TQ hjl);have hj1:=bB j;have hj2:(j:Int) < (rs[k].rows.length:Int):=by omega
     have hq12:=HN12.out _ (TQ hjl);have HQL:Hid (rs[k].rows[j].light):=WE.out.2 _ (TQ hjl);have HQF:Hid (rs[k].rows[j].fits):=WH.out.2.2 _ (TQ hjl);obtain ⟨ex,hex⟩:∃ ex,ex=gQ (aj rs[k].rows[j].rows):=⟨_,rfl⟩;have Zu:Hid (ex=gQ (aj rs[k].rows[j].rows)):=hex;have hxs:ex.size≤3750:=by rw [hex]; exact EK _
     have q1:(9223372036854775807 < o2.size + rs[k].rows[j].name.size)=False:=by simp; omega
     have q2:(9223372036854775807 < o2.size + rs[k].rows[j].name.size + 3)=False:=by simp; omega
     have q3:(9223372036854775807 < o2.size + rs[k].rows[j].name.size + 3 + ex.size)=False:=by simp; omega
     have q4:(9223372036854775807 < o2.size + rs[k].rows[j].name.size + 3 + ex.size + 1)=False:=by simp; omega
     have HI2:Hid ((((o2 ++ rs[k].rows[j].name) ++ ⟨#[32,61,32]⟩) ++ ex) ++ ⟨#[10]⟩=(out ++ mr rs[k].name) ++ dN (eD (rs[k].rows.take (j + 1)))):=by
      show _=_;rw [Sw,Mi _ _ hjl,qO,HI.out,hex];simp only [ByteArray.append_assoc,Gx]
     have hz3:((((o2 ++ rs[k].rows[j].name) ++ ⟨#[32,61,32]⟩) ++ ex) ++ ⟨#[10]⟩:ByteArray).size≤k * 5100000 + 3010 + (j + 1) * 6760:=by
      have e1:(⟨#[32,61,32]⟩:ByteArray).size=3:=rfl;have e2:(⟨#[10]⟩:ByteArray).size=1:=rfl;simp only [Uh]; omega
     have HZ3:Hid (((((o2 ++ rs[k].rows[j].name) ++ ⟨#[32,61,32]⟩) ++ ex) ++ ⟨#[10]⟩:ByteArray).size≤k * 5100000 + 3010 + (j + 1) * 6760):=hz3;clear hr2 hok2 had hex hz3;go_wp2_with fail;refine lJ 24 (fun n=>(u31::u32::u33::u34::u35::u36::u37::u38::u39::u40::u41::u42::u43::u44::u45::u46::u47::u48::u49::u50::u51::u52::u53::u54::[]).getD n undef) (fun fq=>{ tmps:=List.toArray (Value.slice (some ⟨b,off,none⟩) rs.length cap::undef::.string { data:=#[] }::.string o2::.int .i64 k::.int .i64 j::.int .i64 k::.slice (some ⟨b,off,none⟩) rs.length cap::.int .i64 rs.length::.bool true::u10::u11::.string out::.string (out ++ { data:=#[116,121,112,101,32] })::.slice (some ⟨b,off,none⟩) rs.length cap::.int .i64 k::.pointer (some ⟨b,off + k * 2,none⟩)::.pointer (some ⟨b,off + k * 2,none⟩)::.string rs[k].name::.string (out ++ { data:=#[116,121,112,101,32] } ++ rs[k].name)::.string (out ++ { data:=#[116,121,112,101,32] } ++ rs[k].name ++ { data:=#[10] })::.int .i64 j::.slice (some ⟨b,off,none⟩) rs.length cap::.int .i64 k::.pointer (some ⟨b,off + k * 2,none⟩)::.pointer (some ⟨b,off + k * 2 + 1,none⟩)::.slice (some ⟨b2,UZ,none⟩) rs[k].rows.length rs[k].cap::.int .i64 rs[k].rows.length::.bool true::u29::u30::fq 0::fq 1::fq 2::fq 3::fq 4::fq 5::fq 6::fq 7::fq 8::fq 9::fq 10::fq 11::fq 12::fq 13::fq 14::fq 15::fq 16::fq 17::fq 18::fq 19::fq 20::fq 21::fq 22::fq 23::undef::[]),defers:=[] }) (fun n v _=>v=(Value.string o2::.slice (some ⟨b,off,none⟩) rs.length cap::.int .i64 k::.pointer (some ⟨b,off + k * 2,none⟩)::.pointer (some ⟨b,off + k * 2 + 1,none⟩)::.slice (some ⟨b2,UZ,none⟩) rs[k].rows.length rs[k].cap::.int .i64 j::.pointer (some ⟨b2,UZ + j * 2,none⟩)::.pointer (some ⟨b2,UZ + j * 2,none⟩)::.string rs[k].rows[j].name::.string (o2 ++ rs[k].rows[j].name)::.string ((o2 ++ rs[k].rows[j].name) ++ ⟨#[32,61,32]⟩)::.slice (some ⟨b,off,none⟩) rs.length cap::.int .i64 k::.pointer (some ⟨b,off + k * 2,none⟩)::.pointer (some ⟨b,off + k * 2 + 1,none⟩)::.slice (some ⟨b2,UZ,none⟩) rs[k].rows.length rs[k].cap::.int .i64 j::.pointer (some ⟨b2,UZ + j * 2,none⟩)::.pointer (some ⟨b2,UZ + j * 2 + 1,none⟩)::.slice rs[k].rows[j].ad rs[k].rows[j].rows.length rs[k].rows[j].cap::.string ex::.string (((o2 ++ rs[k].rows[j].name) ++ ⟨#[32,61,32]⟩) ++ ex)::.string ((((o2 ++ rs[k].rows[j].name) ++ ⟨#[32,61,32]⟩) ++ ex) ++ ⟨#[10]⟩)::[]).getD n undef) (fun w'=>ag wr w') (by kernel_rfl) rfl (by kernel_rfl) (by kernel_rfl) rfl (TT _ _).drew ?stepS ?finS;case stepS =>
      rintro i hi o ho fq w' hG hpre;have HG:Hid (ag wr w'):=hG;replace t1:=aG hG hbw t1;replace u0:=aG hG hb2 u0;replace u1:=aG hG hb2 u1;have HM:Hid (∀ e ∈ o.after,Region.binds .any e=true→_):=hpre;clear hG hpre;have hc:=Tg (i:=i) (by omega);clear hi
      repeat' rcases hc with rfl | hc
      iterate 21
       ·cases ho;have hm:=HM.out
        try simp [Region.binds] at hm
        refine aa rfl fun K HK=>?_;clear HM
        try simp only [hm]
        go_simp;exact HK.out _ _ ⟨_,by simp [upd, *],HG.out,rfl,fun k u hu=>hu⟩
      ·cases ho;have e20:fq 20=.slice rs[k].rows[j].ad rs[k].rows[j].rows.length rs[k].rows[j].cap:=HM.out ⟨20,.data⟩ (by simp) rfl;refine aa rfl fun K HK=>?_;clear HM;simp only [e20];go_simp;refine (oq _ _ rs[k].rows[j].rows _ HQL.out.1 HQL.out.2 HQF.out.2.2 (HOQ.out.below HG.out)).mono ?_;rintro e w5 ⟨rfl,hb5⟩;have HG5:=jP HG hb5;rw [← Zu.out];clear hb5;go_wp2_with fail;exact HK.out _ _ ⟨Value.string ex,by simp [upd,e20],HG5.out,rfl,fun k u hu=>hu⟩
      iterate 2
       ·cases ho;have hm:=HM.out
        try simp [Region.binds] at hm
        refine aa rfl fun K HK=>?_;clear HM
        try simp only [hm]
        go_simp;exact HK.out _ _ ⟨_,by simp [upd, *],HG.out,rfl,fun k u hu=>hu⟩
     case finS =>
      rintro o ho fq w' hG hall;have e23:fq 23=.string ((((o2 ++ rs[k].rows[j].name) ++ ⟨#[32,61,32]⟩) ++ ex) ++ ⟨#[10]⟩):=hall 23 (by omega);have HG:Hid (ag wr w'):=hG;clear hG hall;obtain rfl:=Option.some.inj ho;clear ho;refine wpOp_step rfl (fun K hK=>?_);have HK:Hid (∀ a w,_→K a w):=hK;clear hK;simp only [e23];go_simp;refine HK.out _ _ ?_;clear HK;have HB3:Hid (ag wo w'):=HB2.out.trans (HG.out.mono HB2.out.size);go_wp2;go_roundw;case rel=>exact ⟨j + 1,_,by omega,rfl,by go_num,HI2,HZ3.out,HB3⟩
      case measure=>simp [intOf] <;> omega
    ·obtain rfl:j=rs[k].rows.length:=by omega
     have UI:Hid (o2=dw (ae (rs.take (k + 1)))):=by
      show _=_;rw [HI.out,Mj _ _ hlt,mD,HP.out,Ug,ByteArray.append_assoc]
     have Xj:o2.size≤(k + 1) * 5100000:=by omega
     have HB3:Hid (ag w wr):=HB.out.trans (HB2.out.mono HB.out.size);go_wp2;go_roundw;case rel=>exact ⟨k + 1,o2,by omega,rfl,by go_num,UI,Xj,HB3⟩
     case measure=>simp [intOf] <;> omega
  ·obtain rfl:k=rs.length:=by omega
   have HN:Hid (out=dw (ae rs)):=by show _=_; rw [HP.out,Ug]
   go_wp2;go_ret;exact ⟨by rw [HN.out]; rfl,HB.out⟩
def lastT:ByteArray:=⟨#[116,121,112,101,32,100,111,99,10,118,105,101,119,101,114,32,61,32,116,104,105,115,40,117,115,101,114,41,10,116,121,112,101,32,117,115,101,114,10]⟩
def GD:List Ty:=[⟨⟨#[100,111,99]⟩,[⟨⟨#[118,105,101,119,101,114]⟩,[⟨1,[⟨⟨#[117,115,101,114]⟩,⟨#[]⟩⟩],⟨#[]⟩,⟨#[]⟩,[]⟩]⟩]⟩,⟨⟨#[117,115,101,114]⟩,[]⟩]
theorem Jp:dO (lastT.size + 1) lastT []=some GD:=by kernel_rfl
theorem Jq:aJ GD=true:=by
 refine aY.2 ⟨by kernel_rfl,by kernel_rfl,fun _=>0,⟨fun _=>Int.le_refl _,fun k hk d hd=>?_⟩⟩;have h:((ak GD).all fun k=>(il GD k).isEmpty)=true:=by kernel_rfl
 have h2:=Ub.1 h k hk;rw [List.isEmpty_iff.1 h2] at hd;cases hd
def Pre (t:ByteArray):Prop:=∃ x y z c tl,t.data.toList=116::121::112::101::32::x::y::z::10::c::tl∧x ≠ 10∧y ≠ 10∧z ≠ 10∧c ≠ 116
theorem Pre.app {t:ByteArray} (h:Pre t) (u:bF):Pre (t ++ u):=by
 obtain ⟨x,y,z,c,tl,e,h1⟩:=h;exact ⟨x,y,z,c,tl ++ u.data.toList,by rw [ByteArray.data_append,Array.toList_append,e]; rfl,h1⟩
theorem Pe {n:ByteArray} (h:aP n=true):∀ b ∈ n.data.toList,b ≠ 10:=by
 intro b hb e;unfold aP dL rR at h;simp only [TU] at h;have:=Ub.1 h.1.2 b hb;rw [e] at this
 revert this
 decide
theorem Mm {rs:List TR} (hd:aJ (ae rs)=true) (h:Pre (dw (ae rs))):∃ t ts q qs x xs,rs=t::ts∧t.rows=q::qs∧q.rows=x::xs:=by
 have hS:=aY.1 hd;obtain ⟨x,y,z,c,tl,e,hx,hy,hz,hc⟩:=h;cases rs with
 | nil=>simp [ae,dw] at e
 | cons t ts =>
  have hn:=Pe (lu hS.1 0 (by simp)).1;simp only [List.getElem_cons_zero] at hn;have e2:(116::121::112::101::32::(t.name.data.toList ++ 10::((dN (eD t.rows)).data.toList ++ (dw (ae ts)).data.toList)))=116::121::112::101::32::x::y::z::10::c::tl:=by
   rw [← e];show _=(dw (⟨t.name,eD t.rows⟩::ae ts)).data.toList;simp [dw,mr,ByteArray.data_append]
  simp only [List.cons.injEq,true_and] at e2;have key:(dN (eD t.rows)).data.toList ++ (dw (ae ts)).data.toList=c::tl:=by
   generalize (dN (eD t.rows)).data.toList ++ (dw (ae ts)).data.toList=rest at e2;generalize t.name.data.toList=nm at e2 hn
   match nm,e2,hn with
   | [],e2,_=>simp at e2; exact absurd e2.1.symm hx
   | [a],e2,_=>simp at e2; exact absurd e2.2.1.symm hy
   | [a,b],e2,_=>simp at e2; exact absurd e2.2.2.1.symm hz
   | [a,b,d],e2,_=>simp at e2; exact e2.2.2.2
   | a::b::d::f::nm,e2,hn=>simp at e2; exact absurd e2.2.2.2.1 (hn f (by simp))
  cases hr:t.rows with
  | nil =>
   rw [hr] at key;cases ts with
   | nil=>simp [eD,dN,ae,dw] at key
   | cons u us =>
    have:(dw (ae (u::us))).data.toList.head?=some 116:=by
     show (dw (⟨u.name,eD u.rows⟩::ae us)).data.toList.head?=_;simp [dw,mr,ByteArray.data_append]
    simp only [eD,List.map_nil,dN] at key;rw [show ((⟨#[]⟩:ByteArray).data.toList ++ (dw (ae (u::us))).data.toList)=(dw (ae (u::us))).data.toList from rfl] at key;rw [key] at this;simp at this;exact absurd this hc
  | cons q qs =>
   obtain ⟨h1,-⟩:=(bq hS.1).2.2 t (by simp) q (by rw [hr]; simp);have h2:=(lm h1).1;rw [aT] at h2;cases hq:q.rows with
   | nil=>rw [hq] at h2; simp at h2
   | cons x xs=>exact ⟨t,ts,q,qs,x,xs,rfl,hr,hq⟩
end Go.Proofs.YtajkkeikihhejaaGreat
