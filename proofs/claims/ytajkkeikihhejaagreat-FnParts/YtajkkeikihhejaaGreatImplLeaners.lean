/- Contract of the program's function on what leans on what. -/
import Derived.Test.YtajkkeikihhejaaGreatSq
import Derived.Test.YtajkkeikihhejaaGreatJ20
open Go.Proofs.Tryz
set_option maxHeartbeats 80000000
namespace Go.Proofs.YtajkkeikihhejaaGreat
open Go.ChangeShapes Go.WideShapes Go.ChangeAt Go.RowKit Go.Maps
open Pl
def xR (b:Bool):Int:=if b then 1 else 0
def Az (ts:List Ty)(t r:ByteArray)(ng:Bool)(e:Ex):List (Ky×St):=(ji ts t e).map fun a=>((a.t,a.s),⟨t,r,xR ng⟩)
def relE (ts:List Ty)(t r:ByteArray)(es:List Ex):Nat->List (Ky×St)
 | 0=>[]
 | i+1=>relE ts t r es i++(match es[i]? with|none=>[]|some e=>Az ts t r ((dC es).getD i false) e)
def jk (ts:List Ty)(t:ByteArray)(qs:List RR):List (Ky×St):=qs.flatMap fun q=>relE ts t q.name (aj q.rows) q.rows.length
def jl (ts:List Ty)(rs:List TR):List (Ky×St):=rs.flatMap fun t=>jk ts t.name t.rows
theorem Ji (ts:List Ty)(t:bI)(qs:List RR)(j:Nat)(h:j<qs.length):jk ts t (qs.take (j+1))=jk ts t (qs.take j)++relE ts t qs[j].name (aj qs[j].rows) qs[j].rows.length:=by
 unfold jk;rw [Uh h,List.flatMap_append,List.flatMap_singleton]
theorem Jj (ts:List Ty)(rs:List TR)(k:Nat)(h:k<rs.length):jl ts (rs.take (k+1))=jl ts (rs.take k)++jk ts rs[k].name rs[k].rows:=by
 unfold jl;rw [Uh h,List.flatMap_append,List.flatMap_singleton]
theorem Dc (ts:List Ty)(t r:bI)(rows:List ER)(i:Nat)(h:i<rows.length)(ng:Bool)(hn:ng=(dC (aj rows)).getD i false):relE ts t r (aj rows) (i+1)=relE ts t r (aj rows) i++Az ts t r ng rows[i].e:=by
 have e:(aj rows)[i]?=some rows[i].e:=by simp [aj,h]
 simp only [relE,e,hn]
theorem De (rs:List TR)(hl:∀ r∈rs,∀ q∈r.rows,∀ e∈q.rows,e.e.allow.length<=6)(typ:bI)(e:Ex)(he:e.allow.length<=6):(ji (ae rs) typ e).length<=6:=by
 unfold ji;split
 ·exact Uk (Db _) he
 split
 ·simp
 split
 ·rw [UK];unfold gy;split
  ·refine Uk (zT _ _ _ _) ?_;unfold aB;cases h:fH (ae rs) typ e.over with
   | none=>simp [aU]
   | some es =>
    obtain ⟨t,ht,q,hq,-,-,rfl⟩:=og h;have h1:=hl t ht q hq;have:∀ (xs:List ER),(∀ q∈xs,q.e.allow.length<=6)->(aU (aj xs)).length<=6:=by
     intro xs
     induction xs with
     | nil=>intro _;simp [aj,aU]
     | cons x xs ih =>
      intro h;have e4:aj (x::xs)=x.e::aj xs:=rfl;rw [e4];simp only [aU];split
      ·exact h x (by simp)
      exact ih (fun q hq=>h q (by simp [hq]))
    exact this q.rows h1
  simp
 simp
theorem Jk (rs:List TR)(hf:∀ r∈rs,r.fits)(typ:bI)(ht:typ.size<=maxLen)(e:Ex)(he:e.fits):∀ a∈ji (ae rs) typ e,a.t.size<=maxLen/\a.s.size<=maxLen:=by
 have hA:∀ (xs:List Al),(∀ a∈xs,a.fits)->∀ a∈dJ xs,a.t.size<=maxLen/\a.s.size<=maxLen:=by
  intro xs
  induction xs with
  | nil=>intro _ a ha;cases ha
  | cons b xs ih =>
   intro h a ha;simp only [dJ]at ha;split at ha
   ·exact ih (fun q hq=>h q (by simp [hq])) a ha
   rcases List.mem_cons.1 ha with rfl|ha
   ·exact h a (by simp)
   exact ih (fun q hq=>h q (by simp [hq])) a ha
 have hG:∀ (xs:List Al) (rel:ByteArray),(∀ a∈xs,a.fits)->∀ g∈gl (ae rs) rel xs,g.size<=maxLen:=by
  intro xs rel
  induction xs with
  | nil=>intro _ a ha;cases ha
  | cons b xs ih =>
   intro h a ha;simp only [gl]at ha;split at ha
   ·exact ih (fun q hq=>h q (by simp [hq])) a ha
   rcases List.mem_cons.1 ha with rfl|ha
   ·exact (h b (by simp)).1
   exact ih (fun q hq=>h q (by simp [hq])) a ha
 unfold ji;split
 ·exact hA _ he.1
 split
 ·intro a ha;simp at ha;subst ha;exact ⟨ht,he.2.2.1⟩
 split
 ·intro a ha;obtain ⟨g,hg,rfl⟩:=Ur.1 ha;refine ⟨?_,he.2.2.1⟩;unfold gy at hg;split at hg
  ·unfold ig at hg;refine hG _ _ ?_ g hg;unfold aB;cases e3:fH (ae rs) typ e.over with
   | none=>intro a ha;simp [aU]at ha
   | some es =>
    obtain ⟨t,ht',q,hq,-,-,rfl⟩:=og e3;have hq2:=((hf t ht').2.2 q hq).2.2;intro a ha;have:∀ (xs:List ER),(∀ q∈xs,q.e.fits)->∀ a∈aU (aj xs),a.fits:=by
     intro xs
     induction xs with
     | nil=>intro _ a ha;simp [aj,aU]at ha
     | cons x xs ih =>
      intro h a ha;have e4:aj (x::xs)=x.e::aj xs:=rfl;rw [e4]at ha;simp only [aU]at ha;split at ha
      ·exact (h x (by simp)).1 a ha
      exact ih (fun q hq=>h q (by simp [hq])) a ha
    exact this q.rows hq2 a ha
  cases hg
 intro a ha;cases ha
theorem QL:(prog.info? 274).map (fun i=>(i.zero,i.size,i.bytes))=some (some (.agg #[.string ⟨#[]⟩,.string ⟨#[]⟩,.int .i64 0]),3,40):=by kernel_rfl
theorem Jl (u:af):(zeroValue 272).run prog u=.ok (.slice none 0 0) u:=by kernel_rfl
theorem vG {w:af}{bL n:Nat}{M:Ky->Option Value}{E:List (Ky×St)}(h:Grp w bL n M E)(y:Ky):w.ownsRow (bL+1) 274 3 ((M y).getD (.slice none 0 0)) (lookL E y).length (iK (lookL E y)):=by
 rcases h.row y with ⟨e,e2⟩|⟨v,e,ho⟩
 ·rw [e,e2];exact World.ownsRow_nil _ _ _ _
 rw [e];exact ho
theorem OQ {w:af}{bL n:Nat}{M:Ky->Option Value}{E:List (Ky×St)}(h:Grp w bL n M E)(y:Ky):some bL≠((M y).getD (.slice none 0 0)).ownBlock:=by
 cases e:M y with
 | none=>simp [Value.ownBlock]
 | some v=>intro e2;have:=(h.lt e (g:=bL) (by simpa using e2.symm)).1;omega
theorem Df (E:List (Ky×St))(y:Ky):(lookL E y).length<=E.length:=List.length_filterMap_le _ _
set_option maxRecDepth 100000 in
theorem BM (ad:Option Addr)(cap:Nat)(rs:List TR)(bT nT:Nat)(T:Ky->Option Value)(w:af)(hlen:rs.length<=6)(hs:kX w ad rs)(hl:∀ r∈rs,r.light)(hf:∀ r∈rs,r.fits)(hrl:∀ r∈rs,r.rows.length<=6)(hel:∀ r∈rs,∀ q∈r.rows,q.rows.length<=15/\∀ e∈q.rows,dW q.rows.length e.e.kids)(hal6:∀ r∈rs,∀ q∈r.rows,∀ e∈q.rows,e.e.allow.length<=6)(hV:aO dS prog 94 w bT nT T)(hT:Tab rs T) :
  Calls prog 134 #[.slice ad rs.length cap,.map (some bT)] w fun e w'=>e=.returned (.map (some w.heap.size))/\(∃ n M,Grp w' w.heap.size n M (jl (ae rs) rs))/\ag w w':=by
 have HS:=aA hs;have HL:=aA hl;have UY:=aA hf;have YS:Hid (∀ r∈rs,r.rows.length<=6):=hrl;have Wu:Hid (∀ r∈rs,∀ q∈r.rows,q.rows.length<=15/\∀ e∈q.rows,dW q.rows.length e.e.kids):=hel;have HV:Hid (aO dS prog 94 w bT nT T):=hV;have HT:=aA hT;have YE:Hid (∀ r∈rs,∀ q∈r.rows,∀ e∈q.rows,e.e.allow.length<=6):=hal6;clear hs hl hf hrl hel hV hT hal6;obtain ⟨i0,hi,hz0,hz1,hz2⟩:=info_parts QL;have HG0:Hid (Grp (w.alloc (.map #[] 0)) w.heap.size 0 (fun _=>none) []):=grp_made w;have HB0:Hid (ag w (w.alloc (.map #[] 0))):=(Uf _ _).alloc (Ue _) _;have hmm:=@run_makeMap prog;go_enter func134,ntmps134;go_wp2_with fail;go_loopw [19] (fun i wr=>∃ k:Nat,k<=rs.length/\i=.int .i64 k/\Hid (∃ n M,Grp wr w.heap.size n M (jl (ae rs) (rs.take k))/\n<=k*540/\(jl (ae rs) (rs.take k)).length<=k*540)/\Hid (ag w wr)) (fun i _=>rs.length-(intOf i).toNat);case atStart=>exact ⟨0,Ui _,rfl,⟨0,_,HG0.out,by omega,by simp [jl]⟩,HB0⟩
 clear HG0 HB0 hmm;obtain ⟨k,hk,rfl,HG,HB⟩:=hrel;by_cases hlt:k<rs.length
 ·rcases HS.out.below HB.out with rfl|⟨b,off,rfl,hb,hr,-⟩
  ·simp at hlt
  obtain ⟨t0,t1⟩:=hr k hlt;have hk1:=bF k;have hk2:(k:Int)<(rs.length:Int):=by omega
  have h6:rs[k].rows.length<=6:=YS.out _ (Ud hlt);have z0:rs[k].name.size<=maxLen:=(UY.out _ (Ud hlt)).1;have Xb:Hid (∀ q∈rs[k].rows,q.fits):=(UY.out _ (Ud hlt)).2.2;have HLR:Hid (∀ q∈rs[k].rows,q.light):=(HL.out _ (Ud hlt)).2;have HER:Hid (∀ q∈rs[k].rows,q.rows.length<=15/\∀ e∈q.rows,dW q.rows.length e.e.kids):=Wu.out _ (Ud hlt);obtain ⟨n1,M1,hG1,hn1,hE1⟩:=HG.out;obtain ⟨E1,hE1d⟩:∃ E1,E1=jl (ae rs) (rs.take k):=⟨_,rfl⟩;rw [<-hE1d]at hG1 hE1;have HE1D:Hid (E1=jl (ae rs) (rs.take k)):=hE1d;obtain ⟨W1,hW1⟩:∃ W1,W1=wr.alloc (.cells #[.string rs[k].name,.slice rs[k].ad rs[k].rows.length rs[k].cap] 127):=⟨_,rfl⟩;have hal:ag wr W1:=by rw [hW1];exact (Uf _ _).alloc (Ue _) _
  have hbn:w.heap.size<wr.heap.size:=hG1.map.lt;have HC7:Hid (Cel W1 M1 w.heap.size wr.heap.size 0 (.string rs[k].name)):=⟨by rw [hW1];simp,by rw [hW1];simp,hG1.fresh (Ue _),by omega⟩;have HG1:=aA (hG1.below hal);have HB1:=jP HB hal;clear hr hal hG1 HG hE1d;go_wp2_with fail;rw [<-hW1];clear hW1 t0 t1 HB;obtain ⟨g7,Xd⟩:∃ g7,g7=wr.heap.size:=⟨_,rfl⟩;rw [<-Xd]at HC7 hbn ⊢;clear Xd;go_loopw [26] (fun i w2=>∃ j:Nat,j<=rs[k].rows.length/\i=.int .i64 j/\Hid (∃ n M,Grp w2 w.heap.size n M (E1++jk (ae rs) rs[k].name (rs[k].rows.take j))/\n<=k*540+j*90/\(E1++jk (ae rs) rs[k].name (rs[k].rows.take j)).length<=k*540+j*90/\Cel w2 M w.heap.size g7 0 (.string rs[k].name))/\Hid (ag w w2)) (fun i _=>rs[k].rows.length-(intOf i).toNat);case atStart=>exact ⟨0,Ui _,rfl,⟨n1,M1,by simpa [jk] using HG1.out,by omega,by have e:jk (ae rs) rs[k].name (rs[k].rows.take 0)=[]:=rfl;rw [e,List.append_nil];omega,HC7.out⟩,HB1⟩
  clear HG1 HB1 HC7;obtain ⟨j,hj,rfl,HG,HB⟩:=hrel;by_cases hjl:j<rs[k].rows.length
  ·rcases HS.out.below HB.out with hnil|⟨b',off',he,hb2,hr,hok⟩
   ·rw [hnil]at hlt;simp at hlt
   injection he with he;injection he with he1 he2;subst he1;subst he2;have ok:=hok rs[k] (Ud hlt);rcases ok with hnil|⟨b2,Vb,had,hbb,hr2,-⟩
   ·rw [hnil]at hjl;simp at hjl
   obtain ⟨q0,q1⟩:=hr2 j hjl;have z1:rs[k].rows[j].name.size<=maxLen:=(Xb.out _ (Ud hjl)).1;have WZ:Hid (∀ q∈rs[k].rows[j].rows,q.e.fits):=(Xb.out _ (Ud hjl)).2.2;have Vs:Hid (∀ q∈rs[k].rows[j].rows,q.e.light):=(HLR.out _ (Ud hjl)).2;have h15:rs[k].rows[j].rows.length<=15:=(HER.out _ (Ud hjl)).1;have HKR:Hid (∀ e∈rs[k].rows[j].rows,dW rs[k].rows[j].rows.length e.e.kids):=(HER.out _ (Ud hjl)).2;have XM:Hid (iC w rs[k].rows[j].ad rs[k].rows[j].rows):=Ni.mem (HS.out.mem (Ud hlt)) (Ud hjl);have hj1:=bF j;have hj2:(j:Int)<(rs[k].rows.length:Int):=by omega
   obtain ⟨n2,M2,hG2,hn2,hE2,Zy⟩:=HG.out;obtain ⟨E2,hE2d⟩:∃ E2,E2=E1++jk (ae rs) rs[k].name (rs[k].rows.take j):=⟨_,rfl⟩;rw [<-hE2d]at hG2 hE2;have HE2D:Hid (E2=E1++jk (ae rs) rs[k].name (rs[k].rows.take j)):=hE2d;obtain ⟨W2,hW2⟩:∃ W2,W2=wr.alloc (.cells #[.string rs[k].rows[j].name,.slice rs[k].rows[j].ad rs[k].rows[j].rows.length rs[k].rows[j].cap] 147):=⟨_,rfl⟩;have hal:ag wr W2:=by rw [hW2];exact (Uf _ _).alloc (Ue _) _
   have hbn2:w.heap.size<wr.heap.size:=hG2.map.lt;have Zz:Cel W2 M2 w.heap.size wr.heap.size 0 (.string rs[k].rows[j].name):=⟨by rw [hW2];simp,by rw [hW2];simp,hG2.fresh (Ue _),by omega⟩;have hC9b:Cel W2 M2 w.heap.size wr.heap.size 1 (.slice rs[k].rows[j].ad rs[k].rows[j].rows.length rs[k].rows[j].cap):=⟨by rw [hW2];simp,by rw [hW2];simp,hG2.fresh (Ue _),by omega⟩;have HC7:Hid (Cel W2 M2 w.heap.size g7 0 (.string rs[k].name)):=Zy.stl (Stl.below hal);have HC9:Hid (Cel W2 M2 w.heap.size wr.heap.size 0 (.string rs[k].rows[j].name)):=Zz;have HC9b:=aA hC9b;have HG2:=aA (hG2.below hal);have HB2:=jP HB hal;rw [had];clear hr hok hr2 hG2 Zy Zz hC9b hal HG HB hE2d;go_wp2_with fail;rw [<-hW2];clear hW2 q0 q1;refine (BG rs[k].rows[j].ad rs[k].rows[j].cap rs[k].rows[j].rows _ (by omega) (XM.out.below HB2.out) Vs.out HKR.out).mono ?_;rintro e w3 ⟨rfl,Ym⟩;obtain ⟨g9,hg9⟩:∃ g9,g9=wr.heap.size:=⟨_,rfl⟩;rw [<-hg9]at HC9 HC9b hbn2 ⊢;have HB3:Hid (ag w w3):=HB2.out.trans (Ym.below.mono HB2.out.size);have XK:=aA (HG2.out.below Ym.below);have VT:Hid (Cel w3 M2 w.heap.size g7 0 (.string rs[k].name)/\Cel w3 M2 w.heap.size g9 0 (.string rs[k].rows[j].name)/\∀ (i:Nat) (h:i<rs[k].rows[j].rows.length),Cel w3 M2 w.heap.size W2.heap.size i (.bool ((dC (aj rs[k].rows[j].rows)).getD i false))):=by
    refine ⟨HC7.out.stl (Stl.below Ym.below),HC9.out.stl (Stl.below Ym.below),fun i hi=>⟨?_,Ym.lt,HG2.out.fresh (Ue _),?_⟩⟩
    ·have hn:i<(dC (aj rs[k].rows[j].rows)).length:=by rw [FU,aN];exact hi
     rw [Ym.done i (by simpa [bools] using hn)];simp [bools,hn]
    have:=HG2.out.map.lt;omega
   have c9:=(HC9b.out.stl (Stl.below (bL:=w.heap.size) (M:=M2) Ym.below)).cell;obtain ⟨gA,hgA⟩:∃ gA,gA=W2.heap.size:=⟨_,rfl⟩;rw [<-hgA]at VT ⊢;clear Ym HC7 HC9 HC9b HG2 HB2 hg9 hgA;go_wp2_with fail;clear c9;go_loopw [36] (fun i w4=>∃ m:Nat,m<=rs[k].rows[j].rows.length/\i=.int .i64 m/\Hid (∃ n M,Grp w4 w.heap.size n M (E2++relE (ae rs) rs[k].name rs[k].rows[j].name (aj rs[k].rows[j].rows) m)/\n<=k*540+j*90+m*6/\(E2++relE (ae rs) rs[k].name rs[k].rows[j].name (aj rs[k].rows[j].rows) m).length<=k*540+j*90+m*6/\(Cel w4 M w.heap.size g7 0 (.string rs[k].name)/\Cel w4 M w.heap.size g9 0 (.string rs[k].rows[j].name)/\∀ (i:Nat) (h:i<rs[k].rows[j].rows.length),Cel w4 M w.heap.size gA i (.bool ((dC (aj rs[k].rows[j].rows)).getD i false))))/\Hid (ag w w4)) (fun i _=>rs[k].rows[j].rows.length-(intOf i).toNat);case atStart=>exact ⟨0,Ui _,rfl,⟨n2,M2,by simpa [relE] using XK.out,by omega,by have e:relE (ae rs) rs[k].name rs[k].rows[j].name (aj rs[k].rows[j].rows) 0=[]:=rfl;rw [e,List.append_nil];omega,VT.out⟩,HB3⟩
   clear XK HB3 VT;obtain ⟨m,hm,rfl,HG,HB⟩:=hrel;by_cases Vl:m<rs[k].rows[j].rows.length
   ·rcases XM.out.below HB.out with hnil|⟨bE,offE,WO,hbE,hrE,hok⟩
    ·rw [hnil]at Vl;simp at Vl
    obtain ⟨t0,t1,t2,t3,t4⟩:=hrE m Vl;have hm1:=bF m;have hm2:(m:Int)<(rs[k].rows[j].rows.length:Int):=by omega
    have XD:Hid (rs[k].rows[j].rows[m].e.fits):=WZ.out _ (Ud Vl);have HXL:Hid (rs[k].rows[j].rows[m].e.light):=Vs.out _ (Ud Vl);obtain ⟨n3,M3,hG3,hn3,hE3,Zy,Zz,hCA⟩:=HG.out;obtain ⟨E3,hE3d⟩:∃ E3,E3=E2++relE (ae rs) rs[k].name rs[k].rows[j].name (aj rs[k].rows[j].rows) m:=⟨_,rfl⟩;rw [<-hE3d]at hG3 hE3;have HE3D:Hid (E3=E2++relE (ae rs) rs[k].name rs[k].rows[j].name (aj rs[k].rows[j].rows) m):=hE3d;have hbn3:w.heap.size<wr.heap.size:=hG3.map.lt;obtain ⟨ng,Z4⟩:∃ ng,ng=(dC (aj rs[k].rows[j].rows)).getD m false:=⟨_,rfl⟩;have HNG:Hid (ng=(dC (aj rs[k].rows[j].rows)).getD m false):=Z4;rw [WO];clear Z4 hE3d hrE;cases ng
    case' true =>
     obtain ⟨W3,hW3⟩:∃ W3,W3=((wr.alloc (.cells #[.int .i64 rs[k].rows[j].rows[m].e.kind,.slice rs[k].rows[j].rows[m].adA rs[k].rows[j].rows[m].e.allow.length rs[k].rows[j].rows[m].capA,.string rs[k].rows[j].rows[m].e.over,.string rs[k].rows[j].rows[m].e.name,.slice rs[k].rows[j].rows[m].adK rs[k].rows[j].rows[m].e.kids.length rs[k].rows[j].rows[m].capK] 39)).alloc (.cells #[.string rs[k].name,.string rs[k].rows[j].name,.int .i64 1] 274)):=⟨_,rfl⟩;have hal:ag wr W3:=by
      rw [hW3]
      repeat (first|exact Uf _ _|refine Below.setCell ?_ (by first|(simp;done)|(simp;omega)) _|refine Below.alloc ?_ (by first|(simp;done)|(simp;omega)) _)
     have hsz3:W3.heap.size=wr.heap.size+2:=by rw [hW3];simp
     have HB3:=jP HB hal;have XK:=aA (hG3.below hal);have Yt:Hid (Cel W3 M3 w.heap.size (wr.heap.size+1) 0 (.string rs[k].name)/\Cel W3 M3 w.heap.size (wr.heap.size+1) 1 (.string rs[k].rows[j].name)/\Cel W3 M3 w.heap.size (wr.heap.size+1) 2 (.int .i64 1)):=by
      have hfr:FreeB M3 (wr.heap.size+1):=hG3.fresh (by omega);refine ⟨⟨?_,by omega,hfr,by omega⟩,⟨?_,by omega,hfr,by omega⟩,⟨?_,by omega,hfr,by omega⟩⟩
      all_goals (rw [hW3];simp)
     obtain ⟨dv,hdv⟩:∃ dv:Int,dv=1:=⟨_,rfl⟩;rw [<-hdv]at Yt;have HDE:Hid (dv=1):=hdv;clear hdv;have VT:Hid (Cel W3 M3 w.heap.size g7 0 (.string rs[k].name)/\Cel W3 M3 w.heap.size g9 0 (.string rs[k].rows[j].name)/\∀ (i:Nat) (h:i<rs[k].rows[j].rows.length),Cel W3 M3 w.heap.size gA i (.bool ((dC (aj rs[k].rows[j].rows)).getD i false))):=⟨Zy.stl (Stl.below hal),Zz.stl (Stl.below hal),fun i h=>(hCA i h).stl (Stl.below hal)⟩;have HXO:Hid (rs[k].rows[j].rows[m].ok W3):=(hok rs[k].rows[j].rows[m] (Ud Vl)).below hal;have hc7:=Zy.cell;have hc9:=Zz.cell;have hl7:=Zy.lt;have ZA:=Zz.lt;have hcA:=(hCA m Vl).cell;have hlA:=(hCA m Vl).lt;rw [<-HNG.out]at hcA;clear hG3 hal Zy Zz hCA hok HG;go_wp2_with fail;rw [<-hW3];clear hW3 t0 t1 t2 t3 t4 hc7 hc9 hl7 ZA hcA hlA
    case' false =>
     obtain ⟨W3,hW3⟩:∃ W3,W3=((wr.alloc (.cells #[.int .i64 rs[k].rows[j].rows[m].e.kind,.slice rs[k].rows[j].rows[m].adA rs[k].rows[j].rows[m].e.allow.length rs[k].rows[j].rows[m].capA,.string rs[k].rows[j].rows[m].e.over,.string rs[k].rows[j].rows[m].e.name,.slice rs[k].rows[j].rows[m].adK rs[k].rows[j].rows[m].e.kids.length rs[k].rows[j].rows[m].capK] 39)).alloc (.cells #[.string rs[k].name,.string rs[k].rows[j].name,.int .i64 0] 274)):=⟨_,rfl⟩;have hal:ag wr W3:=by
      rw [hW3]
      repeat (first|exact Uf _ _|refine Below.setCell ?_ (by first|(simp;done)|(simp;omega)) _|refine Below.alloc ?_ (by first|(simp;done)|(simp;omega)) _)
     have hsz3:W3.heap.size=wr.heap.size+2:=by rw [hW3];simp
     have HB3:=jP HB hal;have XK:=aA (hG3.below hal);have Yt:Hid (Cel W3 M3 w.heap.size (wr.heap.size+1) 0 (.string rs[k].name)/\Cel W3 M3 w.heap.size (wr.heap.size+1) 1 (.string rs[k].rows[j].name)/\Cel W3 M3 w.heap.size (wr.heap.size+1) 2 (.int .i64 0)):=by
      have hfr:FreeB M3 (wr.heap.size+1):=hG3.fresh (by omega);refine ⟨⟨?_,by omega,hfr,by omega⟩,⟨?_,by omega,hfr,by omega⟩,⟨?_,by omega,hfr,by omega⟩⟩
      all_goals (rw [hW3];simp)
     obtain ⟨dv,hdv⟩:∃ dv:Int,dv=0:=⟨_,rfl⟩;rw [<-hdv]at Yt;have HDE:Hid (dv=0):=hdv;clear hdv;have VT:Hid (Cel W3 M3 w.heap.size g7 0 (.string rs[k].name)/\Cel W3 M3 w.heap.size g9 0 (.string rs[k].rows[j].name)/\∀ (i:Nat) (h:i<rs[k].rows[j].rows.length),Cel W3 M3 w.heap.size gA i (.bool ((dC (aj rs[k].rows[j].rows)).getD i false))):=⟨Zy.stl (Stl.below hal),Zz.stl (Stl.below hal),fun i h=>(hCA i h).stl (Stl.below hal)⟩;have HXO:Hid (rs[k].rows[j].rows[m].ok W3):=(hok rs[k].rows[j].rows[m] (Ud Vl)).below hal;have hc7:=Zy.cell;have hc9:=Zz.cell;have hl7:=Zy.lt;have ZA:=Zz.lt;have hcA:=(hCA m Vl).cell;have hlA:=(hCA m Vl).lt;rw [<-HNG.out]at hcA;clear hG3 hal Zy Zz hCA hok HG;go_wp2_with fail;rw [<-hW3];clear hW3 t0 t1 t2 t3 t4 hc7 hc9 hl7 ZA hcA hlA
    all_goals
     refine (Gq bT nT rs (some ⟨b,off,none⟩) T rs[k].name rs[k].rows[j].rows[m] _ (HV.out.below HB3.out) HT.out (HS.out.below HB3.out) HL.out UY.out z0 XD.out HXL.out HXO.out).mono ?_;rintro e w5 ⟨⟨Wv,cpO,rfl,hSO,hNO⟩,hb5⟩;obtain ⟨ks,hks⟩:∃ ks,ks=ji (ae rs) rs[k].name rs[k].rows[j].rows[m].e:=⟨_,rfl⟩;rw [<-hks]at hSO ⊢;have HKS:Hid (ks=ji (ae rs) rs[k].name rs[k].rows[j].rows[m].e):=hks;have hkl6:ks.length<=6:=by rw [hks];exact De rs YE.out _ _ (YE.out _ (Ud hlt) _ (Ud hjl) _ (Ud Vl))
     have HKF:Hid (∀ a∈ks,a.t.size<=maxLen/\a.s.size<=maxLen):=by show ∀ _,_;rw [hks];exact Jk rs UY.out _ z0 _ XD.out
     obtain ⟨g13,XW⟩:∃ g13,g13=wr.heap.size+1:=⟨_,rfl⟩;have V9:=jP HB3 hb5;have HG5:=aA (XK.out.below hb5);have hS5:Stl W3 M3 w5 M3 w.heap.size:=Stl.below hb5;have Xl:Hid (Cel w5 M3 w.heap.size g7 0 (.string rs[k].name)/\Cel w5 M3 w.heap.size g9 0 (.string rs[k].rows[j].name)/\∀ (i:Nat) (h:i<rs[k].rows[j].rows.length),Cel w5 M3 w.heap.size gA i (.bool ((dC (aj rs[k].rows[j].rows)).getD i false))):=⟨VT.out.1.stl hS5,VT.out.2.1.stl hS5,fun i h=>(VT.out.2.2 i h).stl hS5⟩;have HD5:Hid (Cel w5 M3 w.heap.size g13 0 (.string rs[k].name)/\Cel w5 M3 w.heap.size g13 1 (.string rs[k].rows[j].name)/\Cel w5 M3 w.heap.size g13 2 (.int .i64 dv)):=by rw [XW];exact ⟨Yt.out.1.stl hS5,Yt.out.2.1.stl hS5,Yt.out.2.2.stl hS5⟩
     have UZ:Hid (ks=[] \/ ∃ gO Vp,Wv=some ⟨gO,Vp,none⟩/\∀ (i:Nat) (h:i<ks.length),Cel w5 M3 w.heap.size gO (Vp+i*2) (.string ks[i].t)/\Cel w5 M3 w.heap.size gO (Vp+i*2+1) (.string ks[i].s)):=by
      rcases hSO with e|⟨gO,Vp,e,hgO,hcO⟩
      ·exact .inl e
      have hN:=hNO _ e;have Y3:=XK.out.map.lt;have hfr:FreeB M3 gO:=XK.out.fresh hN;refine .inr ⟨gO,Vp,e,fun i hi=>⟨⟨(hcO i hi).1,hgO,hfr,?_⟩,⟨(hcO i hi).2,hgO,hfr,?_⟩⟩⟩
      all_goals (simp only at hN;omega)
     rw [<-XW];clear hb5 hSO hNO hks hS5 Yt VT XK HB3 HXO XW;go_wp2_with fail;go_loopw [58] (fun i w6=>∃ q:Nat,q<=ks.length/\i=.int .i64 q/\Hid (∃ n M,Grp w6 w.heap.size n M (E3++(ks.take q).map (fun a:Al=>(((a.t,a.s),⟨rs[k].name,rs[k].rows[j].name,dv⟩):Ky×St)))/\n<=k*540+j*90+m*6+q/\(E3++(ks.take q).map (fun a:Al=>(((a.t,a.s),⟨rs[k].name,rs[k].rows[j].name,dv⟩):Ky×St))).length<=k*540+j*90+m*6+q/\(Cel w6 M w.heap.size g7 0 (.string rs[k].name)/\Cel w6 M w.heap.size g9 0 (.string rs[k].rows[j].name)/\∀ (i:Nat) (h:i<rs[k].rows[j].rows.length),Cel w6 M w.heap.size gA i (.bool ((dC (aj rs[k].rows[j].rows)).getD i false)))/\(Cel w6 M w.heap.size g13 0 (.string rs[k].name)/\Cel w6 M w.heap.size g13 1 (.string rs[k].rows[j].name)/\Cel w6 M w.heap.size g13 2 (.int .i64 dv))/\(ks=[] \/ ∃ gO Vp,Wv=some ⟨gO,Vp,none⟩/\∀ (i:Nat) (h:i<ks.length),Cel w6 M w.heap.size gO (Vp+i*2) (.string ks[i].t)/\Cel w6 M w.heap.size gO (Vp+i*2+1) (.string ks[i].s)))/\Hid (ag w w6)) (fun i _=>ks.length-(intOf i).toNat);case atStart=>exact ⟨0,Ui _,rfl,⟨n3,M3,by simpa using HG5.out,by omega,by simpa using hE3,Xl.out,HD5.out,UZ.out⟩,V9⟩
     clear HG5 V9 Xl HD5 UZ HB;obtain ⟨q,hq,rfl,HG,HB⟩:=hrel;by_cases Yu:q<ks.length
     ·obtain ⟨n6,M6,hG6,hn6,hE6,hC6,hD6,Xh⟩:=HG.out;rcases Xh with hnil|⟨gO,Vp,XX,hcO⟩
      ·rw [hnil]at Yu;simp at Yu
      have x0:=(hcO q Yu).1.cell;have x1:=(hcO q Yu).2.cell;have y0:=hD6.1.cell;have y1:=hD6.2.1.cell;have y2:=hD6.2.2.cell;have yl:=hD6.1.lt;have hq1:=bF q;have hq2:(q:Int)<(ks.length:Int):=by omega
      obtain ⟨E6,hE6d⟩:∃ E6,E6=E3++(ks.take q).map (fun a:Al=>(((a.t,a.s),⟨rs[k].name,rs[k].rows[j].name,dv⟩):Ky×St)):=⟨_,rfl⟩;rw [<-hE6d]at hG6 hE6;have HE6D:Hid (E6=E3++(ks.take q).map (fun a:Al=>(((a.t,a.s),⟨rs[k].name,rs[k].rows[j].name,dv⟩):Ky×St))):=hE6d;obtain ⟨W6,Yg⟩:∃ W6,W6=((wr.alloc (.cells #[.string ks[q].t,.string ks[q].s] 94)).alloc (.cells #[.string rs[k].name,.string rs[k].rows[j].name,.int .i64 dv] 274)):=⟨_,rfl⟩;have hal:ag wr W6:=by
       rw [Yg]
       repeat (first|exact Uf _ _|refine Below.alloc ?_ (by first|(simp;done)|(simp;omega)) _)
      have hsz6:W6.heap.size=wr.heap.size+2:=by rw [Yg];simp
      have Xa:=jP HB hal;have HG6:=aA (hG6.below hal);have HNB:Hid (W6.heap[wr.heap.size+1]?=some (.cells #[.string rs[k].name,.string rs[k].rows[j].name,.int .i64 dv] 274)):=by show _=_;rw [Yg];exact wY wr _ _
      have hbn6:w.heap.size<wr.heap.size:=hG6.map.lt;have HS6:Hid (Stl wr M6 W6 M6 w.heap.size):=Stl.below hal;have HCK:Hid ((Cel wr M6 w.heap.size g7 0 (.string rs[k].name)/\Cel wr M6 w.heap.size g9 0 (.string rs[k].rows[j].name)/\∀ (i:Nat) (h:i<rs[k].rows[j].rows.length),Cel wr M6 w.heap.size gA i (.bool ((dC (aj rs[k].rows[j].rows)).getD i false)))/\(Cel wr M6 w.heap.size g13 0 (.string rs[k].name)/\Cel wr M6 w.heap.size g13 1 (.string rs[k].rows[j].name)/\Cel wr M6 w.heap.size g13 2 (.int .i64 dv))/\(ks=[] \/ ∃ gO Vp,Wv=some ⟨gO,Vp,none⟩/\∀ (i:Nat) (h:i<ks.length),Cel wr M6 w.heap.size gO (Vp+i*2) (.string ks[i].t)/\Cel wr M6 w.heap.size gO (Vp+i*2+1) (.string ks[i].s))):=⟨hC6,hD6,.inr ⟨gO,Vp,XX,hcO⟩⟩;have hzz:=HKF.out _ (Ud Yu);obtain ⟨kl,hkl⟩:=jC (ks[q].t,ks[q].s) hzz.1 hzz.2;have VD:Hid (keyOf prog 94 (dS (ks[q].t,ks[q].s))=some kl):=hkl;have hLL:=Df E6 (ks[q].t,ks[q].s);have hn6b:n6<100000:=by omega
      have hLb:(lookL E6 (ks[q].t,ks[q].s)).length<100000:=by omega
      have XU:Hid (W6.heap.size=wr.heap.size+2):=hsz6;rw [XX];clear hal hG6 hC6 hD6 hcO hkl HG hE6d hzz hLL hsz6
      go_wp2_with (first
       | (at_builtin;refine wpList_append_own_at _ rfl _ _ 272 rfl (w.heap.size+1) 274 i0 _ 3 40 underlying272 hi hz0 hz1 hz2 rfl (by decide) _ _ _ rfl ((vG HG6.out (ks[q].t,ks[q].s)).kept Xd (.inr (Ne.symm (OQ HG6.out (ks[q].t,ks[q].s))))) ⟨wr.heap.size+1,0,none⟩ 1 1 [.string rs[k].name,.string rs[k].rows[j].name,.int .i64 dv] rfl rfl (World.news_of_block (cs:=#[.string rs[k].name,.string rs[k].rows[j].name,.int .i64 dv]) (t:=274) (fr:=(0,0)) ((Xd.block (wr.heap.size+1) (by rw [XU.out];omega) (by simp;omega)).trans HNB.out)) (by simp [Value.oneCell']) (by unfold maxLen;omega) (by omega) (by have h1:=Xd.size;rw [XU.out]at h1;omega) ?_;intro v' w8 XY Xo hnil8 hloc8)
       | (rw [<-Yg];refine BB _ rfl _ _ 211 rfl 94 272 J8 uH underlying211 Jl w.heap.size n6 M6 rfl HG6.out.map (by unfold maxLen;omega) (ks[q].t,ks[q].s) kl rfl VD.out ?_;intro st7 w7 Xd hback;clear Yg x0 x1 y0 y1 y2)
       | (refine sZ _ rfl _ _ _ 211 rfl w.heap.size st7 rfl rfl v' rfl 94 (n6+1) (lc M6 (ks[q].t,ks[q].s) (some v')) (hback w8 v' (Xo.block w.heap.size (by have h1:=Xd.size;rw [XU.out]at h1;omega) (OQ HG6.out (ks[q].t,ks[q].s)))) ?_;intro w9 hM9 hg9))
      have hst:=HG6.out.step (s:=(⟨rs[k].name,rs[k].rows[j].name,dv⟩:St)) Xd XY Xo hloc8 hg9 hM9;have HBN:Hid (ag w w9):=by
       have hs1:=Xa.out.size;have b7:ag w w7:=Xa.out.grown Xd hs1 (fun i hi=>by injection hi with hi;omega);have b8:ag w w8:=b7.grown Xo b7.size (fun i hi=>by have:=((vG HG6.out (ks[q].t,ks[q].s)).lt i hi).1;omega);exact b8.grown hg9 b8.size (fun i hi=>by injection hi with hi;omega)
      have HGN:Hid (∃ n M,Grp w9 w.heap.size n M (E3++(ks.take (q+1)).map (fun a:Al=>(((a.t,a.s),⟨rs[k].name,rs[k].rows[j].name,dv⟩):Ky×St)))/\n<=k*540+j*90+m*6+(q+1)/\(E3++(ks.take (q+1)).map (fun a:Al=>(((a.t,a.s),⟨rs[k].name,rs[k].rows[j].name,dv⟩):Ky×St))).length<=k*540+j*90+m*6+(q+1)/\(Cel w9 M w.heap.size g7 0 (.string rs[k].name)/\Cel w9 M w.heap.size g9 0 (.string rs[k].rows[j].name)/\∀ (i:Nat) (h:i<rs[k].rows[j].rows.length),Cel w9 M w.heap.size gA i (.bool ((dC (aj rs[k].rows[j].rows)).getD i false)))/\(Cel w9 M w.heap.size g13 0 (.string rs[k].name)/\Cel w9 M w.heap.size g13 1 (.string rs[k].rows[j].name)/\Cel w9 M w.heap.size g13 2 (.int .i64 dv))/\(ks=[] \/ ∃ gO Vp,Wv=some ⟨gO,Vp,none⟩/\∀ (i:Nat) (h:i<ks.length),Cel w9 M w.heap.size gO (Vp+i*2) (.string ks[i].t)/\Cel w9 M w.heap.size gO (Vp+i*2+1) (.string ks[i].s))):=by
       have hS9:=HS6.out.trans hst.2;have e:E3++(ks.take (q+1)).map (fun a:Al=>(((a.t,a.s),⟨rs[k].name,rs[k].rows[j].name,dv⟩):Ky×St))=E6++[((ks[q].t,ks[q].s),(⟨rs[k].name,rs[k].rows[j].name,dv⟩:St))]:=by
        rw [Uh Yu,List.map_append,<-List.append_assoc,<-HE6D.out];rfl
       obtain ⟨k1,k2,k3⟩:=HCK.out;refine ⟨n6+1,_,by rw [e];exact hst.1,by omega,by rw [e,Ul];simp;omega,⟨k1.1.stl hS9,k1.2.1.stl hS9,fun i h=>(k1.2.2 i h).stl hS9⟩,⟨k2.1.stl hS9,k2.2.1.stl hS9,k2.2.2.stl hS9⟩,?_⟩;rcases k3 with hnil|⟨gO',offO',e1,hc⟩
       ·exact .inl hnil
       exact .inr ⟨gO',offO',e1,fun i h=>⟨(hc i h).1.stl hS9,(hc i h).2.stl hS9⟩⟩
      clear hst Xd hback XY Xo hnil8 hloc8 hg9 hM9;go_wp2;go_roundw;case rel=>exact ⟨q+1,by omega,by go_num,(by rw [XX]at HGN;exact HGN),HBN⟩
      simp [intOf] <;> omega
     obtain rfl:q=ks.length:=by omega
     have HGN:Hid (∃ n M,Grp wr w.heap.size n M (E2++relE (ae rs) rs[k].name rs[k].rows[j].name (aj rs[k].rows[j].rows) (m+1))/\n<=k*540+j*90+(m+1)*6/\(E2++relE (ae rs) rs[k].name rs[k].rows[j].name (aj rs[k].rows[j].rows) (m+1)).length<=k*540+j*90+(m+1)*6/\(Cel wr M w.heap.size g7 0 (.string rs[k].name)/\Cel wr M w.heap.size g9 0 (.string rs[k].rows[j].name)/\∀ (i:Nat) (h:i<rs[k].rows[j].rows.length),Cel wr M w.heap.size gA i (.bool ((dC (aj rs[k].rows[j].rows)).getD i false)))):=by
      obtain ⟨n,M,h1,hn,h2,h3,-,-⟩:=HG.out;rw [Us]at h1 h2;have e:E2++relE (ae rs) rs[k].name rs[k].rows[j].name (aj rs[k].rows[j].rows) (m+1)=E3++ks.map (fun a:Al=>(((a.t,a.s),⟨rs[k].name,rs[k].rows[j].name,dv⟩):Ky×St)):=by
       rw [Dc _ _ _ _ _ Vl _ HNG.out,<-List.append_assoc,<-HE3D.out,HKS.out,HDE.out];rfl
      refine ⟨n,M,by rw [e];exact h1,by omega,by rw [e];omega,h3⟩
     clear HG;go_wp2;go_roundw;case rel=>exact ⟨m+1,by omega,by go_num,HGN,HB⟩
     simp [intOf] <;> omega
   obtain rfl:m=rs[k].rows[j].rows.length:=by omega
   have HGN:Hid (∃ n M,Grp wr w.heap.size n M (E1++jk (ae rs) rs[k].name (rs[k].rows.take (j+1)))/\n<=k*540+(j+1)*90/\(E1++jk (ae rs) rs[k].name (rs[k].rows.take (j+1))).length<=k*540+(j+1)*90/\Cel wr M w.heap.size g7 0 (.string rs[k].name)):=by
    obtain ⟨n,M,h1,hn,h2,h3⟩:=HG.out;have e:E1++jk (ae rs) rs[k].name (rs[k].rows.take (j+1))=E2++relE (ae rs) rs[k].name rs[k].rows[j].name (aj rs[k].rows[j].rows) rs[k].rows[j].rows.length:=by
     rw [Ji _ _ _ _ hjl,<-List.append_assoc,<-HE2D.out]
    refine ⟨n,M,?_,by omega,?_,h3.1⟩
    ·rw [e];exact h1
    rw [e];omega
   go_wp2;go_roundw;case rel=>exact ⟨j+1,by omega,by go_num,HGN,HB⟩
   simp [intOf] <;> omega
  obtain rfl:j=rs[k].rows.length:=by omega
  have HGN:Hid (∃ n M,Grp wr w.heap.size n M (jl (ae rs) (rs.take (k+1)))/\n<=(k+1)*540/\(jl (ae rs) (rs.take (k+1))).length<=(k+1)*540):=by
   obtain ⟨n,M,h1,hn,h2,h3⟩:=HG.out;rw [Us]at h1 h2;have e:jl (ae rs) (rs.take (k+1))=E1++jk (ae rs) rs[k].name rs[k].rows:=by rw [Jj _ _ _ hlt,<-HE1D.out]
   refine ⟨n,M,?_,by omega,?_⟩
   ·rw [e];exact h1
   rw [e];omega
  go_wp2;go_roundw;case rel=>exact ⟨k+1,by omega,by go_num,HGN,HB⟩
  simp [intOf] <;> omega
 obtain rfl:k=rs.length:=by omega
 have HGN:Hid (∃ n M,Grp wr w.heap.size n M (jl (ae rs) rs)):=by
  obtain ⟨n,M,h1,-⟩:=HG.out;rw [Us]at h1;exact ⟨n,M,h1⟩
 go_wp2;go_ret;exact ⟨rfl,HGN.out,HB.out⟩
end Go.Proofs.YtajkkeikihhejaaGreat
