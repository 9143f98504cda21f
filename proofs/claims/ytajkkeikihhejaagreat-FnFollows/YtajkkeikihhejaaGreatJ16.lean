/- Contract of the program's function on what leans on what. -/
import Derived.Test.YtajkkeikihhejaaGreatSq
import Derived.Test.YtajkkeikihhejaaGreatJ15
open Go.Proofs.Tryz
set_option maxHeartbeats 80000000
namespace Go.Proofs.YtajkkeikihhejaaGreat
open ChangeShapes WideShapes ChangeAt RowKit Maps
open Pl
def yu(b:Bool):Int:=if b then 1 else 0
def AP(ts:Q0b)(t r:ByteArray)(ng:Bool)(e:Ex):List (Ky×St):=(jq ts t e).map fun a=>((a.t,a.s),⟨t,r,yu ng⟩)
def relE(ts:Q0b)(t r:ByteArray)(es:Q09):Nat->List (Ky×St)
 | 0=>[]
 | i+1=>relE ts t r es i++(match es[i]? with|none=>[]|some e=>AP ts t r ((dD es).getD i false) e)
def jr(ts:Q0b)(t:ByteArray)(qs:Q07):List (Ky×St):=qs.flatMap fun q=>relE ts t q.name (ak q.rows) q.rows.length
def jv(ts:Q0b)(rs:Q06):List (Ky×St):=rs.flatMap fun t=>jr ts t.name t.rows
theorem Jq(ts:Q0b)(t:bQ)(qs:Q07)(j:Nat)(h:j<qs.length):jr ts t (qs.take (j+1))=jr ts t (qs.take j)++relE ts t qs[j].name (ak qs[j].rows) qs[j].rows.length:=by
 unfold jr;rw[UX h,VE,List.flatMap_singleton]
theorem Jr(ts:Q0b)(rs:Q06)(k:Nat)(h:k<rs.length):jv ts (rs.take (k+1))=jv ts (rs.take k)++jr ts rs[k].name rs[k].rows:=by
 unfold jv;rw[UX h,VE,List.flatMap_singleton]
theorem Dt(ts:Q0b)(t r:bQ)(rows:Q08)(i:Nat)(h:i<rows.length)(ng:Bool)(hn:ng=(dD (ak rows)).getD i false):relE ts t r (ak rows) (i+1)=relE ts t r (ak rows) i++AP ts t r ng rows[i].e:=by
 have e:(ak rows)[i]?=some rows[i].e:=by simp[ak,h]
 simp only[relE,e,hn]
theorem Du(rs:Q06)(hl:∀r∈rs,∀q∈r.rows,∀e∈q.rows,e.e.allow.length<=6)(typ:bQ)(e:Ex)(he:e.allow.length<=6):(jq (ag rs) typ e).length<=6:=by
 unfold jq;split
 ·exact U0 (Dr _) he
 split
 ·simp
 split
 ·rw[Vt];unfold gI;split
  ·refine U0 (Ag _ _ _ _) ?_;unfold aB;cases h:eG (ag rs) typ e.over with
   | none=>simp[aX]
   | some es =>
    obtain⟨t,ht,q,hq,-,-,rfl⟩:=qJ h;have h1:=hl t ht q hq;have:∀(xs:Q08),(∀q∈xs,q.e.allow.length<=6)->(aX (ak xs)).length<=6:=by
     intro xs
     induction xs with
     | nil=>intro _;simp[ak,aX]
     | cons x xs ih =>
      intro h;have e4:ak (x::xs)=x.e::ak xs:=rfl;rw[e4];simp only[aX];split
      ·exact h x (by simp)
      exact ih (fun q hq=>h q (by simp[hq]))
    exact this q.rows h1
  simp
 simp
theorem Js(rs:Q06)(hf:∀r∈rs,r.fits)(typ:bQ)(ht:typ.size<=maxLen)(e:Ex)(he:e.fits):∀a∈jq (ag rs) typ e,a.t.size<=maxLen/\a.s.size<=maxLen:=by
 have hA:∀(xs:Q0a),(∀a∈xs,a.fits)->∀a∈dL xs,a.t.size<=maxLen/\a.s.size<=maxLen:=by
  intro xs
  induction xs with
  | nil=>intro _ a ha;cases ha
  | cons b xs ih =>
   intro h a ha;simp only[dL]at ha;split at ha
   ·exact ih (fun q hq=>h q (by simp[hq])) a ha
   rcases U9.1 ha with rfl|ha
   ·exact h a (by simp)
   exact ih (fun q hq=>h q (by simp[hq])) a ha
 have hG:∀(xs:Q0a) (rel:ByteArray),(∀a∈xs,a.fits)->∀g∈gl (ag rs) rel xs,g.size<=maxLen:=by
  intro xs rel
  induction xs with
  | nil=>intro _ a ha;cases ha
  | cons b xs ih =>
   intro h a ha;simp only[gl]at ha;split at ha
   ·exact ih (fun q hq=>h q (by simp[hq])) a ha
   rcases U9.1 ha with rfl|ha
   ·exact(h b (by simp)).1
   exact ih (fun q hq=>h q (by simp[hq])) a ha
 unfold jq;split
 ·exact hA _ he.1
 split
 ·intro a ha;simp at ha;subst ha;exact⟨ht,he.2.2.1⟩
 split
 ·intro a ha;obtain⟨g,hg,rfl⟩:=U7.1 ha;refine⟨?_,he.2.2.1⟩;unfold gI at hg;split at hg
  ·unfold iw at hg;refine hG _ _ ?_ g hg;unfold aB;cases e3:eG (ag rs) typ e.over with
   | none=>intro a ha;simp[aX]at ha
   | some es =>
    obtain⟨t,ht',q,hq,-,-,rfl⟩:=qJ e3;have hq2:=((hf t ht').2.2 q hq).2.2;intro a ha;have:∀(xs:Q08),(∀q∈xs,q.e.fits)->∀a∈aX (ak xs),a.fits:=by
     intro xs
     induction xs with
     | nil=>intro _ a ha;simp[ak,aX]at ha
     | cons x xs ih =>
      intro h a ha;have e4:ak (x::xs)=x.e::ak xs:=rfl;rw[e4]at ha;simp only[aX]at ha;split at ha
      ·exact(h x (by simp)).1 a ha
      exact ih (fun q hq=>h q (by simp[hq])) a ha
    exact this q.rows hq2 a ha
  cases hg
 intro a ha;cases ha
theorem Rf:(prog.info? 274).map (fun i=>(i.zero,i.size,i.bytes))=some (some (.agg #[.string ⟨#[]⟩,.string ⟨#[]⟩,.int .i64 0]),3,40):=by kernel_rfl
theorem Jt(u:af):(zeroValue 272).run prog u=.ok (.slice none 0 0) u:=by kernel_rfl
theorem vL{w:af}{bL n:Nat}{M:Ky->Option Value}{E:List (Ky×St)}(h:Grp w bL n M E)(y:Ky):w.ownsRow (bL+1) 274 3 ((M y).getD (.slice none 0 0)) (lookL E y).length (iN (lookL E y)):=by
 rcases h.row y with⟨e,e2⟩|⟨v,e,ho⟩
 ·rw[e,e2];exact World.ownsRow_nil _ _ _ _
 rw[e];exact ho
theorem O7{w:af}{bL n:Nat}{M:Ky->Option Value}{E:List (Ky×St)}(h:Grp w bL n M E)(y:Ky):some bL≠((M y).getD (.slice none 0 0)).ownBlock:=by
 cases e:M y with
 | none=>simp[Value.ownBlock]
 | some v=>intro e2;have:=(h.lt e (g:=bL) (by simpa using e2.symm)).1;omega
theorem Dv(E:List (Ky×St))(y:Ky):(lookL E y).length<=E.length:=VS _ _
set_option maxRecDepth 100000 in
theorem Cn(ad:Q02)(cap:Nat)(rs:Q06)(bT nT:Nat)(T:Ky->Option Value)(w:af)(hlen:rs.length<=6)(hs:kU w ad rs)(hl:∀r∈rs,r.light)(hf:∀r∈rs,r.fits)(hrl:∀r∈rs,r.rows.length<=6)(hel:∀r∈rs,∀q∈r.rows,q.rows.length<=15/\∀e∈q.rows,fe q.rows.length e.e.kids)(hal6:∀r∈rs,∀q∈r.rows,∀e∈q.rows,e.e.allow.length<=6)(hV:aK dV prog 94 w bT nT T)(hT:Tab rs T):
  Calls prog 134 #[.slice ad rs.length cap,.map (some bT)] w fun e w'=>e=.returned (.map (some w.heap.size))/\(∃n M,Grp w' w.heap.size n M (jv (ag rs) rs))/\ae w w':=by
 have HS:=aC hs;have HL:=aC hl;have Wl:=aC hf;have HRL:Hid (∀r∈rs,r.rows.length<=6):=hrl;have X0:Hid (∀r∈rs,∀q∈r.rows,q.rows.length<=15/\∀e∈q.rows,fe q.rows.length e.e.kids):=hel;have HV:Hid (aK dV prog 94 w bT nT T):=hV;have HT:=aC hT;have Z7:Hid (∀r∈rs,∀q∈r.rows,∀e∈q.rows,e.e.allow.length<=6):=hal6;clear hs hl hf hrl hel hV hT hal6;obtain⟨i0,hi,hz0,hz1,hz2⟩:=info_parts Rf;have HG0:Hid (Grp (w.alloc (.map #[] 0)) w.heap.size 0 (fun _=>none) []):=grp_made w;have HB0:Hid (ae w (w.alloc (.map #[] 0))):=(UV _ _).alloc (UU _) _;have hmm:=@run_makeMap prog;go_enter func134,ntmps134;go_wp2_with fail;go_loopw[19] (fun i wr=>∃k:Nat,k<=rs.length/\i=.int .i64 k/\Hid (∃n M,Grp wr w.heap.size n M (jv (ag rs) (rs.take k))/\n<=k*540/\(jv (ag rs) (rs.take k)).length<=k*540)/\Hid (ae w wr)) (fun i _=>rs.length-(intOf i).toNat);case atStart=>exact⟨0,UY _,rfl,⟨0,_,HG0.out,by omega,by simp[jv]⟩,HB0⟩
 clear HG0 HB0 hmm;obtain⟨k,hk,rfl,HG,HB⟩:=hrel;by_cases hlt:k<rs.length
 ·rcases HS.out.below HB.out with rfl|⟨b,off,rfl,hb,hr,-⟩
  ·simp at hlt
  obtain⟨t0,t1⟩:=hr k hlt;have hk1:=bG k;have hk2:(k:Int)<(rs.length:Int):=by omega
  have h6:rs[k].rows.length<=6:=HRL.out _ (UR hlt);have z0:rs[k].name.size<=maxLen:=(Wl.out _ (UR hlt)).1;have XP:Hid (∀q∈rs[k].rows,q.fits):=(Wl.out _ (UR hlt)).2.2;have HLR:Hid (∀q∈rs[k].rows,q.light):=(HL.out _ (UR hlt)).2;have HER:Hid (∀q∈rs[k].rows,q.rows.length<=15/\∀e∈q.rows,fe q.rows.length e.e.kids):=X0.out _ (UR hlt);obtain⟨n1,M1,hG1,hn1,hE1⟩:=HG.out;obtain⟨E1,hE1d⟩:∃E1,E1=jv (ag rs) (rs.take k):=⟨_,rfl⟩;rw[<-hE1d]at hG1 hE1;have HE1D:Hid (E1=jv (ag rs) (rs.take k)):=hE1d;obtain⟨W1,hW1⟩:∃W1,W1=wr.alloc (.cells #[.string rs[k].name,.slice rs[k].ad rs[k].rows.length rs[k].cap] 127):=⟨_,rfl⟩;have hal:ae wr W1:=by rw[hW1];exact(UV _ _).alloc (UU _) _
  have hbn:w.heap.size<wr.heap.size:=hG1.map.lt;have HC7:Hid (Cel W1 M1 w.heap.size wr.heap.size 0 (.string rs[k].name)):=⟨by rw[hW1];simp,by rw[hW1];simp,hG1.fresh (UU _),by omega⟩;have HG1:=aC (hG1.below hal);have HB1:=jR HB hal;clear hr hal hG1 HG hE1d;go_wp2_with fail;rw[<-hW1];clear hW1 t0 t1 HB;obtain⟨g7,YH⟩:∃g7,g7=wr.heap.size:=⟨_,rfl⟩;rw[<-YH]at HC7 hbn ⊢;clear YH;go_loopw[26] (fun i w2=>∃j:Nat,j<=rs[k].rows.length/\i=.int .i64 j/\Hid (∃n M,Grp w2 w.heap.size n M (E1++jr (ag rs) rs[k].name (rs[k].rows.take j))/\n<=k*540+j*90/\(E1++jr (ag rs) rs[k].name (rs[k].rows.take j)).length<=k*540+j*90/\Cel w2 M w.heap.size g7 0 (.string rs[k].name))/\Hid (ae w w2)) (fun i _=>rs[k].rows.length-(intOf i).toNat);case atStart=>exact⟨0,UY _,rfl,⟨n1,M1,by simpa[jr] using HG1.out,by omega,by have e:jr (ag rs) rs[k].name (rs[k].rows.take 0)=[]:=rfl;rw[e,VK];omega,HC7.out⟩,HB1⟩
  clear HG1 HB1 HC7;obtain⟨j,hj,rfl,HG,HB⟩:=hrel;by_cases hjl:j<rs[k].rows.length
  ·rcases HS.out.below HB.out with hnil|⟨b',off',he,hb2,hr,hok⟩
   ·rw[hnil]at hlt;simp at hlt
   injection he with he;injection he with he1 he2;subst he1;subst he2;have ok:=hok rs[k] (UR hlt);rcases ok with hnil|⟨b2,Wz,had,hbb,hr2,-⟩
   ·rw[hnil]at hjl;simp at hjl
   obtain⟨q0,q1⟩:=hr2 j hjl;have z1:rs[k].rows[j].name.size<=maxLen:=(XP.out _ (UR hjl)).1;have YE:Hid (∀q∈rs[k].rows[j].rows,q.e.fits):=(XP.out _ (UR hjl)).2.2;have WR:Hid (∀q∈rs[k].rows[j].rows,q.e.light):=(HLR.out _ (UR hjl)).2;have h15:rs[k].rows[j].rows.length<=15:=(HER.out _ (UR hjl)).1;have HKR:Hid (∀e∈rs[k].rows[j].rows,fe rs[k].rows[j].rows.length e.e.kids):=(HER.out _ (UR hjl)).2;have Y8:Hid (gZ w rs[k].rows[j].ad rs[k].rows[j].rows):=NW.mem (HS.out.mem (UR hlt)) (UR hjl);have hj1:=bG j;have hj2:(j:Int)<(rs[k].rows.length:Int):=by omega
   obtain⟨n2,M2,hG2,hn2,hE2,hC7⟩:=HG.out;obtain⟨E2,hE2d⟩:∃E2,E2=E1++jr (ag rs) rs[k].name (rs[k].rows.take j):=⟨_,rfl⟩;rw[<-hE2d]at hG2 hE2;have HE2D:Hid (E2=E1++jr (ag rs) rs[k].name (rs[k].rows.take j)):=hE2d;obtain⟨W2,hW2⟩:∃W2,W2=wr.alloc (.cells #[.string rs[k].rows[j].name,.slice rs[k].rows[j].ad rs[k].rows[j].rows.length rs[k].rows[j].cap] 147):=⟨_,rfl⟩;have hal:ae wr W2:=by rw[hW2];exact(UV _ _).alloc (UU _) _
   have hbn2:w.heap.size<wr.heap.size:=hG2.map.lt;have hC9:Cel W2 M2 w.heap.size wr.heap.size 0 (.string rs[k].rows[j].name):=⟨by rw[hW2];simp,by rw[hW2];simp,hG2.fresh (UU _),by omega⟩;have hC9b:Cel W2 M2 w.heap.size wr.heap.size 1 (.slice rs[k].rows[j].ad rs[k].rows[j].rows.length rs[k].rows[j].cap):=⟨by rw[hW2];simp,by rw[hW2];simp,hG2.fresh (UU _),by omega⟩;have HC7:Hid (Cel W2 M2 w.heap.size g7 0 (.string rs[k].name)):=hC7.stl (Stl.below hal);have HC9:Hid (Cel W2 M2 w.heap.size wr.heap.size 0 (.string rs[k].rows[j].name)):=hC9;have HC9b:=aC hC9b;have HG2:=aC (hG2.below hal);have HB2:=jR HB hal;rw[had];clear hr hok hr2 hG2 hC7 hC9 hC9b hal HG HB hE2d;go_wp2_with fail;rw[<-hW2];clear hW2 q0 q1;refine(Ci rs[k].rows[j].ad rs[k].rows[j].cap rs[k].rows[j].rows _ (by omega) (Y8.out.below HB2.out) WR.out HKR.out).mono ?_;rintro e w3 ⟨rfl,ZJ⟩;obtain⟨g9,hg9⟩:∃g9,g9=wr.heap.size:=⟨_,rfl⟩;rw[<-hg9]at HC9 HC9b hbn2 ⊢;have HB3:Hid (ae w w3):=HB2.out.trans (ZJ.below.mono HB2.out.size);have Za:=aC (HG2.out.below ZJ.below);have Xq:Hid (Cel w3 M2 w.heap.size g7 0 (.string rs[k].name)/\Cel w3 M2 w.heap.size g9 0 (.string rs[k].rows[j].name)/\∀(i:Nat) (h:i<rs[k].rows[j].rows.length),Cel w3 M2 w.heap.size W2.heap.size i (.bool ((dD (ak rs[k].rows[j].rows)).getD i false))):=by
    refine⟨HC7.out.stl (Stl.below ZJ.below),HC9.out.stl (Stl.below ZJ.below),fun i hi=>⟨?_,ZJ.lt,HG2.out.fresh (UU _),?_⟩⟩
    ·have hn:i<(dD (ak rs[k].rows[j].rows)).length:=by rw[Gj,aQ];exact hi
     rw[ZJ.done i (by simpa[bools] using hn)];simp[bools,hn]
    have:=HG2.out.map.lt;omega
   have c9:=(HC9b.out.stl (Stl.below (bL:=w.heap.size) (M:=M2) ZJ.below)).cell;obtain⟨gA,hgA⟩:∃gA,gA=W2.heap.size:=⟨_,rfl⟩;rw[<-hgA]at Xq ⊢;clear ZJ HC7 HC9 HC9b HG2 HB2 hg9 hgA;go_wp2_with fail;clear c9;go_loopw[36] (fun i w4=>∃m:Nat,m<=rs[k].rows[j].rows.length/\i=.int .i64 m/\Hid (∃n M,Grp w4 w.heap.size n M (E2++relE (ag rs) rs[k].name rs[k].rows[j].name (ak rs[k].rows[j].rows) m)/\n<=k*540+j*90+m*6/\(E2++relE (ag rs) rs[k].name rs[k].rows[j].name (ak rs[k].rows[j].rows) m).length<=k*540+j*90+m*6/\(Cel w4 M w.heap.size g7 0 (.string rs[k].name)/\Cel w4 M w.heap.size g9 0 (.string rs[k].rows[j].name)/\∀(i:Nat) (h:i<rs[k].rows[j].rows.length),Cel w4 M w.heap.size gA i (.bool ((dD (ak rs[k].rows[j].rows)).getD i false))))/\Hid (ae w w4)) (fun i _=>rs[k].rows[j].rows.length-(intOf i).toNat);case atStart=>exact⟨0,UY _,rfl,⟨n2,M2,by simpa[relE] using Za.out,by omega,by have e:relE (ag rs) rs[k].name rs[k].rows[j].name (ak rs[k].rows[j].rows) 0=[]:=rfl;rw[e,VK];omega,Xq.out⟩,HB3⟩
   clear Za HB3 Xq;obtain⟨m,hm,rfl,HG,HB⟩:=hrel;by_cases WH:m<rs[k].rows[j].rows.length
   ·rcases Y8.out.below HB.out with hnil|⟨bE,offE,Yn,hbE,hrE,hok⟩
    ·rw[hnil]at WH;simp at WH
    obtain⟨t0,t1,t2,t3,t4⟩:=hrE m WH;have hm1:=bG m;have hm2:(m:Int)<(rs[k].rows[j].rows.length:Int):=by omega
    have Yw:Hid (rs[k].rows[j].rows[m].e.fits):=YE.out _ (UR WH);have HXL:Hid (rs[k].rows[j].rows[m].e.light):=WR.out _ (UR WH);obtain⟨n3,M3,hG3,hn3,hE3,hC7,hC9,hCA⟩:=HG.out;obtain⟨E3,hE3d⟩:∃E3,E3=E2++relE (ag rs) rs[k].name rs[k].rows[j].name (ak rs[k].rows[j].rows) m:=⟨_,rfl⟩;rw[<-hE3d]at hG3 hE3;have HE3D:Hid (E3=E2++relE (ag rs) rs[k].name rs[k].rows[j].name (ak rs[k].rows[j].rows) m):=hE3d;have hbn3:w.heap.size<wr.heap.size:=hG3.map.lt;obtain⟨ng,hng⟩:∃ng,ng=(dD (ak rs[k].rows[j].rows)).getD m false:=⟨_,rfl⟩;have HNG:Hid (ng=(dD (ak rs[k].rows[j].rows)).getD m false):=hng;rw[Yn];clear hng hE3d hrE;cases ng
    case' true =>
     obtain⟨W3,hW3⟩:∃W3,W3=((wr.alloc (.cells #[.int .i64 rs[k].rows[j].rows[m].e.kind,.slice rs[k].rows[j].rows[m].adA rs[k].rows[j].rows[m].e.allow.length rs[k].rows[j].rows[m].capA,.string rs[k].rows[j].rows[m].e.over,.string rs[k].rows[j].rows[m].e.name,.slice rs[k].rows[j].rows[m].adK rs[k].rows[j].rows[m].e.kids.length rs[k].rows[j].rows[m].capK] 39)).alloc (.cells #[.string rs[k].name,.string rs[k].rows[j].name,.int .i64 1] 274)):=⟨_,rfl⟩;have hal:ae wr W3:=by
      rw[hW3]
      repeat(first|exact UV _ _|refine Below.setCell ?_ (by first|(simp;done)|(simp;omega)) _|refine Below.alloc ?_ (by first|(simp;done)|(simp;omega)) _)
     have hsz3:W3.heap.size=wr.heap.size+2:=by rw[hW3];simp
     have HB3:=jR HB hal;have Za:=aC (hG3.below hal);have ZN:Hid (Cel W3 M3 w.heap.size (wr.heap.size+1) 0 (.string rs[k].name)/\Cel W3 M3 w.heap.size (wr.heap.size+1) 1 (.string rs[k].rows[j].name)/\Cel W3 M3 w.heap.size (wr.heap.size+1) 2 (.int .i64 1)):=by
      have hfr:FreeB M3 (wr.heap.size+1):=hG3.fresh (by omega);refine⟨⟨?_,by omega,hfr,by omega⟩,⟨?_,by omega,hfr,by omega⟩,⟨?_,by omega,hfr,by omega⟩⟩
      all_goals(rw[hW3];simp)
     obtain⟨dv,hdv⟩:∃dv:Int,dv=1:=⟨_,rfl⟩;rw[<-hdv]at ZN;have HDE:Hid (dv=1):=hdv;clear hdv;have Xq:Hid (Cel W3 M3 w.heap.size g7 0 (.string rs[k].name)/\Cel W3 M3 w.heap.size g9 0 (.string rs[k].rows[j].name)/\∀(i:Nat) (h:i<rs[k].rows[j].rows.length),Cel W3 M3 w.heap.size gA i (.bool ((dD (ak rs[k].rows[j].rows)).getD i false))):=⟨hC7.stl (Stl.below hal),hC9.stl (Stl.below hal),fun i h=>(hCA i h).stl (Stl.below hal)⟩;have HXO:Hid (rs[k].rows[j].rows[m].ok W3):=(hok rs[k].rows[j].rows[m] (UR WH)).below hal;have hc7:=hC7.cell;have hc9:=hC9.cell;have hl7:=hC7.lt;have hl9:=hC9.lt;have hcA:=(hCA m WH).cell;have hlA:=(hCA m WH).lt;rw[<-HNG.out]at hcA;clear hG3 hal hC7 hC9 hCA hok HG;go_wp2_with fail;rw[<-hW3];clear hW3 t0 t1 t2 t3 t4 hc7 hc9 hl7 hl9 hcA hlA
    case' false =>
     obtain⟨W3,hW3⟩:∃W3,W3=((wr.alloc (.cells #[.int .i64 rs[k].rows[j].rows[m].e.kind,.slice rs[k].rows[j].rows[m].adA rs[k].rows[j].rows[m].e.allow.length rs[k].rows[j].rows[m].capA,.string rs[k].rows[j].rows[m].e.over,.string rs[k].rows[j].rows[m].e.name,.slice rs[k].rows[j].rows[m].adK rs[k].rows[j].rows[m].e.kids.length rs[k].rows[j].rows[m].capK] 39)).alloc (.cells #[.string rs[k].name,.string rs[k].rows[j].name,.int .i64 0] 274)):=⟨_,rfl⟩;have hal:ae wr W3:=by
      rw[hW3]
      repeat(first|exact UV _ _|refine Below.setCell ?_ (by first|(simp;done)|(simp;omega)) _|refine Below.alloc ?_ (by first|(simp;done)|(simp;omega)) _)
     have hsz3:W3.heap.size=wr.heap.size+2:=by rw[hW3];simp
     have HB3:=jR HB hal;have Za:=aC (hG3.below hal);have ZN:Hid (Cel W3 M3 w.heap.size (wr.heap.size+1) 0 (.string rs[k].name)/\Cel W3 M3 w.heap.size (wr.heap.size+1) 1 (.string rs[k].rows[j].name)/\Cel W3 M3 w.heap.size (wr.heap.size+1) 2 (.int .i64 0)):=by
      have hfr:FreeB M3 (wr.heap.size+1):=hG3.fresh (by omega);refine⟨⟨?_,by omega,hfr,by omega⟩,⟨?_,by omega,hfr,by omega⟩,⟨?_,by omega,hfr,by omega⟩⟩
      all_goals(rw[hW3];simp)
     obtain⟨dv,hdv⟩:∃dv:Int,dv=0:=⟨_,rfl⟩;rw[<-hdv]at ZN;have HDE:Hid (dv=0):=hdv;clear hdv;have Xq:Hid (Cel W3 M3 w.heap.size g7 0 (.string rs[k].name)/\Cel W3 M3 w.heap.size g9 0 (.string rs[k].rows[j].name)/\∀(i:Nat) (h:i<rs[k].rows[j].rows.length),Cel W3 M3 w.heap.size gA i (.bool ((dD (ak rs[k].rows[j].rows)).getD i false))):=⟨hC7.stl (Stl.below hal),hC9.stl (Stl.below hal),fun i h=>(hCA i h).stl (Stl.below hal)⟩;have HXO:Hid (rs[k].rows[j].rows[m].ok W3):=(hok rs[k].rows[j].rows[m] (UR WH)).below hal;have hc7:=hC7.cell;have hc9:=hC9.cell;have hl7:=hC7.lt;have hl9:=hC9.lt;have hcA:=(hCA m WH).cell;have hlA:=(hCA m WH).lt;rw[<-HNG.out]at hcA;clear hG3 hal hC7 hC9 hCA hok HG;go_wp2_with fail;rw[<-hW3];clear hW3 t0 t1 t2 t3 t4 hc7 hc9 hl7 hl9 hcA hlA
    all_goals
     refine(GH bT nT rs (some ⟨b,off,none⟩) T rs[k].name rs[k].rows[j].rows[m] _ (HV.out.below HB3.out) HT.out (HS.out.below HB3.out) HL.out Wl.out z0 Yw.out HXL.out HXO.out).mono ?_;rintro e w5 ⟨⟨X7,cpO,rfl,hSO,hNO⟩,hb5⟩;obtain⟨ks,hks⟩:∃ks,ks=jq (ag rs) rs[k].name rs[k].rows[j].rows[m].e:=⟨_,rfl⟩;rw[<-hks]at hSO ⊢;have HKS:Hid (ks=jq (ag rs) rs[k].name rs[k].rows[j].rows[m].e):=hks;have hkl6:ks.length<=6:=by rw[hks];exact Du rs Z7.out _ _ (Z7.out _ (UR hlt) _ (UR hjl) _ (UR WH))
     have ZG:Hid (∀a∈ks,a.t.size<=maxLen/\a.s.size<=maxLen):=by show ∀_,_;rw[hks];exact Js rs Wl.out _ z0 _ Yw.out
     obtain⟨g13,Zg⟩:∃g13,g13=wr.heap.size+1:=⟨_,rfl⟩;have Xt:=jR HB3 hb5;have HG5:=aC (Za.out.below hb5);have hS5:Stl W3 M3 w5 M3 w.heap.size:=Stl.below hb5;have HC5:Hid (Cel w5 M3 w.heap.size g7 0 (.string rs[k].name)/\Cel w5 M3 w.heap.size g9 0 (.string rs[k].rows[j].name)/\∀(i:Nat) (h:i<rs[k].rows[j].rows.length),Cel w5 M3 w.heap.size gA i (.bool ((dD (ak rs[k].rows[j].rows)).getD i false))):=⟨Xq.out.1.stl hS5,Xq.out.2.1.stl hS5,fun i h=>(Xq.out.2.2 i h).stl hS5⟩;have HD5:Hid (Cel w5 M3 w.heap.size g13 0 (.string rs[k].name)/\Cel w5 M3 w.heap.size g13 1 (.string rs[k].rows[j].name)/\Cel w5 M3 w.heap.size g13 2 (.int .i64 dv)):=by rw[Zg];exact⟨ZN.out.1.stl hS5,ZN.out.2.1.stl hS5,ZN.out.2.2.stl hS5⟩
     have Wm:Hid (ks=[] \/ ∃gO WT,X7=some ⟨gO,WT,none⟩/\∀(i:Nat) (h:i<ks.length),Cel w5 M3 w.heap.size gO (WT+i*2) (.string ks[i].t)/\Cel w5 M3 w.heap.size gO (WT+i*2+1) (.string ks[i].s)):=by
      rcases hSO with e|⟨gO,WT,e,hgO,hcO⟩
      ·exact .inl e
      have hN:=hNO _ e;have hbl3:=Za.out.map.lt;have hfr:FreeB M3 gO:=Za.out.fresh hN;refine .inr ⟨gO,WT,e,fun i hi=>⟨⟨(hcO i hi).1,hgO,hfr,?_⟩,⟨(hcO i hi).2,hgO,hfr,?_⟩⟩⟩
      all_goals(simp only at hN;omega)
     rw[<-Zg];clear hb5 hSO hNO hks hS5 ZN Xq Za HB3 HXO Zg;go_wp2_with fail;go_loopw[58] (fun i w6=>∃q:Nat,q<=ks.length/\i=.int .i64 q/\Hid (∃n M,Grp w6 w.heap.size n M (E3++(ks.take q).map (fun a:Al=>(((a.t,a.s),⟨rs[k].name,rs[k].rows[j].name,dv⟩):Ky×St)))/\n<=k*540+j*90+m*6+q/\(E3++(ks.take q).map (fun a:Al=>(((a.t,a.s),⟨rs[k].name,rs[k].rows[j].name,dv⟩):Ky×St))).length<=k*540+j*90+m*6+q/\(Cel w6 M w.heap.size g7 0 (.string rs[k].name)/\Cel w6 M w.heap.size g9 0 (.string rs[k].rows[j].name)/\∀(i:Nat) (h:i<rs[k].rows[j].rows.length),Cel w6 M w.heap.size gA i (.bool ((dD (ak rs[k].rows[j].rows)).getD i false)))/\(Cel w6 M w.heap.size g13 0 (.string rs[k].name)/\Cel w6 M w.heap.size g13 1 (.string rs[k].rows[j].name)/\Cel w6 M w.heap.size g13 2 (.int .i64 dv))/\(ks=[] \/ ∃gO WT,X7=some ⟨gO,WT,none⟩/\∀(i:Nat) (h:i<ks.length),Cel w6 M w.heap.size gO (WT+i*2) (.string ks[i].t)/\Cel w6 M w.heap.size gO (WT+i*2+1) (.string ks[i].s)))/\Hid (ae w w6)) (fun i _=>ks.length-(intOf i).toNat);case atStart=>exact⟨0,UY _,rfl,⟨n3,M3,by simpa using HG5.out,by omega,by simpa using hE3,HC5.out,HD5.out,Wm.out⟩,Xt⟩
     clear HG5 Xt HC5 HD5 Wm HB;obtain⟨q,hq,rfl,HG,HB⟩:=hrel;by_cases hql:q<ks.length
     ·obtain⟨n6,M6,hG6,hn6,hE6,hC6,hD6,XL⟩:=HG.out;rcases XL with hnil|⟨gO,WT,Zh,hcO⟩
      ·rw[hnil]at hql;simp at hql
      have x0:=(hcO q hql).1.cell;have x1:=(hcO q hql).2.cell;have y0:=hD6.1.cell;have y1:=hD6.2.1.cell;have y2:=hD6.2.2.cell;have yl:=hD6.1.lt;have hq1:=bG q;have hq2:(q:Int)<(ks.length:Int):=by omega
      obtain⟨E6,hE6d⟩:∃E6,E6=E3++(ks.take q).map (fun a:Al=>(((a.t,a.s),⟨rs[k].name,rs[k].rows[j].name,dv⟩):Ky×St)):=⟨_,rfl⟩;rw[<-hE6d]at hG6 hE6;have HE6D:Hid (E6=E3++(ks.take q).map (fun a:Al=>(((a.t,a.s),⟨rs[k].name,rs[k].rows[j].name,dv⟩):Ky×St))):=hE6d;obtain⟨W6,hW6⟩:∃W6,W6=((wr.alloc (.cells #[.string ks[q].t,.string ks[q].s] 94)).alloc (.cells #[.string rs[k].name,.string rs[k].rows[j].name,.int .i64 dv] 274)):=⟨_,rfl⟩;have hal:ae wr W6:=by
       rw[hW6]
       repeat(first|exact UV _ _|refine Below.alloc ?_ (by first|(simp;done)|(simp;omega)) _)
      have hsz6:W6.heap.size=wr.heap.size+2:=by rw[hW6];simp
      have YF:=jR HB hal;have HG6:=aC (hG6.below hal);have HNB:Hid (W6.heap[wr.heap.size+1]?=some (.cells #[.string rs[k].name,.string rs[k].rows[j].name,.int .i64 dv] 274)):=by show _=_;rw[hW6];exact xy wr _ _
      have hbn6:w.heap.size<wr.heap.size:=hG6.map.lt;have HS6:Hid (Stl wr M6 W6 M6 w.heap.size):=Stl.below hal;have HCK:Hid ((Cel wr M6 w.heap.size g7 0 (.string rs[k].name)/\Cel wr M6 w.heap.size g9 0 (.string rs[k].rows[j].name)/\∀(i:Nat) (h:i<rs[k].rows[j].rows.length),Cel wr M6 w.heap.size gA i (.bool ((dD (ak rs[k].rows[j].rows)).getD i false)))/\(Cel wr M6 w.heap.size g13 0 (.string rs[k].name)/\Cel wr M6 w.heap.size g13 1 (.string rs[k].rows[j].name)/\Cel wr M6 w.heap.size g13 2 (.int .i64 dv))/\(ks=[] \/ ∃gO WT,X7=some ⟨gO,WT,none⟩/\∀(i:Nat) (h:i<ks.length),Cel wr M6 w.heap.size gO (WT+i*2) (.string ks[i].t)/\Cel wr M6 w.heap.size gO (WT+i*2+1) (.string ks[i].s))):=⟨hC6,hD6,.inr ⟨gO,WT,Zh,hcO⟩⟩;have hzz:=ZG.out _ (UR hql);obtain⟨kl,hkl⟩:=jE (ks[q].t,ks[q].s) hzz.1 hzz.2;have Xh:Hid (keyOf prog 94 (dV (ks[q].t,ks[q].s))=some kl):=hkl;have hLL:=Dv E6 (ks[q].t,ks[q].s);have hn6b:n6<100000:=by omega
      have hLb:(lookL E6 (ks[q].t,ks[q].s)).length<100000:=by omega
      have Zi:Hid (W6.heap.size=wr.heap.size+2):=hsz6;rw[Zh];clear hal hG6 hC6 hD6 hcO hkl HG hE6d hzz hLL hsz6
      go_wp2_with (first
       | (at_builtin;refine wpList_append_own_at _ rfl _ _ 272 rfl (w.heap.size+1) 274 i0 _ 3 40 underlying272 hi hz0 hz1 hz2 rfl (by decide) _ _ _ rfl ((vL HG6.out (ks[q].t,ks[q].s)).kept YH (.inr (Ne.symm (O7 HG6.out (ks[q].t,ks[q].s))))) ⟨wr.heap.size+1,0,none⟩ 1 1 [.string rs[k].name,.string rs[k].rows[j].name,.int .i64 dv] rfl rfl (World.news_of_block (cs:=#[.string rs[k].name,.string rs[k].rows[j].name,.int .i64 dv]) (t:=274) (fr:=(0,0)) ((YH.block (wr.heap.size+1) (by rw[Zi.out];omega) (by simp;omega)).trans HNB.out)) (by simp[Value.oneCell']) (by unfold maxLen;omega) (by omega) (by have h1:=YH.size;rw[Zi.out]at h1;omega) ?_;intro v' w8 Zj YM hnil8 hloc8)
       | (rw[<-hW6];refine Ce _ rfl _ _ 211 rfl 94 272 KJ uL underlying211 Jt w.heap.size n6 M6 rfl HG6.out.map (by unfold maxLen;omega) (ks[q].t,ks[q].s) kl rfl Xh.out ?_;intro st7 w7 YH hback;clear hW6 x0 x1 y0 y1 y2)
       | (refine tV _ rfl _ _ _ 211 rfl w.heap.size st7 rfl rfl v' rfl 94 (n6+1) (lu M6 (ks[q].t,ks[q].s) (some v')) (hback w8 v' (YM.block w.heap.size (by have h1:=YH.size;rw[Zi.out]at h1;omega) (O7 HG6.out (ks[q].t,ks[q].s)))) ?_;intro w9 hM9 hg9))
      have hst:=HG6.out.step (s:=(⟨rs[k].name,rs[k].rows[j].name,dv⟩:St)) YH Zj YM hloc8 hg9 hM9;have HBN:Hid (ae w w9):=by
       have hs1:=YF.out.size;have b7:ae w w7:=YF.out.grown YH hs1 (fun i hi=>by injection hi with hi;omega);have b8:ae w w8:=b7.grown YM b7.size (fun i hi=>by have:=((vL HG6.out (ks[q].t,ks[q].s)).lt i hi).1;omega);exact b8.grown hg9 b8.size (fun i hi=>by injection hi with hi;omega)
      have HGN:Hid (∃n M,Grp w9 w.heap.size n M (E3++(ks.take (q+1)).map (fun a:Al=>(((a.t,a.s),⟨rs[k].name,rs[k].rows[j].name,dv⟩):Ky×St)))/\n<=k*540+j*90+m*6+(q+1)/\(E3++(ks.take (q+1)).map (fun a:Al=>(((a.t,a.s),⟨rs[k].name,rs[k].rows[j].name,dv⟩):Ky×St))).length<=k*540+j*90+m*6+(q+1)/\(Cel w9 M w.heap.size g7 0 (.string rs[k].name)/\Cel w9 M w.heap.size g9 0 (.string rs[k].rows[j].name)/\∀(i:Nat) (h:i<rs[k].rows[j].rows.length),Cel w9 M w.heap.size gA i (.bool ((dD (ak rs[k].rows[j].rows)).getD i false)))/\(Cel w9 M w.heap.size g13 0 (.string rs[k].name)/\Cel w9 M w.heap.size g13 1 (.string rs[k].rows[j].name)/\Cel w9 M w.heap.size g13 2 (.int .i64 dv))/\(ks=[] \/ ∃gO WT,X7=some ⟨gO,WT,none⟩/\∀(i:Nat) (h:i<ks.length),Cel w9 M w.heap.size gO (WT+i*2) (.string ks[i].t)/\Cel w9 M w.heap.size gO (WT+i*2+1) (.string ks[i].s))):=by
       have hS9:=HS6.out.trans hst.2;have e:E3++(ks.take (q+1)).map (fun a:Al=>(((a.t,a.s),⟨rs[k].name,rs[k].rows[j].name,dv⟩):Ky×St))=E6++[((ks[q].t,ks[q].s),(⟨rs[k].name,rs[k].rows[j].name,dv⟩:St))]:=by
        rw[UX hql,VG,<-Vm,<-HE6D.out];rfl
       obtain⟨k1,k2,k3⟩:=HCK.out;refine⟨n6+1,_,by rw[e];exact hst.1,by omega,by rw[e,U2];simp;omega,⟨k1.1.stl hS9,k1.2.1.stl hS9,fun i h=>(k1.2.2 i h).stl hS9⟩,⟨k2.1.stl hS9,k2.2.1.stl hS9,k2.2.2.stl hS9⟩,?_⟩;rcases k3 with hnil|⟨gO',offO',e1,hc⟩
       ·exact .inl hnil
       exact .inr ⟨gO',offO',e1,fun i h=>⟨(hc i h).1.stl hS9,(hc i h).2.stl hS9⟩⟩
      clear hst YH hback Zj YM hnil8 hloc8 hg9 hM9;go_wp2;go_roundw;case rel=>exact⟨q+1,by omega,by go_num,(by rw[Zh]at HGN;exact HGN),HBN⟩
      simp[intOf]<;>omega
     obtain rfl:q=ks.length:=by omega
     have HGN:Hid (∃n M,Grp wr w.heap.size n M (E2++relE (ag rs) rs[k].name rs[k].rows[j].name (ak rs[k].rows[j].rows) (m+1))/\n<=k*540+j*90+(m+1)*6/\(E2++relE (ag rs) rs[k].name rs[k].rows[j].name (ak rs[k].rows[j].rows) (m+1)).length<=k*540+j*90+(m+1)*6/\(Cel wr M w.heap.size g7 0 (.string rs[k].name)/\Cel wr M w.heap.size g9 0 (.string rs[k].rows[j].name)/\∀(i:Nat) (h:i<rs[k].rows[j].rows.length),Cel wr M w.heap.size gA i (.bool ((dD (ak rs[k].rows[j].rows)).getD i false)))):=by
      obtain⟨n,M,h1,hn,h2,h3,-,-⟩:=HG.out;rw[Va]at h1 h2;have e:E2++relE (ag rs) rs[k].name rs[k].rows[j].name (ak rs[k].rows[j].rows) (m+1)=E3++ks.map (fun a:Al=>(((a.t,a.s),⟨rs[k].name,rs[k].rows[j].name,dv⟩):Ky×St)):=by
       rw[Dt _ _ _ _ _ WH _ HNG.out,<-Vm,<-HE3D.out,HKS.out,HDE.out];rfl
      refine⟨n,M,by rw[e];exact h1,by omega,by rw[e];omega,h3⟩
     clear HG;go_wp2;go_roundw;case rel=>exact⟨m+1,by omega,by go_num,HGN,HB⟩
     simp[intOf]<;>omega
   obtain rfl:m=rs[k].rows[j].rows.length:=by omega
   have HGN:Hid (∃n M,Grp wr w.heap.size n M (E1++jr (ag rs) rs[k].name (rs[k].rows.take (j+1)))/\n<=k*540+(j+1)*90/\(E1++jr (ag rs) rs[k].name (rs[k].rows.take (j+1))).length<=k*540+(j+1)*90/\Cel wr M w.heap.size g7 0 (.string rs[k].name)):=by
    obtain⟨n,M,h1,hn,h2,h3⟩:=HG.out;have e:E1++jr (ag rs) rs[k].name (rs[k].rows.take (j+1))=E2++relE (ag rs) rs[k].name rs[k].rows[j].name (ak rs[k].rows[j].rows) rs[k].rows[j].rows.length:=by
     rw[Jq _ _ _ _ hjl,<-Vm,<-HE2D.out]
    refine⟨n,M,?_,by omega,?_,h3.1⟩
    ·rw[e];exact h1
    rw[e];omega
   go_wp2;go_roundw;case rel=>exact⟨j+1,by omega,by go_num,HGN,HB⟩
   simp[intOf]<;>omega
  obtain rfl:j=rs[k].rows.length:=by omega
  have HGN:Hid (∃n M,Grp wr w.heap.size n M (jv (ag rs) (rs.take (k+1)))/\n<=(k+1)*540/\(jv (ag rs) (rs.take (k+1))).length<=(k+1)*540):=by
   obtain⟨n,M,h1,hn,h2,h3⟩:=HG.out;rw[Va]at h1 h2;have e:jv (ag rs) (rs.take (k+1))=E1++jr (ag rs) rs[k].name rs[k].rows:=by rw[Jr _ _ _ hlt,<-HE1D.out]
   refine⟨n,M,?_,by omega,?_⟩
   ·rw[e];exact h1
   rw[e];omega
  go_wp2;go_roundw;case rel=>exact⟨k+1,by omega,by go_num,HGN,HB⟩
  simp[intOf]<;>omega
 obtain rfl:k=rs.length:=by omega
 have HGN:Hid (∃n M,Grp wr w.heap.size n M (jv (ag rs) rs)):=by
  obtain⟨n,M,h1,-⟩:=HG.out;rw[Va]at h1;exact⟨n,M,h1⟩
 go_wp2;go_ret;exact⟨rfl,HGN.out,HB.out⟩
def Edge(ts:Q0b)(E:List (Ky×St)):Prop:=∀on t r s,(on,⟨t,r,s⟩)∈E↔(t,r)∈au ts/\∃d∈iB ts (t,r),(d.typ,d.rel)=on/\stepOf d=s
def xz:Option Int->Int
 | none=>0
 | some x=>x+1
def nY(N:Nat)(σ:Ky->Option Int):List Ky->Int
 | []=>0
 | k::ks=>((N:Int)-xz (σ k))+nY N σ ks
structure Rz(ts:Q0b)(N:Nat)(σ:Ky->Option Int):Prop where
 there:∀k x,σ k=some x->k∈au ts/\0<=x/\x<N/\qD ts k x
def Iy(σ:Ky->Option Int)(k:Ky)(x:Int):Ky->Option Int:=fun y=>if y=k then some x else σ y
theorem nZ(σ:Ky->Option Int)(k:Ky)(x:Int):Iy σ k x k=some x:=by simp[Iy]
theorem rR{σ:Ky->Option Int}{k y:Ky}{x:Int}(h:y≠k):Iy σ k x y=σ y:=by simp[Iy,h]
theorem Rz.val{ts:Q0b}{N:Nat}{σ:Ky->Option Int}(h:Rz ts N σ)(k:Ky):0<=xz (σ k)/\xz (σ k)<=N:=by
 cases e:σ k with
 | none=>simp[xz]
 | some x=>have:=h.there k x e;simp only[xz];omega
theorem Rz.mu_pos{ts:Q0b}{N:Nat}{σ:Ky->Option Int}(h:Rz ts N σ)(ks:List Ky):0<=nY N σ ks:=by
 induction ks with
 | nil=>simp[nY]
 | cons k ks ih=>have:=h.val k;simp only[nY];omega
theorem Rz.set{ts:Q0b}{N:Nat}{σ:Ky->Option Int}(h:Rz ts N σ){k:Ky}{x:Int}(hk:k∈au ts)(h0:0<=x)(hN:x<N)(hl:qD ts k x):Rz ts N (Iy σ k x):=⟨fun y z hz=>by
 by_cases e:y=k
 ·subst e;rw[nZ]at hz;injection hz with hz;subst hz;exact⟨hk,h0,hN,hl⟩
 rw[rR e]at hz;exact h.there y z hz⟩
def vM(σ σ':Ky->Option Int):Prop:=∀k x,σ k=some x->∃y,σ' k=some y/\x<=y
theorem vM.refl(σ:Ky->Option Int):vM σ σ:=fun _ x h=>⟨x,h,Int.le_refl _⟩
theorem vM.trans{a b c:Ky->Option Int}(h:vM a b)(h2:vM b c):vM a c:=fun k x hx=>by
 obtain⟨y,hy,h3⟩:=h k x hx;obtain⟨z,hz,h4⟩:=h2 k y hy;exact⟨z,hz,by omega⟩
theorem vM.val{σ σ':Ky->Option Int}{ts:Q0b}{N:Nat}(h:vM σ σ')(hR:Rz ts N σ')(k:Ky):xz (σ k)<=xz (σ' k):=by
 cases e:σ k with
 | none=>exact(hR.val k).1
 | some x=>obtain⟨y,hy,h2⟩:=h k x e;rw[hy];simp only[xz];omega
theorem vM.mu{σ σ':Ky->Option Int}{ts:Q0b}{N:Nat}(h:vM σ σ')(hR:Rz ts N σ')(ks:List Ky):nY N σ' ks<=nY N σ ks:=by
 induction ks with
 | nil=>exact Int.le_refl _
 | cons k ks ih=>have:=h.val hR k;simp only[nY];omega
theorem zl{σ:Ky->Option Int}{k:Ky}{x:Int}(h:∀y,σ k=some y->y<x):vM σ (Iy σ k x):=fun y z hz=>by
 by_cases e:y=k
 ·subst e;exact⟨x,nZ _ _ _,by have:=h z hz;omega⟩
 exact⟨z,by rw[rR e];exact hz,Int.le_refl _⟩
theorem Uw{σ:Ky->Option Int}{ts:Q0b}{N:Nat}{k:Ky}{x:Int}(hR:Rz ts N (Iy σ k x))(h:∀y,σ k=some y->y<x)(h0:0<=x)(ks:List Ky)(hk:k∈ks):nY N (Iy σ k x) ks+1<=nY N σ ks:=by
 induction ks with
 | nil=>cases hk
 | cons y ks ih =>
  simp only[nY];have hm:=(zl h).mu hR ks;have hv:=(zl h).val hR y;rcases U9.1 hk with rfl|hk
  ·have:xz (σ k)+1<=xz (Iy σ k x k):=by
    rw[nZ];cases e:σ k with
    | none=>simp only[xz];omega
    | some z=>have:=h z e;simp only[xz];omega
   omega
  have:=ih hk;omega
def rT(E:List (Ky×St))(σ:Ky->Option Int)(k:Ky):Prop:=∀x,σ k=some x->∀s∈lookL E k,∃y,σ s.key=some y/\x+s.n<=y
structure Raised(E:List (Ky×St))(σ σ':Ky->Option Int):Prop where
 mono:vM σ σ'
 done:∀k,(rT E σ k\/σ' k≠σ k)->rT E σ' k
theorem Raised.refl(E:List (Ky×St))(σ:Ky->Option Int):Raised E σ σ:=⟨vM.refl _,fun _ h=>h.elim id (fun e=>absurd rfl e)⟩
theorem Raised.trans{E:List (Ky×St)}{a b c:Ky->Option Int}(h:Raised E a b)(h2:Raised E b c):Raised E a c:=⟨h.mono.trans h2.mono,fun k hk=>by
 by_cases e:c k=b k
 ·by_cases e2:b k=a k
  ·rcases hk with hk|hk
   ·exact h2.done k (.inl (h.done k (.inl hk)))
   exact absurd (e.trans e2) hk
  exact h2.done k (.inl (h.done k (.inr e2)))
 exact h2.done k (.inr e)⟩
structure Half(E:List (Ky×St))(σ:Ky->Option Int)(key:Ky)(x:Int)(j:Nat)(σ':Ky->Option Int):Prop where
 mono:vM σ σ'
 done:∀k,k≠key->(rT E σ k\/σ' k≠σ k)->rT E σ' k
 own:rT E σ' key\/(σ' key=some x/\∀s∈(lookL E key).take j,∃y,σ' s.key=some y/\x+s.n<=y)
 at':∃y,σ' key=some y/\x<=y
theorem Half.start{E:List (Ky×St)}{σ:Ky->Option Int}{key:Ky}{x:Int}(h:∀y,σ key=some y->y<x):Half E σ key x 0 (Iy σ key x) where
 mono:=zl h
 done k hk hs:=by
  have e:Iy σ key x k=σ k:=rR hk;rcases hs with hs|hs
  ·intro z hz s hm;rw[e]at hz;obtain⟨y,hy,hle⟩:=hs z hz s hm;obtain⟨y',hy',h2⟩:=zl h _ y hy;exact⟨y',hy',by omega⟩
  exact absurd e hs
 own:=.inr ⟨nZ _ _ _,fun s hs=>by simp at hs⟩
 at':=⟨x,nZ _ _ _,Int.le_refl _⟩
theorem Half.step{E:List (Ky×St)}{σ σ1 σ2:Ky->Option Int}{key:Ky}{x:Int}{j:Nat}(h:Half E σ key x j σ1)(hj:j<(lookL E key).length)(hR:Raised E σ1 σ2)(hy:∃y,σ2 (lookL E key)[j].key=some y/\x+(lookL E key)[j].n<=y):Half E σ key x (j+1) σ2 where
 mono:=h.mono.trans hR.mono
 done k hk hs:=by
  by_cases e:σ2 k=σ1 k
  ·by_cases e2:σ1 k=σ k
   ·rcases hs with hs|hs
    ·exact hR.done k (.inl (h.done k hk (.inl hs)))
    exact absurd (e.trans e2) hs
   exact hR.done k (.inl (h.done k hk (.inr e2)))
  exact hR.done k (.inr e)
 own:=by
  rcases h.own with ho|⟨h1,h2⟩
  ·exact .inl (hR.done key (.inl ho))
  by_cases e:σ2 key=σ1 key
  ·refine .inr ⟨e.trans h1,fun s hs=>?_⟩;rw[UX hj]at hs;rcases U6.1 hs with hs|hs
   ·obtain⟨y,hy1,hy2⟩:=h2 s hs;obtain⟨z,hz,h3⟩:=hR.mono _ y hy1;exact⟨z,hz,by omega⟩
   simp at hs;subst hs;exact hy
  exact .inl (hR.done key (.inr e))
 at':=by
  obtain⟨y,hy,h1⟩:=h.at';obtain⟨z,hz,h2⟩:=hR.mono key y hy;exact⟨z,hz,by omega⟩
theorem Half.full{E:List (Ky×St)}{σ σ':Ky->Option Int}{key:Ky}{x:Int}{j:Nat}(h:Half E σ key x j σ')(hj:(lookL E key).length<=j):Raised E σ σ' where
 mono:=h.mono
 done k hk:=by
  by_cases e:k=key
  ·subst e;rcases h.own with ho|⟨h1,h2⟩
   ·exact ho
   intro z hz s hs;rw[h1]at hz;injection hz with hz;subst hz;exact h2 s (by rw[Vs hj];exact hs)
  exact h.done k e hk
theorem EP{ts:Q0b}{N:Nat}{E:List (Ky×St)}{σ:Ky->Option Int}(hE:Edge ts E)(hF:Found ts)(hR:Rz ts N σ)(hall:∀k∈au ts,∃x,σ k=some x)(hs:∀k,rT E σ k):Least ts (fun k=>(σ k).getD 0) where
 sol:=⟨fun k=>by
   cases e:σ k with
   | none=>exact Int.le_refl _
   | some x=>exact(hR.there k x e).2.1,fun k hk d hd=>by
   obtain⟨x,hx⟩:=hall _ (hF k hk d hd);have hm:(⟨k.1,k.2,stepOf d⟩:St)∈lookL E (d.typ,d.rel):=mem_lookL.2 ((hE _ _ _ _).2 ⟨hk,d,hd,rfl,rfl⟩);obtain⟨y,hy,h2⟩:=hs _ x hx _ hm;have hy':σ k=some y:=hy;simp only[hx,hy',Vw];exact h2⟩
 low k hk:=by
  obtain⟨x,hx⟩:=hall k hk;simp only[hx,Vw];exact(hR.there k x hx).2.2.2
theorem Edge.low{ts:Q0b}{E:List (Ky×St)}(hE:Edge ts E){k:Ky}{x:Int}(hl:qD ts k x){s:St}(hs:s∈lookL E k):s.key∈au ts/\qD ts s.key (x+s.n)/\0<=s.n/\s.n<=1:=by
 obtain⟨h1,d,hd,e1,e2⟩:=(hE k s.typ s.rel s.n).1 (mem_lookL.1 hs);have:=Af d;refine⟨h1,?_,by omega,by omega⟩;rw[<-e2];exact qD.step h1 hd (by rw[e1];exact hl)
def jd(σ:Ky->Option Int):Ky->Option Value:=fun k=>(σ k).map fun x=>Value.int .i64 x
theorem Rh(σ:Ky->Option Int)(k:Ky)(x:Int):lu (jd σ) k (some (.int .i64 x))=jd (Iy σ k x):=by
 funext y
 unfold jd;by_cases e:y=k
 ·subst e;rw[ed,nZ];rfl
 rw[dw e,rR e]
theorem vO(u:af):(zeroValue 2).run prog u=.ok (.int .i64 0) u:=by kernel_rfl
def ES(gS gC gL gR:Nat):Value:=.func (Fn.func 186) #[] #[.pointer (some ⟨gS,0,none⟩),.pointer (some ⟨gC,0,none⟩),.pointer (some ⟨gL,0,none⟩),.pointer (some ⟨gR,0,none⟩)]
structure Rw(w:World)(gS gC gL gR bS bL N n nL:Nat)(ML:Ky->Option Value)(E:List (Ky×St))(σ:Ky->Option Int):Prop where
 cS:w.cell? ⟨gS,0,none⟩=some (.map (some bS))
 cC:w.cell? ⟨gC,0,none⟩=some (.int .i64 N)
 cL:w.cell? ⟨gL,0,none⟩=some (.map (some bL))
 cR:w.cell? ⟨gR,0,none⟩=some (ES gS gC gL gR)
 lS:gS<w.heap.size/\gS≠bS
 lC:gC<w.heap.size/\gC≠bS
 lL:gL<w.heap.size/\gL≠bS
 lR:gR<w.heap.size/\gR≠bS
 map:aK dV prog 94 w bS n (jd σ)
 lean:Grp w bL nL ML E
 bne:bL≠bS
 free:FreeB ML bS
theorem kJ{w w':af}{b g:Nat}(hg:w.grownBy w' (some b))(hl:g<w.heap.size/\g≠b)(o:Nat):w'.cell? ⟨g,o,none⟩=w.cell? ⟨g,o,none⟩:=Vh (w:=w) (hg.block g hl.1 (fun e=>hl.2 (by injection e)))
theorem Grp.kept{w w':af}{bL n b:Nat}{M:Ky->Option Value}{E:List (Ky×St)}(h:Grp w bL n M E)(hg:w.grownBy w' (some b))(hb:bL≠b)(hf:FreeB M b):Grp w' bL n M E where
 map:=h.map.kept hg (by intro e;injection e with e;exact hb e)
 row k:=by
  rcases h.row k with e|⟨v,e,ho⟩
  ·exact .inl e
  exact .inr ⟨v,e,ho.kept hg (.inr (hf k v e))⟩
 apart:=h.apart
theorem Rw.kept{w w':af}{gS gC gL gR bS bL N n n' nL:Nat}{ML:Ky->Option Value}{E:List (Ky×St)}{σ σ':Ky->Option Int}(h:Rw w gS gC gL gR bS bL N n nL ML E σ)(hg:w.grownBy w' (some bS))(hM:aK dV prog 94 w' bS n' (jd σ')):Rw w' gS gC gL gR bS bL N n' nL ML E σ' where
 cS:=(kJ hg h.lS 0).trans h.cS
 cC:=(kJ hg h.lC 0).trans h.cC
 cL:=(kJ hg h.lL 0).trans h.cL
 cR:=(kJ hg h.lR 0).trans h.cR
 lS:=⟨UT h.lS.1 hg.size,h.lS.2⟩
 lC:=⟨UT h.lC.1 hg.size,h.lC.2⟩
 lL:=⟨UT h.lL.1 hg.size,h.lL.2⟩
 lR:=⟨UT h.lR.1 hg.size,h.lR.2⟩
 map:=hM
 lean:=h.lean.kept hg h.bne h.free
 bne:=h.bne
 free:=h.free
theorem jw{w w':af}{b:Nat}(h:ae w w'):w.grownBy w' (some b):=⟨h.os,h.tape,h.output,h.size,fun k hk _=>h.block k hk⟩
theorem Rw.below{w w':af}{gS gC gL gR bS bL N n nL:Nat}{ML:Ky->Option Value}{E:List (Ky×St)}{σ:Ky->Option Int}(h:Rw w gS gC gL gR bS bL N n nL ML E σ)(hB:ae w w'):Rw w' gS gC gL gR bS bL N n nL ML E σ:=h.kept (jw hB) (h.map.below hB)
theorem mY{a b c:af}{r:Option Nat}(h:a.grownBy b r)(h2:b.grownBy c r):a.grownBy c r:=⟨h2.os.trans h.os,h2.tape.trans h.tape,h2.output.trans h.output,U0 h.size h2.size,fun k hk hr=>(h2.block k (UT hk h.size) hr).trans (h.block k hk hr)⟩
def Ju(ts:Q0b)(w:World)(gS gC gL gR bS bL N n nL:Nat)(ML:Ky->Option Value)(E:List (Ky×St))(σ:Ky->Option Int)(key:Ky)(lv:Int)(e:Ending)(w':World):Prop :=
 ∃(ok:Bool) (σ':Ky->Option Int) (n':Nat),e=.returned (.bool ok)/\w.grownBy w' (some bS)/\Rw w' gS gC gL gR bS bL N n' nL ML E σ'/\Rz ts N σ'/\(n':Int)+nY N σ' (au ts)<=n+nY N σ (au ts)/\nY N σ' (au ts)<=nY N σ (au ts) /\
  (ok=false->¬ ∃f,Sol ts f)/\(ok=true->Raised E σ σ'/\∃x,σ' key=some x/\lv<=x)
set_option maxRecDepth 100000 in
theorem Ml(ts:Q0b)(gS gC gL gR bS bL N nL:Nat)(ML:Ky->Option Value)(E:List (Ky×St))(hE:Edge ts E)(hF:Found ts)(hN:N=(au ts).length)(hN36:N<=36)(hsz:∀k∈au ts,k.1.size<=maxLen/\k.2.size<=maxLen)(hEl:E.length<=100000)(f:Nat):
  ∀(w:World) (σ:Ky->Option Int) (n:Nat) (key:Ky) (lv:Int),Rw w gS gC gL gR bS bL N n nL ML E σ->Rz ts N σ->nY N σ (au ts)<=f->(n:Int)+nY N σ (au ts)<=100000->key∈au ts->0<=lv->lv<=100->qD ts key lv ->
  Calls prog 186 #[.agg #[.string key.1,.string key.2],.int .i64 lv,.pointer (some ⟨gS,0,none⟩),.pointer (some ⟨gC,0,none⟩),.pointer (some ⟨gL,0,none⟩),.pointer (some ⟨gR,0,none⟩)] w (Ju ts w gS gC gL gR bS bL N n nL ML E σ key lv):=by
 have HE:=aC hE;have HF:=aC hF;have Zi:Hid (∀k∈au ts,k.1.size<=maxLen/\k.2.size<=maxLen):=hsz;have XV:Hid (N=(au ts).length):=hN;clear hE hF hsz hN
 induction f using Nat.strongRecOn with
 | _ f ih =>
 intro w σ n key lv hR hZ hmu hnm hk h0 h1 hl;have HIH:Hid (∀m<f,_):=ih;clear ih;obtain⟨hz1,hz2⟩:=Zi.out key hk;obtain⟨kl,hkl⟩:=jE key hz1 hz2;have Xh:Hid (keyOf prog 94 (dV key)=some kl):=hkl;have HR:=aC hR;have HZ:=aC hZ;have HLK:=aC hl;have HKM:=aC hk;have hmp:=hZ.mu_pos (au ts);have cS:=hR.cS;have cC:=hR.cC;have cL:=hR.cL;have lS:=hR.lS.1;have lC:=hR.lC.1;have lL:=hR.lL.1;have hbS:=hR.map.lt;have hal:ae w (w.alloc (.cells #[.string key.1,.string key.2] 94)):=(UV _ _).alloc (UU _) _;have Ws:=aC hal;have Zc:Hid (aK dV prog 94 (w.alloc (.cells #[.string key.1,.string key.2] 94)) bS n (jd σ)):=hR.map.below hal;have HR1:=aC (hR.below hal);clear hR hZ hl hkl hal hk;by_cases hd:∃x,σ key=some x/\lv<=x
 ·obtain⟨x,hx,hle⟩:=hd;obtain⟨-,hx0,hxN,-⟩:=HZ.out.there key x hx;have hlk:jd σ key=some (.int .i64 x):=by unfold jd;rw[hx];rfl
  have HX:Hid (σ key=some x):=hx;clear hx;go_enter func186,ntmps186;go_wp2_with(at_lookup;refine dQ _ rfl _ _ 153 rfl 94 2 iU underlying153 (vO _) bS n (jd σ) rfl Zc.out key kl rfl Xh.out ?_;simp only[hlk,Vw,Option.isSome_some]);go_ret;exact⟨true,σ,n,rfl,jw Ws.out,HR1.out,HZ.out,Int.le_refl _,Int.le_refl _,by simp,fun _=>⟨Raised.refl _ _,x,HX.out,hle⟩⟩
 have HLT:Hid (∀y,σ key=some y->y<lv):=fun y hy=>by
  by_cases h:lv<=y
  ·exact absurd ⟨y,hy,h⟩ hd
  omega
 clear hd;by_cases hNt:(N:Int)<=lv
 ·have Xu:Hid (¬ ∃f,Sol ts f):=I7 HF.out HKM.out HLK.out (by have:=XV.out;omega);cases hs:σ key with
  | none =>
   have hlk:jd σ key=none:=by unfold jd;rw[hs];rfl
   clear hs;go_enter func186,ntmps186;go_wp2_with(at_lookup;refine dQ _ rfl _ _ 153 rfl 94 2 iU underlying153 (vO _) bS n (jd σ) rfl Zc.out key kl rfl Xh.out ?_;simp only[hlk,Option.getD_none,Option.isSome_none]);go_ret;exact⟨false,σ,n,rfl,jw Ws.out,HR1.out,HZ.out,Int.le_refl _,Int.le_refl _,fun _=>Xu.out,by simp⟩
  | some x =>
   have hxt:x<lv:=HLT.out x hs;obtain⟨-,hx0,hxN,-⟩:=HZ.out.there key x hs;have hlk:jd σ key=some (.int .i64 x):=by unfold jd;rw[hs];rfl
   clear hs;go_enter func186,ntmps186;go_wp2_with(at_lookup;refine dQ _ rfl _ _ 153 rfl 94 2 iU underlying153 (vO _) bS n (jd σ) rfl Zc.out key kl rfl Xh.out ?_;simp only[hlk,Vw,Option.isSome_some]);go_ret;exact⟨false,σ,n,rfl,jw Ws.out,HR1.out,HZ.out,Int.le_refl _,Int.le_refl _,fun _=>Xu.out,by simp⟩
 have hNt':lv<(N:Int):=by omega
 have HZ2:Hid (Rz ts N (Iy σ key lv)):=HZ.out.set HKM.out h0 hNt' HLK.out;have HMU:Hid (nY N (Iy σ key lv) (au ts)+1<=nY N σ (au ts)):=Uw HZ2.out HLT.out h0 _ HKM.out;obtain⟨adL,cpL,hvl,hrow⟩:=Q9 (vL HR.out.lean key);have HVL:Hid ((ML key).getD (.slice none 0 0)=.slice adL (lookL E key).length cpL):=hvl;have hll:(lookL E key).length<=100000:=U0 (Dv _ _) hEl;clear hvl hrow;cases hs:σ key
 case' none =>
  have hlk:jd σ key=none:=by unfold jd;rw[hs];rfl
  clear hs;go_enter func186,ntmps186
  go_wp2_with (first
   | (at_lookup;refine dQ _ rfl _ _ 153 rfl 94 2 iU underlying153 (vO _) bS n (jd σ) rfl Zc.out key kl rfl Xh.out ?_;simp only[hlk,Option.getD_none,Option.isSome_none])
   | (at_mapUpdate;refine ku _ rfl _ _ _ 153 rfl 94 2 iU uL underlying153 bS n (jd σ) rfl Zc.out (by unfold maxLen;omega) key kl rfl Xh.out (.int .i64 lv) rfl ?_;intro w2 hV2 hg2;have cL2:w2.cell? ⟨gL,0,none⟩=some (.map (some bL)):=(kJ hg2 HR1.out.lL 0).trans HR1.out.cL;have k0:w2.cell? ⟨w.heap.size,0,none⟩=some (.string key.1):=(kJ hg2 ⟨by simp,by omega⟩ 0).trans (by simp);have k1:w2.cell? ⟨w.heap.size,1,none⟩=some (.string key.2):=(kJ hg2 ⟨by simp,by omega⟩ 1).trans (by simp))
   | (at_lookup;refine jD _ rfl _ _ 211 rfl 94 272 iU underlying211 (Jt _) bL nL ML rfl ((HR1.out.lean.kept hg2 HR1.out.bne HR1.out.free).map) key kl rfl Xh.out ?_;rw[HVL.out]))
 case' some x =>
  have hxt:x<lv:=HLT.out x hs;obtain⟨-,hx0,hxN,-⟩:=HZ.out.there key x hs;have hlk:jd σ key=some (.int .i64 x):=by unfold jd;rw[hs];rfl
  clear hs;go_enter func186,ntmps186
  go_wp2_with (first
   | (at_lookup;refine dQ _ rfl _ _ 153 rfl 94 2 iU underlying153 (vO _) bS n (jd σ) rfl Zc.out key kl rfl Xh.out ?_;simp only[hlk,Vw,Option.isSome_some])
   | (at_mapUpdate;refine ku _ rfl _ _ _ 153 rfl 94 2 iU uL underlying153 bS n (jd σ) rfl Zc.out (by unfold maxLen;omega) key kl rfl Xh.out (.int .i64 lv) rfl ?_;intro w2 hV2 hg2;have cL2:w2.cell? ⟨gL,0,none⟩=some (.map (some bL)):=(kJ hg2 HR1.out.lL 0).trans HR1.out.cL;have k0:w2.cell? ⟨w.heap.size,0,none⟩=some (.string key.1):=(kJ hg2 ⟨by simp,by omega⟩ 0).trans (by simp);have k1:w2.cell? ⟨w.heap.size,1,none⟩=some (.string key.2):=(kJ hg2 ⟨by simp,by omega⟩ 1).trans (by simp))
   | (at_lookup;refine jD _ rfl _ _ 211 rfl 94 272 iU underlying211 (Jt _) bL nL ML rfl ((HR1.out.lean.kept hg2 HR1.out.bne HR1.out.free).map) key kl rfl Xh.out ?_;rw[HVL.out]))
 all_goals
  have HR2:Hid (Rw w2 gS gC gL gR bS bL N (n+1) nL ML E (Iy σ key lv)):=HR1.out.kept hg2 (by rw[<-Rh];exact hV2);have HG2:Hid (w.grownBy w2 (some bS)):=mY (jw Ws.out) hg2;clear hV2 hg2 cL2 k0 k1;go_loopw[35] (fun i w3=>∃j:Nat,j<=(lookL E key).length/\i=.int .i64 j/\Hid (∃(σ3:Ky->Option Int) (n3:Nat),Half E σ key lv j σ3/\Rw w3 gS gC gL gR bS bL N n3 nL ML E σ3/\Rz ts N σ3/\(n3:Int)+nY N σ3 (au ts)<=n+nY N σ (au ts)/\nY N σ3 (au ts)+1<=nY N σ (au ts)/\w.grownBy w3 (some bS))) (fun i _=>(lookL E key).length-(intOf i).toNat);case atStart=>exact⟨0,UY _,rfl,⟨Iy σ key lv,n+1,Half.start HLT.out,HR2.out,HZ2.out,by have:=HMU.out;push_cast;omega,HMU.out,HG2.out⟩⟩
  clear HR2 HG2 HZ2 HMU;obtain⟨j,hj,rfl,HI⟩:=hrel;by_cases hjl:j<(lookL E key).length
  ·obtain⟨σ3,n3,hH3,Yo,hZ3,hn3,Zk,hg3⟩:=HI.out;obtain⟨We,cp',hv',hrow'⟩:=Q9 (vL Yo.lean key);rw[HVL.out]at hv';injection hv' with e1 e2 e3;subst e1;rcases hrow' with h|⟨gr,V6,hgr1,WN,hcr⟩
   ·omega
   obtain⟨st,hst⟩:∃st,st=(lookL E key)[j]:=⟨_,rfl⟩;have r0:wr.cell? ⟨gr,j*3,none⟩=some (.string st.typ):=hcr _ _ (by have:=lN (lookL E key) j hjl 0 (by omega);rw[hst];simpa[St.cells] using this);have r1:wr.cell? ⟨gr,j*3+1,none⟩=some (.string st.rel):=hcr _ _ (by have:=lN (lookL E key) j hjl 1 (by omega);rw[hst];simpa[St.cells] using this);have r2:wr.cell? ⟨gr,j*3+2,none⟩=some (.int .i64 st.n):=hcr _ _ (by have:=lN (lookL E key) j hjl 2 (by omega);rw[hst];simpa[St.cells] using this);have HST:Hid (st=(lookL E key)[j]):=hst;obtain⟨hsk,hsl,hsn0,hsn1⟩:=HE.out.low HLK.out (s:=st) (by rw[hst];exact UR hjl);have HSK:=aC hsk;have Yu:=aC hsl;have hj1:=bG j;have hj2:(j:Int)<((lookL E key).length:Int):=by omega
   have cR3:=Yo.cR;unfold ES at cR3;have lR3:=Yo.lR.1;obtain⟨W3,hW3⟩:∃W3,W3=wr.alloc (.cells #[.string st.typ,.string st.rel,.int .i64 st.n] 274):=⟨_,rfl⟩;have Zl:ae wr W3:=by rw[hW3];exact(UV _ _).alloc (UU _) _
   have HR3:=aC (Yo.below Zl);have Za:Hid (w.grownBy W3 (some bS)):=mY hg3 (jw Zl);have HH3:=aC hH3;have HZ3:=aC hZ3;have hm3p:=hZ3.mu_pos (au ts);have HNM:Hid ((n3:Int)+nY N σ3 (au ts)<=n+nY N σ (au ts)/\nY N σ3 (au ts)+1<=nY N σ (au ts)):=⟨hn3,Zk⟩;rw[V6];clear hcr hgr1 WN hsk hsl hst Yo Zl hH3 hZ3 hg3 HI e2 e3;go_wp2_with fail;rw[<-hW3];clear hW3 r0 r1 r2 cR3;refine(HIH.out (nY N σ3 (au ts)).toNat (by omega) _ σ3 n3 st.key (lv+st.n) HR3.out HZ3.out (by omega) (by omega) HSK.out (by omega) (by omega) Yu.out).mono ?_;rintro e w5 ⟨ok,σ5,n5,rfl,hg5,Wy,hZ5,hn5,YN,hf5,ht5⟩;cases ok;case false=>
    have HP:Hid (Ju ts w gS gC gL gR bS bL N n nL ML E σ key lv (.returned (.bool false)) w5):=by
     have h:=HNM.out;exact⟨false,σ5,n5,rfl,mY Za.out hg5,Wy,hZ5,by omega,by omega,fun _=>hf5 rfl,by simp⟩
    clear hg5 Wy hZ5 hn5 YN hf5 ht5;go_wp2;go_ret;exact HP.out
   have HI2:Hid (∃(σ3:Ky->Option Int) (n3:Nat),Half E σ key lv (j+1) σ3/\Rw w5 gS gC gL gR bS bL N n3 nL ML E σ3/\Rz ts N σ3/\(n3:Int)+nY N σ3 (au ts)<=n+nY N σ (au ts)/\nY N σ3 (au ts)+1<=nY N σ (au ts)/\w.grownBy w5 (some bS)):=by
    have h:=HNM.out;obtain⟨hRa,y,hy,hle⟩:=ht5 rfl;refine⟨σ5,n5,HH3.out.step hjl hRa ⟨y,?_,?_⟩,Wy,hZ5,by omega,by omega,mY Za.out hg5⟩
    ·rw[<-HST.out];exact hy
    rw[<-HST.out];exact hle
   clear hg5 Wy hZ5 hn5 YN hf5 ht5;go_wp2;go_roundw;case rel=>exact⟨j+1,by omega,by go_num,HI2⟩
   simp[intOf]<;>omega
  obtain rfl:j=(lookL E key).length:=by omega
  have HP:Hid (Ju ts w gS gC gL gR bS bL N n nL ML E σ key lv (.returned (.bool true)) wr):=by
   obtain⟨σ3,n3,hH3,Yo,hZ3,hn3,Zk,hg3⟩:=HI.out;exact⟨true,σ3,n3,rfl,hg3,Yo,hZ3,hn3,by omega,by simp,fun _=>⟨hH3.full (UU _),hH3.at'⟩⟩
  clear HI;go_wp2;go_ret;exact HP.out
end Go.Proofs.YtajkkeikihhejaaGreat
