/- Contract of the program's function on what leans on what. -/
import Derived.Test.YtojjoblnpldniaaGreatSq
import Derived.Test.YtojjoblnpldniaaGreatJ19
import Derived.Laws.EntriesVeiled
open Go.Proofs.Tryz
set_option maxHeartbeats 80000000
namespace Go.Proofs.YtojjoblnpldniaaGreat
open ChangeShapes WideShapes ChangeAt RowKit Maps
open Pl
def yu(b:Bool):Int:=if b then 1 else 0
def BA(ts:Q0b)(t r:ByteArray)(ng:Bool)(e:Ex):List (Ky×St):=(jl ts t e).map fun a=>((a.t,a.s),⟨t,r,yu ng⟩)
def relE(ts:Q0b)(t r:ByteArray)(es:Q09):Nat->List (Ky×St)
 | 0=>[]
 | i+1=>relE ts t r es i++(match es[i]? with|none=>[]|some e=>BA ts t r ((dz es).getD i false) e)
def jm(ts:Q0b)(t:ByteArray)(qs:Q07):List (Ky×St):=qs.flatMap fun q=>relE ts t q.name (aj q.rows) q.rows.length
def jo(ts:Q0b)(rs:Q06):List (Ky×St):=rs.flatMap fun t=>jm ts t.name t.rows
theorem Kc(ts:Q0b)(t:bQ)(qs:Q07)(j:Nat)(h:j<qs.length):jm ts t (qs.take (j+1))=jm ts t (qs.take j)++relE ts t qs[j].name (aj qs[j].rows) qs[j].rows.length:=by
 unfold jm;rw[Vu h,Wj,List.flatMap_singleton]
theorem Ke(ts:Q0b)(rs:Q06)(k:Nat)(h:k<rs.length):jo ts (rs.take (k+1))=jo ts (rs.take k)++jm ts rs[k].name rs[k].rows:=by
 unfold jo;rw[Vu h,Wj,List.flatMap_singleton]
theorem DX(ts:Q0b)(t r:bQ)(rows:Q08)(i:Nat)(h:i<rows.length)(ng:Bool)(hn:ng=(dz (aj rows)).getD i false):relE ts t r (aj rows) (i+1)=relE ts t r (aj rows) i++BA ts t r ng rows[i].e:=by
 have e:(aj rows)[i]?=some rows[i].e:=by simp[aj,h]
 simp only[relE,e,hn]
theorem DY(rs:Q06)(hl:∀r∈rs,∀q∈r.rows,∀e∈q.rows,e.e.allow.length<=6)(typ:bQ)(e:Ex)(he:e.allow.length<=6):(jl (af rs) typ e).length<=6:=by
 unfold jl;split
 ·exact Vz (DV _) he
 split
 ·simp
 split
 ·rw[Wy];unfold gm;split
  ·refine Vz (Ah _ _ _ _) ?_;unfold az;cases h:fF (af rs) typ e.over with
   | none=>simp[aQ]
   | some es =>
    obtain⟨t,ht,q,hq,-,-,rfl⟩:=qO h;have h1:=hl t ht q hq;have:∀(xs:Q08),(∀q∈xs,q.e.allow.length<=6)->(aQ (aj xs)).length<=6:=by
     intro xs
     induction xs with
     | nil=>intro _;simp[aj,aQ]
     | cons x xs ih =>
      intro h;have e4:aj (x::xs)=x.e::aj xs:=rfl;rw[e4];simp only[aQ];split
      ·exact h x (by simp)
      exact ih (fun q hq=>h q (by simp[hq]))
    exact this q.rows h1
  simp
 simp
theorem Kg(rs:Q06)(hf:∀r∈rs,r.fits)(typ:bQ)(ht:typ.size<=maxLen)(e:Ex)(he:e.fits):∀a∈jl (af rs) typ e,a.t.size<=maxLen/\a.s.size<=maxLen:=by
 have hA:∀(xs:Q0a),(∀a∈xs,a.fits)->∀a∈dL xs,a.t.size<=maxLen/\a.s.size<=maxLen:=by
  intro xs
  induction xs with
  | nil=>intro _ a ha;cases ha
  | cons b xs ih =>
   intro h a ha;simp only[dL]at ha;split at ha
   ·exact ih (fun q hq=>h q (by simp[hq])) a ha
   rcases VH.1 ha with rfl|ha
   ·exact h a (by simp)
   exact ih (fun q hq=>h q (by simp[hq])) a ha
 have hG:∀(xs:Q0a) (rel:ByteArray),(∀a∈xs,a.fits)->∀g∈gl (af rs) rel xs,g.size<=maxLen:=by
  intro xs rel
  induction xs with
  | nil=>intro _ a ha;cases ha
  | cons b xs ih =>
   intro h a ha;simp only[gl]at ha;split at ha
   ·exact ih (fun q hq=>h q (by simp[hq])) a ha
   rcases VH.1 ha with rfl|ha
   ·exact(h b (by simp)).1
   exact ih (fun q hq=>h q (by simp[hq])) a ha
 unfold jl;split
 ·exact hA _ he.1
 split
 ·intro a ha;simp at ha;subst ha;exact⟨ht,he.2.2.1⟩
 split
 ·intro a ha;obtain⟨g,hg,rfl⟩:=VG.1 ha;refine⟨?_,he.2.2.1⟩;unfold gm at hg;split at hg
  ·unfold gW at hg;refine hG _ _ ?_ g hg;unfold az;cases e3:fF (af rs) typ e.over with
   | none=>intro a ha;simp[aQ]at ha
   | some es =>
    obtain⟨t,ht',q,hq,-,-,rfl⟩:=qO e3;have hq2:=((hf t ht').2.2 q hq).2.2;intro a ha;have:∀(xs:Q08),(∀q∈xs,q.e.fits)->∀a∈aQ (aj xs),a.fits:=by
     intro xs
     induction xs with
     | nil=>intro _ a ha;simp[aj,aQ]at ha
     | cons x xs ih =>
      intro h a ha;have e4:aj (x::xs)=x.e::aj xs:=rfl;rw[e4]at ha;simp only[aQ]at ha;split at ha
      ·exact(h x (by simp)).1 a ha
      exact ih (fun q hq=>h q (by simp[hq])) a ha
    exact this q.rows hq2 a ha
  cases hg
 intro a ha;cases ha
theorem Sd:(prog.info? 337).map (fun i=>(i.zero,i.size,i.bytes))=some (some (.agg #[.string ⟨#[]⟩,.string ⟨#[]⟩,.int .i64 0]),3,40):=by kernel_rfl
theorem Kh(u:ae):(zeroValue 335).run prog u=.ok (.slice none 0 0) u:=by kernel_rfl
theorem wu{w:ae}{bL n:Nat}{M:Ky->Option Value}{E:List (Ky×St)}(h:Grp w bL n M E)(y:Ky):w.ownsRow (bL+1) 337 3 ((M y).getD (.slice none 0 0)) (lookL E y).length (iB (lookL E y)):=by
 rcases h.row y with⟨e,e2⟩|⟨v,e,ho⟩
 ·rw[e,e2];exact World.ownsRow_nil _ _ _ _
 rw[e];exact ho
theorem QF{w:ae}{bL n:Nat}{M:Ky->Option Value}{E:List (Ky×St)}(h:Grp w bL n M E)(y:Ky):some bL≠((M y).getD (.slice none 0 0)).ownBlock:=by
 cases e:M y with
 | none=>simp[Value.ownBlock]
 | some v=>intro e2;have:=(h.lt e (g:=bL) (by simpa using e2.symm)).1;omega
theorem DZ(E:List (Ky×St))(y:Ky):(lookL E y).length<=E.length:=WE _ _
set_option maxRecDepth 100000 in
theorem Cu(ad:Q02)(cap:Nat)(rs:Q06)(bT nT:Nat)(T:Ky->Option Value)(w:ae)(hlen:rs.length<=6)(hs:mP w ad rs)(hl:∀r∈rs,r.light)(hf:∀r∈rs,r.fits)(hrl:∀r∈rs,r.rows.length<=6)(hel:∀r∈rs,∀q∈r.rows,q.rows.length<=15/\∀e∈q.rows,eT q.rows.length e.e.kids)(hal6:∀r∈rs,∀q∈r.rows,∀e∈q.rows,e.e.allow.length<=6)(hV:aJ dU prog 146 w bT nT T)(hT:Tab rs T):
  Calls prog 187 #[.slice ad rs.length cap,.map (some bT)] w fun e w'=>e=.returned (.map (some w.heap.size))/\(∃n M,Grp w' w.heap.size n M (jo (af rs) rs))/\ag w w':=by
 have HS:=aC hs;have HL:=aC hl;have WR:=aC hf;have HRL:Hid (∀r∈rs,r.rows.length<=6):=hrl;have Yo:Hid (∀r∈rs,∀q∈r.rows,q.rows.length<=15/\∀e∈q.rows,eT q.rows.length e.e.kids):=hel;have HV:Hid (aJ dU prog 146 w bT nT T):=hV;have HT:=aC hT;have HA6:Hid (∀r∈rs,∀q∈r.rows,∀e∈q.rows,e.e.allow.length<=6):=hal6;clear hs hl hf hrl hel hV hT hal6;obtain⟨i0,hi,hz0,hz1,hz2⟩:=info_parts Sd;have HG0:Hid (Grp (w.alloc (.map #[] 0)) w.heap.size 0 (fun _=>none) []):=grp_made w;have HB0:Hid (ag w (w.alloc (.map #[] 0))):=(Vs _ _).alloc (Vr _) _;have hmm:=@run_makeMap prog;go_enter func187,ntmps187;go_wp2_with fail;go_loopw[19] (fun i wr=>∃k:Nat,k<=rs.length/\i=.int .i64 k/\Hid (∃n M,Grp wr w.heap.size n M (jo (af rs) (rs.take k))/\n<=k*540/\(jo (af rs) (rs.take k)).length<=k*540)/\Hid (ag w wr)) (fun i _=>rs.length-(intOf i).toNat);case atStart=>exact⟨0,Vv _,rfl,⟨0,_,HG0.out,by omega,by simp[jo]⟩,HB0⟩
 clear HG0 HB0 hmm;obtain⟨k,hk,rfl,HG,HB⟩:=hrel;by_cases hlt:k<rs.length
 ·rcases HS.out.below HB.out with rfl|⟨b,off,rfl,hb,hr,-⟩
  ·simp at hlt
  obtain⟨t0,t1⟩:=hr k hlt;have hk1:=bC k;have hk2:(k:Int)<(rs.length:Int):=by omega
  have h6:rs[k].rows.length<=6:=HRL.out _ (Vp hlt);have z0:rs[k].name.size<=maxLen:=(WR.out _ (Vp hlt)).1;have YQ:Hid (∀q∈rs[k].rows,q.fits):=(WR.out _ (Vp hlt)).2.2;have HLR:Hid (∀q∈rs[k].rows,q.light):=(HL.out _ (Vp hlt)).2;have HER:Hid (∀q∈rs[k].rows,q.rows.length<=15/\∀e∈q.rows,eT q.rows.length e.e.kids):=Yo.out _ (Vp hlt);obtain⟨n1,M1,hG1,hn1,hE1⟩:=HG.out;obtain⟨E1,hE1d⟩:∃E1,E1=jo (af rs) (rs.take k):=⟨_,rfl⟩;rw[<-hE1d]at hG1 hE1;have HE1D:Hid (E1=jo (af rs) (rs.take k)):=hE1d;obtain⟨W1,hW1⟩:∃W1,W1=wr.alloc (.cells #[.string rs[k].name,.slice rs[k].ad rs[k].rows.length rs[k].cap] 36):=⟨_,rfl⟩;have hal:ag wr W1:=by rw[hW1];exact(Vs _ _).alloc (Vr _) _
  have hbn:w.heap.size<wr.heap.size:=hG1.map.lt;have HC7:Hid (Cel W1 M1 w.heap.size wr.heap.size 0 (.string rs[k].name)):=⟨by rw[hW1];simp,by rw[hW1];simp,hG1.fresh (Vr _),by omega⟩;have HG1:=aC (hG1.below hal);have HB1:=iJ HB hal;clear hr hal hG1 HG hE1d;go_wp2_with fail;rw[<-hW1];clear hW1 t0 t1 HB;obtain⟨g7,YS⟩:∃g7,g7=wr.heap.size:=⟨_,rfl⟩;rw[<-YS]at HC7 hbn ⊢;clear YS;go_loopw[26] (fun i w2=>∃j:Nat,j<=rs[k].rows.length/\i=.int .i64 j/\Hid (∃n M,Grp w2 w.heap.size n M (E1++jm (af rs) rs[k].name (rs[k].rows.take j))/\n<=k*540+j*90/\(E1++jm (af rs) rs[k].name (rs[k].rows.take j)).length<=k*540+j*90/\Cel w2 M w.heap.size g7 0 (.string rs[k].name))/\Hid (ag w w2)) (fun i _=>rs[k].rows.length-(intOf i).toNat);case atStart=>exact⟨0,Vv _,rfl,⟨n1,M1,by simpa[jm] using HG1.out,by omega,by have e:jm (af rs) rs[k].name (rs[k].rows.take 0)=[]:=rfl;rw[e,Wp];omega,HC7.out⟩,HB1⟩
  clear HG1 HB1 HC7;obtain⟨j,hj,rfl,HG,HB⟩:=hrel;by_cases hjl:j<rs[k].rows.length
  ·rcases HS.out.below HB.out with hnil|⟨b',off',he,hb2,hr,hok⟩
   ·rw[hnil]at hlt;simp at hlt
   injection he with he;injection he with he1 he2;subst he1;subst he2;have ok:=hok rs[k] (Vp hlt);rcases ok with hnil|⟨b2,Xd,had,hbb,hr2,-⟩
   ·rw[hnil]at hjl;simp at hjl
   obtain⟨q0,q1⟩:=hr2 j hjl;have z1:rs[k].rows[j].name.size<=maxLen:=(YQ.out _ (Vp hjl)).1;have YO:Hid (∀q∈rs[k].rows[j].rows,q.e.fits):=(YQ.out _ (Vp hjl)).2.2;have XA:Hid (∀q∈rs[k].rows[j].rows,q.e.light):=(HLR.out _ (Vp hjl)).2;have h15:rs[k].rows[j].rows.length<=15:=(HER.out _ (Vp hjl)).1;have HKR:Hid (∀e∈rs[k].rows[j].rows,eT rs[k].rows[j].rows.length e.e.kids):=(HER.out _ (Vp hjl)).2;have Zl:Hid (jw w rs[k].rows[j].ad rs[k].rows[j].rows):=O4.mem (HS.out.mem (Vp hlt)) (Vp hjl);have hj1:=bC j;have hj2:(j:Int)<(rs[k].rows.length:Int):=by omega
   obtain⟨n2,M2,hG2,hn2,hE2,hC7⟩:=HG.out;obtain⟨E2,hE2d⟩:∃E2,E2=E1++jm (af rs) rs[k].name (rs[k].rows.take j):=⟨_,rfl⟩;rw[<-hE2d]at hG2 hE2;have HE2D:Hid (E2=E1++jm (af rs) rs[k].name (rs[k].rows.take j)):=hE2d;obtain⟨W2,hW2⟩:∃W2,W2=wr.alloc (.cells #[.string rs[k].rows[j].name,.slice rs[k].rows[j].ad rs[k].rows[j].rows.length rs[k].rows[j].cap] 39):=⟨_,rfl⟩;have hal:ag wr W2:=by rw[hW2];exact(Vs _ _).alloc (Vr _) _
   have hbn2:w.heap.size<wr.heap.size:=hG2.map.lt;have hC9:Cel W2 M2 w.heap.size wr.heap.size 0 (.string rs[k].rows[j].name):=⟨by rw[hW2];simp,by rw[hW2];simp,hG2.fresh (Vr _),by omega⟩;have hC9b:Cel W2 M2 w.heap.size wr.heap.size 1 (.slice rs[k].rows[j].ad rs[k].rows[j].rows.length rs[k].rows[j].cap):=⟨by rw[hW2];simp,by rw[hW2];simp,hG2.fresh (Vr _),by omega⟩;have HC7:Hid (Cel W2 M2 w.heap.size g7 0 (.string rs[k].name)):=hC7.stl (Stl.below hal);have HC9:Hid (Cel W2 M2 w.heap.size wr.heap.size 0 (.string rs[k].rows[j].name)):=hC9;have HC9b:=aC hC9b;have HG2:=aC (hG2.below hal);have HB2:=iJ HB hal;rw[had];clear hr hok hr2 hG2 hC7 hC9 hC9b hal HG HB hE2d;go_wp2_with fail;rw[<-hW2];clear hW2 q0 q1;refine(Cr rs[k].rows[j].ad rs[k].rows[j].cap rs[k].rows[j].rows _ (by omega) (Zl.out.below HB2.out) XA.out HKR.out).mono ?_;rintro e w3 ⟨rfl,ZV⟩;obtain⟨g9,hg9⟩:∃g9,g9=wr.heap.size:=⟨_,rfl⟩;rw[<-hg9]at HC9 HC9b hbn2 ⊢;have HB3:Hid (ag w w3):=HB2.out.trans (ZV.below.mono HB2.out.size);have Zz:=aC (HG2.out.below ZV.below);have HCC:Hid (Cel w3 M2 w.heap.size g7 0 (.string rs[k].name)/\Cel w3 M2 w.heap.size g9 0 (.string rs[k].rows[j].name)/\∀(i:Nat) (h:i<rs[k].rows[j].rows.length),Cel w3 M2 w.heap.size W2.heap.size i (.bool ((dz (aj rs[k].rows[j].rows)).getD i false))):=by
    refine⟨HC7.out.stl (Stl.below ZV.below),HC9.out.stl (Stl.below ZV.below),fun i hi=>⟨?_,ZV.lt,HG2.out.fresh (Vr _),?_⟩⟩
    ·have hn:i<(dz (aj rs[k].rows[j].rows)).length:=by rw[Gg,aX];exact hi
     rw[ZV.done i (by simpa[bools] using hn)];simp[bools,hn]
    have:=HG2.out.map.lt;omega
   have c9:=(HC9b.out.stl (Stl.below (bL:=w.heap.size) (M:=M2) ZV.below)).cell;obtain⟨gA,hgA⟩:∃gA,gA=W2.heap.size:=⟨_,rfl⟩;rw[<-hgA]at HCC ⊢;clear ZV HC7 HC9 HC9b HG2 HB2 hg9 hgA;go_wp2_with fail;clear c9;go_loopw[36] (fun i w4=>∃m:Nat,m<=rs[k].rows[j].rows.length/\i=.int .i64 m/\Hid (∃n M,Grp w4 w.heap.size n M (E2++relE (af rs) rs[k].name rs[k].rows[j].name (aj rs[k].rows[j].rows) m)/\n<=k*540+j*90+m*6/\(E2++relE (af rs) rs[k].name rs[k].rows[j].name (aj rs[k].rows[j].rows) m).length<=k*540+j*90+m*6/\(Cel w4 M w.heap.size g7 0 (.string rs[k].name)/\Cel w4 M w.heap.size g9 0 (.string rs[k].rows[j].name)/\∀(i:Nat) (h:i<rs[k].rows[j].rows.length),Cel w4 M w.heap.size gA i (.bool ((dz (aj rs[k].rows[j].rows)).getD i false))))/\Hid (ag w w4)) (fun i _=>rs[k].rows[j].rows.length-(intOf i).toNat);case atStart=>exact⟨0,Vv _,rfl,⟨n2,M2,by simpa[relE] using Zz.out,by omega,by have e:relE (af rs) rs[k].name rs[k].rows[j].name (aj rs[k].rows[j].rows) 0=[]:=rfl;rw[e,Wp];omega,HCC.out⟩,HB3⟩
   clear Zz HB3 HCC;obtain⟨m,hm,rfl,HG,HB⟩:=hrel;by_cases Xa:m<rs[k].rows[j].rows.length
   ·rcases Zl.out.below HB.out with hnil|⟨bE,offE,Z7,hbE,hrE,hok⟩
    ·rw[hnil]at Xa;simp at Xa
    obtain⟨t0,t1,t2,t3,t4⟩:=hrE m Xa;have hm1:=bC m;have hm2:(m:Int)<(rs[k].rows[j].rows.length:Int):=by omega
    have Zh:Hid (rs[k].rows[j].rows[m].e.fits):=YO.out _ (Vp Xa);have HXL:Hid (rs[k].rows[j].rows[m].e.light):=XA.out _ (Vp Xa);obtain⟨n3,M3,hG3,hn3,hE3,hC7,hC9,hCA⟩:=HG.out;obtain⟨E3,hE3d⟩:∃E3,E3=E2++relE (af rs) rs[k].name rs[k].rows[j].name (aj rs[k].rows[j].rows) m:=⟨_,rfl⟩;rw[<-hE3d]at hG3 hE3;have HE3D:Hid (E3=E2++relE (af rs) rs[k].name rs[k].rows[j].name (aj rs[k].rows[j].rows) m):=hE3d;have hbn3:w.heap.size<wr.heap.size:=hG3.map.lt;obtain⟨ng,hng⟩:∃ng,ng=(dz (aj rs[k].rows[j].rows)).getD m false:=⟨_,rfl⟩;have HNG:Hid (ng=(dz (aj rs[k].rows[j].rows)).getD m false):=hng;rw[Z7];clear hng hE3d hrE;cases ng
    case' true =>
     obtain⟨W3,hW3⟩:∃W3,W3=((wr.alloc (.cells #[.int .i64 rs[k].rows[j].rows[m].e.kind,.slice rs[k].rows[j].rows[m].adA rs[k].rows[j].rows[m].e.allow.length rs[k].rows[j].rows[m].capA,.string rs[k].rows[j].rows[m].e.over,.string rs[k].rows[j].rows[m].e.name,.slice rs[k].rows[j].rows[m].adK rs[k].rows[j].rows[m].e.kids.length rs[k].rows[j].rows[m].capK] 43)).alloc (.cells #[.string rs[k].name,.string rs[k].rows[j].name,.int .i64 1] 337)):=⟨_,rfl⟩;have hal:ag wr W3:=by
      rw[hW3]
      repeat(first|exact Vs _ _|refine Below.setCell ?_ (by first|(simp;done)|(simp;omega)) _|refine Below.alloc ?_ (by first|(simp;done)|(simp;omega)) _)
     have hsz3:W3.heap.size=wr.heap.size+2:=by rw[hW3];simp
     have HB3:=iJ HB hal;have Zz:=aC (hG3.below hal);have Z8:Hid (Cel W3 M3 w.heap.size (wr.heap.size+1) 0 (.string rs[k].name)/\Cel W3 M3 w.heap.size (wr.heap.size+1) 1 (.string rs[k].rows[j].name)/\Cel W3 M3 w.heap.size (wr.heap.size+1) 2 (.int .i64 1)):=by
      have hfr:FreeB M3 (wr.heap.size+1):=hG3.fresh (by omega);refine⟨⟨?_,by omega,hfr,by omega⟩,⟨?_,by omega,hfr,by omega⟩,⟨?_,by omega,hfr,by omega⟩⟩
      all_goals(rw[hW3];simp)
     obtain⟨dv,hdv⟩:∃dv:Int,dv=1:=⟨_,rfl⟩;rw[<-hdv]at Z8;have HDE:Hid (dv=1):=hdv;clear hdv;have HCC:Hid (Cel W3 M3 w.heap.size g7 0 (.string rs[k].name)/\Cel W3 M3 w.heap.size g9 0 (.string rs[k].rows[j].name)/\∀(i:Nat) (h:i<rs[k].rows[j].rows.length),Cel W3 M3 w.heap.size gA i (.bool ((dz (aj rs[k].rows[j].rows)).getD i false))):=⟨hC7.stl (Stl.below hal),hC9.stl (Stl.below hal),fun i h=>(hCA i h).stl (Stl.below hal)⟩;have HXO:Hid (rs[k].rows[j].rows[m].ok W3):=(hok rs[k].rows[j].rows[m] (Vp Xa)).below hal;have hc7:=hC7.cell;have hc9:=hC9.cell;have hl7:=hC7.lt;have hl9:=hC9.lt;have hcA:=(hCA m Xa).cell;have hlA:=(hCA m Xa).lt;rw[<-HNG.out]at hcA;clear hG3 hal hC7 hC9 hCA hok HG;go_wp2_with fail;rw[<-hW3];clear hW3 t0 t1 t2 t3 t4 hc7 hc9 hl7 hl9 hcA hlA
    case' false =>
     obtain⟨W3,hW3⟩:∃W3,W3=((wr.alloc (.cells #[.int .i64 rs[k].rows[j].rows[m].e.kind,.slice rs[k].rows[j].rows[m].adA rs[k].rows[j].rows[m].e.allow.length rs[k].rows[j].rows[m].capA,.string rs[k].rows[j].rows[m].e.over,.string rs[k].rows[j].rows[m].e.name,.slice rs[k].rows[j].rows[m].adK rs[k].rows[j].rows[m].e.kids.length rs[k].rows[j].rows[m].capK] 43)).alloc (.cells #[.string rs[k].name,.string rs[k].rows[j].name,.int .i64 0] 337)):=⟨_,rfl⟩;have hal:ag wr W3:=by
      rw[hW3]
      repeat(first|exact Vs _ _|refine Below.setCell ?_ (by first|(simp;done)|(simp;omega)) _|refine Below.alloc ?_ (by first|(simp;done)|(simp;omega)) _)
     have hsz3:W3.heap.size=wr.heap.size+2:=by rw[hW3];simp
     have HB3:=iJ HB hal;have Zz:=aC (hG3.below hal);have Z8:Hid (Cel W3 M3 w.heap.size (wr.heap.size+1) 0 (.string rs[k].name)/\Cel W3 M3 w.heap.size (wr.heap.size+1) 1 (.string rs[k].rows[j].name)/\Cel W3 M3 w.heap.size (wr.heap.size+1) 2 (.int .i64 0)):=by
      have hfr:FreeB M3 (wr.heap.size+1):=hG3.fresh (by omega);refine⟨⟨?_,by omega,hfr,by omega⟩,⟨?_,by omega,hfr,by omega⟩,⟨?_,by omega,hfr,by omega⟩⟩
      all_goals(rw[hW3];simp)
     obtain⟨dv,hdv⟩:∃dv:Int,dv=0:=⟨_,rfl⟩;rw[<-hdv]at Z8;have HDE:Hid (dv=0):=hdv;clear hdv;have HCC:Hid (Cel W3 M3 w.heap.size g7 0 (.string rs[k].name)/\Cel W3 M3 w.heap.size g9 0 (.string rs[k].rows[j].name)/\∀(i:Nat) (h:i<rs[k].rows[j].rows.length),Cel W3 M3 w.heap.size gA i (.bool ((dz (aj rs[k].rows[j].rows)).getD i false))):=⟨hC7.stl (Stl.below hal),hC9.stl (Stl.below hal),fun i h=>(hCA i h).stl (Stl.below hal)⟩;have HXO:Hid (rs[k].rows[j].rows[m].ok W3):=(hok rs[k].rows[j].rows[m] (Vp Xa)).below hal;have hc7:=hC7.cell;have hc9:=hC9.cell;have hl7:=hC7.lt;have hl9:=hC9.lt;have hcA:=(hCA m Xa).cell;have hlA:=(hCA m Xa).lt;rw[<-HNG.out]at hcA;clear hG3 hal hC7 hC9 hCA hok HG;go_wp2_with fail;rw[<-hW3];clear hW3 t0 t1 t2 t3 t4 hc7 hc9 hl7 hl9 hcA hlA
    all_goals
     refine(Ho bT nT rs (some ⟨b,off,none⟩) T rs[k].name rs[k].rows[j].rows[m] _ (HV.out.below HB3.out) HT.out (HS.out.below HB3.out) HL.out WR.out z0 Zh.out HXL.out HXO.out).mono ?_;rintro e w5 ⟨⟨Yp,cpO,rfl,hSO,hNO⟩,hb5⟩;obtain⟨ks,hks⟩:∃ks,ks=jl (af rs) rs[k].name rs[k].rows[j].rows[m].e:=⟨_,rfl⟩;rw[<-hks]at hSO ⊢;have HKS:Hid (ks=jl (af rs) rs[k].name rs[k].rows[j].rows[m].e):=hks;have hkl6:ks.length<=6:=by rw[hks];exact DY rs HA6.out _ _ (HA6.out _ (Vp hlt) _ (Vp hjl) _ (Vp Xa))
     have HKF:Hid (∀a∈ks,a.t.size<=maxLen/\a.s.size<=maxLen):=by show ∀_,_;rw[hks];exact Kg rs WR.out _ z0 _ Zh.out
     obtain⟨g13,Zw⟩:∃g13,g13=wr.heap.size+1:=⟨_,rfl⟩;have XD:=iJ HB3 hb5;have YU:=aC (Zz.out.below hb5);have hS5:Stl W3 M3 w5 M3 w.heap.size:=Stl.below hb5;have HC5:Hid (Cel w5 M3 w.heap.size g7 0 (.string rs[k].name)/\Cel w5 M3 w.heap.size g9 0 (.string rs[k].rows[j].name)/\∀(i:Nat) (h:i<rs[k].rows[j].rows.length),Cel w5 M3 w.heap.size gA i (.bool ((dz (aj rs[k].rows[j].rows)).getD i false))):=⟨HCC.out.1.stl hS5,HCC.out.2.1.stl hS5,fun i h=>(HCC.out.2.2 i h).stl hS5⟩;have HD5:Hid (Cel w5 M3 w.heap.size g13 0 (.string rs[k].name)/\Cel w5 M3 w.heap.size g13 1 (.string rs[k].rows[j].name)/\Cel w5 M3 w.heap.size g13 2 (.int .i64 dv)):=by rw[Zw];exact⟨Z8.out.1.stl hS5,Z8.out.2.1.stl hS5,Z8.out.2.2.stl hS5⟩
     have WV:Hid (ks=[] \/ ∃gO Xm,Yp=some ⟨gO,Xm,none⟩/\∀(i:Nat) (h:i<ks.length),Cel w5 M3 w.heap.size gO (Xm+i*2) (.string ks[i].t)/\Cel w5 M3 w.heap.size gO (Xm+i*2+1) (.string ks[i].s)):=by
      rcases hSO with e|⟨gO,Xm,e,hgO,hcO⟩
      ·exact .inl e
      have hN:=hNO _ e;have hbl3:=Zz.out.map.lt;have hfr:FreeB M3 gO:=Zz.out.fresh hN;refine .inr ⟨gO,Xm,e,fun i hi=>⟨⟨(hcO i hi).1,hgO,hfr,?_⟩,⟨(hcO i hi).2,hgO,hfr,?_⟩⟩⟩
      all_goals(simp only at hN;omega)
     rw[<-Zw];clear hb5 hSO hNO hks hS5 Z8 HCC Zz HB3 HXO Zw;go_wp2_with fail;go_loopw[58] (fun i w6=>∃q:Nat,q<=ks.length/\i=.int .i64 q/\Hid (∃n M,Grp w6 w.heap.size n M (E3++(ks.take q).map (fun a:Al=>(((a.t,a.s),⟨rs[k].name,rs[k].rows[j].name,dv⟩):Ky×St)))/\n<=k*540+j*90+m*6+q/\(E3++(ks.take q).map (fun a:Al=>(((a.t,a.s),⟨rs[k].name,rs[k].rows[j].name,dv⟩):Ky×St))).length<=k*540+j*90+m*6+q/\(Cel w6 M w.heap.size g7 0 (.string rs[k].name)/\Cel w6 M w.heap.size g9 0 (.string rs[k].rows[j].name)/\∀(i:Nat) (h:i<rs[k].rows[j].rows.length),Cel w6 M w.heap.size gA i (.bool ((dz (aj rs[k].rows[j].rows)).getD i false)))/\(Cel w6 M w.heap.size g13 0 (.string rs[k].name)/\Cel w6 M w.heap.size g13 1 (.string rs[k].rows[j].name)/\Cel w6 M w.heap.size g13 2 (.int .i64 dv))/\(ks=[] \/ ∃gO Xm,Yp=some ⟨gO,Xm,none⟩/\∀(i:Nat) (h:i<ks.length),Cel w6 M w.heap.size gO (Xm+i*2) (.string ks[i].t)/\Cel w6 M w.heap.size gO (Xm+i*2+1) (.string ks[i].s)))/\Hid (ag w w6)) (fun i _=>ks.length-(intOf i).toNat);case atStart=>exact⟨0,Vv _,rfl,⟨n3,M3,by simpa using YU.out,by omega,by simpa using hE3,HC5.out,HD5.out,WV.out⟩,XD⟩
     clear YU XD HC5 HD5 WV HB;obtain⟨q,hq,rfl,HG,HB⟩:=hrel;by_cases hql:q<ks.length
     ·obtain⟨n6,M6,hG6,hn6,hE6,hC6,hD6,Zg⟩:=HG.out;rcases Zg with hnil|⟨gO,Xm,ZE,hcO⟩
      ·rw[hnil]at hql;simp at hql
      have x0:=(hcO q hql).1.cell;have x1:=(hcO q hql).2.cell;have y0:=hD6.1.cell;have y1:=hD6.2.1.cell;have y2:=hD6.2.2.cell;have yl:=hD6.1.lt;have hq1:=bC q;have hq2:(q:Int)<(ks.length:Int):=by omega
      obtain⟨E6,hE6d⟩:∃E6,E6=E3++(ks.take q).map (fun a:Al=>(((a.t,a.s),⟨rs[k].name,rs[k].rows[j].name,dv⟩):Ky×St)):=⟨_,rfl⟩;rw[<-hE6d]at hG6 hE6;have HE6D:Hid (E6=E3++(ks.take q).map (fun a:Al=>(((a.t,a.s),⟨rs[k].name,rs[k].rows[j].name,dv⟩):Ky×St))):=hE6d;obtain⟨W6,hW6⟩:∃W6,W6=((wr.alloc (.cells #[.string ks[q].t,.string ks[q].s] 146)).alloc (.cells #[.string rs[k].name,.string rs[k].rows[j].name,.int .i64 dv] 337)):=⟨_,rfl⟩;have hal:ag wr W6:=by
       rw[hW6]
       repeat(first|exact Vs _ _|refine Below.alloc ?_ (by first|(simp;done)|(simp;omega)) _)
      have hsz6:W6.heap.size=wr.heap.size+2:=by rw[hW6];simp
      have Ze:=iJ HB hal;have HG6:=aC (hG6.below hal);have HNB:Hid (W6.heap[wr.heap.size+1]?=some (.cells #[.string rs[k].name,.string rs[k].rows[j].name,.int .i64 dv] 337)):=by show _=_;rw[hW6];exact xA wr _ _
      have hbn6:w.heap.size<wr.heap.size:=hG6.map.lt;have HS6:Hid (Stl wr M6 W6 M6 w.heap.size):=Stl.below hal;have HCK:Hid ((Cel wr M6 w.heap.size g7 0 (.string rs[k].name)/\Cel wr M6 w.heap.size g9 0 (.string rs[k].rows[j].name)/\∀(i:Nat) (h:i<rs[k].rows[j].rows.length),Cel wr M6 w.heap.size gA i (.bool ((dz (aj rs[k].rows[j].rows)).getD i false)))/\(Cel wr M6 w.heap.size g13 0 (.string rs[k].name)/\Cel wr M6 w.heap.size g13 1 (.string rs[k].rows[j].name)/\Cel wr M6 w.heap.size g13 2 (.int .i64 dv))/\(ks=[] \/ ∃gO Xm,Yp=some ⟨gO,Xm,none⟩/\∀(i:Nat) (h:i<ks.length),Cel wr M6 w.heap.size gO (Xm+i*2) (.string ks[i].t)/\Cel wr M6 w.heap.size gO (Xm+i*2+1) (.string ks[i].s))):=⟨hC6,hD6,.inr ⟨gO,Xm,ZE,hcO⟩⟩;have hzz:=HKF.out _ (Vp hql);obtain⟨kl,hkl⟩:=kv (ks[q].t,ks[q].s) hzz.1 hzz.2;have Xw:Hid (keyOf prog 146 (dU (ks[q].t,ks[q].s))=some kl):=hkl;have hLL:=DZ E6 (ks[q].t,ks[q].s);have hn6b:n6<100000:=by omega
      have hLb:(lookL E6 (ks[q].t,ks[q].s)).length<100000:=by omega
      have Zu:Hid (W6.heap.size=wr.heap.size+2):=hsz6;rw[ZE];clear hal hG6 hC6 hD6 hcO hkl HG hE6d hzz hLL hsz6
      go_wp2_with (first
       | (at_builtin;refine wpList_append_own_at _ rfl _ _ 335 rfl (w.heap.size+1) 337 i0 _ 3 40 underlying335 hi hz0 hz1 hz2 rfl (by decide) _ _ _ rfl ((wu HG6.out (ks[q].t,ks[q].s)).kept YS (.inr (Ne.symm (QF HG6.out (ks[q].t,ks[q].s))))) ⟨wr.heap.size+1,0,none⟩ 1 1 [.string rs[k].name,.string rs[k].rows[j].name,.int .i64 dv] rfl rfl (World.news_of_block (cs:=#[.string rs[k].name,.string rs[k].rows[j].name,.int .i64 dv]) (t:=337) (fr:=(0,0)) ((YS.block (wr.heap.size+1) (by rw[Zu.out];omega) (by simp;omega)).trans HNB.out)) (by simp[Value.oneCell']) (by unfold maxLen;omega) (by omega) (by have h1:=YS.size;rw[Zu.out]at h1;omega) ?_;intro v' w8 ZA Y9 hnil8 hloc8)
       | (rw[<-hW6];refine Ch _ rfl _ _ 261 rfl 146 335 KZ uK underlying261 Kh w.heap.size n6 M6 rfl HG6.out.map (by unfold maxLen;omega) (ks[q].t,ks[q].s) kl rfl Xw.out ?_;intro st7 w7 YS hback;clear hW6 x0 x1 y0 y1 y2)
       | (refine tX _ rfl _ _ _ 261 rfl w.heap.size st7 rfl rfl v' rfl 146 (n6+1) (jO M6 (ks[q].t,ks[q].s) (some v')) (hback w8 v' (Y9.block w.heap.size (by have h1:=YS.size;rw[Zu.out]at h1;omega) (QF HG6.out (ks[q].t,ks[q].s)))) ?_;intro w9 hM9 hg9))
      have hst:=HG6.out.step (s:=(⟨rs[k].name,rs[k].rows[j].name,dv⟩:St)) YS ZA Y9 hloc8 hg9 hM9;have HBN:Hid (ag w w9):=by
       have hs1:=Ze.out.size;have b7:ag w w7:=Ze.out.grown YS hs1 (fun i hi=>by injection hi with hi;omega);have b8:ag w w8:=b7.grown Y9 b7.size (fun i hi=>by have:=((wu HG6.out (ks[q].t,ks[q].s)).lt i hi).1;omega);exact b8.grown hg9 b8.size (fun i hi=>by injection hi with hi;omega)
      have HGN:Hid (∃n M,Grp w9 w.heap.size n M (E3++(ks.take (q+1)).map (fun a:Al=>(((a.t,a.s),⟨rs[k].name,rs[k].rows[j].name,dv⟩):Ky×St)))/\n<=k*540+j*90+m*6+(q+1)/\(E3++(ks.take (q+1)).map (fun a:Al=>(((a.t,a.s),⟨rs[k].name,rs[k].rows[j].name,dv⟩):Ky×St))).length<=k*540+j*90+m*6+(q+1)/\(Cel w9 M w.heap.size g7 0 (.string rs[k].name)/\Cel w9 M w.heap.size g9 0 (.string rs[k].rows[j].name)/\∀(i:Nat) (h:i<rs[k].rows[j].rows.length),Cel w9 M w.heap.size gA i (.bool ((dz (aj rs[k].rows[j].rows)).getD i false)))/\(Cel w9 M w.heap.size g13 0 (.string rs[k].name)/\Cel w9 M w.heap.size g13 1 (.string rs[k].rows[j].name)/\Cel w9 M w.heap.size g13 2 (.int .i64 dv))/\(ks=[] \/ ∃gO Xm,Yp=some ⟨gO,Xm,none⟩/\∀(i:Nat) (h:i<ks.length),Cel w9 M w.heap.size gO (Xm+i*2) (.string ks[i].t)/\Cel w9 M w.heap.size gO (Xm+i*2+1) (.string ks[i].s))):=by
       have hS9:=HS6.out.trans hst.2;have e:E3++(ks.take (q+1)).map (fun a:Al=>(((a.t,a.s),⟨rs[k].name,rs[k].rows[j].name,dv⟩):Ky×St))=E6++[((ks[q].t,ks[q].s),(⟨rs[k].name,rs[k].rows[j].name,dv⟩:St))]:=by
        rw[Vu hql,Wu,<-VU,<-HE6D.out];rfl
       obtain⟨k1,k2,k3⟩:=HCK.out;refine⟨n6+1,_,by rw[e];exact hst.1,by omega,by rw[e,Vx];simp;omega,⟨k1.1.stl hS9,k1.2.1.stl hS9,fun i h=>(k1.2.2 i h).stl hS9⟩,⟨k2.1.stl hS9,k2.2.1.stl hS9,k2.2.2.stl hS9⟩,?_⟩;rcases k3 with hnil|⟨gO',offO',e1,hc⟩
       ·exact .inl hnil
       exact .inr ⟨gO',offO',e1,fun i h=>⟨(hc i h).1.stl hS9,(hc i h).2.stl hS9⟩⟩
      clear hst YS hback ZA Y9 hnil8 hloc8 hg9 hM9;go_wp2;go_roundw;case rel=>exact⟨q+1,by omega,by go_num,(by rw[ZE]at HGN;exact HGN),HBN⟩
      simp[intOf]<;>omega
     obtain rfl:q=ks.length:=by omega
     have HGN:Hid (∃n M,Grp wr w.heap.size n M (E2++relE (af rs) rs[k].name rs[k].rows[j].name (aj rs[k].rows[j].rows) (m+1))/\n<=k*540+j*90+(m+1)*6/\(E2++relE (af rs) rs[k].name rs[k].rows[j].name (aj rs[k].rows[j].rows) (m+1)).length<=k*540+j*90+(m+1)*6/\(Cel wr M w.heap.size g7 0 (.string rs[k].name)/\Cel wr M w.heap.size g9 0 (.string rs[k].rows[j].name)/\∀(i:Nat) (h:i<rs[k].rows[j].rows.length),Cel wr M w.heap.size gA i (.bool ((dz (aj rs[k].rows[j].rows)).getD i false)))):=by
      obtain⟨n,M,h1,hn,h2,h3,-,-⟩:=HG.out;rw[VI]at h1 h2;have e:E2++relE (af rs) rs[k].name rs[k].rows[j].name (aj rs[k].rows[j].rows) (m+1)=E3++ks.map (fun a:Al=>(((a.t,a.s),⟨rs[k].name,rs[k].rows[j].name,dv⟩):Ky×St)):=by
       rw[DX _ _ _ _ _ Xa _ HNG.out,<-VU,<-HE3D.out,HKS.out,HDE.out];rfl
      refine⟨n,M,by rw[e];exact h1,by omega,by rw[e];omega,h3⟩
     clear HG;go_wp2;go_roundw;case rel=>exact⟨m+1,by omega,by go_num,HGN,HB⟩
     simp[intOf]<;>omega
   obtain rfl:m=rs[k].rows[j].rows.length:=by omega
   have HGN:Hid (∃n M,Grp wr w.heap.size n M (E1++jm (af rs) rs[k].name (rs[k].rows.take (j+1)))/\n<=k*540+(j+1)*90/\(E1++jm (af rs) rs[k].name (rs[k].rows.take (j+1))).length<=k*540+(j+1)*90/\Cel wr M w.heap.size g7 0 (.string rs[k].name)):=by
    obtain⟨n,M,h1,hn,h2,h3⟩:=HG.out;have e:E1++jm (af rs) rs[k].name (rs[k].rows.take (j+1))=E2++relE (af rs) rs[k].name rs[k].rows[j].name (aj rs[k].rows[j].rows) rs[k].rows[j].rows.length:=by
     rw[Kc _ _ _ _ hjl,<-VU,<-HE2D.out]
    refine⟨n,M,?_,by omega,?_,h3.1⟩
    ·rw[e];exact h1
    rw[e];omega
   go_wp2;go_roundw;case rel=>exact⟨j+1,by omega,by go_num,HGN,HB⟩
   simp[intOf]<;>omega
  obtain rfl:j=rs[k].rows.length:=by omega
  have HGN:Hid (∃n M,Grp wr w.heap.size n M (jo (af rs) (rs.take (k+1)))/\n<=(k+1)*540/\(jo (af rs) (rs.take (k+1))).length<=(k+1)*540):=by
   obtain⟨n,M,h1,hn,h2,h3⟩:=HG.out;rw[VI]at h1 h2;have e:jo (af rs) (rs.take (k+1))=E1++jm (af rs) rs[k].name rs[k].rows:=by rw[Ke _ _ _ hlt,<-HE1D.out]
   refine⟨n,M,?_,by omega,?_⟩
   ·rw[e];exact h1
   rw[e];omega
  go_wp2;go_roundw;case rel=>exact⟨k+1,by omega,by go_num,HGN,HB⟩
  simp[intOf]<;>omega
 obtain rfl:k=rs.length:=by omega
 have HGN:Hid (∃n M,Grp wr w.heap.size n M (jo (af rs) rs)):=by
  obtain⟨n,M,h1,-⟩:=HG.out;rw[VI]at h1;exact⟨n,M,h1⟩
 go_wp2;go_ret;exact⟨rfl,HGN.out,HB.out⟩
def Edge(ts:Q0b)(E:List (Ky×St)):Prop:=∀on t r s,(on,⟨t,r,s⟩)∈E↔(t,r)∈ak ts/\∃d∈ib ts (t,r),(d.typ,d.rel)=on/\stepOf d=s
def xB:Option Int->Int
 | none=>0
 | some x=>x+1
def oD(N:Nat)(σ:Ky->Option Int):List Ky->Int
 | []=>0
 | k::ks=>((N:Int)-xB (σ k))+oD N σ ks
structure Rz(ts:Q0b)(N:Nat)(σ:Ky->Option Int):Prop where
 there:∀k x,σ k=some x->k∈ak ts/\0<=x/\x<N/\qJ ts k x
def IW(σ:Ky->Option Int)(k:Ky)(x:Int):Ky->Option Int:=fun y=>if y=k then some x else σ y
theorem oF(σ:Ky->Option Int)(k:Ky)(x:Int):IW σ k x k=some x:=by simp[IW]
theorem sw{σ:Ky->Option Int}{k y:Ky}{x:Int}(h:y≠k):IW σ k x y=σ y:=by simp[IW,h]
theorem Rz.val{ts:Q0b}{N:Nat}{σ:Ky->Option Int}(h:Rz ts N σ)(k:Ky):0<=xB (σ k)/\xB (σ k)<=N:=by
 cases e:σ k with
 | none=>simp[xB]
 | some x=>have:=h.there k x e;simp only[xB];omega
theorem Rz.mu_pos{ts:Q0b}{N:Nat}{σ:Ky->Option Int}(h:Rz ts N σ)(ks:List Ky):0<=oD N σ ks:=by
 induction ks with
 | nil=>simp[oD]
 | cons k ks ih=>have:=h.val k;simp only[oD];omega
theorem Rz.set{ts:Q0b}{N:Nat}{σ:Ky->Option Int}(h:Rz ts N σ){k:Ky}{x:Int}(hk:k∈ak ts)(h0:0<=x)(hN:x<N)(hl:qJ ts k x):Rz ts N (IW σ k x):=⟨fun y z hz=>by
 by_cases e:y=k
 ·subst e;rw[oF]at hz;injection hz with hz;subst hz;exact⟨hk,h0,hN,hl⟩
 rw[sw e]at hz;exact h.there y z hz⟩
def ww(σ σ':Ky->Option Int):Prop:=∀k x,σ k=some x->∃y,σ' k=some y/\x<=y
theorem ww.refl(σ:Ky->Option Int):ww σ σ:=fun _ x h=>⟨x,h,Int.le_refl _⟩
theorem ww.trans{a b c:Ky->Option Int}(h:ww a b)(h2:ww b c):ww a c:=fun k x hx=>by
 obtain⟨y,hy,h3⟩:=h k x hx;obtain⟨z,hz,h4⟩:=h2 k y hy;exact⟨z,hz,by omega⟩
theorem ww.val{σ σ':Ky->Option Int}{ts:Q0b}{N:Nat}(h:ww σ σ')(hR:Rz ts N σ')(k:Ky):xB (σ k)<=xB (σ' k):=by
 cases e:σ k with
 | none=>exact(hR.val k).1
 | some x=>obtain⟨y,hy,h2⟩:=h k x e;rw[hy];simp only[xB];omega
theorem ww.mu{σ σ':Ky->Option Int}{ts:Q0b}{N:Nat}(h:ww σ σ')(hR:Rz ts N σ')(ks:List Ky):oD N σ' ks<=oD N σ ks:=by
 induction ks with
 | nil=>exact Int.le_refl _
 | cons k ks ih=>have:=h.val hR k;simp only[oD];omega
theorem yZ{σ:Ky->Option Int}{k:Ky}{x:Int}(h:∀y,σ k=some y->y<x):ww σ (IW σ k x):=fun y z hz=>by
 by_cases e:y=k
 ·subst e;exact⟨x,oF _ _ _,by have:=h z hz;omega⟩
 exact⟨z,by rw[sw e];exact hz,Int.le_refl _⟩
theorem U4{σ:Ky->Option Int}{ts:Q0b}{N:Nat}{k:Ky}{x:Int}(hR:Rz ts N (IW σ k x))(h:∀y,σ k=some y->y<x)(h0:0<=x)(ks:List Ky)(hk:k∈ks):oD N (IW σ k x) ks+1<=oD N σ ks:=by
 induction ks with
 | nil=>cases hk
 | cons y ks ih =>
  simp only[oD];have hm:=(yZ h).mu hR ks;have hv:=(yZ h).val hR y;rcases VH.1 hk with rfl|hk
  ·have:xB (σ k)+1<=xB (IW σ k x k):=by
    rw[oF];cases e:σ k with
    | none=>simp only[xB];omega
    | some z=>have:=h z e;simp only[xB];omega
   omega
  have:=ih hk;omega
def sD(E:List (Ky×St))(σ:Ky->Option Int)(k:Ky):Prop:=∀x,σ k=some x->∀s∈lookL E k,∃y,σ s.key=some y/\x+s.n<=y
structure Raised(E:List (Ky×St))(σ σ':Ky->Option Int):Prop where
 mono:ww σ σ'
 done:∀k,(sD E σ k\/σ' k≠σ k)->sD E σ' k
theorem Raised.refl(E:List (Ky×St))(σ:Ky->Option Int):Raised E σ σ:=⟨ww.refl _,fun _ h=>h.elim id (fun e=>absurd rfl e)⟩
theorem Raised.trans{E:List (Ky×St)}{a b c:Ky->Option Int}(h:Raised E a b)(h2:Raised E b c):Raised E a c:=⟨h.mono.trans h2.mono,fun k hk=>by
 by_cases e:c k=b k
 ·by_cases e2:b k=a k
  ·rcases hk with hk|hk
   ·exact h2.done k (.inl (h.done k (.inl hk)))
   exact absurd (e.trans e2) hk
  exact h2.done k (.inl (h.done k (.inr e2)))
 exact h2.done k (.inr e)⟩
structure Half(E:List (Ky×St))(σ:Ky->Option Int)(key:Ky)(x:Int)(j:Nat)(σ':Ky->Option Int):Prop where
 mono:ww σ σ'
 done:∀k,k≠key->(sD E σ k\/σ' k≠σ k)->sD E σ' k
 own:sD E σ' key\/(σ' key=some x/\∀s∈(lookL E key).take j,∃y,σ' s.key=some y/\x+s.n<=y)
 at':∃y,σ' key=some y/\x<=y
theorem Half.start{E:List (Ky×St)}{σ:Ky->Option Int}{key:Ky}{x:Int}(h:∀y,σ key=some y->y<x):Half E σ key x 0 (IW σ key x) where
 mono:=yZ h
 done k hk hs:=by
  have e:IW σ key x k=σ k:=sw hk;rcases hs with hs|hs
  ·intro z hz s hm;rw[e]at hz;obtain⟨y,hy,hle⟩:=hs z hz s hm;obtain⟨y',hy',h2⟩:=yZ h _ y hy;exact⟨y',hy',by omega⟩
  exact absurd e hs
 own:=.inr ⟨oF _ _ _,fun s hs=>by simp at hs⟩
 at':=⟨x,oF _ _ _,Int.le_refl _⟩
theorem Half.step{E:List (Ky×St)}{σ σ1 σ2:Ky->Option Int}{key:Ky}{x:Int}{j:Nat}(h:Half E σ key x j σ1)(hj:j<(lookL E key).length)(hR:Raised E σ1 σ2)(hy:∃y,σ2 (lookL E key)[j].key=some y/\x+(lookL E key)[j].n<=y):Half E σ key x (j+1) σ2 where
 mono:=h.mono.trans hR.mono
 done k hk hs:=by
  by_cases e:σ2 k=σ1 k
  ·by_cases e2:σ1 k=σ k
   ·rcases hs with hs|hs
    ·exact hR.done k (.inl (h.done k hk (.inl hs)))
    exact absurd (e.trans e2) hs
   exact hR.done k (.inl (h.done k hk (.inr e2)))
  exact hR.done k (.inr e)
 own:=by
  rcases h.own with ho|⟨h1,h2⟩
  ·exact .inl (hR.done key (.inl ho))
  by_cases e:σ2 key=σ1 key
  ·refine .inr ⟨e.trans h1,fun s hs=>?_⟩;rw[Vu hj]at hs;rcases VE.1 hs with hs|hs
   ·obtain⟨y,hy1,hy2⟩:=h2 s hs;obtain⟨z,hz,h3⟩:=hR.mono _ y hy1;exact⟨z,hz,by omega⟩
   simp at hs;subst hs;exact hy
  exact .inl (hR.done key (.inr e))
 at':=by
  obtain⟨y,hy,h1⟩:=h.at';obtain⟨z,hz,h2⟩:=hR.mono key y hy;exact⟨z,hz,by omega⟩
theorem Half.full{E:List (Ky×St)}{σ σ':Ky->Option Int}{key:Ky}{x:Int}{j:Nat}(h:Half E σ key x j σ')(hj:(lookL E key).length<=j):Raised E σ σ' where
 mono:=h.mono
 done k hk:=by
  by_cases e:k=key
  ·subst e;rcases h.own with ho|⟨h1,h2⟩
   ·exact ho
   intro z hz s hs;rw[h1]at hz;injection hz with hz;subst hz;exact h2 s (by rw[V8 hj];exact hs)
  exact h.done k e hk
theorem Fx{ts:Q0b}{N:Nat}{E:List (Ky×St)}{σ:Ky->Option Int}(hE:Edge ts E)(hF:Found ts)(hR:Rz ts N σ)(hall:∀k∈ak ts,∃x,σ k=some x)(hs:∀k,sD E σ k):Least ts (fun k=>(σ k).getD 0) where
 sol:=⟨fun k=>by
   cases e:σ k with
   | none=>exact Int.le_refl _
   | some x=>exact(hR.there k x e).2.1,fun k hk d hd=>by
   obtain⟨x,hx⟩:=hall _ (hF k hk d hd);have hm:(⟨k.1,k.2,stepOf d⟩:St)∈lookL E (d.typ,d.rel):=mem_lookL.2 ((hE _ _ _ _).2 ⟨hk,d,hd,rfl,rfl⟩);obtain⟨y,hy,h2⟩:=hs _ x hx _ hm;have hy':σ k=some y:=hy;simp only[hx,hy',Wd];exact h2⟩
 low k hk:=by
  obtain⟨x,hx⟩:=hall k hk;simp only[hx,Wd];exact(hR.there k x hx).2.2.2
theorem Edge.low{ts:Q0b}{E:List (Ky×St)}(hE:Edge ts E){k:Ky}{x:Int}(hl:qJ ts k x){s:St}(hs:s∈lookL E k):s.key∈ak ts/\qJ ts s.key (x+s.n)/\0<=s.n/\s.n<=1:=by
 obtain⟨h1,d,hd,e1,e2⟩:=(hE k s.typ s.rel s.n).1 (mem_lookL.1 hs);have:=Ag d;refine⟨h1,?_,by omega,by omega⟩;rw[<-e2];exact qJ.step h1 hd (by rw[e1];exact hl)
def iW(σ:Ky->Option Int):Ky->Option Value:=fun k=>(σ k).map fun x=>Value.int .i64 x
theorem Sg(σ:Ky->Option Int)(k:Ky)(x:Int):jO (iW σ) k (some (.int .i64 x))=iW (IW σ k x):=by
 funext y
 unfold iW;by_cases e:y=k
 ·subst e;rw[dM,oF];rfl
 rw[bG e,sw e]
theorem wy(u:ae):(zeroValue 2).run prog u=.ok (.int .i64 0) u:=by kernel_rfl
def Fy(gS gC gL gR:Nat):Value:=.func (Fn.func 259) #[] #[.pointer (some ⟨gS,0,none⟩),.pointer (some ⟨gC,0,none⟩),.pointer (some ⟨gL,0,none⟩),.pointer (some ⟨gR,0,none⟩)]
structure Rw(w:World)(gS gC gL gR bS bL N n nL:Nat)(ML:Ky->Option Value)(E:List (Ky×St))(σ:Ky->Option Int):Prop where
 cS:w.cell? ⟨gS,0,none⟩=some (.map (some bS))
 cC:w.cell? ⟨gC,0,none⟩=some (.int .i64 N)
 cL:w.cell? ⟨gL,0,none⟩=some (.map (some bL))
 cR:w.cell? ⟨gR,0,none⟩=some (Fy gS gC gL gR)
 lS:gS<w.heap.size/\gS≠bS
 lC:gC<w.heap.size/\gC≠bS
 lL:gL<w.heap.size/\gL≠bS
 lR:gR<w.heap.size/\gR≠bS
 map:aJ dU prog 146 w bS n (iW σ)
 lean:Grp w bL nL ML E
 bne:bL≠bS
 free:FreeB ML bS
theorem kJ{w w':ae}{b g:Nat}(hg:w.grownBy w' (some b))(hl:g<w.heap.size/\g≠b)(o:Nat):w'.cell? ⟨g,o,none⟩=w.cell? ⟨g,o,none⟩:=VR (w:=w) (hg.block g hl.1 (fun e=>hl.2 (by injection e)))
theorem Grp.kept{w w':ae}{bL n b:Nat}{M:Ky->Option Value}{E:List (Ky×St)}(h:Grp w bL n M E)(hg:w.grownBy w' (some b))(hb:bL≠b)(hf:FreeB M b):Grp w' bL n M E where
 map:=h.map.kept hg (by intro e;injection e with e;exact hb e)
 row k:=by
  rcases h.row k with e|⟨v,e,ho⟩
  ·exact .inl e
  exact .inr ⟨v,e,ho.kept hg (.inr (hf k v e))⟩
 apart:=h.apart
theorem Rw.kept{w w':ae}{gS gC gL gR bS bL N n n' nL:Nat}{ML:Ky->Option Value}{E:List (Ky×St)}{σ σ':Ky->Option Int}(h:Rw w gS gC gL gR bS bL N n nL ML E σ)(hg:w.grownBy w' (some bS))(hM:aJ dU prog 146 w' bS n' (iW σ')):Rw w' gS gC gL gR bS bL N n' nL ML E σ' where
 cS:=(kJ hg h.lS 0).trans h.cS
 cC:=(kJ hg h.lC 0).trans h.cC
 cL:=(kJ hg h.lL 0).trans h.cL
 cR:=(kJ hg h.lR 0).trans h.cR
 lS:=⟨Vq h.lS.1 hg.size,h.lS.2⟩
 lC:=⟨Vq h.lC.1 hg.size,h.lC.2⟩
 lL:=⟨Vq h.lL.1 hg.size,h.lL.2⟩
 lR:=⟨Vq h.lR.1 hg.size,h.lR.2⟩
 map:=hM
 lean:=h.lean.kept hg h.bne h.free
 bne:=h.bne
 free:=h.free
theorem jq{w w':ae}{b:Nat}(h:ag w w'):w.grownBy w' (some b):=⟨h.os,h.tape,h.output,h.size,fun k hk _=>h.block k hk⟩
theorem Rw.below{w w':ae}{gS gC gL gR bS bL N n nL:Nat}{ML:Ky->Option Value}{E:List (Ky×St)}{σ:Ky->Option Int}(h:Rw w gS gC gL gR bS bL N n nL ML E σ)(hB:ag w w'):Rw w' gS gC gL gR bS bL N n nL ML E σ:=h.kept (jq hB) (h.map.below hB)
theorem nu{a b c:ae}{r:Option Nat}(h:a.grownBy b r)(h2:b.grownBy c r):a.grownBy c r:=⟨h2.os.trans h.os,h2.tape.trans h.tape,h2.output.trans h.output,Vz h.size h2.size,fun k hk hr=>(h2.block k (Vq hk h.size) hr).trans (h.block k hk hr)⟩
def Ki(ts:Q0b)(w:World)(gS gC gL gR bS bL N n nL:Nat)(ML:Ky->Option Value)(E:List (Ky×St))(σ:Ky->Option Int)(key:Ky)(lv:Int)(e:Ending)(w':World):Prop :=
 ∃(ok:Bool) (σ':Ky->Option Int) (n':Nat),e=.returned (.bool ok)/\w.grownBy w' (some bS)/\Rw w' gS gC gL gR bS bL N n' nL ML E σ'/\Rz ts N σ'/\(n':Int)+oD N σ' (ak ts)<=n+oD N σ (ak ts)/\oD N σ' (ak ts)<=oD N σ (ak ts) /\
  (ok=false->¬ ∃f,Sol ts f)/\(ok=true->Raised E σ σ'/\∃x,σ' key=some x/\lv<=x)
set_option maxRecDepth 100000 in
theorem NA(ts:Q0b)(gS gC gL gR bS bL N nL:Nat)(ML:Ky->Option Value)(E:List (Ky×St))(hE:Edge ts E)(hF:Found ts)(hN:N=(ak ts).length)(hN36:N<=36)(hsz:∀k∈ak ts,k.1.size<=maxLen/\k.2.size<=maxLen)(hEl:E.length<=100000)(f:Nat):
  ∀(w:World) (σ:Ky->Option Int) (n:Nat) (key:Ky) (lv:Int),Rw w gS gC gL gR bS bL N n nL ML E σ->Rz ts N σ->oD N σ (ak ts)<=f->(n:Int)+oD N σ (ak ts)<=100000->key∈ak ts->0<=lv->lv<=100->qJ ts key lv ->
  Calls prog 259 #[.agg #[.string key.1,.string key.2],.int .i64 lv,.pointer (some ⟨gS,0,none⟩),.pointer (some ⟨gC,0,none⟩),.pointer (some ⟨gL,0,none⟩),.pointer (some ⟨gR,0,none⟩)] w (Ki ts w gS gC gL gR bS bL N n nL ML E σ key lv):=by
 have HE:=aC hE;have HF:=aC hF;have Zu:Hid (∀k∈ak ts,k.1.size<=maxLen/\k.2.size<=maxLen):=hsz;have YP:Hid (N=(ak ts).length):=hN;clear hE hF hsz hN
 induction f using Nat.strongRecOn with
 | _ f ih =>
 intro w σ n key lv hR hZ hmu hnm hk h0 h1 hl;have HIH:Hid (∀m<f,_):=ih;clear ih;obtain⟨hz1,hz2⟩:=Zu.out key hk;obtain⟨kl,hkl⟩:=kv key hz1 hz2;have Xw:Hid (keyOf prog 146 (dU key)=some kl):=hkl;have HR:=aC hR;have HZ:=aC hZ;have HLK:=aC hl;have HKM:=aC hk;have hmp:=hZ.mu_pos (ak ts);have cS:=hR.cS;have cC:=hR.cC;have cL:=hR.cL;have lS:=hR.lS.1;have lC:=hR.lC.1;have lL:=hR.lL.1;have hbS:=hR.map.lt;have hal:ag w (w.alloc (.cells #[.string key.1,.string key.2] 146)):=(Vs _ _).alloc (Vr _) _;have WX:=aC hal;have YR:Hid (aJ dU prog 146 (w.alloc (.cells #[.string key.1,.string key.2] 146)) bS n (iW σ)):=hR.map.below hal;have HR1:=aC (hR.below hal);clear hR hZ hl hkl hal hk;by_cases hd:∃x,σ key=some x/\lv<=x
 ·obtain⟨x,hx,hle⟩:=hd;obtain⟨-,hx0,hxN,-⟩:=HZ.out.there key x hx;have hlk:iW σ key=some (.int .i64 x):=by unfold iW;rw[hx];rfl
  have HX:Hid (σ key=some x):=hx;clear hx;go_enter func259,ntmps259;go_wp2_with(at_lookup;refine bZ _ rfl _ _ 169 rfl 146 2 iY underlying169 (wy _) bS n (iW σ) rfl YR.out key kl rfl Xw.out ?_;simp only[hlk,Wd,Option.isSome_some]);go_ret;exact⟨true,σ,n,rfl,jq WX.out,HR1.out,HZ.out,Int.le_refl _,Int.le_refl _,by simp,fun _=>⟨Raised.refl _ _,x,HX.out,hle⟩⟩
 have HLT:Hid (∀y,σ key=some y->y<lv):=fun y hy=>by
  by_cases h:lv<=y
  ·exact absurd ⟨y,hy,h⟩ hd
  omega
 clear hd;by_cases hNt:(N:Int)<=lv
 ·have YD:Hid (¬ ∃f,Sol ts f):=Jr HF.out HKM.out HLK.out (by have:=YP.out;omega);cases hs:σ key with
  | none =>
   have hlk:iW σ key=none:=by unfold iW;rw[hs];rfl
   clear hs;go_enter func259,ntmps259;go_wp2_with(at_lookup;refine bZ _ rfl _ _ 169 rfl 146 2 iY underlying169 (wy _) bS n (iW σ) rfl YR.out key kl rfl Xw.out ?_;simp only[hlk,Option.getD_none,Option.isSome_none]);go_ret;exact⟨false,σ,n,rfl,jq WX.out,HR1.out,HZ.out,Int.le_refl _,Int.le_refl _,fun _=>YD.out,by simp⟩
  | some x =>
   have hxt:x<lv:=HLT.out x hs;obtain⟨-,hx0,hxN,-⟩:=HZ.out.there key x hs;have hlk:iW σ key=some (.int .i64 x):=by unfold iW;rw[hs];rfl
   clear hs;go_enter func259,ntmps259;go_wp2_with(at_lookup;refine bZ _ rfl _ _ 169 rfl 146 2 iY underlying169 (wy _) bS n (iW σ) rfl YR.out key kl rfl Xw.out ?_;simp only[hlk,Wd,Option.isSome_some]);go_ret;exact⟨false,σ,n,rfl,jq WX.out,HR1.out,HZ.out,Int.le_refl _,Int.le_refl _,fun _=>YD.out,by simp⟩
 have hNt':lv<(N:Int):=by omega
 have HZ2:Hid (Rz ts N (IW σ key lv)):=HZ.out.set HKM.out h0 hNt' HLK.out;have HMU:Hid (oD N (IW σ key lv) (ak ts)+1<=oD N σ (ak ts)):=U4 HZ2.out HLT.out h0 _ HKM.out;obtain⟨adL,cpL,hvl,hrow⟩:=RN (wu HR.out.lean key);have HVL:Hid ((ML key).getD (.slice none 0 0)=.slice adL (lookL E key).length cpL):=hvl;have hll:(lookL E key).length<=100000:=Vz (DZ _ _) hEl;clear hvl hrow;cases hs:σ key
 case' none =>
  have hlk:iW σ key=none:=by unfold iW;rw[hs];rfl
  clear hs;go_enter func259,ntmps259
  go_wp2_with (first
   | (at_lookup;refine bZ _ rfl _ _ 169 rfl 146 2 iY underlying169 (wy _) bS n (iW σ) rfl YR.out key kl rfl Xw.out ?_;simp only[hlk,Option.getD_none,Option.isSome_none])
   | (at_mapUpdate;refine iK _ rfl _ _ _ 169 rfl 146 2 iY uK underlying169 bS n (iW σ) rfl YR.out (by unfold maxLen;omega) key kl rfl Xw.out (.int .i64 lv) rfl ?_;intro w2 hV2 hg2;have cL2:w2.cell? ⟨gL,0,none⟩=some (.map (some bL)):=(kJ hg2 HR1.out.lL 0).trans HR1.out.cL;have k0:w2.cell? ⟨w.heap.size,0,none⟩=some (.string key.1):=(kJ hg2 ⟨by simp,by omega⟩ 0).trans (by simp);have k1:w2.cell? ⟨w.heap.size,1,none⟩=some (.string key.2):=(kJ hg2 ⟨by simp,by omega⟩ 1).trans (by simp))
   | (at_lookup;refine jA _ rfl _ _ 261 rfl 146 335 iY underlying261 (Kh _) bL nL ML rfl ((HR1.out.lean.kept hg2 HR1.out.bne HR1.out.free).map) key kl rfl Xw.out ?_;rw[HVL.out]))
 case' some x =>
  have hxt:x<lv:=HLT.out x hs;obtain⟨-,hx0,hxN,-⟩:=HZ.out.there key x hs;have hlk:iW σ key=some (.int .i64 x):=by unfold iW;rw[hs];rfl
  clear hs;go_enter func259,ntmps259
  go_wp2_with (first
   | (at_lookup;refine bZ _ rfl _ _ 169 rfl 146 2 iY underlying169 (wy _) bS n (iW σ) rfl YR.out key kl rfl Xw.out ?_;simp only[hlk,Wd,Option.isSome_some])
   | (at_mapUpdate;refine iK _ rfl _ _ _ 169 rfl 146 2 iY uK underlying169 bS n (iW σ) rfl YR.out (by unfold maxLen;omega) key kl rfl Xw.out (.int .i64 lv) rfl ?_;intro w2 hV2 hg2;have cL2:w2.cell? ⟨gL,0,none⟩=some (.map (some bL)):=(kJ hg2 HR1.out.lL 0).trans HR1.out.cL;have k0:w2.cell? ⟨w.heap.size,0,none⟩=some (.string key.1):=(kJ hg2 ⟨by simp,by omega⟩ 0).trans (by simp);have k1:w2.cell? ⟨w.heap.size,1,none⟩=some (.string key.2):=(kJ hg2 ⟨by simp,by omega⟩ 1).trans (by simp))
   | (at_lookup;refine jA _ rfl _ _ 261 rfl 146 335 iY underlying261 (Kh _) bL nL ML rfl ((HR1.out.lean.kept hg2 HR1.out.bne HR1.out.free).map) key kl rfl Xw.out ?_;rw[HVL.out]))
 all_goals
  have HR2:Hid (Rw w2 gS gC gL gR bS bL N (n+1) nL ML E (IW σ key lv)):=HR1.out.kept hg2 (by rw[<-Sg];exact hV2);have HG2:Hid (w.grownBy w2 (some bS)):=nu (jq WX.out) hg2;clear hV2 hg2 cL2 k0 k1;go_loopw[35] (fun i w3=>∃j:Nat,j<=(lookL E key).length/\i=.int .i64 j/\Hid (∃(σ3:Ky->Option Int) (n3:Nat),Half E σ key lv j σ3/\Rw w3 gS gC gL gR bS bL N n3 nL ML E σ3/\Rz ts N σ3/\(n3:Int)+oD N σ3 (ak ts)<=n+oD N σ (ak ts)/\oD N σ3 (ak ts)+1<=oD N σ (ak ts)/\w.grownBy w3 (some bS))) (fun i _=>(lookL E key).length-(intOf i).toNat);case atStart=>exact⟨0,Vv _,rfl,⟨IW σ key lv,n+1,Half.start HLT.out,HR2.out,HZ2.out,by have:=HMU.out;push_cast;omega,HMU.out,HG2.out⟩⟩
  clear HR2 HG2 HZ2 HMU;obtain⟨j,hj,rfl,HI⟩:=hrel;by_cases hjl:j<(lookL E key).length
  ·obtain⟨σ3,n3,hH3,Yi,hZ3,hn3,ZG,hg3⟩:=HI.out;obtain⟨WS,cp',hv',hrow'⟩:=RN (wu Yi.lean key);rw[HVL.out]at hv';injection hv' with e1 e2 e3;subst e1;rcases hrow' with h|⟨gr,WO,hgr1,Xk,hcr⟩
   ·omega
   obtain⟨st,hst⟩:∃st,st=(lookL E key)[j]:=⟨_,rfl⟩;have r0:wr.cell? ⟨gr,j*3,none⟩=some (.string st.typ):=hcr _ _ (by have:=lJ (lookL E key) j hjl 0 (by omega);rw[hst];simpa[St.cells] using this);have r1:wr.cell? ⟨gr,j*3+1,none⟩=some (.string st.rel):=hcr _ _ (by have:=lJ (lookL E key) j hjl 1 (by omega);rw[hst];simpa[St.cells] using this);have r2:wr.cell? ⟨gr,j*3+2,none⟩=some (.int .i64 st.n):=hcr _ _ (by have:=lJ (lookL E key) j hjl 2 (by omega);rw[hst];simpa[St.cells] using this);have HST:Hid (st=(lookL E key)[j]):=hst;obtain⟨hsk,hsl,hsn0,hsn1⟩:=HE.out.low HLK.out (s:=st) (by rw[hst];exact Vp hjl);have HSK:=aC hsk;have Zc:=aC hsl;have hj1:=bC j;have hj2:(j:Int)<((lookL E key).length:Int):=by omega
   have cR3:=Yi.cR;unfold Fy at cR3;have lR3:=Yi.lR.1;obtain⟨W3,hW3⟩:∃W3,W3=wr.alloc (.cells #[.string st.typ,.string st.rel,.int .i64 st.n] 337):=⟨_,rfl⟩;have ZH:ag wr W3:=by rw[hW3];exact(Vs _ _).alloc (Vr _) _
   have HR3:=aC (Yi.below ZH);have Zz:Hid (w.grownBy W3 (some bS)):=nu hg3 (jq ZH);have HH3:=aC hH3;have HZ3:=aC hZ3;have hm3p:=hZ3.mu_pos (ak ts);have HNM:Hid ((n3:Int)+oD N σ3 (ak ts)<=n+oD N σ (ak ts)/\oD N σ3 (ak ts)+1<=oD N σ (ak ts)):=⟨hn3,ZG⟩;rw[WO];clear hcr hgr1 Xk hsk hsl hst Yi ZH hH3 hZ3 hg3 HI e2 e3;go_wp2_with fail;rw[<-hW3];clear hW3 r0 r1 r2 cR3;refine(HIH.out (oD N σ3 (ak ts)).toNat (by omega) _ σ3 n3 st.key (lv+st.n) HR3.out HZ3.out (by omega) (by omega) HSK.out (by omega) (by omega) Zc.out).mono ?_;rintro e w5 ⟨ok,σ5,n5,rfl,hg5,Xn,hZ5,hn5,Y8,hf5,ht5⟩;cases ok;case false=>
    have HP:Hid (Ki ts w gS gC gL gR bS bL N n nL ML E σ key lv (.returned (.bool false)) w5):=by
     have h:=HNM.out;exact⟨false,σ5,n5,rfl,nu Zz.out hg5,Xn,hZ5,by omega,by omega,fun _=>hf5 rfl,by simp⟩
    clear hg5 Xn hZ5 hn5 Y8 hf5 ht5;go_wp2;go_ret;exact HP.out
   have HI2:Hid (∃(σ3:Ky->Option Int) (n3:Nat),Half E σ key lv (j+1) σ3/\Rw w5 gS gC gL gR bS bL N n3 nL ML E σ3/\Rz ts N σ3/\(n3:Int)+oD N σ3 (ak ts)<=n+oD N σ (ak ts)/\oD N σ3 (ak ts)+1<=oD N σ (ak ts)/\w.grownBy w5 (some bS)):=by
    have h:=HNM.out;obtain⟨hRa,y,hy,hle⟩:=ht5 rfl;refine⟨σ5,n5,HH3.out.step hjl hRa ⟨y,?_,?_⟩,Xn,hZ5,by omega,by omega,nu Zz.out hg5⟩
    ·rw[<-HST.out];exact hy
    rw[<-HST.out];exact hle
   clear hg5 Xn hZ5 hn5 Y8 hf5 ht5;go_wp2;go_roundw;case rel=>exact⟨j+1,by omega,by go_num,HI2⟩
   simp[intOf]<;>omega
  obtain rfl:j=(lookL E key).length:=by omega
  have HP:Hid (Ki ts w gS gC gL gR bS bL N n nL ML E σ key lv (.returned (.bool true)) wr):=by
   obtain⟨σ3,n3,hH3,Yi,hZ3,hn3,ZG,hg3⟩:=HI.out;exact⟨true,σ3,n3,rfl,hg3,Yi,hZ3,hn3,by omega,by simp,fun _=>⟨hH3.full (Vr _),hH3.at'⟩⟩
  clear HI;go_wp2;go_ret;exact HP.out
def QG(ts:Q0b)(w:World)(e:Ending)(w':World):Prop :=
 ((∃(b n:Nat) (σ:Ky->Option Int),e=.returned (.tuple #[.map (some b),.bool true])/\aJ dU prog 146 w' b n (iW σ)/\Least ts (fun k=>(σ k).getD 0)/\∀k,(∃x,σ k=some x)↔k∈ak ts)\/(e=.returned (.tuple #[.map none,.bool false])/\¬ ∃f,Sol ts f))/\ag w w'
theorem QH(N:Nat)(ks:List Ky):oD N (fun _=>none) ks=N*ks.length:=by
 induction ks with
 | nil=>simp[oD]
 | cons k ks ih=>simp only[oD,ih,xB,VS];push_cast;rw[Int.mul_add];omega
theorem NC{rs:Q06}(hf:∀r∈rs,r.fits):∀k∈ak (af rs),k.1.size<=maxLen/\k.2.size<=maxLen:=by
 intro k hk;obtain⟨t,ht,r,hr,rfl⟩:=qM.1 hk;obtain⟨t',ht',rfl⟩:=VG.1 ht;obtain⟨q,hq,rfl⟩:=VG.1 hr;exact⟨(hf t' ht').1,((hf t' ht').2.2 q hq).1⟩
set_option maxRecDepth 100000 in
theorem yG(ad:Q02)(cap:Nat)(rs:Q06)(bL nL:Nat)(ML:Ky->Option Value)(E:List (Ky×St))(w:ae)(hlen:rs.length<=6)(hs:mP w ad rs)(hf:∀r∈rs,r.fits)(hrl:∀r∈rs,r.rows.length<=6)(hG:Grp w bL nL ML E)(hE:Edge (af rs) E)(hF:Found (af rs))(hEl:E.length<=100000):
  Calls prog 186 #[.slice ad rs.length cap,.map (some bL)] w (QG (af rs) w):=by
 have HS:=aC hs;have WR:=aC hf;have HRL:Hid (∀r∈rs,r.rows.length<=6):=hrl;have HG:Hid (Grp w bL nL ML E):=hG;have HE:=aC hE;have HF:=aC hF;have HBL:Hid (bL<w.heap.size):=hG.map.lt;clear hs hf hrl hG hE hF;have hmm:=@run_makeMap prog;go_enter func186,ntmps186;have HB0:Hid (ag w ((w.alloc (.cells #[.map (some bL)] 261)).alloc (.cells #[.int .i64 0] 2))):=((Vs _ _).alloc (Vr _) _).alloc (by simp) _;have XR:Hid (((w.alloc (.cells #[.map (some bL)] 261)).alloc (.cells #[.int .i64 0] 2)).cell? ⟨w.heap.size,0,none⟩=some (.map (some bL))/\((w.alloc (.cells #[.map (some bL)] 261)).alloc (.cells #[.int .i64 0] 2)).cell? ⟨w.heap.size+1,0,none⟩=some (.int .i64 0)/\((w.alloc (.cells #[.map (some bL)] 261)).alloc (.cells #[.int .i64 0] 2)).frozen? ⟨w.heap.size+1,0,none⟩=false/\w.heap.size+1<((w.alloc (.cells #[.map (some bL)] 261)).alloc (.cells #[.int .i64 0] 2)).heap.size):=⟨by simp,by simp,by simp,by simp⟩;go_wp2_with fail;go_loopw[17] (fun i wr=>∃k:Nat,k<=rs.length/\i=.int .i64 k/\Hid (ag w wr)/\Hid (wr.cell? ⟨w.heap.size,0,none⟩=some (.map (some bL))/\wr.cell? ⟨w.heap.size+1,0,none⟩=some (.int .i64 ((dB rs k).length:Int))/\wr.frozen? ⟨w.heap.size+1,0,none⟩=false/\w.heap.size+1<wr.heap.size)) (fun i _=>rs.length-(intOf i).toNat);case atStart=>exact⟨0,Vv _,rfl,HB0,XR⟩
 clear HB0 XR;obtain⟨k,hk,rfl,HB,HC⟩:=hrel;obtain⟨c0,c1,c2,c3⟩:=HC.out;have hu:=wW rs HRL.out k;by_cases hlt:k<rs.length
 ·rcases HS.out.below HB.out with rfl|⟨b,off,rfl,hb,hr,-⟩
  ·simp at hlt
  obtain⟨t0,t1⟩:=hr k hlt;have hk1:=bC k;have hk2:(k:Int)<(rs.length:Int):=by omega
  have h6:=HRL.out _ (Vp hlt);have Xy:Hid ((dB rs (k+1)).length=(dB rs k).length+rs[k].rows.length):=by show _=_;rw[pg _ _ hlt,Vx];simp[iV]
  obtain⟨cn,hcn⟩:∃cn,cn=(dB rs k).length:=⟨_,rfl⟩;rw[<-hcn]at c1 hu Xy;have HB1:Hid (ag w ((wr.setCell ⟨w.heap.size+1,0,none⟩ (.int .i64 ((cn:Int)+(rs[k].rows.length:Int)))).alloc (.cells #[.string rs[k].name,.slice rs[k].ad rs[k].rows.length rs[k].cap] 36))):=(HB.out.setCell (p:=⟨w.heap.size+1,0,none⟩) (by simp) _).alloc (by simpa using HB.out.size) _;have XC:Hid (((wr.setCell ⟨w.heap.size+1,0,none⟩ (.int .i64 ((cn:Int)+(rs[k].rows.length:Int)))).alloc (.cells #[.string rs[k].name,.slice rs[k].ad rs[k].rows.length rs[k].cap] 36)).cell? ⟨w.heap.size,0,none⟩=some (.map (some bL))/\((wr.setCell ⟨w.heap.size+1,0,none⟩ (.int .i64 ((cn:Int)+(rs[k].rows.length:Int)))).alloc (.cells #[.string rs[k].name,.slice rs[k].ad rs[k].rows.length rs[k].cap] 36)).cell? ⟨w.heap.size+1,0,none⟩=some (.int .i64 ((dB rs (k+1)).length:Int))/\((wr.setCell ⟨w.heap.size+1,0,none⟩ (.int .i64 ((cn:Int)+(rs[k].rows.length:Int)))).alloc (.cells #[.string rs[k].name,.slice rs[k].ad rs[k].rows.length rs[k].cap] 36)).frozen? ⟨w.heap.size+1,0,none⟩=false/\w.heap.size+1<((wr.setCell ⟨w.heap.size+1,0,none⟩ (.int .i64 ((cn:Int)+(rs[k].rows.length:Int)))).alloc (.cells #[.string rs[k].name,.slice rs[k].ad rs[k].rows.length rs[k].cap] 36)).heap.size):=by
   obtain⟨X,hX⟩:∃X,X=wr.setCell ⟨w.heap.size+1,0,none⟩ (.int .i64 ((cn:Int)+(rs[k].rows.length:Int))):=⟨_,rfl⟩;have hXs:X.heap.size=wr.heap.size:=by rw[hX];simp
   have hB:ag X (X.alloc (.cells #[.string rs[k].name,.slice rs[k].ad rs[k].rows.length rs[k].cap] 36)):=(Vs _ _).alloc (Vr _) _;rw[<-hX];refine⟨aA hB (by omega) (by rw[hX,xM (by omega)];exact c0),aA hB (by omega) (by rw[hX,Xy.out];push_cast;exact zw c1),?_,by simp;omega⟩;rw[hB.frozen (p:=⟨w.heap.size+1,0,none⟩) (by simp;omega),hX];simpa using c2
  clear hr hcn HC;go_wp2;go_roundw;case rel=>exact⟨k+1,by omega,by go_num,HB1,XC⟩
  simp[intOf]<;>omega
 obtain rfl:k=rs.length:=by omega
 have hEN:dB rs rs.length=ak (af rs):=by unfold dB;rw[VI]
 rw[hEN]at c1 hu;obtain⟨N,hN⟩:∃N,N=(ak (af rs)).length:=⟨_,rfl⟩;rw[<-hN]at c1 hu;have YP:Hid (N=(ak (af rs)).length):=hN;have HEN:Hid (dB rs rs.length=ak (af rs)):=hEN;have hN36:N<=36:=by omega
 have hbl:=HBL.out;have hwr:w.heap.size<=wr.heap.size:=HB.out.size;obtain⟨W0,hW0⟩:∃W0,W0=(((wr.alloc (.map #[] 0)).alloc (.cells #[.map (some wr.heap.size)] 169)).alloc (.cells #[(.func (Fn.func 259) #[] #[.pointer (some ⟨wr.heap.size+1,0,none⟩),.pointer (some ⟨w.heap.size+1,0,none⟩),.pointer (some ⟨w.heap.size,0,none⟩),.pointer (some ⟨wr.heap.size+1+1,0,none⟩)])] 333)):=⟨_,rfl⟩;have hal:ag wr W0:=by
  rw[hW0]
  repeat(first|exact Vs _ _|refine Below.alloc ?_ (by first|(simp;done)|(simp;omega)) _)
 have hs0:W0.heap.size=wr.heap.size+3:=by rw[hW0];simp
 have HRW:Hid (Rw W0 (wr.heap.size+1) (w.heap.size+1) w.heap.size (wr.heap.size+1+1) wr.heap.size bL N 0 nL ML E (fun _=>none)):=by
  have hGr:Grp wr bL nL ML E:=HG.out.below HB.out;have hMV:aJ dU prog 146 W0 wr.heap.size 0 (iW (fun _=>none)):=by
   have h1:=lI dU prog 146 wr;have e1:iW (fun _=>none)=fun _=>none:=by funext k;rfl
   rw[e1];refine h1.below ?_;rw[hW0]
   repeat(first|exact Vs _ _|refine Below.alloc ?_ (by first|(simp;done)|(simp;omega)) _)
  have hcS:W0.cell? ⟨wr.heap.size+1,0,none⟩=some (.map (some wr.heap.size)):=by
   rw[hW0];exact aA ((Vs _ _).alloc (Vr _) _) (by simp) (O3 wr _ _ _ 0 rfl)
  have hcR:W0.cell? ⟨wr.heap.size+1+1,0,none⟩=some (Fy (wr.heap.size+1) (w.heap.size+1) w.heap.size (wr.heap.size+1+1)):=by
   rw[hW0];exact TQ _ _ _ _ _ _ rfl
  exact⟨hcS,aA hal (by omega) c1,aA hal (by omega) c0,hcR,by omega,by omega,by omega,by omega,hMV,hGr.below hal,by omega,hGr.fresh (Vr _)⟩
 have HB0:=iJ HB hal;clear hu hEN hN hal HC;go_wp2_with fail;rw[<-hW0];clear hW0 c0 c1 c2 c3 HB;obtain⟨bS,hbS⟩:∃bS,bS=wr.heap.size:=⟨_,rfl⟩;obtain⟨gS,hgS⟩:∃gS,gS=wr.heap.size+1:=⟨_,rfl⟩;obtain⟨gR,hgR⟩:∃gR,gR=wr.heap.size+1+1:=⟨_,rfl⟩;obtain⟨gC,hgC⟩:∃gC,gC=w.heap.size+1:=⟨_,rfl⟩;obtain⟨gL,hgL⟩:∃gL,gL=w.heap.size:=⟨_,rfl⟩;have hb1:w.heap.size<=bS:=by omega
 have HRW2:Hid (Rw W0 gS gC gL gR bS bL N 0 nL ML E (fun _=>none)):=by rw[hbS,hgS,hgR,hgC,hgL];exact HRW
 have HI0:Hid (∃(σ:Ky->Option Int) (n:Nat),Rw W0 gS gC gL gR bS bL N n nL ML E σ/\Rz (af rs) N σ/\(n:Int)+oD N σ (ak (af rs))<=2000/\Raised E (fun _=>none) σ/\∀key∈dB rs 0,∃x,σ key=some x):=by
  refine⟨fun _=>none,0,HRW2.out,⟨fun k x h=>by cases h⟩,?_,Raised.refl _ _,fun k hk=>by simp[dB,af,ak]at hk⟩;rw[QH,<-YP.out];have h1:(N:Int)*N<=36*36:=Int.mul_le_mul (by omega) (by omega) (by omega) (by omega)
  push_cast;omega
 rw[<-hgR,<-hgS,<-hbS,<-hgC,<-hgL];clear HRW HRW2 hs0 hmm hgR hgS hbS hgC hgL;go_loopw[31] (fun i w2=>∃k:Nat,k<=rs.length/\i=.int .i64 k/\Hid (ag w w2)/\Hid (∃(σ:Ky->Option Int) (n:Nat),Rw w2 gS gC gL gR bS bL N n nL ML E σ/\Rz (af rs) N σ/\(n:Int)+oD N σ (ak (af rs))<=2000/\Raised E (fun _=>none) σ/\∀key∈dB rs k,∃x,σ key=some x)) (fun i _=>rs.length-(intOf i).toNat);case atStart=>exact⟨0,Vv _,rfl,HB0,HI0⟩
 clear HB0 HI0;obtain⟨k,hk,rfl,HB,HI⟩:=hrel;by_cases hlt:k<rs.length
 ·rcases HS.out.below HB.out with rfl|⟨b,off,rfl,hb,hr,-⟩
  ·simp at hlt
  obtain⟨t0,t1⟩:=hr k hlt;have hk1:=bC k;have hk2:(k:Int)<(rs.length:Int):=by omega
  have h6:=HRL.out _ (Vp hlt);obtain⟨W1,hW1⟩:∃W1,W1=wr.alloc (.cells #[.string rs[k].name,.slice rs[k].ad rs[k].rows.length rs[k].cap] 36):=⟨_,rfl⟩;have hal:ag wr W1:=by rw[hW1];exact(Vs _ _).alloc (Vr _) _
  obtain⟨g12,Y0⟩:∃g12,g12=wr.heap.size:=⟨_,rfl⟩;have hbw:bS<wr.heap.size:=by obtain⟨σ,n,hR,-⟩:=HI.out;exact hR.map.lt
  have HC12:Hid (W1.cell? ⟨g12,0,none⟩=some (.string rs[k].name)/\g12<W1.heap.size/\g12≠bS):=⟨by rw[hW1,Y0];simp,by rw[hW1,Y0];simp,by omega⟩;have HB1:=iJ HB hal;have HI1:Hid (∃(σ:Ky->Option Int) (n:Nat),Rw W1 gS gC gL gR bS bL N n nL ML E σ/\Rz (af rs) N σ/\(n:Int)+oD N σ (ak (af rs))<=2000/\Raised E (fun _=>none) σ/\∀key∈dB rs k,∃x,σ key=some x):=by
   obtain⟨σ,n,hR,h2⟩:=HI.out;exact⟨σ,n,hR.below hal,h2⟩
  clear hr hal HI HB;go_wp2_with fail;rw[<-hW1,<-Y0];clear hW1 t0 t1 Y0;go_loopw[38] (fun i w3=>∃j:Nat,j<=rs[k].rows.length/\i=.int .i64 j/\Hid (ag w w3)/\Hid (w3.cell? ⟨g12,0,none⟩=some (.string rs[k].name)/\g12<w3.heap.size/\g12≠bS)/\Hid (∃(σ:Ky->Option Int) (n:Nat),Rw w3 gS gC gL gR bS bL N n nL ML E σ/\Rz (af rs) N σ/\(n:Int)+oD N σ (ak (af rs))<=2000/\Raised E (fun _=>none) σ/\∀key∈dB rs k++iV rs[k] j,∃x,σ key=some x)) (fun i _=>rs[k].rows.length-(intOf i).toNat);case atStart=>exact⟨0,Vv _,rfl,HB1,HC12,by simpa[iV] using HI1⟩
  clear HB1 HC12 HI1;obtain⟨j,hj,rfl,HB,HC,HI⟩:=hrel;by_cases hjl:j<rs[k].rows.length
  ·rcases HS.out.below HB.out with hnil|⟨b',off',he,hb2,hr,hok⟩
   ·rw[hnil]at hlt;simp at hlt
   injection he with he;injection he with he1 he2;subst he1;subst he2;have ok:=hok rs[k] (Vp hlt);rcases ok with hnil|⟨b2,Xd,had,hbb,hr2,-⟩
   ·rw[hnil]at hjl;simp at hjl
   obtain⟨q0,q1⟩:=hr2 j hjl;have hj1:=bC j;have hj2:(j:Int)<(rs[k].rows.length:Int):=by omega
   obtain⟨σ,n,hR,hZ,hn,hRa,hall⟩:=HI.out;obtain⟨x0,x1,x2⟩:=HC.out;have cR:=hR.cR;unfold Fy at cR;have lR:=hR.lR.1;obtain⟨W3,hW3⟩:∃W3,W3=wr.alloc (.cells #[.string rs[k].rows[j].name,.slice rs[k].rows[j].ad rs[k].rows[j].rows.length rs[k].rows[j].cap] 39):=⟨_,rfl⟩;have hal:ag wr W3:=by rw[hW3];exact(Vs _ _).alloc (Vr _) _
   have HR3:=aC (hR.below hal);have HZ3:=aC hZ;have HB3:=iJ HB hal;have ZF:Hid (W3.cell? ⟨g12,0,none⟩=some (.string rs[k].name)/\g12<W3.heap.size/\g12≠bS):=⟨aA hal x1 x0,Vq x1 hal.size,x2⟩;have Zd:Hid (Raised E (fun _=>none) σ):=hRa;have WX:Hid (∀key∈dB rs k++iV rs[k] j,∃x,σ key=some x):=hall;have hmp:=hZ.mu_pos (ak (af rs));have HKM:Hid ((rs[k].name,rs[k].rows[j].name)∈ak (af rs)):=qM.2 ⟨rs[k].p,VY (Vp hlt),rs[k].rows[j].p,VY (Vp hjl),rfl⟩;rw[had];clear hr hok hr2 hal hR hZ hRa hall HI HB HC;go_wp2_with fail;rw[<-hW3];clear hW3 q0 q1 cR x0;refine(NA (af rs) gS gC gL gR bS bL N nL ML E HE.out HF.out YP.out hN36 (NC WR.out) hEl (oD N σ (ak (af rs))).toNat _ σ n (rs[k].name,rs[k].rows[j].name) 0 HR3.out HZ3.out (by omega) (by omega) HKM.out (by omega) (by omega) (qJ.zero _ _)).mono ?_;rintro e w5 ⟨ok,σ5,n5,rfl,hg5,Xn,hZ5,hn5,Y8,hf5,ht5⟩;have XD:Hid (ag w w5):=HB3.out.grown hg5 HB3.out.size (fun i hi=>by injection hi with hi;omega);cases ok;case false=>
    have HP:Hid (QG (af rs) w (.returned (.tuple #[.map none,.bool false])) w5):=⟨.inr ⟨rfl,hf5 rfl⟩,XD.out⟩;clear hg5 Xn hZ5 hn5 Y8 hf5 ht5;go_wp2;refine bodyPost_ret (v:=.tuple #[.map none,.bool false]) ?_ rfl HP.out;simp[results,Tryz.results186,go_sem]
   have HI5:Hid (∃(σ:Ky->Option Int) (n:Nat),Rw w5 gS gC gL gR bS bL N n nL ML E σ/\Rz (af rs) N σ/\(n:Int)+oD N σ (ak (af rs))<=2000/\Raised E (fun _=>none) σ/\∀key∈dB rs k++iV rs[k] (j+1),∃x,σ key=some x):=by
    obtain⟨hRa,y,hy,-⟩:=ht5 rfl;refine⟨σ5,n5,Xn,hZ5,by omega,Zd.out.trans hRa,fun key hk=>?_⟩;rw[ut _ _ hjl,<-VU]at hk;rcases VE.1 hk with hk|hk
    ·obtain⟨x,hx⟩:=WX.out key hk;obtain⟨z,hz,-⟩:=hRa.mono key x hx;exact⟨z,hz⟩
    simp at hk;subst hk;exact⟨y,hy⟩
   have HC5:Hid (w5.cell? ⟨g12,0,none⟩=some (.string rs[k].name)/\g12<w5.heap.size/\g12≠bS):=⟨(kJ hg5 ZF.out.2 0).trans ZF.out.1,Vq ZF.out.2.1 hg5.size,ZF.out.2.2⟩;clear hg5 Xn hZ5 hn5 Y8 hf5 ht5;go_wp2;go_roundw;case rel=>exact⟨j+1,by omega,by go_num,XD,HC5,HI5⟩
   simp[intOf]<;>omega
  obtain rfl:j=rs[k].rows.length:=by omega
  have HI5:Hid (∃(σ:Ky->Option Int) (n:Nat),Rw wr gS gC gL gR bS bL N n nL ML E σ/\Rz (af rs) N σ/\(n:Int)+oD N σ (ak (af rs))<=2000/\Raised E (fun _=>none) σ/\∀key∈dB rs (k+1),∃x,σ key=some x):=by rw[pg _ _ hlt];exact HI
  clear HI;go_wp2;go_roundw;case rel=>exact⟨k+1,by omega,by go_num,HB,HI5⟩
  simp[intOf]<;>omega
 obtain rfl:k=rs.length:=by omega
 obtain⟨σ,n,hR,hZ,hn,hRa,hall⟩:=HI.out;have cS:=hR.cS;have HP:Hid (QG (af rs) w (.returned (.tuple #[.map (some bS),.bool true])) wr):=by
  rw[HEN.out]at hall;refine⟨.inl ⟨bS,n,σ,rfl,hR.map,Fx HE.out HF.out hZ hall (fun k=>hRa.done k (.inl (fun x h=>by cases h))),fun k=>⟨fun⟨x,hx⟩=>(hZ.there k x hx).1,hall k⟩⟩,HB.out⟩
 clear hR hZ hn hRa hall HI;go_wp2;refine bodyPost_ret (v:=.tuple #[.map (some bS),.bool true]) ?_ rfl HP.out;simp[results,Tryz.results186,go_sem]
theorem ND(ng:Bool)(xs:Q0a):cz ng xs=(dL xs).map fun a=>(⟨a.t,a.s,ng⟩:Dp):=by
 induction xs with
 | nil=>rfl
 | cons a xs ih=>simp only[cz,dL];split<;>simp[ih]
theorem D5(ts:Q0b)(typ:bQ)(ng:Bool)(e:Ex)(hn:av e=true)(hd:e.kind=3->bi (az ts typ e.over)=true):cz ng e.allow++kX ts typ ng e=(jl ts typ e).map fun a=>(⟨a.t,a.s,ng⟩:Dp):=by
 by_cases h1:e.kind=1
 ·unfold kX jl;rw[if_neg (by omega),if_neg (by omega),if_pos h1,Wp,ND]
 rw[uC hn h1];unfold kX jl;rw[if_neg h1];by_cases h2:e.kind=2
 ·rw[if_pos h2,if_pos h2];rfl
 rw[if_neg h2,if_neg h2];by_cases h3:e.kind=3
 ·rw[if_pos h3,if_pos h3];unfold gm;rw[if_pos (hd h3),List.map_map];rfl
 rw[if_neg h3,if_neg h3];rfl
theorem D6{ts:Q0b}{typ:ByteArray}{es:Q09}{d:Dp}{i:Nat}(hd:d∈gX ts typ es i):∀{k:Nat},i<k->d∈aM ts typ es k
 | 0,h=>by omega
 | k+1,h=>by
  simp only[aM];by_cases e:i=k
  ·subst e;exact VE.2 (.inr hd)
  exact VE.2 (.inl (D6 hd (by omega)))
theorem BB{ts:Q0b}{t r:ByteArray}{es:Q09}{x:Ky×St}:∀{k:Nat},x∈relE ts t r es k ↔ ∃i,i<k/\∃e,es[i]?=some e/\x∈BA ts t r ((dz es).getD i false) e
 | 0=>by simp[relE]
 | k+1=>by
  simp only[relE,VE];rw[BB];constructor
  ·rintro(⟨i,hi,h⟩|h)
   ·exact⟨i,by omega,h⟩
   cases e:es[k]? with
   | none=>rw[e]at h;cases h
   | some y=>rw[e]at h;exact⟨k,by omega,y,e,h⟩
  rintro⟨i,hi,e,he,h⟩;by_cases ek:i=k
  ·subst ek;right;rw[he];exact h
  exact .inl ⟨i,by omega,e,he,h⟩
theorem pJ{rs:Q06}(h:aY (af rs)=true){t:TR}(ht:t∈rs){q:RR}(hq:q∈t.rows):fF (af rs) t.name q.name=some (aj q.rows):=by
 have hT:=wX h;have hs:=sS (M:=fun _=>none) (rs:=rs) (k:=(t.name,q.name)) (.inr ⟨t,ht,q,hq,rfl⟩);obtain⟨v,hv⟩:=Option.isSome_iff_exists.1 hs;obtain⟨t',ht',q',hq',e,-,e2,-⟩:=hT.yes _ v hv;injection e with e3 e4;have h1:t=t':=GD h ht ht' e3;subst h1;obtain⟨i,hi,rfl⟩:=V7.1 ht;have h2:q=q':=GG (lK h i hi).2.2 hq hq' e4;subst h2;exact e2
theorem jr{es:Q09}(h:aK es=true):∀e∈es,av e=true:=by
 simp only[aK,Vt]at h;exact VC.1 h.1.1.1.2
theorem Hu(t r:bQ)(ng:Bool):stepOf ⟨t,r,ng⟩=yu ng:=by cases ng<;>rfl
theorem Si{rs:Q06}(h:aY (af rs)=true)(hr:iq (af rs)=true):Edge (af rs) (jo (af rs) rs):=by
 have WK:∀t∈rs,∀q∈t.rows,∀e∈aj q.rows,av e=true/\(e.kind=3->bi (az (af rs) t.name e.over)=true):=by
  intro t ht q hq e he;have h1:=((bq h).2.2 t ht q hq).1;refine⟨jr h1 e he,fun h3=>?_⟩;unfold iq at hr;rw[VC]at hr;have h2:=hr t.p (VY ht);unfold qL at h2;rw[VC]at h2;have h4:aR (af rs) t.name (aj q.rows)=true:=h2 q.p (VY hq);have h5:=(Di h4 e he).2;unfold lG at h5;rw[if_neg (by omega),if_pos h3,Vt]at h5;exact h5.1
 intro on t0 r0 s;constructor
 ·intro hm;unfold jo jm at hm;rw[VJ]at hm;obtain⟨t,ht,hm⟩:=hm;rw[VJ]at hm;obtain⟨q,hq,hm⟩:=hm;obtain⟨i,hi,e,he,hm⟩:=BB.1 hm;unfold BA at hm;obtain⟨a,ha,e1⟩:=VG.1 hm;injection e1 with e2 e3;injection e3 with e4 e5 e6;subst e4;subst e5;refine⟨qM.2 ⟨t.p,VY ht,q.p,VY hq,rfl⟩,⟨a.t,a.s,(dz (aj q.rows)).getD i false⟩,?_,e2,by rw[Hu];exact e6⟩;unfold ib pX;have ero:az (af rs) t.name q.name=aj q.rows:=by unfold az;rw[pJ h ht hq];rfl
  simp only[ero];have hi2:i<(aj q.rows).length:=(List.getElem?_eq_some_iff.1 he).1;refine D6 (i:=i) ?_ hi2;unfold gX;rw[he];obtain⟨n1,n2⟩:=WK t ht q hq e (WA he);simp only;rw[D5 _ _ _ _ n1 n2];exact VY (f:=fun a:Al=>(⟨a.t,a.s,(dz (aj q.rows)).getD i false⟩:Dp)) ha
 rintro⟨hk,d,hd,e1,e2⟩;obtain⟨t',ht',r',hr',e3⟩:=qM.1 hk;obtain⟨t,ht,rfl⟩:=VG.1 ht';obtain⟨q,hq,rfl⟩:=VG.1 hr';injection e3 with e4 e5;subst e4;subst e5;unfold ib pX at hd;have ero:az (af rs) t.p.name q.p.name=aj q.rows:=by
  have:=pJ h ht hq;show az (af rs) t.name q.name=_;unfold az;rw[this];rfl
 simp only[ero]at hd;obtain⟨i,hi,hd⟩:=uq hd;unfold gX at hd;split at hd
 ·cases hd
 rename_i e he;obtain⟨n1,n2⟩:=WK t ht q hq e (WA he);have hdn:cz ((dz (aj q.rows)).getD i false) e.allow++kX (af rs) t.p.name ((dz (aj q.rows)).getD i false) e=_:=D5 (af rs) t.name _ e n1 n2;rw[hdn]at hd;obtain⟨a,ha,rfl⟩:=VG.1 hd;unfold jo jm;rw[VJ];refine⟨t,ht,?_⟩;rw[VJ];refine⟨q,hq,BB.2 ⟨i,by rw[aX]at hi;exact hi,e,he,?_⟩⟩;unfold BA;rw[VG];refine⟨a,ha,?_⟩;rw[<-e1,<-e2,Hu];rfl
theorem QI{rs:Q06}(h:aY (af rs)=true):∀r∈rs,∀q∈r.rows,∀e∈q.rows,e.e.allow.length<=6:=by
 intro r hr q hq e he;have h1:=jr ((bq h).2.2 r hr q hq).1 e.e (by unfold aj;exact VY he);by_cases h2:e.e.kind=1
 ·unfold av at h1;rw[if_pos h2]at h1;simp only[Vt,eF,VF]at h1;exact h1.1.1.1.1.2
 rw[uC h1 h2];simp
theorem ry{α β:Type}(f:α->List β)(B:Nat):∀(xs:List α),(∀x∈xs,(f x).length<=B)->(xs.flatMap f).length<=xs.length*B
 | [],_=>by simp
 | x::xs,h=>by
  rw[VX,Vx,VS,Nat.succ_mul];have h1:=h x (by simp);have h2:=ry f B xs fun q hq=>h q (by simp[hq]);omega
theorem NE(rs:Q06)(h6:∀r∈rs,r.rows.length<=6)(hex:∀r∈rs,∀q∈r.rows,aK (aj q.rows)=true/\q.rows.length<=15/\∀e∈q.rows,eT q.rows.length e.e.kids)(h66:∀r∈rs,∀q∈r.rows,∀e∈q.rows,e.e.allow.length<=6)(hl:rs.length<=6:=by omega):(jo (af rs) rs).length<=100000:=by
 have h1:∀t∈rs,(jm (af rs) t.name t.rows).length<=540:=by
  intro t ht;have h2:∀q∈t.rows,(relE (af rs) t.name q.name (aj q.rows) q.rows.length).length<=90:=by
   intro q hq;have h3:∀k,k<=q.rows.length->(relE (af rs) t.name q.name (aj q.rows) k).length<=k*6:=by
    intro k
    induction k with
    | zero=>intro _;simp[relE]
    | succ k ih =>
     intro hk;rw[DX _ _ _ _ _ (by omega) _ rfl,Vx];have h4:=ih (by omega);have h5:(BA (af rs) t.name q.name ((dz (aj q.rows)).getD k false) q.rows[k].e).length<=6:=by
      unfold BA;rw[Wy];exact DY rs h66 _ _ (h66 t ht q hq _ (Vp (by omega)))
     omega
   have h4:=h3 q.rows.length (Vr _);have h5:=(hex t ht q hq).2.1;omega
  have h3:=ry (fun q:RR=>relE (af rs) t.name q.name (aj q.rows) q.rows.length) 90 t.rows h2;have h4:=h6 t ht;unfold jm;omega
 have h2:=ry (fun t:TR=>jm (af rs) t.name t.rows) 540 rs h1;unfold jo;omega
end Go.Proofs.YtojjoblnpldniaaGreat
