/- Contracts of the library's search in a slice of allowed pairs, as the program calls it. -/
import Derived.Test.YtajkkeikihhejaaGreatSq
import Derived.Test.YtajkkeikihhejaaGreatJ9
import Derived.Test.YtajkkeikihhejaaGreatJ11
import Derived.Test.YtajkkeikihhejaaGreatJ8
open Go.Proofs.Tryz
set_option maxHeartbeats 80000000
namespace Go.Proofs.YtajkkeikihhejaaGreat
open ChangeShapes WideShapes ChangeAt RowKit
open Pl
theorem Ee(x y:Al):ko x y=ko y x:=by
 unfold ko;rw[Vu];simp only[Vd,beq_iff_eq];exact⟨fun h=>⟨h.1.symm,h.2.symm⟩,fun h=>⟨h.1.symm,h.2.symm⟩⟩
theorem Nk(ad:Q02)(n cap:Nat)(xs:Q0a)(v:Al)(w:af)(hn:n<=xs.length)(hlen:xs.length<=1048576)(hs:lK w ad xs):
  Calls prog 197 #[.slice ad n cap,.agg #[.string v.t,.string v.s]] w fun e w'=>(∃r:Int,e=.returned (.int .i64 r)/\decide (0<=r)=dK xs n v)/\ae w w':=by
 obtain⟨W,hW⟩:∃W,W=w.alloc (.cells #[.string v.t,.string v.s] 43):=⟨_,rfl⟩;have HB0:Hid (ae w W):=by show Below _ _ _;rw[hW];exact(Vb w.heap.size w).alloc (Va _) _
 have hz:w.heap.size<W.heap.size:=by rw[hW];simp
 have b0:W.cell? ⟨w.heap.size,0,none⟩=some (.string v.t):=by rw[hW];simp
 have b1:W.cell? ⟨w.heap.size,1,none⟩=some (.string v.s):=by rw[hW];simp
 have HS:=aD (hs.below HB0.out);clear hs;go_enter func197,ntmps197;go_wp2_with fail;rw[<-hW];clear hW;go_loopw[8] (fun i wr=>∃k:Nat,k<=n/\i=.int .i64 k/\Hid (dK xs k v=false)/\ae W wr) (fun i _=>n-(intOf i).toNat);case atStart=>exact⟨0,Vf _,rfl,ug _ _,Vb _ _⟩
 obtain⟨k,hk,rfl,HP,hB⟩:=hrel;have a0:=kept hB hz b0;have a1:=kept hB hz b1;by_cases hlt:k<n
 ·have hltx:k<xs.length:=by omega
  rcases HS.out.below hB with rfl|⟨b,off,rfl,hb,hr⟩
  ·simp at hltx
  obtain⟨t0,t1⟩:=hr k hltx;have hk1:=bC k;have hk2:(k:Int)<(n:Int):=by omega
  clear hr;cases hq:ko v xs[k];case true=>
   have HE:=EO v xs[k] hq;have HN:Hid (dK xs n v=true):=Dg hlt hltx (by rw[Ee];exact hq);go_wp2_with fail;go_quiet (fail);go_wp2;go_ret;exact⟨⟨_,rfl,by rw[HN.out];simp⟩,HB0.out.trans (below_drewN (hB.mono HB0.out.size) _)⟩
  have HE:=EO v xs[k] hq;have WB:Hid (dK xs (k+1) v=false):=by show _=_;rw[uf _ _ _ hltx,HP.out,Ee,hq];rfl
  go_wp2_with fail;go_quiet (fail);go_wp2;go_roundw;case rel=>exact⟨k+1,by omega,by go_num,WB,below_drewN hB _⟩
  simp[intOf]<;>omega
 obtain rfl:k=n:=by omega
 go_wp2;go_ret;exact⟨⟨-1,rfl,by rw[HP.out];rfl⟩,HB0.out.trans (hB.mono HB0.out.size)⟩
theorem wN(ad:Q02)(n cap:Nat)(xs:Q0a)(v:Al)(w:af)(hn:n<=xs.length)(hlen:xs.length<=1048576)(hs:lK w ad xs):
  Calls prog 142 #[.slice ad n cap,.agg #[.string v.t,.string v.s]] w fun e w'=>e=.returned (.bool (dK xs n v))/\ae w w':=by
 have HB0:Hid (ae w (w.alloc (.cells #[.string v.t,.string v.s] 43))):=(Vb w.heap.size w).alloc (Va _) _;have HS:=aD hs;clear hs;go_enter func142,ntmps142;go_wp2_with fail;refine(Nk ad n cap xs v _ hn hlen (HS.out.below HB0.out)).mono ?_;rintro e w1 ⟨⟨r,rfl,hr⟩,hb1⟩;have HR:Hid (decide (0<=r)=dK xs n v):=hr;have HB1:=jF HB0 hb1;clear hr hb1;go_wp2;go_ret;exact⟨ah HR.out,HB1.out⟩
set_option maxRecDepth 8000 in
theorem FI(r:ER)(w:af)(hf:r.e.fits)(h1:r.e.kind≠1):
  Calls prog 239 #[r.val] w fun e w'=>e=.returned (.bool (ay r.e))/\ae w w':=by
 obtain⟨⟨kind,allow,over,name,kids⟩,adA,capA,adK,capK⟩:=r;obtain⟨f1,f2,f3,f4,f5⟩:=hf;simp only at f1 f2 f3 f4 f5 h1;simp only[ER.val];unfold maxLen at f4 f5;by_cases h2:kind=2
 ·subst h2;clear h1;go_enter func239,ntmps239;go_wp2_with fail;go_quiet (fail);go_wp2_with(go_at_call 162;refine(aQ _ _ (by assumption)).mono ?_;rintro e w' ⟨rfl,rfl⟩)
  all_goals go_ret
  all_goals exact⟨ah (by first|(simp[ay, *];done)|(simp[ay, *];omega)|(simp[ay, *];rw[Vu];simp;done)|(simp[ay, *];rw[Vu];simp;omega)),below_drewN ((Vb w.heap.size w).alloc (Va _) _) _⟩
 by_cases h3:kind=3
 ·subst h3;clear h1;go_enter func239,ntmps239;go_wp2_with fail;go_quiet (fail);go_wp2_with(go_at_call 162;refine(aQ _ _ (by assumption)).mono ?_;rintro e w' ⟨rfl,rfl⟩)
  all_goals go_ret
  all_goals exact⟨ah (by first|(simp[ay, *];done)|(simp[ay, *];omega)|(simp[ay, *];rw[Vu];simp;done)|(simp[ay, *];rw[Vu];simp;omega)),below_drewN ((Vb w.heap.size w).alloc (Va _) _) _⟩
 by_cases h4:kind=4
 ·subst h4;clear h1;go_enter func239,ntmps239;go_wp2_with fail;go_quiet (fail);go_wp2_with(go_at_call 162;refine(aQ _ _ (by assumption)).mono ?_;rintro e w' ⟨rfl,rfl⟩)
  all_goals go_ret
  all_goals exact⟨ah (by first|(simp[ay, *];done)|(simp[ay, *];omega)|(simp[ay, *];rw[Vu];simp;done)|(simp[ay, *];rw[Vu];simp;omega)),below_drewN ((Vb w.heap.size w).alloc (Va _) _) _⟩
 by_cases h5:kind=5
 ·subst h5;clear h1;go_enter func239,ntmps239;go_wp2_with fail;go_quiet (fail);go_wp2_with(go_at_call 162;refine(aQ _ _ (by assumption)).mono ?_;rintro e w' ⟨rfl,rfl⟩)
  all_goals go_ret
  all_goals exact⟨ah (by first|(simp[ay, *];done)|(simp[ay, *];omega)|(simp[ay, *];rw[Vu];simp;done)|(simp[ay, *];rw[Vu];simp;omega)),below_drewN ((Vb w.heap.size w).alloc (Va _) _) _⟩
 by_cases h6:kind=6
 ·subst h6;clear h1;go_enter func239,ntmps239;go_wp2_with fail;go_quiet (fail);go_wp2_with(go_at_call 162;refine(aQ _ _ (by assumption)).mono ?_;rintro e w' ⟨rfl,rfl⟩)
  all_goals go_ret
  all_goals exact⟨ah (by first|(simp[ay, *];done)|(simp[ay, *];omega)|(simp[ay, *];rw[Vu];simp;done)|(simp[ay, *];rw[Vu];simp;omega)),below_drewN ((Vb w.heap.size w).alloc (Va _) _) _⟩
 go_enter func239,ntmps239;go_wp2_with fail;go_quiet (fail);go_wp2_with(go_at_call 162;refine(aQ _ _ (by assumption)).mono ?_;rintro e w' ⟨rfl,rfl⟩)
 all_goals go_ret
 all_goals exact⟨ah (by first|(simp[ay, *];done)|(simp[ay, *];omega)|(simp[ay, *];rw[Vu];simp;done)|(simp[ay, *];rw[Vu];simp;omega)),below_drewN ((Vb w.heap.size w).alloc (Va _) _) _⟩
open Maps
def nR(a:Al)(e:Ex):Bool:=decide (e.kind=1)&&dK e.allow e.allow.length a
def yO(ts:Q0b)(ty rel:ByteArray)(a:Al):Bool:=(aB ts ty rel).any (nR a)
theorem fit_drop(a:Al)(rows:Q08)(k:Nat)(h:k<rows.length):(ak (rows.drop k)).any (nR a)=(nR a rows[k].e || (ak (rows.drop (k+1))).any (nR a)):=by
 rw[gW _ _ h];rfl
set_option maxRecDepth 100000 in
theorem Qh(b n:Nat)(rs:Q06)(ad:Q02)(M:ByteArray×ByteArray->Option Value)(oa ob r c d s:bW)(w:af)(hV:aM dX prog 94 w b n M)(hT:Tab rs M)(hs:j5 w ad rs)(hl:∀r∈rs,r.light)(ho:oa.size<=maxLen)(hr:r.size<=maxLen):
  Calls prog 100 #[.map (some b),.agg #[.string oa,.string ob,.string r,.string c,.string d,.string s]] w fun e w'=>e=.returned (.bool (yO (ag rs) oa r ⟨c,s⟩))/\ae w w':=by
 have HT:=aD hT;have HS:=aD hs;have HL:=aD hl;obtain⟨kl,hkl⟩:=jL (oa,r) ho hr;have Xz:Hid (keyOf prog 94 (dX (oa,r))=some kl):=hkl;obtain⟨W0,hW0⟩:∃W0,W0=(w.alloc (.cells #[.string oa,.string ob,.string r,.string c,.string d,.string s] 46)).alloc (.cells #[.string c,.string s] 43):=⟨_,rfl⟩;have hal:ae w W0:=by
  rw[hW0]
  repeat(first|exact Vb _ _|refine Below.alloc ?_ (by first|(simp;done)|(simp;omega)) _)
 have HB0:=aD hal;have Z8:=aD (hV.below hal);have XC:Hid (W0.cell? ⟨w.heap.size+1,0,none⟩=some (.string c)/\W0.cell? ⟨w.heap.size+1,1,none⟩=some (.string s)/\w.heap.size+1<W0.heap.size):=⟨by rw[hW0];simp,by rw[hW0];simp,by rw[hW0];simp⟩;obtain⟨rows,Ws,capE,HM,HE,HF⟩:∃(rows:Q08) (Ws:Q02) (capE:Nat),Hid ((M (oa,r)).getD (.slice none 0 0)=.slice Ws rows.length capE)/\Hid (ak rows=aB (ag rs) oa r)/\Hid (nY rs Ws rows):=by
  cases e:M (oa,r) with
  | none=>exact⟨[],none,0,rfl,by show _=_;unfold aB;rw[HT.out.no _ e];rfl,.inl rfl⟩
  | some v =>
   obtain⟨t,htm,q,hq,-,rfl,e1,-⟩:=HT.out.yes _ v e;exact⟨q.rows,q.ad,q.cap,rfl,by show _=_;unfold aB;rw[e1];rfl,.inr ⟨t,htm,q,hq,rfl,rfl⟩⟩
 have Xl:=HF.out.light HL.out;have HLE1:rows.length<=1048576:=Xl.1;have HLE2:Hid (∀q∈rows,q.e.light):=Xl.2;have Yx:Hid (ik w Ws rows):=HF.out.sl HS.out;clear hV hT hs hl hkl hal Xl;go_enter func100,ntmps100;go_wp2_with(at_lookup;rw[<-hW0];refine jK _ rfl _ _ 91 rfl 94 33 iW underlying91 (oF _) b n M rfl Z8.out (oa,r) kl rfl Xz.out ?_;rw[HM.out];clear hW0);go_loopw[23] (fun i wr=>∃k:Nat,k<=rows.length/\i=.int .i64 k/\Hid ((ak (rows.drop k)).any (nR ⟨c,s⟩)=(ak rows).any (nR ⟨c,s⟩))/\Hid (ae w wr)/\Hid (wr.cell? ⟨w.heap.size+1,0,none⟩=some (.string c)/\wr.cell? ⟨w.heap.size+1,1,none⟩=some (.string s)/\w.heap.size+1<wr.heap.size)) (fun i _=>rows.length-(intOf i).toNat);case atStart=>exact⟨0,Vf _,rfl,rfl,HB0,XC⟩
 clear HB0 XC Z8;obtain⟨k,hk,rfl,HP,HB,HC⟩:=hrel;by_cases hlt:k<rows.length
 ·rcases Yx.out.below HB.out with hnil|⟨bE,offE,YL,hbE,hrE,hok⟩
  ·rw[hnil]at hlt;simp at hlt
  obtain⟨t0,t1,t2,t3,t4⟩:=hrE k hlt;have X0:Hid (rows[k].ok wr):=hok _ (U8 hlt);have lgA:rows[k].e.allow.length<=1048576:=(HLE2.out _ (U8 hlt)).1;have hk1:=bC k;have hk2:(k:Int)<(rows.length:Int):=by omega
  obtain⟨x0,x1,x2⟩:=HC.out;have HD:Hid ((ak rows).any (nR ⟨c,s⟩)=(nR ⟨c,s⟩ rows[k].e || (ak (rows.drop (k+1))).any (nR ⟨c,s⟩))):=by show _=_;rw[<-HP.out];exact fit_drop _ _ _ hlt
  obtain⟨W1,hW1⟩:∃W1,W1=wr.alloc (.cells #[.int .i64 rows[k].e.kind,.slice rows[k].adA rows[k].e.allow.length rows[k].capA,.string rows[k].e.over,.string rows[k].e.name,.slice rows[k].adK rows[k].e.kids.length rows[k].capK] 39):=⟨_,rfl⟩;have hal:ae wr W1:=by rw[hW1];exact(Vb _ _).alloc (Va _) _
  have HB1:=jF HB hal;have XK:Hid (W1.cell? ⟨w.heap.size+1,0,none⟩=some (.string c)/\W1.cell? ⟨w.heap.size+1,1,none⟩=some (.string s)/\w.heap.size+1<W1.heap.size):=⟨aJ hal x2 x0,aJ hal x2 x1,U9 x2 hal.size⟩;have HA1:Hid (lK W1 rows[k].adA rows[k].e.allow):=X0.out.1.below hal;rw[YL];clear hrE hok hal HC;by_cases h1:rows[k].e.kind=1
  ·have hq1:(rows[k].e.kind==1)=true:=by simpa using h1
   have Y5:Hid (nR ⟨c,s⟩ rows[k].e=dK rows[k].e.allow rows[k].e.allow.length ⟨c,s⟩):=by show _=_;unfold nR;simp[h1]
   replace h1:Hid (rows[k].e.kind=1):=h1;go_wp2_with fail;rw[<-hW1];refine(wN rows[k].adA rows[k].e.allow.length rows[k].capA rows[k].e.allow ⟨c,s⟩ _ (Va _) lgA HA1.out).mono ?_;rintro e w2 ⟨rfl,hb2⟩;have HB2:=jF HB1 hb2;have Xh:Hid (w2.cell? ⟨w.heap.size+1,0,none⟩=some (.string c)/\w2.cell? ⟨w.heap.size+1,1,none⟩=some (.string s)/\w.heap.size+1<w2.heap.size):=⟨aJ hb2 XK.out.2.2 XK.out.1,aJ hb2 XK.out.2.2 XK.out.2.1,U9 XK.out.2.2 hb2.size⟩;clear hb2 hW1 t0 t1 t2 t3 t4 x0 x1;cases hz:dK rows[k].e.allow rows[k].e.allow.length ⟨c,s⟩;case true=>
    have HN:Hid (yO (ag rs) oa r ⟨c,s⟩=true):=by show _=_;unfold yO;rw[<-HE.out,HD.out,Y5.out,hz];rfl
    go_wp2;go_ret;exact⟨by rw[HN.out];rfl,HB2.out⟩
   have WB:Hid ((ak (rows.drop (k+1))).any (nR ⟨c,s⟩)=(ak rows).any (nR ⟨c,s⟩)):=by show _=_;rw[HD.out,Y5.out,hz];rfl
   go_wp2;go_roundw;case rel=>exact⟨k+1,by omega,by go_num,WB,HB2,Xh⟩
   simp[intOf]<;>omega
  have hq1:(rows[k].e.kind==1)=false:=by simpa using h1
  have WB:Hid ((ak (rows.drop (k+1))).any (nR ⟨c,s⟩)=(ak rows).any (nR ⟨c,s⟩)):=by show _=_;rw[HD.out];simp[nR,h1]
  have WT:Hid (ae w (wr.alloc (.cells #[.int .i64 rows[k].e.kind,.slice rows[k].adA rows[k].e.allow.length rows[k].capA,.string rows[k].e.over,.string rows[k].e.name,.slice rows[k].adK rows[k].e.kids.length rows[k].capK] 39))):=by rw[<-hW1];exact HB1
  have HCX:Hid ((wr.alloc (.cells #[.int .i64 rows[k].e.kind,.slice rows[k].adA rows[k].e.allow.length rows[k].capA,.string rows[k].e.over,.string rows[k].e.name,.slice rows[k].adK rows[k].e.kids.length rows[k].capK] 39)).cell? ⟨w.heap.size+1,0,none⟩=some (.string c)/\(wr.alloc (.cells #[.int .i64 rows[k].e.kind,.slice rows[k].adA rows[k].e.allow.length rows[k].capA,.string rows[k].e.over,.string rows[k].e.name,.slice rows[k].adK rows[k].e.kids.length rows[k].capK] 39)).cell? ⟨w.heap.size+1,1,none⟩=some (.string s)/\w.heap.size+1<(wr.alloc (.cells #[.int .i64 rows[k].e.kind,.slice rows[k].adA rows[k].e.allow.length rows[k].capA,.string rows[k].e.over,.string rows[k].e.name,.slice rows[k].adK rows[k].e.kids.length rows[k].capK] 39)).heap.size):=by rw[<-hW1];exact XK
  clear hW1;go_wp2;go_roundw;case rel=>exact⟨k+1,by omega,by go_num,WB,WT,HCX⟩
  simp[intOf]<;>omega
 have HN:Hid (yO (ag rs) oa r ⟨c,s⟩=false):=by show _=_;unfold yO;rw[<-HE.out,<-HP.out,Vt (by omega)];rfl
 go_wp2;go_ret;exact⟨by rw[HN.out];rfl,HB.out⟩
def yP(b:Bool):Int:=if b then 1 else 0
def BQ(ts:Q0b)(t r:ByteArray)(ng:Bool)(e:Ex):List (Ky×St):=(jA ts t e).map fun a=>((a.t,a.s),⟨t,r,yP ng⟩)
def relE(ts:Q0b)(t r:ByteArray)(es:Q09):Nat->List (Ky×St)
 | 0=>[]
 | i+1=>relE ts t r es i++(match es[i]? with|none=>[]|some e=>BQ ts t r ((dC es).getD i false) e)
def jC(ts:Q0b)(t:ByteArray)(qs:Q07):List (Ky×St):=qs.flatMap fun q=>relE ts t q.name (ak q.rows) q.rows.length
def jD(ts:Q0b)(rs:Q06):List (Ky×St):=rs.flatMap fun t=>jC ts t.name t.rows
theorem Ka(ts:Q0b)(t:bW)(qs:Q07)(j:Nat)(h:j<qs.length):jC ts t (qs.take (j+1))=jC ts t (qs.take j)++relE ts t qs[j].name (ak qs[j].rows) qs[j].rows.length:=by
 unfold jC;rw[Ve h,VU,List.flatMap_singleton]
theorem Kb(ts:Q0b)(rs:Q06)(k:Nat)(h:k<rs.length):jD ts (rs.take (k+1))=jD ts (rs.take k)++jC ts rs[k].name rs[k].rows:=by
 unfold jD;rw[Ve h,VU,List.flatMap_singleton]
theorem Ef(ts:Q0b)(t r:bW)(rows:Q08)(i:Nat)(h:i<rows.length)(ng:Bool)(hn:ng=(dC (ak rows)).getD i false):relE ts t r (ak rows) (i+1)=relE ts t r (ak rows) i++BQ ts t r ng rows[i].e:=by
 have e:(ak rows)[i]?=some rows[i].e:=by simp[ak,h]
 simp only[relE,e,hn]
theorem Eg(rs:Q06)(hl:∀r∈rs,∀q∈r.rows,∀e∈q.rows,e.e.allow.length<=6)(typ:bW)(e:Ex)(he:e.allow.length<=6):(jA (ag rs) typ e).length<=6:=by
 unfold jA;split
 ·exact Vj (DW _) he
 split
 ·simp
 split
 ·rw[VN];unfold gT;split
  ·refine Vj (Bd _ _ _ _) ?_;unfold aB;cases h:eD (ag rs) typ e.over with
   | none=>simp[aY]
   | some es =>
    obtain⟨t,ht,q,hq,-,-,rfl⟩:=qX h;have h1:=hl t ht q hq;have:∀(xs:Q08),(∀q∈xs,q.e.allow.length<=6)->(aY (ak xs)).length<=6:=by
     intro xs
     induction xs with
     | nil=>intro _;simp[ak,aY]
     | cons x xs ih =>
      intro h;have e4:ak (x::xs)=x.e::ak xs:=rfl;rw[e4];simp only[aY];split
      ·exact h x (by simp)
      exact ih (fun q hq=>h q (by simp[hq]))
    exact this q.rows h1
  simp
 simp
theorem Kc(rs:Q06)(hf:∀r∈rs,r.fits)(typ:bW)(ht:typ.size<=maxLen)(e:Ex)(he:e.fits):∀a∈jA (ag rs) typ e,a.t.size<=maxLen/\a.s.size<=maxLen:=by
 have hA:∀(xs:Q0a),(∀a∈xs,a.fits)->∀a∈dM xs,a.t.size<=maxLen/\a.s.size<=maxLen:=by
  intro xs
  induction xs with
  | nil=>intro _ a ha;cases ha
  | cons b xs ih =>
   intro h a ha;simp only[dM]at ha;split at ha
   ·exact ih (fun q hq=>h q (by simp[hq])) a ha
   rcases Vq.1 ha with rfl|ha
   ·exact h a (by simp)
   exact ih (fun q hq=>h q (by simp[hq])) a ha
 have hG:∀(xs:Q0a) (rel:ByteArray),(∀a∈xs,a.fits)->∀g∈gl (ag rs) rel xs,g.size<=maxLen:=by
  intro xs rel
  induction xs with
  | nil=>intro _ a ha;cases ha
  | cons b xs ih =>
   intro h a ha;simp only[gl]at ha;split at ha
   ·exact ih (fun q hq=>h q (by simp[hq])) a ha
   rcases Vq.1 ha with rfl|ha
   ·exact(h b (by simp)).1
   exact ih (fun q hq=>h q (by simp[hq])) a ha
 unfold jA;split
 ·exact hA _ he.1
 split
 ·intro a ha;simp at ha;subst ha;exact⟨ht,he.2.2.1⟩
 split
 ·intro a ha;obtain⟨g,hg,rfl⟩:=Vo.1 ha;refine⟨?_,he.2.2.1⟩;unfold gT at hg;split at hg
  ·unfold iC at hg;refine hG _ _ ?_ g hg;unfold aB;cases e3:eD (ag rs) typ e.over with
   | none=>intro a ha;simp[aY]at ha
   | some es =>
    obtain⟨t,ht',q,hq,-,-,rfl⟩:=qX e3;have hq2:=((hf t ht').2.2 q hq).2.2;intro a ha;have:∀(xs:Q08),(∀q∈xs,q.e.fits)->∀a∈aY (ak xs),a.fits:=by
     intro xs
     induction xs with
     | nil=>intro _ a ha;simp[ak,aY]at ha
     | cons x xs ih =>
      intro h a ha;have e4:ak (x::xs)=x.e::ak xs:=rfl;rw[e4]at ha;simp only[aY]at ha;split at ha
      ·exact(h x (by simp)).1 a ha
      exact ih (fun q hq=>h q (by simp[hq])) a ha
    exact this q.rows hq2 a ha
  cases hg
 intro a ha;cases ha
theorem R7:(prog.info? 274).map (fun i=>(i.zero,i.size,i.bytes))=some (some (.agg #[.string ⟨#[]⟩,.string ⟨#[]⟩,.int .i64 0]),3,40):=by kernel_rfl
theorem Ke(u:af):(zeroValue 272).run prog u=.ok (.slice none 0 0) u:=by kernel_rfl
theorem wO{w:af}{bL n:Nat}{M:Ky->Option Value}{E:List (Ky×St)}(h:Grp w bL n M E)(y:Ky):w.ownsRow (bL+1) 274 3 ((M y).getD (.slice none 0 0)) (lookL E y).length (iV (lookL E y)):=by
 rcases h.row y with⟨e,e2⟩|⟨v,e,ho⟩
 ·rw[e,e2];exact World.ownsRow_nil _ _ _ _
 rw[e];exact ho
theorem Qi{w:af}{bL n:Nat}{M:Ky->Option Value}{E:List (Ky×St)}(h:Grp w bL n M E)(y:Ky):some bL≠((M y).getD (.slice none 0 0)).ownBlock:=by
 cases e:M y with
 | none=>simp[Value.ownBlock]
 | some v=>intro e2;have:=(h.lt e (g:=bL) (by simpa using e2.symm)).1;omega
theorem Eh(E:List (Ky×St))(y:Ky):(lookL E y).length<=E.length:=Wi _ _
set_option maxRecDepth 100000 in
theorem CJ(ad:Q02)(cap:Nat)(rs:Q06)(bT nT:Nat)(T:Ky->Option Value)(w:af)(hlen:rs.length<=6)(hs:j5 w ad rs)(hl:∀r∈rs,r.light)(hf:∀r∈rs,r.fits)(hrl:∀r∈rs,r.rows.length<=6)(hel:∀r∈rs,∀q∈r.rows,q.rows.length<=15/\∀e∈q.rows,eZ q.rows.length e.e.kids)(hal6:∀r∈rs,∀q∈r.rows,∀e∈q.rows,e.e.allow.length<=6)(hV:aM dX prog 94 w bT nT T)(hT:Tab rs T):
  Calls prog 134 #[.slice ad rs.length cap,.map (some bT)] w fun e w'=>e=.returned (.map (some w.heap.size))/\(∃n M,Grp w' w.heap.size n M (jD (ag rs) rs))/\ae w w':=by
 have HS:=aD hs;have HL:=aD hl;have WE:=aD hf;have HRL:Hid (∀r∈rs,r.rows.length<=6):=hrl;have Yn:Hid (∀r∈rs,∀q∈r.rows,q.rows.length<=15/\∀e∈q.rows,eZ q.rows.length e.e.kids):=hel;have HV:Hid (aM dX prog 94 w bT nT T):=hV;have HT:=aD hT;have HA6:Hid (∀r∈rs,∀q∈r.rows,∀e∈q.rows,e.e.allow.length<=6):=hal6;clear hs hl hf hrl hel hV hT hal6;obtain⟨i0,hi,hz0,hz1,hz2⟩:=info_parts R7;have HG0:Hid (Grp (w.alloc (.map #[] 0)) w.heap.size 0 (fun _=>none) []):=grp_made w;have HB0:Hid (ae w (w.alloc (.map #[] 0))):=(Vb _ _).alloc (Va _) _;have hmm:=@run_makeMap prog;go_enter func134,ntmps134;go_wp2_with fail;go_loopw[19] (fun i wr=>∃k:Nat,k<=rs.length/\i=.int .i64 k/\Hid (∃n M,Grp wr w.heap.size n M (jD (ag rs) (rs.take k))/\n<=k*540/\(jD (ag rs) (rs.take k)).length<=k*540)/\Hid (ae w wr)) (fun i _=>rs.length-(intOf i).toNat);case atStart=>exact⟨0,Vf _,rfl,⟨0,_,HG0.out,by omega,by simp[jD]⟩,HB0⟩
 clear HG0 HB0 hmm;obtain⟨k,hk,rfl,HG,HB⟩:=hrel;by_cases hlt:k<rs.length
 ·rcases HS.out.below HB.out with rfl|⟨b,off,rfl,hb,hr,-⟩
  ·simp at hlt
  obtain⟨t0,t1⟩:=hr k hlt;have hk1:=bC k;have hk2:(k:Int)<(rs.length:Int):=by omega
  have h6:rs[k].rows.length<=6:=HRL.out _ (U8 hlt);have z0:rs[k].name.size<=maxLen:=(WE.out _ (U8 hlt)).1;have Yg:Hid (∀q∈rs[k].rows,q.fits):=(WE.out _ (U8 hlt)).2.2;have HLR:Hid (∀q∈rs[k].rows,q.light):=(HL.out _ (U8 hlt)).2;have HER:Hid (∀q∈rs[k].rows,q.rows.length<=15/\∀e∈q.rows,eZ q.rows.length e.e.kids):=Yn.out _ (U8 hlt);obtain⟨n1,M1,hG1,hn1,hE1⟩:=HG.out;obtain⟨E1,hE1d⟩:∃E1,E1=jD (ag rs) (rs.take k):=⟨_,rfl⟩;rw[<-hE1d]at hG1 hE1;have HE1D:Hid (E1=jD (ag rs) (rs.take k)):=hE1d;obtain⟨W1,hW1⟩:∃W1,W1=wr.alloc (.cells #[.string rs[k].name,.slice rs[k].ad rs[k].rows.length rs[k].cap] 127):=⟨_,rfl⟩;have hal:ae wr W1:=by rw[hW1];exact(Vb _ _).alloc (Va _) _
  have hbn:w.heap.size<wr.heap.size:=hG1.map.lt;have HC7:Hid (Cel W1 M1 w.heap.size wr.heap.size 0 (.string rs[k].name)):=⟨by rw[hW1];simp,by rw[hW1];simp,hG1.fresh (Va _),by omega⟩;have HG1:=aD (hG1.below hal);have HB1:=jF HB hal;clear hr hal hG1 HG hE1d;go_wp2_with fail;rw[<-hW1];clear hW1 t0 t1 HB;obtain⟨g7,Y9⟩:∃g7,g7=wr.heap.size:=⟨_,rfl⟩;rw[<-Y9]at HC7 hbn ⊢;clear Y9;go_loopw[26] (fun i w2=>∃j:Nat,j<=rs[k].rows.length/\i=.int .i64 j/\Hid (∃n M,Grp w2 w.heap.size n M (E1++jC (ag rs) rs[k].name (rs[k].rows.take j))/\n<=k*540+j*90/\(E1++jC (ag rs) rs[k].name (rs[k].rows.take j)).length<=k*540+j*90/\Cel w2 M w.heap.size g7 0 (.string rs[k].name))/\Hid (ae w w2)) (fun i _=>rs[k].rows.length-(intOf i).toNat);case atStart=>exact⟨0,Vf _,rfl,⟨n1,M1,by simpa[jC] using HG1.out,by omega,by have e:jC (ag rs) rs[k].name (rs[k].rows.take 0)=[]:=rfl;rw[e,V4];omega,HC7.out⟩,HB1⟩
  clear HG1 HB1 HC7;obtain⟨j,hj,rfl,HG,HB⟩:=hrel;by_cases hjl:j<rs[k].rows.length
  ·rcases HS.out.below HB.out with hnil|⟨b',off',he,hb2,hr,hok⟩
   ·rw[hnil]at hlt;simp at hlt
   injection he with he;injection he with he1 he2;subst he1;subst he2;have ok:=hok rs[k] (U8 hlt);rcases ok with hnil|⟨b2,WW,had,hbb,hr2,-⟩
   ·rw[hnil]at hjl;simp at hjl
   obtain⟨q0,q1⟩:=hr2 j hjl;have z1:rs[k].rows[j].name.size<=maxLen:=(Yg.out _ (U8 hjl)).1;have Y5:Hid (∀q∈rs[k].rows[j].rows,q.e.fits):=(Yg.out _ (U8 hjl)).2.2;have Xl:Hid (∀q∈rs[k].rows[j].rows,q.e.light):=(HLR.out _ (U8 hjl)).2;have h15:rs[k].rows[j].rows.length<=15:=(HER.out _ (U8 hjl)).1;have HKR:Hid (∀e∈rs[k].rows[j].rows,eZ rs[k].rows[j].rows.length e.e.kids):=(HER.out _ (U8 hjl)).2;have Zy:Hid (ik w rs[k].rows[j].ad rs[k].rows[j].rows):=Od.mem (HS.out.mem (U8 hlt)) (U8 hjl);have hj1:=bC j;have hj2:(j:Int)<(rs[k].rows.length:Int):=by omega
   obtain⟨n2,M2,hG2,hn2,hE2,hC7⟩:=HG.out;obtain⟨E2,hE2d⟩:∃E2,E2=E1++jC (ag rs) rs[k].name (rs[k].rows.take j):=⟨_,rfl⟩;rw[<-hE2d]at hG2 hE2;have HE2D:Hid (E2=E1++jC (ag rs) rs[k].name (rs[k].rows.take j)):=hE2d;obtain⟨W2,hW2⟩:∃W2,W2=wr.alloc (.cells #[.string rs[k].rows[j].name,.slice rs[k].rows[j].ad rs[k].rows[j].rows.length rs[k].rows[j].cap] 147):=⟨_,rfl⟩;have hal:ae wr W2:=by rw[hW2];exact(Vb _ _).alloc (Va _) _
   have hbn2:w.heap.size<wr.heap.size:=hG2.map.lt;have hC9:Cel W2 M2 w.heap.size wr.heap.size 0 (.string rs[k].rows[j].name):=⟨by rw[hW2];simp,by rw[hW2];simp,hG2.fresh (Va _),by omega⟩;have hC9b:Cel W2 M2 w.heap.size wr.heap.size 1 (.slice rs[k].rows[j].ad rs[k].rows[j].rows.length rs[k].rows[j].cap):=⟨by rw[hW2];simp,by rw[hW2];simp,hG2.fresh (Va _),by omega⟩;have HC7:Hid (Cel W2 M2 w.heap.size g7 0 (.string rs[k].name)):=hC7.stl (Stl.below hal);have HC9:Hid (Cel W2 M2 w.heap.size wr.heap.size 0 (.string rs[k].rows[j].name)):=hC9;have HC9b:=aD hC9b;have HG2:=aD (hG2.below hal);have HB2:=jF HB hal;rw[had];clear hr hok hr2 hG2 hC7 hC9 hC9b hal HG HB hE2d;go_wp2_with fail;rw[<-hW2];clear hW2 q0 q1;refine(Cv rs[k].rows[j].ad rs[k].rows[j].cap rs[k].rows[j].rows _ (by omega) (Zy.out.below HB2.out) Xl.out HKR.out).mono ?_;rintro e w3 ⟨rfl,hF3⟩;obtain⟨g9,hg9⟩:∃g9,g9=wr.heap.size:=⟨_,rfl⟩;rw[<-hg9]at HC9 HC9b hbn2 ⊢;have HB3:Hid (ae w w3):=HB2.out.trans (hF3.below.mono HB2.out.size);have ZC:=aD (HG2.out.below hF3.below);have XD:Hid (Cel w3 M2 w.heap.size g7 0 (.string rs[k].name)/\Cel w3 M2 w.heap.size g9 0 (.string rs[k].rows[j].name)/\∀(i:Nat) (h:i<rs[k].rows[j].rows.length),Cel w3 M2 w.heap.size W2.heap.size i (.bool ((dC (ak rs[k].rows[j].rows)).getD i false))):=by
    refine⟨HC7.out.stl (Stl.below hF3.below),HC9.out.stl (Stl.below hF3.below),fun i hi=>⟨?_,hF3.lt,HG2.out.fresh (Va _),?_⟩⟩
    ·have hn:i<(dC (ak rs[k].rows[j].rows)).length:=by rw[Gn,aR];exact hi
     rw[hF3.done i (by simpa[bools] using hn)];simp[bools,hn]
    have:=HG2.out.map.lt;omega
   have c9:=(HC9b.out.stl (Stl.below (bL:=w.heap.size) (M:=M2) hF3.below)).cell;obtain⟨gA,hgA⟩:∃gA,gA=W2.heap.size:=⟨_,rfl⟩;rw[<-hgA]at XD ⊢;clear hF3 HC7 HC9 HC9b HG2 HB2 hg9 hgA;go_wp2_with fail;clear c9;go_loopw[36] (fun i w4=>∃m:Nat,m<=rs[k].rows[j].rows.length/\i=.int .i64 m/\Hid (∃n M,Grp w4 w.heap.size n M (E2++relE (ag rs) rs[k].name rs[k].rows[j].name (ak rs[k].rows[j].rows) m)/\n<=k*540+j*90+m*6/\(E2++relE (ag rs) rs[k].name rs[k].rows[j].name (ak rs[k].rows[j].rows) m).length<=k*540+j*90+m*6/\(Cel w4 M w.heap.size g7 0 (.string rs[k].name)/\Cel w4 M w.heap.size g9 0 (.string rs[k].rows[j].name)/\∀(i:Nat) (h:i<rs[k].rows[j].rows.length),Cel w4 M w.heap.size gA i (.bool ((dC (ak rs[k].rows[j].rows)).getD i false))))/\Hid (ae w w4)) (fun i _=>rs[k].rows[j].rows.length-(intOf i).toNat);case atStart=>exact⟨0,Vf _,rfl,⟨n2,M2,by simpa[relE] using ZC.out,by omega,by have e:relE (ag rs) rs[k].name rs[k].rows[j].name (ak rs[k].rows[j].rows) 0=[]:=rfl;rw[e,V4];omega,XD.out⟩,HB3⟩
   clear ZC HB3 XD;obtain⟨m,hm,rfl,HG,HB⟩:=hrel;by_cases Xd:m<rs[k].rows[j].rows.length
   ·rcases Zy.out.below HB.out with hnil|⟨bE,offE,YL,hbE,hrE,hok⟩
    ·rw[hnil]at Xd;simp at Xd
    obtain⟨t0,t1,t2,t3,t4⟩:=hrE m Xd;have hm1:=bC m;have hm2:(m:Int)<(rs[k].rows[j].rows.length:Int):=by omega
    have XP:Hid (rs[k].rows[j].rows[m].e.fits):=Y5.out _ (U8 Xd);have HXL:Hid (rs[k].rows[j].rows[m].e.light):=Xl.out _ (U8 Xd);obtain⟨n3,M3,hG3,hn3,hE3,hC7,hC9,hCA⟩:=HG.out;obtain⟨E3,hE3d⟩:∃E3,E3=E2++relE (ag rs) rs[k].name rs[k].rows[j].name (ak rs[k].rows[j].rows) m:=⟨_,rfl⟩;rw[<-hE3d]at hG3 hE3;have HE3D:Hid (E3=E2++relE (ag rs) rs[k].name rs[k].rows[j].name (ak rs[k].rows[j].rows) m):=hE3d;have hbn3:w.heap.size<wr.heap.size:=hG3.map.lt;obtain⟨ng,hng⟩:∃ng,ng=(dC (ak rs[k].rows[j].rows)).getD m false:=⟨_,rfl⟩;have HNG:Hid (ng=(dC (ak rs[k].rows[j].rows)).getD m false):=hng;rw[YL];clear hng hE3d hrE;cases ng
    case' true =>
     obtain⟨W3,hW3⟩:∃W3,W3=((wr.alloc (.cells #[.int .i64 rs[k].rows[j].rows[m].e.kind,.slice rs[k].rows[j].rows[m].adA rs[k].rows[j].rows[m].e.allow.length rs[k].rows[j].rows[m].capA,.string rs[k].rows[j].rows[m].e.over,.string rs[k].rows[j].rows[m].e.name,.slice rs[k].rows[j].rows[m].adK rs[k].rows[j].rows[m].e.kids.length rs[k].rows[j].rows[m].capK] 39)).alloc (.cells #[.string rs[k].name,.string rs[k].rows[j].name,.int .i64 1] 274)):=⟨_,rfl⟩;have hal:ae wr W3:=by
      rw[hW3]
      repeat(first|exact Vb _ _|refine Below.setCell ?_ (by first|(simp;done)|(simp;omega)) _|refine Below.alloc ?_ (by first|(simp;done)|(simp;omega)) _)
     have hsz3:W3.heap.size=wr.heap.size+2:=by rw[hW3];simp
     have HB3:=jF HB hal;have ZC:=aD (hG3.below hal);have HC13:Hid (Cel W3 M3 w.heap.size (wr.heap.size+1) 0 (.string rs[k].name)/\Cel W3 M3 w.heap.size (wr.heap.size+1) 1 (.string rs[k].rows[j].name)/\Cel W3 M3 w.heap.size (wr.heap.size+1) 2 (.int .i64 1)):=by
      have hfr:FreeB M3 (wr.heap.size+1):=hG3.fresh (by omega);refine⟨⟨?_,by omega,hfr,by omega⟩,⟨?_,by omega,hfr,by omega⟩,⟨?_,by omega,hfr,by omega⟩⟩
      all_goals(rw[hW3];simp)
     obtain⟨dv,hdv⟩:∃dv:Int,dv=1:=⟨_,rfl⟩;rw[<-hdv]at HC13;have HDE:Hid (dv=1):=hdv;clear hdv;have XD:Hid (Cel W3 M3 w.heap.size g7 0 (.string rs[k].name)/\Cel W3 M3 w.heap.size g9 0 (.string rs[k].rows[j].name)/\∀(i:Nat) (h:i<rs[k].rows[j].rows.length),Cel W3 M3 w.heap.size gA i (.bool ((dC (ak rs[k].rows[j].rows)).getD i false))):=⟨hC7.stl (Stl.below hal),hC9.stl (Stl.below hal),fun i h=>(hCA i h).stl (Stl.below hal)⟩;have HXO:Hid (rs[k].rows[j].rows[m].ok W3):=(hok rs[k].rows[j].rows[m] (U8 Xd)).below hal;have hc7:=hC7.cell;have hc9:=hC9.cell;have hl7:=hC7.lt;have hl9:=hC9.lt;have hcA:=(hCA m Xd).cell;have hlA:=(hCA m Xd).lt;rw[<-HNG.out]at hcA;clear hG3 hal hC7 hC9 hCA hok HG;go_wp2_with fail;rw[<-hW3];clear hW3 t0 t1 t2 t3 t4 hc7 hc9 hl7 hl9 hcA hlA
    case' false =>
     obtain⟨W3,hW3⟩:∃W3,W3=((wr.alloc (.cells #[.int .i64 rs[k].rows[j].rows[m].e.kind,.slice rs[k].rows[j].rows[m].adA rs[k].rows[j].rows[m].e.allow.length rs[k].rows[j].rows[m].capA,.string rs[k].rows[j].rows[m].e.over,.string rs[k].rows[j].rows[m].e.name,.slice rs[k].rows[j].rows[m].adK rs[k].rows[j].rows[m].e.kids.length rs[k].rows[j].rows[m].capK] 39)).alloc (.cells #[.string rs[k].name,.string rs[k].rows[j].name,.int .i64 0] 274)):=⟨_,rfl⟩;have hal:ae wr W3:=by
      rw[hW3]
      repeat(first|exact Vb _ _|refine Below.setCell ?_ (by first|(simp;done)|(simp;omega)) _|refine Below.alloc ?_ (by first|(simp;done)|(simp;omega)) _)
     have hsz3:W3.heap.size=wr.heap.size+2:=by rw[hW3];simp
     have HB3:=jF HB hal;have ZC:=aD (hG3.below hal);have HC13:Hid (Cel W3 M3 w.heap.size (wr.heap.size+1) 0 (.string rs[k].name)/\Cel W3 M3 w.heap.size (wr.heap.size+1) 1 (.string rs[k].rows[j].name)/\Cel W3 M3 w.heap.size (wr.heap.size+1) 2 (.int .i64 0)):=by
      have hfr:FreeB M3 (wr.heap.size+1):=hG3.fresh (by omega);refine⟨⟨?_,by omega,hfr,by omega⟩,⟨?_,by omega,hfr,by omega⟩,⟨?_,by omega,hfr,by omega⟩⟩
      all_goals(rw[hW3];simp)
     obtain⟨dv,hdv⟩:∃dv:Int,dv=0:=⟨_,rfl⟩;rw[<-hdv]at HC13;have HDE:Hid (dv=0):=hdv;clear hdv;have XD:Hid (Cel W3 M3 w.heap.size g7 0 (.string rs[k].name)/\Cel W3 M3 w.heap.size g9 0 (.string rs[k].rows[j].name)/\∀(i:Nat) (h:i<rs[k].rows[j].rows.length),Cel W3 M3 w.heap.size gA i (.bool ((dC (ak rs[k].rows[j].rows)).getD i false))):=⟨hC7.stl (Stl.below hal),hC9.stl (Stl.below hal),fun i h=>(hCA i h).stl (Stl.below hal)⟩;have HXO:Hid (rs[k].rows[j].rows[m].ok W3):=(hok rs[k].rows[j].rows[m] (U8 Xd)).below hal;have hc7:=hC7.cell;have hc9:=hC9.cell;have hl7:=hC7.lt;have hl9:=hC9.lt;have hcA:=(hCA m Xd).cell;have hlA:=(hCA m Xd).lt;rw[<-HNG.out]at hcA;clear hG3 hal hC7 hC9 hCA hok HG;go_wp2_with fail;rw[<-hW3];clear hW3 t0 t1 t2 t3 t4 hc7 hc9 hl7 hl9 hcA hlA
    all_goals
     refine(Hf bT nT rs (some ⟨b,off,none⟩) T rs[k].name rs[k].rows[j].rows[m] _ (HV.out.below HB3.out) HT.out (HS.out.below HB3.out) HL.out WE.out z0 XP.out HXL.out HXO.out).mono ?_;rintro e w5 ⟨⟨Yp,cpO,rfl,hSO,hNO⟩,hb5⟩;obtain⟨ks,hks⟩:∃ks,ks=jA (ag rs) rs[k].name rs[k].rows[j].rows[m].e:=⟨_,rfl⟩;rw[<-hks]at hSO ⊢;have HKS:Hid (ks=jA (ag rs) rs[k].name rs[k].rows[j].rows[m].e):=hks;have hkl6:ks.length<=6:=by rw[hks];exact Eg rs HA6.out _ _ (HA6.out _ (U8 hlt) _ (U8 hjl) _ (U8 Xd))
     have HKF:Hid (∀a∈ks,a.t.size<=maxLen/\a.s.size<=maxLen):=by show ∀_,_;rw[hks];exact Kc rs WE.out _ z0 _ XP.out
     obtain⟨g13,ZU⟩:∃g13,g13=wr.heap.size+1:=⟨_,rfl⟩;have XH:=jF HB3 hb5;have HG5:=aD (ZC.out.below hb5);have hS5:Stl W3 M3 w5 M3 w.heap.size:=Stl.below hb5;have Zt:Hid (Cel w5 M3 w.heap.size g7 0 (.string rs[k].name)/\Cel w5 M3 w.heap.size g9 0 (.string rs[k].rows[j].name)/\∀(i:Nat) (h:i<rs[k].rows[j].rows.length),Cel w5 M3 w.heap.size gA i (.bool ((dC (ak rs[k].rows[j].rows)).getD i false))):=⟨XD.out.1.stl hS5,XD.out.2.1.stl hS5,fun i h=>(XD.out.2.2 i h).stl hS5⟩;have HD5:Hid (Cel w5 M3 w.heap.size g13 0 (.string rs[k].name)/\Cel w5 M3 w.heap.size g13 1 (.string rs[k].rows[j].name)/\Cel w5 M3 w.heap.size g13 2 (.int .i64 dv)):=by rw[ZU];exact⟨HC13.out.1.stl hS5,HC13.out.2.1.stl hS5,HC13.out.2.2.stl hS5⟩
     have WF:Hid (ks=[] \/ ∃gO Xn,Yp=some ⟨gO,Xn,none⟩/\∀(i:Nat) (h:i<ks.length),Cel w5 M3 w.heap.size gO (Xn+i*2) (.string ks[i].t)/\Cel w5 M3 w.heap.size gO (Xn+i*2+1) (.string ks[i].s)):=by
      rcases hSO with e|⟨gO,Xn,e,hgO,hcO⟩
      ·exact .inl e
      have hN:=hNO _ e;have hbl3:=ZC.out.map.lt;have hfr:FreeB M3 gO:=ZC.out.fresh hN;refine .inr ⟨gO,Xn,e,fun i hi=>⟨⟨(hcO i hi).1,hgO,hfr,?_⟩,⟨(hcO i hi).2,hgO,hfr,?_⟩⟩⟩
      all_goals(simp only at hN;omega)
     rw[<-ZU];clear hb5 hSO hNO hks hS5 HC13 XD ZC HB3 HXO ZU;go_wp2_with fail;go_loopw[58] (fun i w6=>∃q:Nat,q<=ks.length/\i=.int .i64 q/\Hid (∃n M,Grp w6 w.heap.size n M (E3++(ks.take q).map (fun a:Al=>(((a.t,a.s),⟨rs[k].name,rs[k].rows[j].name,dv⟩):Ky×St)))/\n<=k*540+j*90+m*6+q/\(E3++(ks.take q).map (fun a:Al=>(((a.t,a.s),⟨rs[k].name,rs[k].rows[j].name,dv⟩):Ky×St))).length<=k*540+j*90+m*6+q/\(Cel w6 M w.heap.size g7 0 (.string rs[k].name)/\Cel w6 M w.heap.size g9 0 (.string rs[k].rows[j].name)/\∀(i:Nat) (h:i<rs[k].rows[j].rows.length),Cel w6 M w.heap.size gA i (.bool ((dC (ak rs[k].rows[j].rows)).getD i false)))/\(Cel w6 M w.heap.size g13 0 (.string rs[k].name)/\Cel w6 M w.heap.size g13 1 (.string rs[k].rows[j].name)/\Cel w6 M w.heap.size g13 2 (.int .i64 dv))/\(ks=[] \/ ∃gO Xn,Yp=some ⟨gO,Xn,none⟩/\∀(i:Nat) (h:i<ks.length),Cel w6 M w.heap.size gO (Xn+i*2) (.string ks[i].t)/\Cel w6 M w.heap.size gO (Xn+i*2+1) (.string ks[i].s)))/\Hid (ae w w6)) (fun i _=>ks.length-(intOf i).toNat);case atStart=>exact⟨0,Vf _,rfl,⟨n3,M3,by simpa using HG5.out,by omega,by simpa using hE3,Zt.out,HD5.out,WF.out⟩,XH⟩
     clear HG5 XH Zt HD5 WF HB;obtain⟨q,hq,rfl,HG,HB⟩:=hrel;by_cases hql:q<ks.length
     ·obtain⟨n6,M6,hG6,hn6,hE6,hC6,hD6,Z7⟩:=HG.out;rcases Z7 with hnil|⟨gO,Xn,ZW,hcO⟩
      ·rw[hnil]at hql;simp at hql
      have x0:=(hcO q hql).1.cell;have x1:=(hcO q hql).2.cell;have y0:=hD6.1.cell;have y1:=hD6.2.1.cell;have y2:=hD6.2.2.cell;have yl:=hD6.1.lt;have hq1:=bC q;have hq2:(q:Int)<(ks.length:Int):=by omega
      obtain⟨E6,hE6d⟩:∃E6,E6=E3++(ks.take q).map (fun a:Al=>(((a.t,a.s),⟨rs[k].name,rs[k].rows[j].name,dv⟩):Ky×St)):=⟨_,rfl⟩;rw[<-hE6d]at hG6 hE6;have HE6D:Hid (E6=E3++(ks.take q).map (fun a:Al=>(((a.t,a.s),⟨rs[k].name,rs[k].rows[j].name,dv⟩):Ky×St))):=hE6d;obtain⟨W6,hW6⟩:∃W6,W6=((wr.alloc (.cells #[.string ks[q].t,.string ks[q].s] 94)).alloc (.cells #[.string rs[k].name,.string rs[k].rows[j].name,.int .i64 dv] 274)):=⟨_,rfl⟩;have hal:ae wr W6:=by
       rw[hW6]
       repeat(first|exact Vb _ _|refine Below.alloc ?_ (by first|(simp;done)|(simp;omega)) _)
      have hsz6:W6.heap.size=wr.heap.size+2:=by rw[hW6];simp
      have Ye:=jF HB hal;have HG6:=aD (hG6.below hal);have HNB:Hid (W6.heap[wr.heap.size+1]?=some (.cells #[.string rs[k].name,.string rs[k].rows[j].name,.int .i64 dv] 274)):=by show _=_;rw[hW6];exact xV wr _ _
      have hbn6:w.heap.size<wr.heap.size:=hG6.map.lt;have HS6:Hid (Stl wr M6 W6 M6 w.heap.size):=Stl.below hal;have HCK:Hid ((Cel wr M6 w.heap.size g7 0 (.string rs[k].name)/\Cel wr M6 w.heap.size g9 0 (.string rs[k].rows[j].name)/\∀(i:Nat) (h:i<rs[k].rows[j].rows.length),Cel wr M6 w.heap.size gA i (.bool ((dC (ak rs[k].rows[j].rows)).getD i false)))/\(Cel wr M6 w.heap.size g13 0 (.string rs[k].name)/\Cel wr M6 w.heap.size g13 1 (.string rs[k].rows[j].name)/\Cel wr M6 w.heap.size g13 2 (.int .i64 dv))/\(ks=[] \/ ∃gO Xn,Yp=some ⟨gO,Xn,none⟩/\∀(i:Nat) (h:i<ks.length),Cel wr M6 w.heap.size gO (Xn+i*2) (.string ks[i].t)/\Cel wr M6 w.heap.size gO (Xn+i*2+1) (.string ks[i].s))):=⟨hC6,hD6,.inr ⟨gO,Xn,ZW,hcO⟩⟩;have hzz:=HKF.out _ (U8 hql);obtain⟨kl,hkl⟩:=jL (ks[q].t,ks[q].s) hzz.1 hzz.2;have Xz:Hid (keyOf prog 94 (dX (ks[q].t,ks[q].s))=some kl):=hkl;have hLL:=Eh E6 (ks[q].t,ks[q].s);have hn6b:n6<100000:=by omega
      have hLb:(lookL E6 (ks[q].t,ks[q].s)).length<100000:=by omega
      have ZR:Hid (W6.heap.size=wr.heap.size+2):=hsz6;rw[ZW];clear hal hG6 hC6 hD6 hcO hkl HG hE6d hzz hLL hsz6
      go_wp2_with (first
       | (at_builtin;refine wpList_append_own_at _ rfl _ _ 272 rfl (w.heap.size+1) 274 i0 _ 3 40 underlying272 hi hz0 hz1 hz2 rfl (by decide) _ _ _ rfl ((wO HG6.out (ks[q].t,ks[q].s)).kept Y9 (.inr (Ne.symm (Qi HG6.out (ks[q].t,ks[q].s))))) ⟨wr.heap.size+1,0,none⟩ 1 1 [.string rs[k].name,.string rs[k].rows[j].name,.int .i64 dv] rfl rfl (World.news_of_block (cs:=#[.string rs[k].name,.string rs[k].rows[j].name,.int .i64 dv]) (t:=274) (fr:=(0,0)) ((Y9.block (wr.heap.size+1) (by rw[ZR.out];omega) (by simp;omega)).trans HNB.out)) (by simp[Value.oneCell']) (by unfold maxLen;omega) (by omega) (by have h1:=Y9.size;rw[ZR.out]at h1;omega) ?_;intro v' w8 XE Zk hnil8 hloc8)
       | (rw[<-hW6];refine Cs _ rfl _ _ 211 rfl 94 272 KZ vC underlying211 Ke w.heap.size n6 M6 rfl HG6.out.map (by unfold maxLen;omega) (ks[q].t,ks[q].s) kl rfl Xz.out ?_;intro st7 w7 Y9 hback;clear hW6 x0 x1 y0 y1 y2)
       | (refine uk _ rfl _ _ _ 211 rfl w.heap.size st7 rfl rfl v' rfl 94 (n6+1) (lX M6 (ks[q].t,ks[q].s) (some v')) (hback w8 v' (Zk.block w.heap.size (by have h1:=Y9.size;rw[ZR.out]at h1;omega) (Qi HG6.out (ks[q].t,ks[q].s)))) ?_;intro w9 hM9 hg9))
      have hst:=HG6.out.step (s:=(⟨rs[k].name,rs[k].rows[j].name,dv⟩:St)) Y9 XE Zk hloc8 hg9 hM9;have HBN:Hid (ae w w9):=by
       have hs1:=Ye.out.size;have b7:ae w w7:=Ye.out.grown Y9 hs1 (fun i hi=>by injection hi with hi;omega);have b8:ae w w8:=b7.grown Zk b7.size (fun i hi=>by have:=((wO HG6.out (ks[q].t,ks[q].s)).lt i hi).1;omega);exact b8.grown hg9 b8.size (fun i hi=>by injection hi with hi;omega)
      have HGN:Hid (∃n M,Grp w9 w.heap.size n M (E3++(ks.take (q+1)).map (fun a:Al=>(((a.t,a.s),⟨rs[k].name,rs[k].rows[j].name,dv⟩):Ky×St)))/\n<=k*540+j*90+m*6+(q+1)/\(E3++(ks.take (q+1)).map (fun a:Al=>(((a.t,a.s),⟨rs[k].name,rs[k].rows[j].name,dv⟩):Ky×St))).length<=k*540+j*90+m*6+(q+1)/\(Cel w9 M w.heap.size g7 0 (.string rs[k].name)/\Cel w9 M w.heap.size g9 0 (.string rs[k].rows[j].name)/\∀(i:Nat) (h:i<rs[k].rows[j].rows.length),Cel w9 M w.heap.size gA i (.bool ((dC (ak rs[k].rows[j].rows)).getD i false)))/\(Cel w9 M w.heap.size g13 0 (.string rs[k].name)/\Cel w9 M w.heap.size g13 1 (.string rs[k].rows[j].name)/\Cel w9 M w.heap.size g13 2 (.int .i64 dv))/\(ks=[] \/ ∃gO Xn,Yp=some ⟨gO,Xn,none⟩/\∀(i:Nat) (h:i<ks.length),Cel w9 M w.heap.size gO (Xn+i*2) (.string ks[i].t)/\Cel w9 M w.heap.size gO (Xn+i*2+1) (.string ks[i].s))):=by
       have hS9:=HS6.out.trans hst.2;have e:E3++(ks.take (q+1)).map (fun a:Al=>(((a.t,a.s),⟨rs[k].name,rs[k].rows[j].name,dv⟩):Ky×St))=E6++[((ks[q].t,ks[q].s),(⟨rs[k].name,rs[k].rows[j].name,dv⟩:St))]:=by
        rw[Ve hql,VX,<-VD,<-HE6D.out];rfl
       obtain⟨k1,k2,k3⟩:=HCK.out;refine⟨n6+1,_,by rw[e];exact hst.1,by omega,by rw[e,Vh];simp;omega,⟨k1.1.stl hS9,k1.2.1.stl hS9,fun i h=>(k1.2.2 i h).stl hS9⟩,⟨k2.1.stl hS9,k2.2.1.stl hS9,k2.2.2.stl hS9⟩,?_⟩;rcases k3 with hnil|⟨gO',offO',e1,hc⟩
       ·exact .inl hnil
       exact .inr ⟨gO',offO',e1,fun i h=>⟨(hc i h).1.stl hS9,(hc i h).2.stl hS9⟩⟩
      clear hst Y9 hback XE Zk hnil8 hloc8 hg9 hM9;go_wp2;go_roundw;case rel=>exact⟨q+1,by omega,by go_num,(by rw[ZW]at HGN;exact HGN),HBN⟩
      simp[intOf]<;>omega
     obtain rfl:q=ks.length:=by omega
     have HGN:Hid (∃n M,Grp wr w.heap.size n M (E2++relE (ag rs) rs[k].name rs[k].rows[j].name (ak rs[k].rows[j].rows) (m+1))/\n<=k*540+j*90+(m+1)*6/\(E2++relE (ag rs) rs[k].name rs[k].rows[j].name (ak rs[k].rows[j].rows) (m+1)).length<=k*540+j*90+(m+1)*6/\(Cel wr M w.heap.size g7 0 (.string rs[k].name)/\Cel wr M w.heap.size g9 0 (.string rs[k].rows[j].name)/\∀(i:Nat) (h:i<rs[k].rows[j].rows.length),Cel wr M w.heap.size gA i (.bool ((dC (ak rs[k].rows[j].rows)).getD i false)))):=by
      obtain⟨n,M,h1,hn,h2,h3,-,-⟩:=HG.out;rw[Vs]at h1 h2;have e:E2++relE (ag rs) rs[k].name rs[k].rows[j].name (ak rs[k].rows[j].rows) (m+1)=E3++ks.map (fun a:Al=>(((a.t,a.s),⟨rs[k].name,rs[k].rows[j].name,dv⟩):Ky×St)):=by
       rw[Ef _ _ _ _ _ Xd _ HNG.out,<-VD,<-HE3D.out,HKS.out,HDE.out];rfl
      refine⟨n,M,by rw[e];exact h1,by omega,by rw[e];omega,h3⟩
     clear HG;go_wp2;go_roundw;case rel=>exact⟨m+1,by omega,by go_num,HGN,HB⟩
     simp[intOf]<;>omega
   obtain rfl:m=rs[k].rows[j].rows.length:=by omega
   have HGN:Hid (∃n M,Grp wr w.heap.size n M (E1++jC (ag rs) rs[k].name (rs[k].rows.take (j+1)))/\n<=k*540+(j+1)*90/\(E1++jC (ag rs) rs[k].name (rs[k].rows.take (j+1))).length<=k*540+(j+1)*90/\Cel wr M w.heap.size g7 0 (.string rs[k].name)):=by
    obtain⟨n,M,h1,hn,h2,h3⟩:=HG.out;have e:E1++jC (ag rs) rs[k].name (rs[k].rows.take (j+1))=E2++relE (ag rs) rs[k].name rs[k].rows[j].name (ak rs[k].rows[j].rows) rs[k].rows[j].rows.length:=by
     rw[Ka _ _ _ _ hjl,<-VD,<-HE2D.out]
    refine⟨n,M,?_,by omega,?_,h3.1⟩
    ·rw[e];exact h1
    rw[e];omega
   go_wp2;go_roundw;case rel=>exact⟨j+1,by omega,by go_num,HGN,HB⟩
   simp[intOf]<;>omega
  obtain rfl:j=rs[k].rows.length:=by omega
  have HGN:Hid (∃n M,Grp wr w.heap.size n M (jD (ag rs) (rs.take (k+1)))/\n<=(k+1)*540/\(jD (ag rs) (rs.take (k+1))).length<=(k+1)*540):=by
   obtain⟨n,M,h1,hn,h2,h3⟩:=HG.out;rw[Vs]at h1 h2;have e:jD (ag rs) (rs.take (k+1))=E1++jC (ag rs) rs[k].name rs[k].rows:=by rw[Kb _ _ _ hlt,<-HE1D.out]
   refine⟨n,M,?_,by omega,?_⟩
   ·rw[e];exact h1
   rw[e];omega
  go_wp2;go_roundw;case rel=>exact⟨k+1,by omega,by go_num,HGN,HB⟩
  simp[intOf]<;>omega
 obtain rfl:k=rs.length:=by omega
 have HGN:Hid (∃n M,Grp wr w.heap.size n M (jD (ag rs) rs)):=by
  obtain⟨n,M,h1,-⟩:=HG.out;rw[Vs]at h1;exact⟨n,M,h1⟩
 go_wp2;go_ret;exact⟨rfl,HGN.out,HB.out⟩
def Edge(ts:Q0b)(E:List (Ky×St)):Prop:=∀on t r s,(on,⟨t,r,s⟩)∈E↔(t,r)∈au ts/\∃d∈iG ts (t,r),(d.typ,d.rel)=on/\stepOf d=s
def xX:Option Int->Int
 | none=>0
 | some x=>x+1
def oK(N:Nat)(σ:Ky->Option Int):List Ky->Int
 | []=>0
 | k::ks=>((N:Int)-xX (σ k))+oK N σ ks
structure Rz(ts:Q0b)(N:Nat)(σ:Ky->Option Int):Prop where
 there:∀k x,σ k=some x->k∈au ts/\0<=x/\x<N/\qJ ts k x
def IV(σ:Ky->Option Int)(k:Ky)(x:Int):Ky->Option Int:=fun y=>if y=k then some x else σ y
theorem oL(σ:Ky->Option Int)(k:Ky)(x:Int):IV σ k x k=some x:=by simp[IV]
theorem sF{σ:Ky->Option Int}{k y:Ky}{x:Int}(h:y≠k):IV σ k x y=σ y:=by simp[IV,h]
theorem Rz.val{ts:Q0b}{N:Nat}{σ:Ky->Option Int}(h:Rz ts N σ)(k:Ky):0<=xX (σ k)/\xX (σ k)<=N:=by
 cases e:σ k with
 | none=>simp[xX]
 | some x=>have:=h.there k x e;simp only[xX];omega
theorem Rz.mu_pos{ts:Q0b}{N:Nat}{σ:Ky->Option Int}(h:Rz ts N σ)(ks:List Ky):0<=oK N σ ks:=by
 induction ks with
 | nil=>simp[oK]
 | cons k ks ih=>have:=h.val k;simp only[oK];omega
theorem Rz.set{ts:Q0b}{N:Nat}{σ:Ky->Option Int}(h:Rz ts N σ){k:Ky}{x:Int}(hk:k∈au ts)(h0:0<=x)(hN:x<N)(hl:qJ ts k x):Rz ts N (IV σ k x):=⟨fun y z hz=>by
 by_cases e:y=k
 ·subst e;rw[oL]at hz;injection hz with hz;subst hz;exact⟨hk,h0,hN,hl⟩
 rw[sF e]at hz;exact h.there y z hz⟩
def wP(σ σ':Ky->Option Int):Prop:=∀k x,σ k=some x->∃y,σ' k=some y/\x<=y
theorem wP.refl(σ:Ky->Option Int):wP σ σ:=fun _ x h=>⟨x,h,Int.le_refl _⟩
theorem wP.trans{a b c:Ky->Option Int}(h:wP a b)(h2:wP b c):wP a c:=fun k x hx=>by
 obtain⟨y,hy,h3⟩:=h k x hx;obtain⟨z,hz,h4⟩:=h2 k y hy;exact⟨z,hz,by omega⟩
theorem wP.val{σ σ':Ky->Option Int}{ts:Q0b}{N:Nat}(h:wP σ σ')(hR:Rz ts N σ')(k:Ky):xX (σ k)<=xX (σ' k):=by
 cases e:σ k with
 | none=>exact(hR.val k).1
 | some x=>obtain⟨y,hy,h2⟩:=h k x e;rw[hy];simp only[xX];omega
theorem wP.mu{σ σ':Ky->Option Int}{ts:Q0b}{N:Nat}(h:wP σ σ')(hR:Rz ts N σ')(ks:List Ky):oK N σ' ks<=oK N σ ks:=by
 induction ks with
 | nil=>exact Int.le_refl _
 | cons k ks ih=>have:=h.val hR k;simp only[oK];omega
theorem zz{σ:Ky->Option Int}{k:Ky}{x:Int}(h:∀y,σ k=some y->y<x):wP σ (IV σ k x):=fun y z hz=>by
 by_cases e:y=k
 ·subst e;exact⟨x,oL _ _ _,by have:=h z hz;omega⟩
 exact⟨z,by rw[sF e];exact hz,Int.le_refl _⟩
theorem UR{σ:Ky->Option Int}{ts:Q0b}{N:Nat}{k:Ky}{x:Int}(hR:Rz ts N (IV σ k x))(h:∀y,σ k=some y->y<x)(h0:0<=x)(ks:List Ky)(hk:k∈ks):oK N (IV σ k x) ks+1<=oK N σ ks:=by
 induction ks with
 | nil=>cases hk
 | cons y ks ih =>
  simp only[oK];have hm:=(zz h).mu hR ks;have hv:=(zz h).val hR y;rcases Vq.1 hk with rfl|hk
  ·have:xX (σ k)+1<=xX (IV σ k x k):=by
    rw[oL];cases e:σ k with
    | none=>simp only[xX];omega
    | some z=>have:=h z e;simp only[xX];omega
   omega
  have:=ih hk;omega
def sG(E:List (Ky×St))(σ:Ky->Option Int)(k:Ky):Prop:=∀x,σ k=some x->∀s∈lookL E k,∃y,σ s.key=some y/\x+s.n<=y
structure Raised(E:List (Ky×St))(σ σ':Ky->Option Int):Prop where
 mono:wP σ σ'
 done:∀k,(sG E σ k\/σ' k≠σ k)->sG E σ' k
theorem Raised.refl(E:List (Ky×St))(σ:Ky->Option Int):Raised E σ σ:=⟨wP.refl _,fun _ h=>h.elim id (fun e=>absurd rfl e)⟩
theorem Raised.trans{E:List (Ky×St)}{a b c:Ky->Option Int}(h:Raised E a b)(h2:Raised E b c):Raised E a c:=⟨h.mono.trans h2.mono,fun k hk=>by
 by_cases e:c k=b k
 ·by_cases e2:b k=a k
  ·rcases hk with hk|hk
   ·exact h2.done k (.inl (h.done k (.inl hk)))
   exact absurd (e.trans e2) hk
  exact h2.done k (.inl (h.done k (.inr e2)))
 exact h2.done k (.inr e)⟩
structure Half(E:List (Ky×St))(σ:Ky->Option Int)(key:Ky)(x:Int)(j:Nat)(σ':Ky->Option Int):Prop where
 mono:wP σ σ'
 done:∀k,k≠key->(sG E σ k\/σ' k≠σ k)->sG E σ' k
 own:sG E σ' key\/(σ' key=some x/\∀s∈(lookL E key).take j,∃y,σ' s.key=some y/\x+s.n<=y)
 at':∃y,σ' key=some y/\x<=y
theorem Half.start{E:List (Ky×St)}{σ:Ky->Option Int}{key:Ky}{x:Int}(h:∀y,σ key=some y->y<x):Half E σ key x 0 (IV σ key x) where
 mono:=zz h
 done k hk hs:=by
  have e:IV σ key x k=σ k:=sF hk;rcases hs with hs|hs
  ·intro z hz s hm;rw[e]at hz;obtain⟨y,hy,hle⟩:=hs z hz s hm;obtain⟨y',hy',h2⟩:=zz h _ y hy;exact⟨y',hy',by omega⟩
  exact absurd e hs
 own:=.inr ⟨oL _ _ _,fun s hs=>by simp at hs⟩
 at':=⟨x,oL _ _ _,Int.le_refl _⟩
theorem Half.step{E:List (Ky×St)}{σ σ1 σ2:Ky->Option Int}{key:Ky}{x:Int}{j:Nat}(h:Half E σ key x j σ1)(hj:j<(lookL E key).length)(hR:Raised E σ1 σ2)(hy:∃y,σ2 (lookL E key)[j].key=some y/\x+(lookL E key)[j].n<=y):Half E σ key x (j+1) σ2 where
 mono:=h.mono.trans hR.mono
 done k hk hs:=by
  by_cases e:σ2 k=σ1 k
  ·by_cases e2:σ1 k=σ k
   ·rcases hs with hs|hs
    ·exact hR.done k (.inl (h.done k hk (.inl hs)))
    exact absurd (e.trans e2) hs
   exact hR.done k (.inl (h.done k hk (.inr e2)))
  exact hR.done k (.inr e)
 own:=by
  rcases h.own with ho|⟨h1,h2⟩
  ·exact .inl (hR.done key (.inl ho))
  by_cases e:σ2 key=σ1 key
  ·refine .inr ⟨e.trans h1,fun s hs=>?_⟩;rw[Ve hj]at hs;rcases Vn.1 hs with hs|hs
   ·obtain⟨y,hy1,hy2⟩:=h2 s hs;obtain⟨z,hz,h3⟩:=hR.mono _ y hy1;exact⟨z,hz,by omega⟩
   simp at hs;subst hs;exact hy
  exact .inl (hR.done key (.inr e))
 at':=by
  obtain⟨y,hy,h1⟩:=h.at';obtain⟨z,hz,h2⟩:=hR.mono key y hy;exact⟨z,hz,by omega⟩
theorem Half.full{E:List (Ky×St)}{σ σ':Ky->Option Int}{key:Ky}{x:Int}{j:Nat}(h:Half E σ key x j σ')(hj:(lookL E key).length<=j):Raised E σ σ' where
 mono:=h.mono
 done k hk:=by
  by_cases e:k=key
  ·subst e;rcases h.own with ho|⟨h1,h2⟩
   ·exact ho
   intro z hz s hs;rw[h1]at hz;injection hz with hz;subst hz;exact h2 s (by rw[VE hj];exact hs)
  exact h.done k e hk
theorem FJ{ts:Q0b}{N:Nat}{E:List (Ky×St)}{σ:Ky->Option Int}(hE:Edge ts E)(hF:Found ts)(hR:Rz ts N σ)(hall:∀k∈au ts,∃x,σ k=some x)(hs:∀k,sG E σ k):Least ts (fun k=>(σ k).getD 0) where
 sol:=⟨fun k=>by
   cases e:σ k with
   | none=>exact Int.le_refl _
   | some x=>exact(hR.there k x e).2.1,fun k hk d hd=>by
   obtain⟨x,hx⟩:=hall _ (hF k hk d hd);have hm:(⟨k.1,k.2,stepOf d⟩:St)∈lookL E (d.typ,d.rel):=mem_lookL.2 ((hE _ _ _ _).2 ⟨hk,d,hd,rfl,rfl⟩);obtain⟨y,hy,h2⟩:=hs _ x hx _ hm;have hy':σ k=some y:=hy;simp only[hx,hy',VO];exact h2⟩
 low k hk:=by
  obtain⟨x,hx⟩:=hall k hk;simp only[hx,VO];exact(hR.there k x hx).2.2.2
theorem Edge.low{ts:Q0b}{E:List (Ky×St)}(hE:Edge ts E){k:Ky}{x:Int}(hl:qJ ts k x){s:St}(hs:s∈lookL E k):s.key∈au ts/\qJ ts s.key (x+s.n)/\0<=s.n/\s.n<=1:=by
 obtain⟨h1,d,hd,e1,e2⟩:=(hE k s.typ s.rel s.n).1 (mem_lookL.1 hs);have:=Bc d;refine⟨h1,?_,by omega,by omega⟩;rw[<-e2];exact qJ.step h1 hd (by rw[e1];exact hl)
def jh(σ:Ky->Option Int):Ky->Option Value:=fun k=>(σ k).map fun x=>Value.int .i64 x
theorem R8(σ:Ky->Option Int)(k:Ky)(x:Int):lX (jh σ) k (some (.int .i64 x))=jh (IV σ k x):=by
 funext y
 unfold jh;by_cases e:y=k
 ·subst e;rw[ed,oL];rfl
 rw[dm e,sF e]
theorem wQ(u:af):(zeroValue 2).run prog u=.ok (.int .i64 0) u:=by kernel_rfl
def FK(gS gC gL gR:Nat):Value:=.func (Fn.func 186) #[] #[.pointer (some ⟨gS,0,none⟩),.pointer (some ⟨gC,0,none⟩),.pointer (some ⟨gL,0,none⟩),.pointer (some ⟨gR,0,none⟩)]
structure Rw(w:World)(gS gC gL gR bS bL N n nL:Nat)(ML:Ky->Option Value)(E:List (Ky×St))(σ:Ky->Option Int):Prop where
 cS:w.cell? ⟨gS,0,none⟩=some (.map (some bS))
 cC:w.cell? ⟨gC,0,none⟩=some (.int .i64 N)
 cL:w.cell? ⟨gL,0,none⟩=some (.map (some bL))
 cR:w.cell? ⟨gR,0,none⟩=some (FK gS gC gL gR)
 lS:gS<w.heap.size/\gS≠bS
 lC:gC<w.heap.size/\gC≠bS
 lL:gL<w.heap.size/\gL≠bS
 lR:gR<w.heap.size/\gR≠bS
 map:aM dX prog 94 w bS n (jh σ)
 lean:Grp w bL nL ML E
 bne:bL≠bS
 free:FreeB ML bS
theorem kX{w w':af}{b g:Nat}(hg:w.grownBy w' (some b))(hl:g<w.heap.size/\g≠b)(o:Nat):w'.cell? ⟨g,o,none⟩=w.cell? ⟨g,o,none⟩:=Vx (w:=w) (hg.block g hl.1 (fun e=>hl.2 (by injection e)))
theorem Grp.kept{w w':af}{bL n b:Nat}{M:Ky->Option Value}{E:List (Ky×St)}(h:Grp w bL n M E)(hg:w.grownBy w' (some b))(hb:bL≠b)(hf:FreeB M b):Grp w' bL n M E where
 map:=h.map.kept hg (by intro e;injection e with e;exact hb e)
 row k:=by
  rcases h.row k with e|⟨v,e,ho⟩
  ·exact .inl e
  exact .inr ⟨v,e,ho.kept hg (.inr (hf k v e))⟩
 apart:=h.apart
theorem Rw.kept{w w':af}{gS gC gL gR bS bL N n n' nL:Nat}{ML:Ky->Option Value}{E:List (Ky×St)}{σ σ':Ky->Option Int}(h:Rw w gS gC gL gR bS bL N n nL ML E σ)(hg:w.grownBy w' (some bS))(hM:aM dX prog 94 w' bS n' (jh σ')):Rw w' gS gC gL gR bS bL N n' nL ML E σ' where
 cS:=(kX hg h.lS 0).trans h.cS
 cC:=(kX hg h.lC 0).trans h.cC
 cL:=(kX hg h.lL 0).trans h.cL
 cR:=(kX hg h.lR 0).trans h.cR
 lS:=⟨U9 h.lS.1 hg.size,h.lS.2⟩
 lC:=⟨U9 h.lC.1 hg.size,h.lC.2⟩
 lL:=⟨U9 h.lL.1 hg.size,h.lL.2⟩
 lR:=⟨U9 h.lR.1 hg.size,h.lR.2⟩
 map:=hM
 lean:=h.lean.kept hg h.bne h.free
 bne:=h.bne
 free:=h.free
theorem jE{w w':af}{b:Nat}(h:ae w w'):w.grownBy w' (some b):=⟨h.os,h.tape,h.output,h.size,fun k hk _=>h.block k hk⟩
theorem Rw.below{w w':af}{gS gC gL gR bS bL N n nL:Nat}{ML:Ky->Option Value}{E:List (Ky×St)}{σ:Ky->Option Int}(h:Rw w gS gC gL gR bS bL N n nL ML E σ)(hB:ae w w'):Rw w' gS gC gL gR bS bL N n nL ML E σ:=h.kept (jE hB) (h.map.below hB)
theorem nN{a b c:af}{r:Option Nat}(h:a.grownBy b r)(h2:b.grownBy c r):a.grownBy c r:=⟨h2.os.trans h.os,h2.tape.trans h.tape,h2.output.trans h.output,Vj h.size h2.size,fun k hk hr=>(h2.block k (U9 hk h.size) hr).trans (h.block k hk hr)⟩
def Kg(ts:Q0b)(w:World)(gS gC gL gR bS bL N n nL:Nat)(ML:Ky->Option Value)(E:List (Ky×St))(σ:Ky->Option Int)(key:Ky)(lv:Int)(e:Ending)(w':World):Prop :=
 ∃(ok:Bool) (σ':Ky->Option Int) (n':Nat),e=.returned (.bool ok)/\w.grownBy w' (some bS)/\Rw w' gS gC gL gR bS bL N n' nL ML E σ'/\Rz ts N σ'/\(n':Int)+oK N σ' (au ts)<=n+oK N σ (au ts)/\oK N σ' (au ts)<=oK N σ (au ts) /\
  (ok=false->¬ ∃f,Sol ts f)/\(ok=true->Raised E σ σ'/\∃x,σ' key=some x/\lv<=x)
set_option maxRecDepth 100000 in
theorem Nl(ts:Q0b)(gS gC gL gR bS bL N nL:Nat)(ML:Ky->Option Value)(E:List (Ky×St))(hE:Edge ts E)(hF:Found ts)(hN:N=(au ts).length)(hN36:N<=36)(hsz:∀k∈au ts,k.1.size<=maxLen/\k.2.size<=maxLen)(hEl:E.length<=100000)(f:Nat):
  ∀(w:World) (σ:Ky->Option Int) (n:Nat) (key:Ky) (lv:Int),Rw w gS gC gL gR bS bL N n nL ML E σ->Rz ts N σ->oK N σ (au ts)<=f->(n:Int)+oK N σ (au ts)<=100000->key∈au ts->0<=lv->lv<=100->qJ ts key lv ->
  Calls prog 186 #[.agg #[.string key.1,.string key.2],.int .i64 lv,.pointer (some ⟨gS,0,none⟩),.pointer (some ⟨gC,0,none⟩),.pointer (some ⟨gL,0,none⟩),.pointer (some ⟨gR,0,none⟩)] w (Kg ts w gS gC gL gR bS bL N n nL ML E σ key lv):=by
 have HE:=aD hE;have HF:=aD hF;have ZR:Hid (∀k∈au ts,k.1.size<=maxLen/\k.2.size<=maxLen):=hsz;have XR:Hid (N=(au ts).length):=hN;clear hE hF hsz hN
 induction f using Nat.strongRecOn with
 | _ f ih =>
 intro w σ n key lv hR hZ hmu hnm hk h0 h1 hl;have HIH:Hid (∀m<f,_):=ih;clear ih;obtain⟨hz1,hz2⟩:=ZR.out key hk;obtain⟨kl,hkl⟩:=jL key hz1 hz2;have Xz:Hid (keyOf prog 94 (dX key)=some kl):=hkl;have HR:=aD hR;have HZ:=aD hZ;have HLK:=aD hl;have HKM:=aD hk;have hmp:=hZ.mu_pos (au ts);have cS:=hR.cS;have cC:=hR.cC;have cL:=hR.cL;have lS:=hR.lS.1;have lC:=hR.lC.1;have lL:=hR.lL.1;have hbS:=hR.map.lt;have hal:ae w (w.alloc (.cells #[.string key.1,.string key.2] 94)):=(Vb _ _).alloc (Va _) _;have WM:=aD hal;have ZI:Hid (aM dX prog 94 (w.alloc (.cells #[.string key.1,.string key.2] 94)) bS n (jh σ)):=hR.map.below hal;have HR1:=aD (hR.below hal);clear hR hZ hl hkl hal hk;by_cases hd:∃x,σ key=some x/\lv<=x
 ·obtain⟨x,hx,hle⟩:=hd;obtain⟨-,hx0,hxN,-⟩:=HZ.out.there key x hx;have hlk:jh σ key=some (.int .i64 x):=by unfold jh;rw[hx];rfl
  have HX:Hid (σ key=some x):=hx;clear hx;go_enter func186,ntmps186;go_wp2_with(at_lookup;refine dQ _ rfl _ _ 153 rfl 94 2 iW underlying153 (wQ _) bS n (jh σ) rfl ZI.out key kl rfl Xz.out ?_;simp only[hlk,VO,Option.isSome_some]);go_ret;exact⟨true,σ,n,rfl,jE WM.out,HR1.out,HZ.out,Int.le_refl _,Int.le_refl _,by simp,fun _=>⟨Raised.refl _ _,x,HX.out,hle⟩⟩
 have HLT:Hid (∀y,σ key=some y->y<lv):=fun y hy=>by
  by_cases h:lv<=y
  ·exact absurd ⟨y,hy,h⟩ hd
  omega
 clear hd;by_cases hNt:(N:Int)<=lv
 ·have XI:Hid (¬ ∃f,Sol ts f):=Jn HF.out HKM.out HLK.out (by have:=XR.out;omega);cases hs:σ key with
  | none =>
   have hlk:jh σ key=none:=by unfold jh;rw[hs];rfl
   clear hs;go_enter func186,ntmps186;go_wp2_with(at_lookup;refine dQ _ rfl _ _ 153 rfl 94 2 iW underlying153 (wQ _) bS n (jh σ) rfl ZI.out key kl rfl Xz.out ?_;simp only[hlk,Option.getD_none,Option.isSome_none]);go_ret;exact⟨false,σ,n,rfl,jE WM.out,HR1.out,HZ.out,Int.le_refl _,Int.le_refl _,fun _=>XI.out,by simp⟩
  | some x =>
   have hxt:x<lv:=HLT.out x hs;obtain⟨-,hx0,hxN,-⟩:=HZ.out.there key x hs;have hlk:jh σ key=some (.int .i64 x):=by unfold jh;rw[hs];rfl
   clear hs;go_enter func186,ntmps186;go_wp2_with(at_lookup;refine dQ _ rfl _ _ 153 rfl 94 2 iW underlying153 (wQ _) bS n (jh σ) rfl ZI.out key kl rfl Xz.out ?_;simp only[hlk,VO,Option.isSome_some]);go_ret;exact⟨false,σ,n,rfl,jE WM.out,HR1.out,HZ.out,Int.le_refl _,Int.le_refl _,fun _=>XI.out,by simp⟩
 have hNt':lv<(N:Int):=by omega
 have HZ2:Hid (Rz ts N (IV σ key lv)):=HZ.out.set HKM.out h0 hNt' HLK.out;have HMU:Hid (oK N (IV σ key lv) (au ts)+1<=oK N σ (au ts)):=UR HZ2.out HLT.out h0 _ HKM.out;obtain⟨WY,cpL,hvl,hrow⟩:=RN (wO HR.out.lean key);have HVL:Hid ((ML key).getD (.slice none 0 0)=.slice WY (lookL E key).length cpL):=hvl;have hll:(lookL E key).length<=100000:=Vj (Eh _ _) hEl;clear hvl hrow;cases hs:σ key
 case' none =>
  have hlk:jh σ key=none:=by unfold jh;rw[hs];rfl
  clear hs;go_enter func186,ntmps186
  go_wp2_with (first
   | (at_lookup;refine dQ _ rfl _ _ 153 rfl 94 2 iW underlying153 (wQ _) bS n (jh σ) rfl ZI.out key kl rfl Xz.out ?_;simp only[hlk,Option.getD_none,Option.isSome_none])
   | (at_mapUpdate;refine jd _ rfl _ _ _ 153 rfl 94 2 iW vC underlying153 bS n (jh σ) rfl ZI.out (by unfold maxLen;omega) key kl rfl Xz.out (.int .i64 lv) rfl ?_;intro w2 hV2 hg2;have cL2:w2.cell? ⟨gL,0,none⟩=some (.map (some bL)):=(kX hg2 HR1.out.lL 0).trans HR1.out.cL;have k0:w2.cell? ⟨w.heap.size,0,none⟩=some (.string key.1):=(kX hg2 ⟨by simp,by omega⟩ 0).trans (by simp);have k1:w2.cell? ⟨w.heap.size,1,none⟩=some (.string key.2):=(kX hg2 ⟨by simp,by omega⟩ 1).trans (by simp))
   | (at_lookup;refine jK _ rfl _ _ 211 rfl 94 272 iW underlying211 (Ke _) bL nL ML rfl ((HR1.out.lean.kept hg2 HR1.out.bne HR1.out.free).map) key kl rfl Xz.out ?_;rw[HVL.out]))
 case' some x =>
  have hxt:x<lv:=HLT.out x hs;obtain⟨-,hx0,hxN,-⟩:=HZ.out.there key x hs;have hlk:jh σ key=some (.int .i64 x):=by unfold jh;rw[hs];rfl
  clear hs;go_enter func186,ntmps186
  go_wp2_with (first
   | (at_lookup;refine dQ _ rfl _ _ 153 rfl 94 2 iW underlying153 (wQ _) bS n (jh σ) rfl ZI.out key kl rfl Xz.out ?_;simp only[hlk,VO,Option.isSome_some])
   | (at_mapUpdate;refine jd _ rfl _ _ _ 153 rfl 94 2 iW vC underlying153 bS n (jh σ) rfl ZI.out (by unfold maxLen;omega) key kl rfl Xz.out (.int .i64 lv) rfl ?_;intro w2 hV2 hg2;have cL2:w2.cell? ⟨gL,0,none⟩=some (.map (some bL)):=(kX hg2 HR1.out.lL 0).trans HR1.out.cL;have k0:w2.cell? ⟨w.heap.size,0,none⟩=some (.string key.1):=(kX hg2 ⟨by simp,by omega⟩ 0).trans (by simp);have k1:w2.cell? ⟨w.heap.size,1,none⟩=some (.string key.2):=(kX hg2 ⟨by simp,by omega⟩ 1).trans (by simp))
   | (at_lookup;refine jK _ rfl _ _ 211 rfl 94 272 iW underlying211 (Ke _) bL nL ML rfl ((HR1.out.lean.kept hg2 HR1.out.bne HR1.out.free).map) key kl rfl Xz.out ?_;rw[HVL.out]))
 all_goals
  have HR2:Hid (Rw w2 gS gC gL gR bS bL N (n+1) nL ML E (IV σ key lv)):=HR1.out.kept hg2 (by rw[<-R8];exact hV2);have HG2:Hid (w.grownBy w2 (some bS)):=nN (jE WM.out) hg2;clear hV2 hg2 cL2 k0 k1;go_loopw[35] (fun i w3=>∃j:Nat,j<=(lookL E key).length/\i=.int .i64 j/\Hid (∃(σ3:Ky->Option Int) (n3:Nat),Half E σ key lv j σ3/\Rw w3 gS gC gL gR bS bL N n3 nL ML E σ3/\Rz ts N σ3/\(n3:Int)+oK N σ3 (au ts)<=n+oK N σ (au ts)/\oK N σ3 (au ts)+1<=oK N σ (au ts)/\w.grownBy w3 (some bS))) (fun i _=>(lookL E key).length-(intOf i).toNat);case atStart=>exact⟨0,Vf _,rfl,⟨IV σ key lv,n+1,Half.start HLT.out,HR2.out,HZ2.out,by have:=HMU.out;push_cast;omega,HMU.out,HG2.out⟩⟩
  clear HR2 HG2 HZ2 HMU;obtain⟨j,hj,rfl,HI⟩:=hrel;by_cases hjl:j<(lookL E key).length
  ·obtain⟨σ3,n3,hH3,YG,hZ3,hn3,ZP,hg3⟩:=HI.out;obtain⟨Wv,cp',hv',hrow'⟩:=RN (wO YG.lean key);rw[HVL.out]at hv';injection hv' with e1 e2 e3;subst e1;rcases hrow' with h|⟨gr,Wt,hgr1,Xj,hcr⟩
   ·omega
   obtain⟨st,hst⟩:∃st,st=(lookL E key)[j]:=⟨_,rfl⟩;have r0:wr.cell? ⟨gr,j*3,none⟩=some (.string st.typ):=hcr _ _ (by have:=l5 (lookL E key) j hjl 0 (by omega);rw[hst];simpa[St.cells] using this);have r1:wr.cell? ⟨gr,j*3+1,none⟩=some (.string st.rel):=hcr _ _ (by have:=l5 (lookL E key) j hjl 1 (by omega);rw[hst];simpa[St.cells] using this);have r2:wr.cell? ⟨gr,j*3+2,none⟩=some (.int .i64 st.n):=hcr _ _ (by have:=l5 (lookL E key) j hjl 2 (by omega);rw[hst];simpa[St.cells] using this);have HST:Hid (st=(lookL E key)[j]):=hst;obtain⟨hsk,hsl,hsn0,hsn1⟩:=HE.out.low HLK.out (s:=st) (by rw[hst];exact U8 hjl);have HSK:=aD hsk;have YQ:=aD hsl;have hj1:=bC j;have hj2:(j:Int)<((lookL E key).length:Int):=by omega
   have cR3:=YG.cR;unfold FK at cR3;have lR3:=YG.lR.1;obtain⟨W3,hW3⟩:∃W3,W3=wr.alloc (.cells #[.string st.typ,.string st.rel,.int .i64 st.n] 274):=⟨_,rfl⟩;have ZX:ae wr W3:=by rw[hW3];exact(Vb _ _).alloc (Va _) _
   have HR3:=aD (YG.below ZX);have ZC:Hid (w.grownBy W3 (some bS)):=nN hg3 (jE ZX);have HH3:=aD hH3;have HZ3:=aD hZ3;have hm3p:=hZ3.mu_pos (au ts);have HNM:Hid ((n3:Int)+oK N σ3 (au ts)<=n+oK N σ (au ts)/\oK N σ3 (au ts)+1<=oK N σ (au ts)):=⟨hn3,ZP⟩;rw[Wt];clear hcr hgr1 Xj hsk hsl hst YG ZX hH3 hZ3 hg3 HI e2 e3;go_wp2_with fail;rw[<-hW3];clear hW3 r0 r1 r2 cR3;refine(HIH.out (oK N σ3 (au ts)).toNat (by omega) _ σ3 n3 st.key (lv+st.n) HR3.out HZ3.out (by omega) (by omega) HSK.out (by omega) (by omega) YQ.out).mono ?_;rintro e w5 ⟨ok,σ5,n5,rfl,hg5,WS,hZ5,hn5,Ze,hf5,ht5⟩;cases ok;case false=>
    have HP:Hid (Kg ts w gS gC gL gR bS bL N n nL ML E σ key lv (.returned (.bool false)) w5):=by
     have h:=HNM.out;exact⟨false,σ5,n5,rfl,nN ZC.out hg5,WS,hZ5,by omega,by omega,fun _=>hf5 rfl,by simp⟩
    clear hg5 WS hZ5 hn5 Ze hf5 ht5;go_wp2;go_ret;exact HP.out
   have HI2:Hid (∃(σ3:Ky->Option Int) (n3:Nat),Half E σ key lv (j+1) σ3/\Rw w5 gS gC gL gR bS bL N n3 nL ML E σ3/\Rz ts N σ3/\(n3:Int)+oK N σ3 (au ts)<=n+oK N σ (au ts)/\oK N σ3 (au ts)+1<=oK N σ (au ts)/\w.grownBy w5 (some bS)):=by
    have h:=HNM.out;obtain⟨hRa,y,hy,hle⟩:=ht5 rfl;refine⟨σ5,n5,HH3.out.step hjl hRa ⟨y,?_,?_⟩,WS,hZ5,by omega,by omega,nN ZC.out hg5⟩
    ·rw[<-HST.out];exact hy
    rw[<-HST.out];exact hle
   clear hg5 WS hZ5 hn5 Ze hf5 ht5;go_wp2;go_roundw;case rel=>exact⟨j+1,by omega,by go_num,HI2⟩
   simp[intOf]<;>omega
  obtain rfl:j=(lookL E key).length:=by omega
  have HP:Hid (Kg ts w gS gC gL gR bS bL N n nL ML E σ key lv (.returned (.bool true)) wr):=by
   obtain⟨σ3,n3,hH3,YG,hZ3,hn3,ZP,hg3⟩:=HI.out;exact⟨true,σ3,n3,rfl,hg3,YG,hZ3,hn3,by omega,by simp,fun _=>⟨hH3.full (Va _),hH3.at'⟩⟩
  clear HI;go_wp2;go_ret;exact HP.out
set_option linter.unusedVariables false
def R9(r:RR):List Value:=[.string r.name,r.sl]
abbrev FL (w:World)(br nr:Nat)(Mr:KL->Option Value)(Er:List (KL×RR)):Prop:=G.Grp GK prog 172 147 2 R9 w br nr Mr Er
theorem H8{w:af}{br nr:Nat}{Mr:KL->Option Value}{Er:List (KL×RR)}(h:FL w br nr Mr Er){k:KL}{v:Value}(hk:Mr k=some v):∃n xs,w.ownsRow (br+1) 147 2 v n xs:=by
 rcases h.row k with⟨e,-⟩|⟨v',e,ho⟩
 ·rw[e]at hk;cases hk
 rw[e]at hk;injection hk with hk;subst hk;exact⟨_,_,ho⟩
theorem sH{w:af}{br nr g:Nat}{Mr:KL->Option Value}{Er:List (KL×RR)}{e:TypeId}{cur:Array Value}(h:FL w br nr Mr Er)(hc:w.heap[g]?=some (.cells cur e (0,0)))(hne:(147:TypeId)≠e):G.FreeB Mr g:=fun k v hk hg=>by
 obtain⟨n,xs,ho⟩:=H8 h hk;exact hne (dO ho hg hc)
theorem H9{w:af}{br nr g:Nat}{Mr:KL->Option Value}{Er:List (KL×RR)}{es:Array MapEntry}{c:Nat}(h:FL w br nr Mr Er)(hc:w.heap[g]?=some (.map es c)):G.FreeB Mr g:=fun k v hk hg=>by
 obtain⟨n,xs,ho⟩:=H8 h hk;exact Fw ho hg hc
theorem pR{K:Type}{enc:K->Value}{P:Program}{kt:TypeId}{w:af}{b n:Nat}{M:K->Option Value}(h:aM enc P kt w b n M):∃es c,w.heap[b]?=some (.map es c):=by
 obtain⟨D,⟨es,c,hb,-⟩,-⟩:=h;exact⟨es,c,hb⟩
structure DatA(w:World)(rs:Q06)(D br bp bt:Nat)(n1:Int)(nr:Nat)(Mr:KL->Option Value)(Er:List (KL×RR))(E:List (K3×Tp))(xo xu:Q0a)(np:Nat)(Mp:K3->Option Value)(vo vu:Value):Prop where
 dat:DatT w D br bp (.map (some bt)) n1 E xo xu np Mp vo vu
 tab:aM dX prog 94 w bt 36 (pJ rs)
 rel:FL w br nr Mr Er
 ord:bt<br/\br<bp
section
variable  {w w':World}{rs:Q06}{D br bp bt:Nat}{n1:Int}{nr:Nat}{Mr:KL->Option Value}{Er:List (KL×RR)}{E:List (K3×Tp)}{xo xu:Q0a}{np:Nat}{Mp:K3->Option Value}{vo vu:Value}
theorem DatA.below(h:DatA w rs D br bp bt n1 nr Mr Er E xo xu np Mp vo vu)(hb:ae w w'):DatA w' rs D br bp bt n1 nr Mr Er E xo xu np Mp vo vu:=⟨h.dat.below hb,h.tab.below hb,h.rel.below hb,h.ord⟩
theorem DatA.tell(h:DatA w rs D br bp bt n1 0 (fun _=>none) [] E xo xu np Mp vo vu){E':List (K3×Tp)}{xo' xu':Q0a}{np':Nat}{Mp':K3->Option Value}{ZM ZO:Value}(hd:DatT w' D br bp (.map (some bt)) n1 E' xo' xu' np' Mp' ZM ZO)(hb:Below bp w w'):DatA w' rs D br bp bt n1 0 (fun _=>none) [] E' xo' xu' np' Mp' ZM ZO:=by
 obtain⟨h1,h2⟩:=h.ord;exact⟨hd,h.tab.of_block (hb.block bt (by omega)),⟨h.rel.map.of_block (hb.block br (by omega)),fun k=>.inl ⟨rfl,rfl⟩,fun k k' v v' _ e=>by cases e⟩,h.ord⟩
theorem DatA.list(h:DatA w rs D br bp bt n1 nr Mr Er E xo xu np Mp vo vu){nr':Nat}{Mr':KL->Option Value}{Er':List (KL×RR)}(hg:FL w' br nr' Mr' Er')(hs:G.Stl w Mr w' Mr' br):DatA w' rs D br bp bt n1 nr' Mr' Er' E xo xu np Mp vo vu:=by
 obtain⟨h1,h2⟩:=h.ord;have hgt:=h.dat.gt;have hlt:=h.dat.lt;obtain⟨cur,hk⟩:=h.dat.kind;have hD:w'.heap[D]?=w.heap[D]?:=hs.block D hlt (by omega) (sH h.rel hk (by decide));have hc:∀o,w'.cell? ⟨D,o,none⟩=w.cell? ⟨D,o,none⟩:=fun o=>Vx (w:=w) (a:=⟨D,o,none⟩) hD;have hO:∀{v:Value} {n:Nat} {xs:Q03},w.ownsRow (bp+1) 27 2 v n xs->w'.ownsRow (bp+1) 27 2 v n xs:=fun {v n xs} ho=>eB ho fun g hg=>by
  obtain⟨cr,e⟩:=jS ho hg;have:=ho.lt g hg;exact hs.block g this.2 (by omega) (sH h.rel e (by decide))
 obtain⟨es,c,eb⟩:=pR h.dat.told.map;obtain⟨es2,c2,eb2⟩:=pR h.tab;refine⟨⟨hgt,U9 hlt hs.size,⟨cur,hD.trans hk⟩,(hc _).trans h.dat.c0,(hc _).trans h.dat.c1,(hc _).trans h.dat.c2,(hc _).trans h.dat.c3,(hc _).trans h.dat.c4,(hc _).trans h.dat.c5,wH h.dat.told ?_ ?_,hO h.dat.objs,hO h.dat.users,h.dat.apart⟩,h.tab.of_block ?_,hg,h.ord⟩
 ·exact hs.block bp (by omega) (by omega) (H9 h.rel eb)
 ·intro k v g hm hg2;obtain⟨n,xs,ho⟩:=wG h.dat.told hm;obtain⟨cr,e⟩:=jS ho hg2;have:=ho.lt g hg2;exact hs.block g this.2 (by omega) (sH h.rel e (by decide))
 exact hs.block bt (by omega) (by omega) (H9 h.rel eb2)
theorem DatA.count(h:DatA w rs D br bp bt n1 nr Mr Er E xo xu np Mp vo vu)(n2:Int):DatA (w.setCell ⟨D,1,none⟩ (.int .i64 n2)) rs D br bp bt n2 nr Mr Er E xo xu np Mp vo vu:=by
 obtain⟨h1,h2⟩:=h.ord;have hgt:=h.dat.gt;obtain⟨cur,hk⟩:=h.dat.kind;have hne:∀g,g≠D->(w.setCell ⟨D,1,none⟩ (.int .i64 n2)).heap[g]?=w.heap[g]?:=fun g e=>heap_setCell_other w ⟨D,1,none⟩ g _ e;have hc2:∀o,o≠1->(w.setCell ⟨D,1,none⟩ (.int .i64 n2)).cell? ⟨D,o,none⟩=w.cell? ⟨D,o,none⟩:=fun o ne=>lu (by omega);have hO:∀{v:Value} {n:Nat} {xs:Q03},w.ownsRow (bp+1) 27 2 v n xs->(w.setCell ⟨D,1,none⟩ (.int .i64 n2)).ownsRow (bp+1) 27 2 v n xs:=fun {v n xs} ho=>eB ho fun g hg=>hne g fun e=>absurd (dO ho (e ▸ hg) hk) (by decide);refine⟨⟨hgt,by simpa using h.dat.lt,⟨_,heap_setCell_same w D 1 cur _ _ hk⟩,(hc2 0 (by omega)).trans h.dat.c0,Oy h.dat.c1,(hc2 2 (by omega)).trans h.dat.c2,(hc2 3 (by omega)).trans h.dat.c3,(hc2 4 (by omega)).trans h.dat.c4,(hc2 5 (by omega)).trans h.dat.c5,wH h.dat.told (hne bp (by omega)) ?_,hO h.dat.objs,hO h.dat.users,h.dat.apart⟩,h.tab.of_block (hne bt (by omega)),⟨h.rel.map.of_block (hne br (by omega)),fun k=>?_,h.rel.apart⟩,h.ord⟩
 ·intro k v g hm hg2;obtain⟨n,xs,ho⟩:=wG h.dat.told hm;exact hne g fun e=>absurd (dO ho (e ▸ hg2) hk) (by decide)
 rcases h.rel.row k with e|⟨v,e,ho⟩
 ·exact .inl e
 exact .inr ⟨v,e,eB ho fun g hg=>hne g fun e2=>absurd (dO ho (e2 ▸ hg) hk) (by decide)⟩
end
set_option maxRecDepth 100000
def TY(ts:Q0b)(w:World)(e:Ending)(w':World):Prop :=
 ((∃(b n:Nat) (σ:Ky->Option Int),e=.returned (.tuple #[.map (some b),.bool true])/\cz ts/\aM dX prog 94 w' b n (jh σ)/\Least ts (fun k=>(σ k).getD 0)/\∀k,(∃x,σ k=some x)↔k∈au ts)\/(e=.returned (.tuple #[.map none,.bool false])/\¬cz ts))/\ae w w'
theorem kD:∀ts:List Tp,(dN ts).length<=2*ts.length:=by
 have key:∀(ts:Q05) (xs:Q0a),(ts.foldl fV xs).length<=xs.length+2*ts.length:=by
  intro ts
  induction ts with
  | nil=>intro xs;simp
  | cons t ts ih =>
   intro xs;have h1:=ih (fV xs t);have h2:=qY xs t;simp only[List.foldl_cons,VI];omega
 intro ts;have:=key ts [];simpa[dN] using this
theorem jm:∀ts:List Tp,(bQ ts).length<=ts.length:=by
 have key:∀(ts:Q05) (xs:Q0a),(ts.foldl df xs).length<=xs.length+ts.length:=by
  intro ts
  induction ts with
  | nil=>intro xs;simp
  | cons t ts ih =>
   intro xs;have h1:=ih (df xs t);have h2:=qZ xs t;simp only[List.foldl_cons,VI];omega
 intro ts;have:=key ts [];simpa[bQ] using this
def aO(fit:Tp->Bool)(rs:Q06)(ts:Q05):Bool:=aK (ag rs)&&dI ts&&ts.all fit
def dH(f:Q00)(rs:Q06):List (KL×RR):=rs.flatMap fun t=>t.rows.map fun r=>((t.name,f (t.name,r.name)),r)
def gV(E:List (KL×RR)):Int:=E.foldl (fun m x=>max m (x.1.2+1)) 0
def UT(fit:Tp->Bool)(rs:Q06)(ts:Q05)(w:World)(e:Ending)(w':World):Prop :=
 ae w w'/\((aO fit rs ts=false/\e=.returned (.tuple #[.pointer none,.bool false])) \/
  (aO fit rs ts=true/\∃ (D br bp bt nr np:Nat) (Mr:KL->Option Value) (Mp:K3->Option Value) (vo vu:Value) (f:Q00),e=.returned (.tuple #[.pointer (some ⟨D,0,none⟩),.bool true])/\w.heap.size<=bt/\Least (ag rs) f /\
   DatA w' rs D br bp bt (gV (dH f rs)) nr Mr (dH f rs) (bn ts) (dN ts) (bQ ts) np Mp vo vu))
theorem Qj{w:af}{rs:Q06}{bt:Nat}(ht:aM dX prog 94 w bt 36 (pJ rs))(hl:bt<w.heap.size):
  DatA (((w.alloc (.map #[] 0)).alloc (.map #[] 0)).alloc (.cells #[.map (some bt),.int .i64 0,.map (some w.heap.size),.map (some (w.heap.size+1)),.slice none 0 0,.slice none 0 0] 168)) rs (w.heap.size+2) w.heap.size (w.heap.size+1) bt 0 0 (fun _=>none) [] [] [] [] 0 (fun _=>none) (.slice none 0 0) (.slice none 0 0):=by
 obtain⟨w1,h1⟩:∃w1,w1=w.alloc (.map #[] 0):=⟨_,rfl⟩;obtain⟨w2,h2⟩:∃w2,w2=w1.alloc (.map #[] 0):=⟨_,rfl⟩;have s1:w1.heap.size=w.heap.size+1:=by rw[h1];simp
 have s2:w2.heap.size=w.heap.size+2:=by rw[h2];simp;omega
 rw[<-h1,<-h2];have b1:ae w w1:=by rw[h1];exact(Vb _ _).alloc (Va _) _
 have b2:ae w1 w2:=by rw[h2];exact(Vb _ _).alloc (Va _) _
 have b3:∀o,ae w2 (w2.alloc o):=fun o=>(Vb _ _).alloc (Va _) _;have g1:FL w1 w.heap.size 0 (fun _=>none) []:=by rw[h1];exact G.grp_made w
 have g2:G.Grp qR prog 223 46 6 Tp.row w2 (w.heap.size+1) 0 (fun _=>none) []:=by
  have:=G.grp_made (enc:=qR) (P:=prog) (kt:=223) (et:=46) (sz:=6) (cl:=Tp.row) w1;rw[s1]at this;rw[h2];exact this
 rw[<-s2];refine⟨⟨by omega,by simp,⟨_,heap_alloc_new w2 _⟩,by simp,by simp,by simp,by simp,by simp,by simp,g2.below (b3 _),World.ownsRow_nil _ _ _ _,World.ownsRow_nil _ _ _ _,fun g e=>by simp[Value.ownBlock]at e⟩,((ht.below b1).below b2).below (b3 _),(g1.below b2).below (b3 _),hl,by omega⟩
theorem Qk{p:Tp->Bool}{ts:Q05}{k:Nat}(h:k<ts.length):(ts.take (k+1)).all p=((ts.take k).all p&&p ts[k]):=by
 rw[Ve h,Wl];simp
theorem Sa{p:Tp->Bool}{ts:Q05}{k:Nat}(h:k<ts.length)(hp:p ts[k]=false):ts.all p=false:=by
 rw[List.all_eq_false];exact⟨_,U8 h,by rw[hp];decide⟩
theorem wR{rs:Q06}(h6:rs.length<=6)(hr:∀r∈rs,r.rows.length<=6):(au (ag rs)).length<=36:=by
 have key:∀l:List TR,(∀r∈l,r.rows.length<=6)->(au (ag l)).length<=6*l.length:=by
  intro l
  induction l with
  | nil=>intro _;simp[au,ag]
  | cons r l ih =>
   intro h;have h1:=ih fun q hq=>h q (VQ _ hq);have h2:=h r (by simp);have e:au (ag (r::l))=jN r.p++au (ag l):=by simp[au,ag]
   have e2:(jN r.p).length=r.rows.length:=by unfold jN;rw[VN];exact rQ _
   rw[e,Vh,e2,VI];omega
 have:=key rs hr;omega
theorem Ql{rs:Q06}{σ:Ky->Option Int}(hS:cz (ag rs))(h6:rs.length<=6)(hr:∀r∈rs,r.rows.length<=6)(hL:Least (ag rs) (fun k=>(σ k).getD 0))(hk:∀k,(∃x,σ k=some x)↔k∈au (ag rs))(y:Ky):0<=(σ y).getD 0/\(σ y).getD 0<=36:=by
 refine⟨hL.sol.pos y,?_⟩;cases e:σ y with
 | none=>simp
 | some x =>
  have hy:y∈au (ag rs):=(hk y).1 ⟨x,e⟩;obtain⟨g,hg,hb⟩:=hL.sol.few (jO hS.2.1);have h1:=hL.low y hy g hg;have h2:=hb y hy;have h3:=wR h6 hr;simp only[e]at h1;omega
def xY(f:Ky->Int)(n:ByteArray)(r:RR):KL×RR:=((n,f (n,r.name)),r)
theorem Nn(f:Ky->Int){rs:Q06}{k:Nat}(h:k<rs.length):dH f (rs.take (k+1))=dH f (rs.take k)++rs[k].rows.map (xY f rs[k].name):=by
 unfold dH;rw[Ve h,VU];simp[xY]
theorem Ia(E:List (KL×RR))(x:KL×RR):gV (E++[x])=max (gV E) (x.1.2+1):=by simp[gV]
theorem Qm:∃i,prog.info? 147=some i/\i.zero=some (.agg #[.string ⟨#[]⟩,.slice none 0 0])/\i.size=2/\i.bytes=40 :=
 info_parts (P:=prog) (e:=147) (z:=.agg #[.string ⟨#[]⟩,.slice none 0 0]) (size:=2) (bytes:=40) (by kernel_rfl)
theorem Qn(u:af):(zeroValue 125).run prog u=.ok (.slice none 0 0) u:=by kernel_rfl
theorem Sb(u:af):(zeroValue 2).run prog u=.ok (.int .i64 0) u:=by kernel_rfl
theorem Ei{w:af}{br nr:Nat}{Mr:KL->Option Value}{E:List (KL×RR)}(h:FL w br nr Mr E)(k:KL):w.ownsRow (br+1) 147 2 ((Mr k).getD (.slice none 0 0)) (G.lookL E k).length (G.flatG R9 (G.lookL E k)):=by
 rcases h.row k with⟨e,e2⟩|⟨v,e,ho⟩
 ·rw[e,e2];exact World.ownsRow_nil _ _ _ _
 rw[e];exact ho
theorem Qo{w W w':af}{D g:Nat}{y x0 x1 x2 x3 x4 x5:Value}(h:W.cell? ⟨D,0,none⟩=some y/\W.cell? ⟨g,0,none⟩=some x0/\W.cell? ⟨g,1,none⟩=some x1/\W.cell? ⟨g,2,none⟩=some x2/\W.cell? ⟨g,3,none⟩=some x3/\W.cell? ⟨g,4,none⟩=some x4/\W.cell? ⟨g,5,none⟩=some x5/\D<W.heap.size/\g<W.heap.size/\ae w W)(hb:ae W w'):w'.cell? ⟨D,0,none⟩=some y/\w'.cell? ⟨g,0,none⟩=some x0/\w'.cell? ⟨g,1,none⟩=some x1/\w'.cell? ⟨g,2,none⟩=some x2/\w'.cell? ⟨g,3,none⟩=some x3/\w'.cell? ⟨g,4,none⟩=some x4/\w'.cell? ⟨g,5,none⟩=some x5/\D<w'.heap.size/\g<w'.heap.size/\ae w w':=by
 obtain⟨h0,g0,g1,g2,g3,g4,g5,hn,hm,hB⟩:=h;have hc:∀o,w'.cell? ⟨D,o,none⟩=W.cell? ⟨D,o,none⟩:=fun o=>hb.cell (p:=⟨D,o,none⟩) hn;have hd:∀o,w'.cell? ⟨g,o,none⟩=W.cell? ⟨g,o,none⟩:=fun o=>hb.cell (p:=⟨g,o,none⟩) hm;exact⟨(hc _).trans h0,(hd _).trans g0,(hd _).trans g1,(hd _).trans g2,(hd _).trans g3,(hd _).trans g4,(hd _).trans g5,U9 hn hb.size,U9 hm hb.size,hB.trans (hb.mono hB.size)⟩
theorem BR(fit:Tp->Bool)(ad:Q02)(cap:Nat)(rs:Q06)(Wv:Q02)(cap':Nat)(ts:Q05)(w:af)(hlen:rs.length<=1048576)(hs:j5 w ad rs)(hl:∀r∈rs,r.light)(hfr:∀r∈rs,r.fits)(hC:Calls prog 91 #[.slice ad rs.length cap] w (TY (ag rs) w))(hfb:aK (ag rs)=true->∀t:Tp,t.ok=true->yO (ag rs) t.a t.r ⟨t.c,t.s⟩=fit t)(hlt:ts.length<=1048576)(hst:Sl w Wv ts)(hft:∀x∈ts,x.fits):
  Calls prog 58 #[.slice ad rs.length cap,.slice Wv ts.length cap'] w (UT fit rs ts w):=by
 have HS:=aH hs;have HL:=aH hl;have Yg:=aH hfr;have HST:=aH hst;have WE:=aH hft;have HC:=aH hC;have HFB:=aH hfb;obtain⟨iR,i0,i1,i2,i3⟩:=Qm;have Xb:=aH (And.intro i0 (And.intro i1 (And.intro i2 i3)));clear i0 i1 i2 i3;have Xd:ts.length<=maxLen:=by unfold maxLen;omega
 clear hs hl hfr hC hfb hst hft;go_enter func58,ntmps58;go_wp2_with fail;refine HC.out.mono ?_;rintro e w1 ⟨hL,hb1⟩;have HB1:=aH hb1;clear HC hb1;rcases hL with⟨bS,nS,σ,rfl,hS,hM,X7,hk⟩|⟨rfl,hno⟩
 ·have HSD:Hid (aK (ag rs)=true):=aW.2 hS;have HM:=aH hM;have Xl:=aH X7;have HKE:=aH hk;have hSP:=hS;obtain⟨h6,Yr,-⟩:=bG hSP.1;have HTAB:=aH (pK hSP.1);have Yw:=aH Yr;clear hM X7 hk hS hSP Yr;go_wp2_with fail;refine(xO Wv cap' ts _ Xd (HST.out.below HB1.out) WE.out).mono ?_;rintro e w2 ⟨he,hb2⟩;have HB2:=aH (HB1.out.trans (hb2.mono HB1.out.size));have Xm:=aH (HM.out.below hb2);clear hb2 HM;cases h2:dI ts;case false=>
   rw[h2]at he;subst he;have HN:Hid (aO fit rs ts=false):=by show _=_;unfold aO;rw[h2];simp
   clear h2;go_wp2;exact bodyPost_ret (v:=.tuple #[.pointer none,.bool false]) (by simp[results,Tryz.results58,go_sem]) rfl ⟨HB2.out,.inl ⟨HN.out,rfl⟩⟩
  rw[h2]at he;subst he;have HTU:=aH (Tg h2);have ZE:Hid (aO fit rs ts=ts.all (fit)):=by show _=_;unfold aO;rw[h2,HSD.out];simp
  have h40:ts.length<=40:=HTU.out.2.2;have HTBL:=aH (yA ad cap rs w2 h6 (HS.out.below HB2.out) Yw.out Yg.out);clear h2;go_wp2_with fail;refine HTBL.out.mono ?_;rintro e w3 ⟨rfl,hV3,hb3⟩;have HB3:=aH (HB2.out.trans (hb3.mono HB2.out.size));have hbt:w2.heap.size<w3.heap.size:=hV3.lt;have hw2:w.heap.size<=w2.heap.size:=HB2.out.size;have HM3:=aH (Xm.out.below hb3);have HDN:=aH (Qj hV3 hbt);obtain⟨bt,hbte⟩:∃b,b=w2.heap.size:=⟨_,rfl⟩;obtain⟨br,hbre⟩:∃b,b=w3.heap.size:=⟨_,rfl⟩;rw[<-hbte]at HDN hbt hw2 ⊢;obtain⟨W,hW⟩:∃W,W=((w3.alloc (.map #[] 0)).alloc (.map #[] 0)).alloc (.cells #[.map (some bt),.int .i64 0,.map (some w3.heap.size),.map (some (w3.heap.size+1)),.slice none 0 0,.slice none 0 0] 168):=⟨_,rfl⟩;rw[<-hW]at HDN;have hmm:=@run_makeMap prog;have HBW0:Hid (ae w3 W):=by
   show Below _ _ _;rw[hW];exact(((Vb _ _).alloc (Va _) _).alloc (by simp) _).alloc (by simp;omega) _
  have HMW:=aH (HM3.out.below HBW0.out);have Wx:=aH (HB3.out.trans (HBW0.out.mono HB3.out.size));have hbS:bS<br:=by rw[hbre];exact HM3.out.lt
  clear hb3 hV3 HTBL hbte;obtain⟨D,hDe⟩:∃b,b=br+2:=⟨_,rfl⟩;obtain⟨bp,hbpe⟩:∃b,b=br+1:=⟨_,rfl⟩;rw[<-hbre]at HDN;rw[<-hDe,<-hbpe]at HDN;have hDW:D<W.heap.size:=HDN.out.dat.lt;go_wp2_with fail;rw[<-hW,show w3.heap.size+1+1=D by omega,show w3.heap.size+1=bp by omega,<-hbre];have hwbr:w.heap.size<=br:=by rw[hbre];exact HB3.out.size
  have hbtr:bt<br:=by rw[hbre];exact hbt
  clear hbt;clear hbre hDe hbpe hW hmm HBW0;go_loopw[37] (fun i wr=>∃k:Nat,k<=ts.length/\i=.int .i64 (k:Int)/\Hid ((ts.take k).all (fit)=true)/\Hid (∃Mp vo vu,DatA wr rs D br bp bt 0 0 (fun _=>none) [] (bn (ts.take k)) (dN (ts.take k)) (bQ (ts.take k)) k Mp vo vu)/\Hid (Below br W wr)) (fun i _=>ts.length-(intOf i).toNat);case atStart=>exact⟨0,Vf _,rfl,rfl,⟨_,_,_,by simpa[bn,dN,bQ] using HDN.out⟩,Vb _ _⟩
  obtain⟨k,hk,rfl,WM,Zl,HB⟩:=hrel;have YY:Hid (ae w wr):=Wx.out.trans (HB.out.mono hwbr);by_cases hkl:k<ts.length
  ·rcases HST.out.below YY.out with hnil|⟨b,off,rfl,hb,hr⟩
   ·rw[hnil]at hkl;simp at hkl
   obtain⟨t0,t1,t2,t3,t4,t5⟩:=hr k hkl;have hk1:=bC k;have hk2:(k:Int)<(ts.length:Int):=by omega
   have HAT:=aH (Qk (p:=fit) hkl);have HAH:=aH (Sa (p:=fit) hkl);have XP:=aH (WE.out _ (U8 hkl));have HXO:=aH (HTU.out.2.1 _ (U8 hkl));have HTK:Hid (ts.take (k+1)=ts.take k++[ts[k]]):=Ve hkl;obtain⟨x,hx⟩:∃x,x=ts[k]:=⟨_,rfl⟩;rw[<-hx]at t0 t1 t2 t3 t4 t5 HAT HAH XP HXO HTK;obtain⟨W4,WP⟩:∃W4,W4=wr.alloc (.cells #[.string x.a,.string x.b,.string x.r,.string x.c,.string x.d,.string x.s] 46):=⟨_,rfl⟩;have hb4:ae wr W4:=by rw[WP];exact(Vb _ _).alloc (Va _) _
   have hx4:uO W4 wr.heap.size x:=by rw[WP];exact Fv wr x _
   obtain⟨Mp,vo,vu,XY⟩:=Zl.out;have HD4:=aH (XY.below hb4);have HX4:=aH hx4;have HBw4:=aH (YY.out.trans (hb4.mono YY.out.size));have Xp:=aH (HB.out.trans (hb4.mono (by have:=HB.out.size;have:=HDN.out.ord;have:=HDN.out.dat.gt;omega)));have Z9:Hid (∀W',(fun w'=>w'.cell? ⟨D,0,none⟩=some (.map (some bt))/\w'.cell? ⟨wr.heap.size,0,none⟩=some (.string x.a)/\w'.cell? ⟨wr.heap.size,1,none⟩=some (.string x.b)/\w'.cell? ⟨wr.heap.size,2,none⟩=some (.string x.r)/\w'.cell? ⟨wr.heap.size,3,none⟩=some (.string x.c)/\w'.cell? ⟨wr.heap.size,4,none⟩=some (.string x.d)/\w'.cell? ⟨wr.heap.size,5,none⟩=some (.string x.s)/\D<w'.heap.size/\wr.heap.size<w'.heap.size/\ae W4 w') W'->Calls prog 100 #[.map (some bt),.agg #[.string x.a,.string x.b,.string x.r,.string x.c,.string x.d,.string x.s]] W' fun e w'=>e=.returned (.bool (fit x))/\ae W' w'):=fun W' hS'=>by
    have hb':=hS'.2.2.2.2.2.2.2.2.2;refine(Qh bt 36 rs ad (pJ rs) x.a x.b x.r x.c x.d x.s W' ((HD4.out.tab).below hb') HTAB.out (HS.out.below (HBw4.out.trans (hb'.mono HBw4.out.size))) HL.out XP.out.1 XP.out.2.2.1).mono ?_;rintro e w6 ⟨rfl,hb6⟩;exact⟨by rw[HFB.out HSD.out x HXO.out],hb6⟩
   have H0:Hid ((fun w'=>w'.cell? ⟨D,0,none⟩=some (.map (some bt))/\w'.cell? ⟨wr.heap.size,0,none⟩=some (.string x.a)/\w'.cell? ⟨wr.heap.size,1,none⟩=some (.string x.b)/\w'.cell? ⟨wr.heap.size,2,none⟩=some (.string x.r)/\w'.cell? ⟨wr.heap.size,3,none⟩=some (.string x.c)/\w'.cell? ⟨wr.heap.size,4,none⟩=some (.string x.d)/\w'.cell? ⟨wr.heap.size,5,none⟩=some (.string x.s)/\D<w'.heap.size/\wr.heap.size<w'.heap.size/\ae W4 w') W4.drew):=⟨HD4.out.dat.c0,hx4.1,hx4.2.1,hx4.2.2.1,hx4.2.2.2.1,hx4.2.2.2.2.1,hx4.2.2.2.2.2.1,HD4.out.dat.lt,hx4.2.2.2.2.2.2,(Vb _ _).drew⟩;have ho40:=kD (ts.take k);have hu40:=jm (ts.take k);have hte:(bn (ts.take k)).length<=40:=by unfold bn;simp;omega
   have htl:(ts.take k).length<=40:=by rw[Vz];omega
   have HALK:=WM;clear hr hx hx4 XY hb4 Zl HB WM;cases hfx:fit x;case false=>
    rw[hfx]at Z9;go_wp2_with fail;rw[<-WP];clear WP
    go_region_held3 (fun w'=>w'.cell? ⟨D,0,none⟩=some (.map (some bt))/\w'.cell? ⟨wr.heap.size,0,none⟩=some (.string x.a)/\w'.cell? ⟨wr.heap.size,1,none⟩=some (.string x.b)/\w'.cell? ⟨wr.heap.size,2,none⟩=some (.string x.r)/\w'.cell? ⟨wr.heap.size,3,none⟩=some (.string x.c)/\w'.cell? ⟨wr.heap.size,4,none⟩=some (.string x.d)/\w'.cell? ⟨wr.heap.size,5,none⟩=some (.string x.s)/\D<w'.heap.size/\wr.heap.size<w'.heap.size/\ae W4 w')
     (first|assumption|exact Qo (by assumption) hbx|exact H0.out)
     (first|(go_at_call 100;refine(Z9.out _ (by assumption)).mono ?_;rintro e w' ⟨rfl,hbx⟩))
    rename_i hH;have YM:Hid (ae w _):=HBw4.out.trans (hH.2.2.2.2.2.2.2.2.2.mono HBw4.out.size);have HN:Hid (aO fit rs ts=false):=ZE.out.trans (HAH.out hfx);clear hH;go_wp2;exact bodyPost_ret (v:=.tuple #[.pointer none,.bool false]) (by simp[results,Tryz.results58,go_sem]) rfl ⟨YM.out,.inl ⟨HN.out,rfl⟩⟩
   rw[hfx]at Z9;go_wp2_with fail;rw[<-WP];clear WP
   go_region_held3 (fun w'=>w'.cell? ⟨D,0,none⟩=some (.map (some bt))/\w'.cell? ⟨wr.heap.size,0,none⟩=some (.string x.a)/\w'.cell? ⟨wr.heap.size,1,none⟩=some (.string x.b)/\w'.cell? ⟨wr.heap.size,2,none⟩=some (.string x.r)/\w'.cell? ⟨wr.heap.size,3,none⟩=some (.string x.c)/\w'.cell? ⟨wr.heap.size,4,none⟩=some (.string x.d)/\w'.cell? ⟨wr.heap.size,5,none⟩=some (.string x.s)/\D<w'.heap.size/\wr.heap.size<w'.heap.size/\ae W4 w')
    (first|assumption|exact Qo (by assumption) hbx|exact H0.out)
    (first|(go_at_call 100;refine(Z9.out _ (by assumption)).mono ?_;rintro e w' ⟨rfl,hbx⟩))
   rename_i hH;obtain⟨-,y0,y1,y2,y3,y4,y5,-,yl,hbH⟩:=hH;rename_i w5;have HD5:=aH (HD4.out.below hbH);have HBw5:=aH (HBw4.out.trans (hbH.mono HBw4.out.size));have HBW5:=aH (Xp.out.trans (hbH.mono (by have:=HD4.out.ord;have:=HD4.out.dat.gt;have:=HD4.out.dat.lt;omega)));have HALN:Hid ((ts.take (k+1)).all fit=true):=by show _=_;rw[HAT.out,HALK.out,hfx];rfl
   clear hbH;go_wp2_with fail;refine(PN D br bp _ 0 _ _ _ k Mp vo vu x _ HD5.out.dat (by omega) (by omega) (by omega) (by omega) XP.out).mono ?_;rintro e w6 ⟨rfl,⟨Mp',ZM,ZO,hd6⟩,hb6⟩;have HDN6:Hid (∃Mp vo vu,DatA w6 rs D br bp bt 0 0 (fun _=>none) [] (bn (ts.take (k+1))) (dN (ts.take (k+1))) (bQ (ts.take (k+1))) (k+1) Mp vo vu):=by
    rw[HTK.out,JX,Bt,yG];exact⟨Mp',ZM,ZO,HD5.out.tell hd6 hb6⟩
   have HBW6:Hid (Below br W w6):=HBW5.out.trans (hb6.mono (by have:=HD4.out.ord;omega));clear hd6 hb6;go_wp2;go_roundw;case rel=>exact⟨k+1,by omega,by go_num,HALN,HDN6,HBW6⟩
   simp[intOf]<;>omega
  obtain rfl:k=ts.length:=by omega
  rw[Vs]at WM Zl;have HRT:Hid (aO fit rs ts=true):=ZE.out.trans WM.out;obtain⟨Mp,vo,vu,XY⟩:=Zl.out;have HD0:=aH XY;obtain⟨f,hf⟩:∃f:Ky->Int,f=fun k=>(σ k).getD 0:=⟨_,rfl⟩;have HF:=aH hf;have HLS:Hid (Least (ag rs) f):=by rw[hf];exact Xl.out
  have HF36:Hid (∀y,0<=f y/\f y<=36):=by rw[hf];exact Ql (aW.1 HSD.out) h6 Yw.out Xl.out HKE.out
  obtain⟨wz,hwz⟩:∃wz,wz=wr:=⟨_,rfl⟩;subst hwz;have hkk:decide ((ts.length:Int)<(ts.length:Int))=false:=by simp
  clear XY Zl WM hf Xl HTU ZE;go_wp2_with fail;go_loopw[54] (fun i wr=>∃k:Nat,k<=rs.length/\i=.int .i64 (k:Int)/\Hid ((dH f (rs.take k)).length<=6*k)/\Hid (∃nr Mr,nr<=6*k/\DatA wr rs D br bp bt (gV (dH f (rs.take k))) nr Mr (dH f (rs.take k)) (bn ts) (dN ts) (bQ ts) ts.length Mp vo vu)/\Hid (Below br W wr)) (fun i _=>rs.length-(intOf i).toNat);case atStart=>exact⟨0,Vf _,rfl,Vf _,⟨0,_,Vf _,HD0.out⟩,HB⟩
  clear HD0 HB YY;obtain⟨k,hk,rfl,Yn,Zl,HB⟩:=hrel;have YY:Hid (ae w wr):=Wx.out.trans (HB.out.mono hwbr);by_cases hkl:k<rs.length
  ·rcases HS.out.below YY.out with hnil|⟨b,off,rfl,hb,hr,hok⟩
   ·rw[hnil]at hkl;simp at hkl
   obtain⟨t0,t1⟩:=hr k hkl;have hk1:=bC k;have hk2:(k:Int)<(rs.length:Int):=by omega
   have h6k:rs[k].rows.length<=6:=Yw.out _ (U8 hkl);have z0:rs[k].name.size<=maxLen:=(Yg.out _ (U8 hkl)).1;have HFRk:Hid (∀q∈rs[k].rows,q.fits):=(Yg.out _ (U8 hkl)).2.2;have YS:=aH (Nn f hkl);obtain⟨W1,hW1⟩:∃W1,W1=wr.alloc (.cells #[.string rs[k].name,.slice rs[k].ad rs[k].rows.length rs[k].cap] 127):=⟨_,rfl⟩;have hal:ae wr W1:=by rw[hW1];exact(Vb _ _).alloc (Va _) _
   obtain⟨nr,Mr,hnr,XY⟩:=Zl.out;have HD1:=aH (XY.below hal);have hbrz:br<wr.heap.size:=by have:=XY.ord;have:=XY.dat.gt;have:=XY.dat.lt;omega
   have HB1:Hid (Below br W W1):=HB.out.trans (hal.mono (by omega));have HT1:Hid (W1.heap[wr.heap.size]?=some (.cells #[.string rs[k].name,.slice rs[k].ad rs[k].rows.length rs[k].cap] 127 (0,0))):=by rw[hW1];exact heap_alloc_new wr _
   have a1:W1.cell? ⟨wr.heap.size,1,none⟩=some (.slice rs[k].ad rs[k].rows.length rs[k].cap):=by rw[hW1];simp
   clear hr hok hal XY Zl;go_wp2_with fail;rw[<-hW1];clear hW1 t0 t1 a1 HB;obtain⟨wo,hwo⟩:∃wo,wo=wr:=⟨_,rfl⟩;subst hwo;go_loopw[61] (fun i w2=>∃j:Nat,j<=rs[k].rows.length/\i=.int .i64 (j:Int)/\Hid (∃nr Mr,nr<=6*k+j/\DatA w2 rs D br bp bt (gV (dH f (rs.take k)++(rs[k].rows.take j).map (xY f rs[k].name))) nr Mr (dH f (rs.take k)++(rs[k].rows.take j).map (xY f rs[k].name)) (bn ts) (dN ts) (bQ ts) ts.length Mp vo vu)/\Hid (w2.heap[wo.heap.size]?=some (.cells #[.string rs[k].name,.slice rs[k].ad rs[k].rows.length rs[k].cap] 127 (0,0)))/\Hid (Below br W w2)) (fun i _=>rs[k].rows.length-(intOf i).toNat);case atStart=>exact⟨0,Vf _,rfl,⟨nr,Mr,by omega,by simpa using HD1.out⟩,HT1,HB1⟩
   clear HD1 HT1 HB1 YY;obtain⟨j,hj,rfl,Zl,HT,HB⟩:=hrel;have YY:Hid (ae w wr):=Wx.out.trans (HB.out.mono hwbr);by_cases hjl:j<rs[k].rows.length
   ·rcases HS.out.below YY.out with hnil|⟨b',off',he,hb2,hr,hok⟩
    ·rw[hnil]at hkl;simp at hkl
    injection he with he;injection he with he1 he2;subst he1;subst he2;have ok:=hok rs[k] (U8 hkl);rcases ok with hnil|⟨b2,WW,had,hbb,hr2,-⟩
    ·rw[hnil]at hjl;simp at hjl
    obtain⟨q0,q1⟩:=hr2 j hjl;have z1:rs[k].rows[j].name.size<=maxLen:=(HFRk.out _ (U8 hjl)).1;have hj1:=bC j;have hj2:(j:Int)<(rs[k].rows.length:Int):=by omega
    obtain⟨kl,hkl'⟩:=jL (rs[k].name,rs[k].rows[j].name) z0 z1;have Xz:=aH hkl';obtain⟨nr,Mr,hnr,XY⟩:=Zl.out;have HTKE:Hid ((rs[k].rows.take (j+1)).map (xY f rs[k].name)=(rs[k].rows.take j).map (xY f rs[k].name)++[xY f rs[k].name rs[k].rows[j]]):=by show _=_;rw[Ve hjl,VX];rfl
    have hEl:((rs[k].rows.take j).map (xY f rs[k].name)).length=j:=by rw[VN,Vz];omega
    obtain⟨E0,hE0⟩:∃E0,E0=dH f (rs.take k)++(rs[k].rows.take j).map (xY f rs[k].name):=⟨_,rfl⟩;have hE0l:E0.length<=36:=by rw[hE0,Vh,hEl];have:=Yn.out;omega
    rw[<-hE0]at XY;have YV:=aH hE0;obtain⟨fv,hfv⟩:∃fv,fv=f (rs[k].name,rs[k].rows[j].name):=⟨_,rfl⟩;have hfv36:=HF36.out (rs[k].name,rs[k].rows[j].name);rw[<-hfv]at hfv36;obtain⟨hfv0,hfv1⟩:=hfv36;have HFV:=aH hfv;have HLK:Hid ((jh σ (rs[k].name,rs[k].rows[j].name)).getD (.int .i64 0)=.int .i64 fv):=by
     show _=_;rw[hfv,HF.out];unfold jh;cases h:σ (rs[k].name,rs[k].rows[j].name)<;>simp[h]
    obtain⟨W2,hW2⟩:∃W2,W2=wr.alloc (.cells #[.string rs[k].rows[j].name,.slice rs[k].rows[j].ad rs[k].rows[j].rows.length rs[k].rows[j].cap] 147):=⟨_,rfl⟩;obtain⟨W3,hW3⟩:∃W3,W3=W2.alloc (.cells #[.string rs[k].name,.int .i64 fv] 172):=⟨_,rfl⟩;have hs2:W2.heap.size=wr.heap.size+1:=by rw[hW2];simp
    have hs3:W3.heap.size=wr.heap.size+2:=by rw[hW3];simp;omega
    have hal2:ae wr W2:=by rw[hW2];exact(Vb _ _).alloc (Va _) _
    have ZX:ae W2 W3:=by rw[hW3];exact(Vb _ _).alloc (Va _) _
    have hwol:wo.heap.size<wr.heap.size:=by
     rcases Nat.lt_or_ge wo.heap.size wr.heap.size with h|h
     ·exact h
     have:=HT.out;rw[Array.getElem?_eq_none h]at this;cases this
    have HFRB:Hid (G.FreeB Mr wr.heap.size):=XY.rel.fresh (Va _);have Xm:Hid (aM dX prog 94 W2 bS nS (jh σ)):=HMW.out.of_block (by rw[hal2.block bS (by omega),HB.out.block bS hbS]);have HD3:=aH ((XY.below hal2).below ZX);have HB3':Hid (Below br W W3):=(HB.out.trans (hal2.mono (by omega))).trans (ZX.mono (by omega));have HT3:Hid (W3.heap[wo.heap.size]?=some (.cells #[.string rs[k].name,.slice rs[k].ad rs[k].rows.length rs[k].cap] 127 (0,0))):=by show _=_;rw[ZX.block _ (by omega),hal2.block _ (by omega)];exact HT.out
    have c0:wr.cell? ⟨wo.heap.size,0,none⟩=some (.string rs[k].name):=by simp[World.cell?,HT.out]
    have c0b:W2.cell? ⟨wo.heap.size,0,none⟩=some (.string rs[k].name):=(hal2.cell (p:=⟨wo.heap.size,0,none⟩) (by show wo.heap.size<_;omega)).trans c0;have g0:W2.cell? ⟨wr.heap.size,0,none⟩=some (.string rs[k].rows[j].name):=by rw[hW2];simp
    have HR2:Hid (W3.cell? ⟨wr.heap.size,0,none⟩=some (.string rs[k].rows[j].name)/\W3.cell? ⟨wr.heap.size,1,none⟩=some (.slice rs[k].rows[j].ad rs[k].rows[j].rows.length rs[k].rows[j].cap)/\W3.cell? ⟨wr.heap.size+1,0,none⟩=some (.string rs[k].name)/\W3.cell? ⟨wr.heap.size+1,1,none⟩=some (.int .i64 fv)):=by
     show _/\_;rw[hW3,hW2];refine⟨?_,?_,?_,?_⟩<;>simp
    rw[had];clear hr hok hr2 hkl' XY Zl hal2 ZX HT HB hE0 hfv hEl;go_wp2_with(first|(at_lookup;rw[<-hW2];refine jK _ rfl _ _ 153 rfl 94 2 iW underlying153 (Sb _) bS nS (jh σ) rfl Xm.out (rs[k].name,rs[k].rows[j].name) kl rfl Xz.out ?_;rw[HLK.out]));rw[<-hW2,<-hW3];clear hW2 hW3 g0 c0b c0 q0 q1 HLK Xm;obtain⟨row0,hr0⟩:∃r,r=(Mr (rs[k].name,fv)).getD (.slice none 0 0):=⟨_,rfl⟩;obtain⟨nn,hnn⟩:∃n,n=(G.lookL E0 (rs[k].name,fv)).length:=⟨_,rfl⟩;obtain⟨xs,hxs⟩:∃x,x=G.flatG R9 (G.lookL E0 (rs[k].name,fv)):=⟨_,rfl⟩;have XM:=aH hr0;have XR:=aH hnn;have Zz:=aH hxs;have hnl:nn<=36:=by rw[hnn];exact Vj (Wi _ _) hE0l
    have Xt:Hid (∀W0:World,ae W3 W0->W0.ownsRow (br+1) 147 2 row0 nn xs):=fun W0 hb=>by rw[hr0,hnn,hxs];exact Ei (HD3.out.rel.below hb) _
    have HKEY:Hid (∃kl,keyOf prog 172 (GK (rs[k].name,fv))=some kl):=Le _ z0 hfv0 (by show fv<=1000000;omega);have hDl:D<W3.heap.size:=HD3.out.dat.lt;have hbrD:br<D:=by have:=HD3.out.ord;have:=HD3.out.dat.gt;omega
    clear hr0 hnn hxs;obtain⟨C2,hC2⟩:∃C:Nat->Value,C=fun n=>(Value.pointer (some ⟨D,0,none⟩)::.pointer (some ⟨D,0,none⟩)::.pointer (some ⟨D,2,none⟩)::.map (some br)::.agg #[.string rs[k].name,.int .i64 fv]::.agg #[.string rs[k].rows[j].name,.slice rs[k].rows[j].ad rs[k].rows[j].rows.length rs[k].rows[j].cap]::[]).getD n undef:=⟨_,rfl⟩;have Xh:Hid (C2 0=Value.pointer (some ⟨D,0,none⟩)/\C2 1=Value.pointer (some ⟨D,0,none⟩)/\C2 2=Value.pointer (some ⟨D,2,none⟩)/\C2 3=Value.map (some br)/\C2 4=Value.agg #[.string rs[k].name,.int .i64 fv]/\C2 5=Value.agg #[.string rs[k].rows[j].name,.slice rs[k].rows[j].ad rs[k].rows[j].rows.length rs[k].rows[j].cap]):=by show _/\_;rw[hC2];exact⟨rfl,rfl,rfl,rfl,rfl,rfl⟩
    clear hC2;refine qi 11 (fun n=>(u76::u77::u78::u79::u80::u82::u83::u84::u81::u85::u86::[]).getD n undef) (fun fq=>{ tmps:=List.toArray (Value.slice (some ⟨b,off,none⟩) rs.length cap::.slice Wv ts.length cap'::undef::undef::u4::u5::.map (some bS)::.bool true::.pointer (some ⟨D,0,none⟩)::undef::u10::undef::.pointer (some ⟨wo.heap.size,0,none⟩)::undef::.pointer (some ⟨wr.heap.size,0,none⟩)::.int .i64 fv::.pointer (some ⟨wr.heap.size+1,0,none⟩)::.tuple #[.map (some bS),.bool true]::.slice (some ⟨b,off,none⟩) rs.length cap::.tuple #[.map (some bS),.bool true]::.map (some bS)::.bool true::.bool true::.bool false::.bool false::.slice Wv ts.length cap'::.bool true::.bool false::.bool false::.slice (some ⟨b,off,none⟩) rs.length cap::.map (some bt)::.map (some br)::.map (some bp)::.agg #[.map (some bt),.int .i64 0,.map (some br),.map (some bp),.slice none 0 0,.slice none 0 0]::.pointer (some ⟨D,0,none⟩)::.slice Wv ts.length cap'::.int .i64 ts.length::.int .i64 ts.length::.bool false::u39::u40::u41::u42::u43::u44::u45::u46::u47::u48::u49::u50::u51::.slice (some ⟨b,off,none⟩) rs.length cap::.int .i64 rs.length::.int .i64 k::.bool true::.pointer (some ⟨b,off+k*2,none⟩)::.agg #[.string rs[k].name,.slice (some ⟨b2,WW,none⟩) rs[k].rows.length rs[k].cap]::.pointer (some ⟨wo.heap.size,1,none⟩)::.slice (some ⟨b2,WW,none⟩) rs[k].rows.length rs[k].cap::.int .i64 rs[k].rows.length::.int .i64 j::.bool true::.pointer (some ⟨b2,WW+j*2,none⟩)::.agg #[.string rs[k].rows[j].name,.slice rs[k].rows[j].ad rs[k].rows[j].rows.length rs[k].rows[j].cap]::.map (some bS)::.pointer (some ⟨wo.heap.size,0,none⟩)::.string rs[k].name::.pointer (some ⟨wr.heap.size,0,none⟩)::.string rs[k].rows[j].name::.agg #[.string rs[k].name,.string rs[k].rows[j].name]::.int .i64 fv::.pointer (some ⟨wo.heap.size,0,none⟩)::.string rs[k].name::.int .i64 fv::.agg #[.string rs[k].name,.int .i64 fv]::(fq 0)::(fq 1)::(fq 2)::(fq 3)::(fq 4)::(fq 8)::(fq 5)::(fq 6)::(fq 7)::(fq 9)::(fq 10)::u87::u88::u89::u90::u91::u92::u93::u94::u95::u96::u97::u98::undef::[]),defers:=[] }) (G.EI C2 #[.string rs[k].rows[j].name,.slice rs[k].rows[j].ad rs[k].rows[j].rows.length rs[k].rows[j].cap] 147 2 W3 br row0 nn xs (G.Back GK prog 172 165 br nr Mr (rs[k].name,fv))) (by kernel_rfl) rfl (by kernel_rfl) (by kernel_rfl) rfl (G.ei_start W3) ?stepA ?finA;case stepA =>
     rintro i hi o ho l fq w' XB hI hpre;have HI:=aD hI;have Ww:Hid (∀e∈o.after,Region.binds .any e=true->l e.on=true):=hpre;clear hI hpre;have hc:=N9 (i:=i) (by omega);clear hi
     repeat' rcases hc with rfl|hc
     ·cases ho;have hA:=HI.out.early (i:=0) (by omega) XB;clear Ww HI;refine aa rfl fun K HK=>?_;go_simp;exact HK.out _ _ ⟨Value.pointer (some ⟨D,0,none⟩),by simp[upd, *],hA.put (by omega) Xh.out.1.symm⟩
     ·cases ho;have hA:=HI.out.early (i:=1) (by omega) XB;have e0:=(hA.val 0 (by omega) (Ww.out ⟨0,.data⟩ (by simp) rfl)).trans Xh.out.1;clear Ww HI;refine aa rfl fun K HK=>?_;simp only[e0];go_simp;exact HK.out _ _ ⟨Value.pointer (some ⟨D,0,none⟩),by simp[upd, *],hA.put (by omega) Xh.out.2.1.symm⟩
     ·cases ho;have hA:=HI.out.early (i:=2) (by omega) XB;have e1:=(hA.val 1 (by omega) (Ww.out ⟨1,.data⟩ (by simp) rfl)).trans Xh.out.2.1;clear Ww HI;refine aa rfl fun K HK=>?_;simp only[e1];go_simp;exact HK.out _ _ ⟨Value.pointer (some ⟨D,2,none⟩),by simp[upd, *],hA.put (by omega) Xh.out.2.2.1.symm⟩
     ·cases ho;have hA:=HI.out.early (i:=3) (by omega) XB;have e2:=(hA.val 2 (by omega) (Ww.out ⟨2,.data⟩ (by simp) rfl)).trans Xh.out.2.2.1;have hb':=hA.bel;have d2:=(hb'.cell (p:=⟨D,2,none⟩) hDl).trans HD3.out.dat.c2;clear Ww HI;refine aa rfl fun K HK=>?_;simp only[e2];go_simp;exact HK.out _ _ ⟨Value.map (some br),by simp[upd, *],hA.put (by omega) Xh.out.2.2.2.1.symm⟩
     ·cases ho;have hA:=HI.out.early (i:=4) (by omega) XB;have hb':=hA.bel;have k0:=(hb'.cell (p:=⟨wr.heap.size+1,0,none⟩) (by show wr.heap.size+1<_;omega)).trans HR2.out.2.2.1;have k1:=(hb'.cell (p:=⟨wr.heap.size+1,1,none⟩) (by show wr.heap.size+1<_;omega)).trans HR2.out.2.2.2;clear Ww HI;refine aa rfl fun K HK=>?_;go_simp;exact HK.out _ _ ⟨Value.agg #[.string rs[k].name,.int .i64 fv],by simp[upd, *],hA.put (by omega) Xh.out.2.2.2.2.1.symm⟩
     ·cases ho;have hA:=HI.out.early (i:=5) (by omega) XB;have hb':=hA.bel;have k0:=(hb'.cell (p:=⟨wr.heap.size,0,none⟩) (by show wr.heap.size<_;omega)).trans HR2.out.1;have k1:=(hb'.cell (p:=⟨wr.heap.size,1,none⟩) (by show wr.heap.size<_;omega)).trans HR2.out.2.1;clear Ww HI;refine aa rfl fun K HK=>?_;go_simp;exact HK.out _ _ ⟨Value.agg #[.string rs[k].rows[j].name,.slice rs[k].rows[j].ad rs[k].rows[j].rows.length rs[k].rows[j].cap],by simp[upd, *],hA.put (by omega) Xh.out.2.2.2.2.2.symm⟩
     ·cases ho;have hA:=HI.out.early (i:=6) (by omega) XB;have e5:=(hA.val 5 (by omega) (Ww.out ⟨5,.data⟩ (by simp) rfl)).trans Xh.out.2.2.2.2.2;clear Ww HI;refine aa rfl fun K HK=>?_;simp only[e5];go_simp;exact HK.out _ _ ⟨_,by simp[upd,e5],hA.lay⟩
     ·cases ho;have hA:=HI.out.early (i:=7) (by omega) XB;have e3:=(hA.val 3 (by omega) (Ww.out ⟨3,.data⟩ (by simp) rfl)).trans Xh.out.2.2.2.1;have e4:=(hA.val 4 (by omega) (Ww.out ⟨4,.data⟩ (by simp) rfl)).trans Xh.out.2.2.2.2.1;have hall:∀k,k<=6->l k=true:=fun k hk=>by
       have hc:=Uv (i:=k) (by omega)
       repeat' rcases hc with rfl|hc
       ·exact Ww.out ⟨0,.phase⟩ (by simp) rfl
       ·exact Ww.out ⟨1,.phase⟩ (by simp) rfl
       ·exact Ww.out ⟨2,.phase⟩ (by simp) rfl
       ·exact Ww.out ⟨3,.phase⟩ (by simp) rfl
       ·exact Ww.out ⟨4,.phase⟩ (by simp) rfl
       ·exact Ww.out ⟨5,.phase⟩ (by simp) rfl
       exact Ww.out ⟨6,.phase⟩ (by simp) rfl
      have hD':=HD3.out.below hA.bel;obtain⟨kl2,hkl2⟩:=HKEY.out;obtain⟨st,w1',hrun,hg,hback⟩:=hD'.rel.map.entry O8 O7 underlying165 Qn (by unfold maxLen;omega) hkl2;rw[<-XM.out]at hrun;have hrun':(Instr.mapEntry 165 (.map (some br)) (Value.agg #[.string rs[k].name,.int .i64 fv])).run prog w'=.ok (.tuple #[row0,goInt st]) w1':=hrun;clear Ww HI;refine aa rfl fun K HK=>?_;simp only[e3,e4];go_simp;exact HK.out _ _ ⟨_,by simp[upd,e3,e4,goInt],hA.took hall hg hback⟩
     ·cases ho;have h7:=Ww.out ⟨7,.data⟩ (by simp) rfl;have hB:=HI.out.midB h7 (i:=8) (by omega) XB;obtain⟨st,e7⟩:=HI.out.seven h7;clear Ww HI;refine aa rfl fun K HK=>?_;simp only[e7];go_simp;exact HK.out _ _ ⟨_,by simp[upd,e7,goInt],hB.first⟩
     ·cases ho;have h7:=Ww.out ⟨7,.chain⟩ (by simp) rfl;have h8:=Ww.out ⟨8,.data⟩ (by simp) rfl;have hB:=HI.out.midB h7 (i:=9) (by omega) XB;obtain ⟨W0,st,g,hm1,hm2,ZP,hm4,Ze,e7,hm7,hm8,hm9⟩:=hB.mid;have e8:=hm8 h8;have hown:=(Xt.out W0 hm1).kept Ze (by
       rcases h:row0.ownBlock with _|g'
       ·exact .inl rfl
       right;intro e;injection e with e;have:=((Xt.out W0 hm1).lt g' h).1;omega)
      have hnew:w'.heap[g]?=some (.cells #[.string rs[k].rows[j].name,.slice rs[k].rows[j].ad rs[k].rows[j].rows.length rs[k].rows[j].cap] 147 (0,0)):=by
       have hgl:g<W0.heap.size:=by
        rcases Nat.lt_or_ge g W0.heap.size with h|h
        ·exact h
        rw[Array.getElem?_eq_none h]at hm4;cases hm4
       rw[Ze.block g hgl (fun e=>by injection e with e;omega)];exact hm4
      clear Ww HI;refine lh w' rfl rfl _ _ 125 rfl (br+1) 147 iR _ 2 40 underlying125 Xb.out.1 Xb.out.2.1 Xb.out.2.2.1 Xb.out.2.2.2 rfl (by decide) row0 nn xs (by simp[Act.eval,e8]) hown ⟨g,0,none⟩ 1 1 [Value.string rs[k].rows[j].name,.slice rs[k].rows[j].ad rs[k].rows[j].rows.length rs[k].rows[j].cap] (by simp[Act.eval,hm2]) rfl (fun j u hu=>news_of_block hnew j u hu) (by simp[Value.oneCell']) (by unfold maxLen;omega) (by omega) (by have:=Ze.size;have:=hm1.size;omega) ?_;intro v' w2' hown2 Xj hloc2;exact⟨v',by simp[upd,Act.put],hB.app h8 Xj hown2 hloc2⟩
     cases ho;have h7:=Ww.out ⟨7,.data⟩ (by simp) rfl;obtain⟨st,e7⟩:=HI.out.seven h7;have HI2:=HI.out.second h7 e7;clear Ww HI;refine aa rfl fun K HK=>?_;simp only[e7];go_simp;exact HK.out _ _ ⟨_,by simp[upd,e7,goInt],HI2⟩
    case finA =>
     rintro o ho l fq w' hall hI;obtain rfl:=Option.some.inj ho;have hC:=hI.last hall;obtain⟨W0,w1',st,hm1,hm2,ZP,hm4,Ze,hm6,-,hm8⟩:=hC.mid;have e10:=hm8 (hall 10 (by omega));have e3:=(hC.val 3 (by omega)).trans Xh.out.2.2.2.1;obtain⟨w7,hrun,hM3,hg3⟩:=hm6 w' (fq 9) (ZP.block br (by have:=hm2.size;have:=hm1.size;omega) (fun e=>by have:=(Xt.out W0 hm1).lt br e.symm;omega));have hst:=(HD3.out.rel.below hm1).step (y:=(rs[k].name,fv)) (s:=rs[k].rows[j]) hm2 (by rw[<-XR.out,<-Zz.out];exact hm4) (by rw[<-XM.out];exact ZP) (by rw[<-XM.out];exact Ze) hg3 hM3;have HD7:=aH ((HD3.out.below hm1).list hst.1 hst.2);have HB7:Hid (Below br W w7):=by
      have b0:Below br W W0:=HB3'.out.trans (hm1.mono (by omega));have b1:Below br W w1':=b0.grown hm2 (by have:=hm1.size;omega) (fun i hi=>by injection hi with hi;omega);have b2:Below br W w':=b1.grown ZP (by have:=hm2.size;have:=hm1.size;omega) (fun i hi=>by have:=((Xt.out W0 hm1).lt i hi).1;omega);exact b2.grown hg3 (by have:=ZP.size;have:=hm2.size;have:=hm1.size;omega) (fun i hi=>by injection hi with hi;omega)
     have HT7:Hid (w7.heap[wo.heap.size]?=some (.cells #[.string rs[k].name,.slice rs[k].ad rs[k].rows.length rs[k].cap] 127 (0,0))):=by
      show _=_;have h0:W0.heap[wo.heap.size]?=_:=(hm1.block wo.heap.size (by omega)).trans HT3.out;rw[hst.2.block wo.heap.size (by have:=hm1.size;omega) (by omega) (sH (HD3.out.rel.below hm1) h0 (by decide))];exact h0
     have Ya:(Instr.entryStore 165 (.map (some br)) (.int .i64 st) (fq 9)).run prog w'=.ok () w7:=hrun;obtain⟨Mn,hMn⟩:∃M,M=lX Mr (rs[k].name,fv) (some (fq 9)):=⟨_,rfl⟩;rw[<-hMn]at HD7;refine aa rfl fun K HK=>?_;simp only[e3,e10];go_simp;refine HK.out _ _ ?_;obtain⟨n0,hn0⟩:∃n,n=gV E0:=⟨_,rfl⟩;have Yj:=aH hn0;rw[<-hn0]at HD7;have d1:=HD7.out.dat.c1;have fz:=fun o=>ic HD7.out.dat.kind.choose_spec o;have X8:=HD7.out.dat.lt;clear hst hrun Ya hM3 hg3 hm1 hm2 ZP hm4 Ze hm6 hm8 hC hI hall ho HK K e3 e10 HD3 HT3 HB3' Xt Xh HKEY hMn XM XR Zz HR2 HFRB hn0 hDl hbrD;obtain⟨w8,hw8⟩:∃x,x=w7.setCell ⟨D,1,none⟩ (Value.int .i64 (max n0 (fv+1))):=⟨_,rfl⟩;have HEQ:Hid (dH f (rs.take k)++(rs[k].rows.take (j+1)).map (xY f rs[k].name)=E0++[((rs[k].name,fv),rs[k].rows[j])]):=by show _=_;rw[HTKE.out,<-VD,<-YV.out];unfold xY;rw[<-HFV.out]
     have HD8:Hid (∃nr Mr,nr<=6*k+(j+1)/\DatA w8 rs D br bp bt (gV (dH f (rs.take k)++(rs[k].rows.take (j+1)).map (xY f rs[k].name))) nr Mr (dH f (rs.take k)++(rs[k].rows.take (j+1)).map (xY f rs[k].name)) (bn ts) (dN ts) (bQ ts) ts.length Mp vo vu):=by
      rw[HEQ.out,Ia,<-Yj.out,hw8];exact⟨nr+1,Mn,by omega,HD7.out.count (max n0 (fv+1))⟩
     have HT8:Hid (w8.heap[wo.heap.size]?=some (.cells #[.string rs[k].name,.slice rs[k].ad rs[k].rows.length rs[k].cap] 127 (0,0))):=by
      show _=_;rw [hw8,heap_setCell_other w7 ⟨D,1,none⟩ wo.heap.size _ (fun e=>by
       have e':wo.heap.size=D:=e;have h1:=HT7.out;obtain⟨cur,h2⟩:=HD7.out.dat.kind;rw[e',h2]at h1;injection h1 with h1;injection h1 with _ h3;exact absurd h3 (by decide))]
      exact HT7.out
     have HB8:Hid (Below br W w8):=by show Below _ _ _;rw[hw8];exact HB7.out.setCell (by show br<=D;have:=HD7.out.ord;have:=HD7.out.dat.gt;omega) _
     rw[had]at HT8;clear HD7 HT7 HB7;go_wp2;rw[<-hw8];go_roundw;case rel=>exact⟨j+1,by omega,by go_num,HD8,HT8,HB8⟩
     simp[intOf]<;>omega
   obtain rfl:j=rs[k].rows.length:=by omega
   have HDN2:Hid (∃nr Mr,nr<=6*(k+1)/\DatA wr rs D br bp bt (gV (dH f (rs.take (k+1)))) nr Mr (dH f (rs.take (k+1))) (bn ts) (dN ts) (bQ ts) ts.length Mp vo vu):=by
    obtain⟨nr,Mr,hnr,XY⟩:=Zl.out;rw[Vs]at XY;rw[YS.out];exact⟨nr,Mr,by omega,XY⟩
   have HEL2:Hid ((dH f (rs.take (k+1))).length<=6*(k+1)):=by
    show _<=_;rw[YS.out,Vh,VN];have:=Yn.out;omega
   clear Zl HT;go_wp2;go_roundw;case rel=>exact⟨k+1,by omega,by go_num,HEL2,HDN2,HB⟩
   simp[intOf]<;>omega
  obtain rfl:k=rs.length:=by omega
  rw[Vs]at Zl;obtain⟨nr,Mr,-,XY⟩:=Zl.out;have HDE:=aH XY;clear XY Zl;go_wp2;exact bodyPost_ret (v:=.tuple #[.pointer (some ⟨D,0,none⟩),.bool true]) (by simp[results,Tryz.results58,go_sem]) rfl ⟨YY.out,.inr ⟨HRT.out,D,br,bp,bt,nr,ts.length,Mr,Mp,vo,vu,f,rfl,hw2,HLS.out,HDE.out⟩⟩
 have HN:Hid (aO fit rs ts=false):=by
  show _=_;unfold aO;cases hh:aK (ag rs);case false=>simp
  exact absurd (aW.1 hh) hno
 clear hno;go_wp2;exact bodyPost_ret (v:=.tuple #[.pointer none,.bool false]) (by simp[results,Tryz.results58,go_sem]) rfl ⟨HB1.out,.inl ⟨HN.out,rfl⟩⟩
def nO(known:Q04)(f:Fc)(t:Tp):Bool:=if t.s.toList.isEmpty then t.c.toList==f.c.toList&&t.d.toList==f.d.toList else bB known ⟨t.c,t.d,t.s,f.c,f.d⟩
def wS(known:Q04)(name:ByteArray)(f:Fc)(t:Tp):Bool:=bB known ⟨t.c,t.d,name,f.c,f.d⟩
theorem rA(l:Q05)(k:K3)(p:Tp->Bool):(G.lookL (bn l) k).any p=l.any fun t=>(t.a.toList==k.1.toList&&t.b.toList==k.2.1.toList&&t.r.toList==k.2.2.toList)&&p t:=by
 induction l with
 | nil=>rfl
 | cons t l ih =>
  have e:bn (t::l)=[(MP t,t)]++bn l:=rfl;rw[e,G.lookL_append,List.any_append,ih,Wo];congr 1;unfold G.lookL MP;by_cases h:(t.a,t.b,t.r)=k
  ·subst h;simp
  have h2:(t.a.toList==k.1.toList&&t.b.toList==k.2.1.toList&&t.r.toList==k.2.2.toList)=false:=by
   cases hb:(t.a.toList==k.1.toList&&t.b.toList==k.2.1.toList&&t.r.toList==k.2.2.toList);case false=>rfl
   rw[Vd,Vd,fD,fD,fD]at hb;exact absurd (Prod.ext hb.1.1 (Prod.ext hb.1.2 hb.2)) h
  simp[h,h2]
theorem Kh(l:Q05)(known:Q04)(f:Fc):eQ l known f=(G.lookL (bn l) (f.a,f.b,f.r)).any (nO known f):=by rw[rA];rfl
theorem Ki(l:Q05)(known:Q04)(over name:bW)(f:Fc):gp l known over name f=(G.lookL (bn l) (f.a,f.b,over)).any (wS known name f):=by rw[rA];rfl
theorem Np(st:Q00)(n:Int)(o:Al)(tn:bW)(rows:Q07):((rows.map fun r=>(tn,r.name)).filter fun k=>k.1.toList==o.t.toList&&decide (st k=n))=(G.lookL (rows.map fun r=>((tn,st (tn,r.name)),r)) (o.t,n)).map fun r=>(o.t,r.name):=by
 induction rows with
 | nil=>rfl
 | cons r rows ih =>
  have e:((r::rows).map fun r=>((tn,st (tn,r.name)),r))=[((tn,st (tn,r.name)),r)]++rows.map fun r=>((tn,st (tn,r.name)),r):=rfl;rw[e,G.lookL_append,VX,<-ih,Wn,Wm];unfold G.lookL;by_cases h:tn=o.t/\st (tn,r.name)=n
  ·obtain⟨rfl,rfl⟩:=h;simp
  have h1:(tn.toList==o.t.toList&&decide (st (tn,r.name)=n))=false:=by
   cases hb:(tn.toList==o.t.toList&&decide (st (tn,r.name)=n));case false=>rfl
   rw[Vd,fD,Vk]at hb;exact absurd hb h
  have h2:¬((tn,st (tn,r.name))=(o.t,n)):=fun e=>h ⟨congrArg Prod.fst e,congrArg Prod.snd e⟩;simp[h1,h2]
theorem Ib(st:Q00)(n:Int)(o:Al)(rs:Q06):AC (ag rs) st n o=(G.lookL (dH st rs) (o.t,n)).map fun r=>(o.t,r.name):=by
 unfold AC
 induction rs with
 | nil=>rfl
 | cons t rs ih =>
  have e1:au (ag (t::rs))=(t.rows.map fun r=>(t.name,r.name))++au (ag rs):=by
   have:jN t.p=t.rows.map fun r=>(t.name,r.name):=by unfold jN;show List.map _ (eT t.rows)=_;unfold eT;rw[List.map_map];rfl
   simp[au,ag,this]
  have e2:dH st (t::rs)=(t.rows.map fun r=>((t.name,st (t.name,r.name)),r))++dH st rs:=rfl;rw[e1,e2,G.lookL_append,Wp,VX,ih,Np]
theorem BS{s:St}:∀{sts:List St},(iU sts).Nodup->s∈sts->fT sts s.key=s.n
 | [],_,h=>by cases h
 | x::xs,hd,h=>by
  have hd2:x.key ∉ iU xs/\(iU xs).Nodup:=List.nodup_cons.1 hd;unfold fT;by_cases e:zR x s.key.1 s.key.2=true
  ·rw[if_pos e];have ek:=qK.1 e;rcases Vq.1 h with rfl|h
   ·rfl
   exact absurd (by rw[ek];exact VK h) hd2.1
  rw[if_neg e];rcases Vq.1 h with rfl|h
  ·exact absurd (qK.2 rfl) e
  exact BS hd2.2 h
def UU(sts:List St)(n:Int)(o:Al):List St:=sts.filter fun s=>s.typ.toList==o.t.toList&&decide (s.n=n)
theorem Sc{ts:Q0b}{sts:List St}(hk:iU sts=au ts)(hn:(au ts).Nodup)(n:Int)(o:Al):AC ts (fT sts) n o=(UU sts n o).map St.key:=by
 unfold AC UU;rw[<-hk];rw[<-hk]at hn;unfold iU;rw[List.filter_map];congr 1;refine List.filter_congr fun s hs=>?_;show(s.key.1.toList==o.t.toList&&decide (fT sts s.key=n))=_;rw[BS hn hs];rfl
theorem Kj{rs:Q06}(h:bq (ag rs)=true):(au (ag rs)).Nodup:=by
 have e:au (ag rs)=rs.flatMap fun t=>t.rows.map fun r=>(t.name,r.name):=by
  unfold au ag;rw[List.flatMap_map];congr 1
  funext t
  unfold jN;show List.map _ (eT t.rows)=_;unfold eT;rw[List.map_map];rfl
 rw[e,List.Nodup,List.pairwise_flatMap];constructor
 ·intro t ht;obtain ⟨i,hi,rfl⟩:=VP.1 ht;have hu:=(l6 h i hi).2.2;rw [List.pairwise_map,List.pairwise_iff_getElem];intro a b ha hb hab e;have hne:=r9 (f:=fun k=>(rs[i].rows[k]?.map RR.name).getD ByteArray.empty) (n:=rs[i].rows.length) (fun k hk=>by
   have h0:k<rs[i].rows.length:=by omega
   simp only[Vg hk,Vg h0,Option.map_some,VO];exact(DN hu (k+1) hk hk).2.1 k h0 rfl)
  have:=hne a b hab hb;simp[ha,hb]at this;exact this (congrArg Prod.snd e)
 rw [List.pairwise_iff_getElem];intro a b ha hb hab x hx y hy e;obtain ⟨r,hr,rfl⟩:=Vo.1 hx;obtain ⟨q,hq,rfl⟩:=Vo.1 hy;have hne:=r9 (f:=fun k=>(rs[k]?.map TR.name).getD ByteArray.empty) (n:=rs.length) (fun k hk=>by
  have h0:k<rs.length:=by omega
  simp only[Vg hk,Vg h0,Option.map_some,VO];exact(l6 h (k+1) hk).2.1 k h0 rfl)
 have:=hne a b hab hb;simp[ha,hb]at this;exact this (congrArg Prod.fst e)
theorem Ic{α:Type}[DecidableEq α]:∀{a b:List α},a.Nodup->(∀x∈a,x∈b)->a.length<=b.length
 | [],_,_,_=>Vf _
 | x::a,b,hd,hs=>by
  obtain⟨h1,h2⟩:=List.nodup_cons.1 hd;have hx:=hs x (by simp);have:=Ic (a:=a) (b:=b.erase x) h2 fun y hy=>(List.mem_erase_of_ne (fun e:y=x=>h1 (by rw[<-e];exact hy))).2 (hs y (by simp[hy]));rw[List.length_erase_of_mem hx]at this;have hp:0<b.length:=List.length_pos_of_mem hx;simp only[VI];omega
def BU(ts:Q0b)(xo xu:Q0a):List Fc:=xo.flatMap fun o=>(au ts).flatMap fun k=>jl o k.2 xu
theorem Ej{ts:Q0b}{st:Q00}{xo xu:Q0a}{n:Int}{f:Fc}(h:f∈cZ ts st xo xu n):f∈BU ts xo xu:=by
 unfold cZ vQ at h;obtain⟨o,ho,h⟩:=Vp.1 h;obtain⟨k,hk,h⟩:=Vp.1 h;exact Vp.2 ⟨o,ho,Vp.2 ⟨k,(V6.1 hk).1,h⟩⟩
theorem BV{α β:Type}(f:α->List β)(m:Nat)(hf:∀a,(f a).length<=m):∀l:List α,(l.flatMap f).length<=l.length*m
 | []=>by simp
 | a::l=>by
  have h1:=BV f m hf l;have h2:=hf a;simp only[VJ,Vh,VI,Nat.add_mul];omega
theorem Qp(ts:Q0b)(xo xu:Q0a):(BU ts xo xu).length<=xo.length*((au ts).length*xu.length) :=
 BV _ _ (fun o=>BV _ _ (fun k=>by unfold jl;rw[VN];exact Va _) _) _
structure GoodO(ts:Q0b)(xo xu:Q0a)(out:Q04):Prop where
 once:out.Nodup
 sub:∀g∈out,g∈BU ts xo xu
def Ut(us:Q0a):List (ByteArray×ByteArray):=us.map fun u=>(u.t,u.s)
def Uu(us:Q0a)(x:Q01):Bool:=us.any fun u=>u.t.toList==x.1.toList&&u.s.toList==x.2.toList
theorem zB{us:Q0a}{x:Q01}:Uu us x=true↔x∈Ut us:=by
 unfold Uu Ut;rw[VF,Vo];constructor
 ·rintro⟨u,hu,h⟩;rw[Vd,fD,fD]at h;exact⟨u,hu,Prod.ext h.1 h.2⟩
 rintro⟨u,hu,rfl⟩;exact⟨u,hu,by simp⟩
def fB(us:Q0a)(new:Q04):List Al:=us.filter fun u=>new.any fun g=>g.c.toList==u.t.toList&&g.d.toList==u.s.toList
theorem El{us:Q0a}{new:Q04}{x:Q01}:x∈Ut (fB us new)↔x∈Ut us/\∃g∈new,g.u=x:=by
 unfold Ut fB;constructor
 ·intro h;obtain⟨u,hu,rfl⟩:=Vo.1 h;obtain⟨h1,h2⟩:=V6.1 hu;obtain⟨g,hg,h3⟩:=VF.1 h2;rw[Vd,fD,fD]at h3;exact⟨VK (f:=fun u:Al=>(u.t,u.s)) h1,g,hg,Prod.ext h3.1 h3.2⟩
 rintro⟨h,g,hg,hx⟩;obtain⟨u,hu,rfl⟩:=Vo.1 h;refine Vo.2 ⟨u,V6.2 ⟨hu,VF.2 ⟨g,hg,?_⟩⟩,rfl⟩;rw[Vd,fD,fD];exact⟨congrArg Prod.fst hx,congrArg Prod.snd hx⟩
theorem Kk(us:Q0a):fB us []=[]:=by unfold fB;rw[List.filter_eq_nil_iff];simp
theorem Kl{ts:Q0b}{xo xu:Q0a}{n:Int}{st st':Q00}(h:∀k∈au ts,st k=st' k):cZ ts st xo xu n=cZ ts st' xo xu n:=by
 unfold cZ vQ;congr 1
 funext o
 have:AC ts st n o=AC ts st' n o:=List.filter_congr fun k hk=>by rw[h k hk]
 rw[this]
set_option linter.unusedSectionVars false
section
variable  [DecidableEq Fc]
theorem GoodO.run{ts:Q0b}{xo xu:Q0a}{out:Q04}(h:GoodO ts xo xu out){H:List Fc->Fc->Bool}{qs:Q04}(hq:∀g∈qs,g∈BU ts xo xu):GoodO ts xo xu (bZ H qs out):=by
 refine⟨xC qs h.once,fun g hg=>?_⟩;obtain⟨n,e,hn⟩:=jP (H:=H) qs out;rw[e]at hg;rcases Vn.1 hg with hg|hg
 ·exact h.sub g hg
 exact hq g (hn g hg).1
theorem GoodO.len{ts:Q0b}{xo xu:Q0a}{out:Q04}(h:GoodO ts xo xu out)(h1:xo.length<=80)(h2:(au ts).length<=36)(h3:xu.length<=40):out.length<=115200:=by
 have a1:=Ic h.once h.sub;have a2:=Qp ts xo xu;have a3:(au ts).length*xu.length<=36*40:=Nat.mul_le_mul h2 h3;have a4:xo.length*((au ts).length*xu.length)<=80*(36*40):=Nat.mul_le_mul h1 a3;omega
structure FewA(ts:Q0b)(l:Q05)(st:Q00)(xo xu:Q0a)(n:Int)(us:Q0a)(out:Q04):Prop where
 sub:us=xu.filter fun u:Al=>Uu us (u.t,u.s)
 few:Few Fc.u (fU ts l) (cZ ts st xo xu n) (Ut us) out
variable  {ts:Q0b}{l:Q05}{st:Q00}{xo xu:Q0a}{n:Int}
theorem FewA.start(out:Q04):FewA ts l st xo xu n xu out:=by
 refine⟨(List.filter_eq_self.2 fun u hu=>zB.2 (VK (f:=fun u:Al=>(u.t,u.s)) hu)).symm,Few.start fun f hf=>Ju hf⟩
theorem Km{φ υ:Type}[DecidableEq φ]{us:φ->υ}{H:List φ->φ->Bool}(hL:Loc us H){qs:List φ}{users:List υ}{out:List φ}(h:Few us H qs users out)(P:υ->Bool)(hP:∀u,P u=true↔u∈users):bZ H (qs.filter fun f=>P (us f)) out=bZ H qs out :=
 (nE hL P qs out fun f hf hp=>h.set f hf fun hm=>by rw[(hP _).2 hm]at hp;cases hp).symm
theorem FewA.round{us:Q0a}{out:Q04}(h:FewA ts l st xo xu n us out):bZ (fU ts l) (cZ ts st xo us n) out=bZ (fU ts l) (cZ ts st xo xu n) out:=by
 have h2:=GJ ts st xo xu n (Uu us);rw[<-h.sub]at h2;rw[<-h2];exact Km (Dw ts l) h.few (Uu us) fun u=>zB
theorem FewA.next{us:Q0a}{out new:Q04}(h:FewA ts l st xo xu n us out)(hn:bZ (fU ts l) (cZ ts st xo us n) out=out++new):FewA ts l st xo xu n (fB us new) (out++new):=by
 refine⟨?_,h.few.next (Dw ts l) (h.round.symm.trans hn) fun u=>El⟩;have h1:fB us new=(xu.filter fun u:Al=>Uu us (u.t,u.s)).filter fun u=>new.any fun g=>g.c.toList==u.t.toList&&g.d.toList==u.s.toList:=by rw[<-h.sub];rfl
 rw[List.filter_filter]at h1;refine h1.trans (List.filter_congr fun u hu=>?_);rw[Vu,zB,El,Vd,zB,VF,and_comm];refine and_congr Iff.rfl ⟨fun⟨g,hg,h3⟩=>⟨g,hg,?_⟩,fun⟨g,hg,h3⟩=>⟨g,hg,?_⟩⟩
 ·rw[Vd,fD,fD]at h3;exact Prod.ext h3.1 h3.2
 rw[Vd,fD,fD];exact⟨congrArg Prod.fst h3,congrArg Prod.snd h3⟩
theorem FewA.done{out:Q04}(h:FewA ts l st xo xu n [] out):kU (fU ts l) (cZ ts st xo xu n) out=out:=h.few.done
theorem sI{st st':Q00}(h:∀k∈au ts,st k=st' k):∀N,lY ts l st xo xu N=lY ts l st' xo xu N
 | 0=>rfl
 | N+1=>by rw[jy,jy,sI h N,Kl h]
end
end Go.Proofs.YtajkkeikihhejaaGreat
