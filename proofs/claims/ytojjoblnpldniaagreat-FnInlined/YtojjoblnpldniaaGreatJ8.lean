/- Contract of the program's look whether a tuple fits its table. -/
import Derived.Test.YtojjoblnpldniaaGreatSq
import Derived.Test.YtojjoblnpldniaaGreatJ7
open Go.Proofs.Tryz
set_option maxHeartbeats 80000000
set_option linter.defProp false
namespace Go.Proofs.YtojjoblnpldniaaGreat
open ChangeShapes WideShapes ChangeAt RowKit Maps
open Pl
def mh(a:Al)(e:Ex):Bool:=decide (e.kind=1)&&dG e.allow e.allow.length a
def nA(ts:Q0b)(ty rel:ByteArray)(a:Al):Bool:=(aj ts ty rel).any<|mh a
def fit_drop(a:Al)(rows:Q08)(k:Nat)(h:k<rows.length):(ai<|rows.drop k).any (mh a)=(mh a rows[k].e || (ai<|rows.drop<|k+1).any (mh a)):=by
 rw[ic _ _ h];rfl
set_option maxRecDepth 100000 in
def Ce(b n:Nat)(rs:Q06)(ad:Q02)(M:ByteArray×ByteArray->Option Value)(oa ob r c d s:bN)(w:af)(hV:aN dE prog 146 w b n M)(hT:Tab rs M)(hs:jX w ad rs)(hl:∀r∈rs,r.light)(ho:oa.size<=maxLen)(hr:r.size<=maxLen):
  Calls prog 64 #[.map (some b),.agg #[.string oa,.string ob,.string r,.string c,.string d,.string s]] w fun e w'=>e=.returned (.bool<|nA (ae rs) oa r ⟨c,s⟩)/\ag w w':=by
 have HT:=aB hT;have HS:=aB hs;have HL:=aB hl;obtain⟨kl,hkl⟩:=j3 (oa,r) ho hr;have YU:O (keyOf prog 146 (dE (oa,r))=some kl):=hkl;obtain⟨W0,hW0⟩:=eQx<|(w.alloc<|.cells #[.string oa,.string ob,.string r,.string c,.string d,.string s] 29).alloc<|.cells #[.string c,.string s] 216;have hal:ag w W0:=by
  rw[hW0]
  repeat(first|exact WL _ _|refine Below.alloc ?_ (by first|(simp;done)|(simp;omega)) _)
 have HB0:=aB hal;have HV0:=aB<|hV.below hal;have Zb:O (W0.cell? ⟨w.heap.size+1,0,none⟩=some (.string c)/\W0.cell? ⟨w.heap.size+1,1,none⟩=some (.string s)/\w.heap.size+1<W0.heap.size):=⟨by rw[hW0];simp,by rw[hW0];simp,by rw[hW0];simp⟩;obtain⟨rows,X9,capE,HM,HE,HF⟩:∃(rows:Q08) (X9:Q02) (capE:Nat),O ((M (oa,r)).getD (.slice none 0 0)=.slice X9 rows.length capE)/\O (ai rows=aj (ae rs) oa r)/\O (qP rs X9 rows):=by
  cases e:M (oa,r) with
  | none=>exact⟨[],none,0,rfl,by show _=_;unfold aj;rw[HT.no _ e];rfl,.inl rfl⟩
  | some v =>
   obtain⟨t,htm,q,hq,-,rfl,e1,-⟩:=HT.yes _ v e;exact⟨q.rows,q.ad,q.cap,rfl,by show _=_;unfold aj;rw[e1];rfl,.inr ⟨t,htm,q,hq,rfl,rfl⟩⟩
 have Zp:=HF.light HL;have HLE1:rows.length<=1048576:=Zp.1;have HLE2:O (∀q∈rows,q.e.light):=Zp.2;have HSE:O (iw w X9 rows):=HF.sl HS;clear hV hT hs hl hkl hal Zp;go_enter func64,ntmps64;go_wp2_with(at_lookup;rw[<-hW0];refine jZ _ rfl _ _ 102 rfl 146 37 jl underlying102 (o8 _) b n M rfl HV0 (oa,r) kl rfl YU ?_;rw[HM];clear hW0);go_loopw[23] (fun i wr=>∃k:Nat,k<=rows.length/\i=.int .i64 k/\O ((ai<|rows.drop k).any (mh ⟨c,s⟩)=(ai rows).any (mh ⟨c,s⟩))/\O (ag w wr)/\O (wr.cell? ⟨w.heap.size+1,0,none⟩=some (.string c)/\wr.cell? ⟨w.heap.size+1,1,none⟩=some (.string s)/\w.heap.size+1<wr.heap.size)) (fun i _=>rows.length-(intOf i).toNat);case atStart=>exact⟨0,WO _,rfl,rfl,HB0,Zb⟩
 clear HB0 Zb HV0;obtain⟨k,hk,rfl,HP,HB,HC⟩:=hrel;by_cases hlt:k<rows.length
 ·rcases HSE.out.below HB.out with hnil|⟨bE,offE,hadE,hbE,hrE,hok⟩
  ·rw[hnil]at hlt;simp at hlt
  obtain⟨t0,t1,t2,t3,t4⟩:=hrE k hlt;have Yn:O (rows[k].ok wr):=hok _<|WH hlt;have lgA:rows[k].e.allow.length<=1048576:=(HLE2 _<|WH hlt).1;have hk1:=bY k;have hk2:(k:Int)<(rows.length:Int):=cq;obtain⟨x0,x1,x2⟩:=HC.out;have HD:O ((ai rows).any (mh ⟨c,s⟩)=(mh ⟨c,s⟩ rows[k].e || (ai<|rows.drop<|k+1).any (mh ⟨c,s⟩))):=by show _=_;rw[<-HP];exact fit_drop _ _ _ hlt
  obtain⟨W1,hW1⟩:=eQx<|wr.alloc<|.cells #[.int .i64 rows[k].e.kind,.slice rows[k].adA rows[k].e.allow.length rows[k].capA,.string rows[k].e.over,.string rows[k].e.name,.slice rows[k].adK rows[k].e.kids.length rows[k].capK] 43;have hal:ag wr W1:=by rw[hW1];exact(WL _ _).alloc (WK _) _
  have HB1:=iD HB hal;have YH:O (W1.cell? ⟨w.heap.size+1,0,none⟩=some (.string c)/\W1.cell? ⟨w.heap.size+1,1,none⟩=some (.string s)/\w.heap.size+1<W1.heap.size):=⟨aD hal x2 x0,aD hal x2 x1,WJ x2 hal.size⟩;have HA1:O (kV W1 rows[k].adA rows[k].e.allow):=Yn.1.below hal;rw[hadE];clear hrE hok hal HC;by_cases h1:rows[k].e.kind=1
  ·have hq1:(rows[k].e.kind==1)=true:=by simpa using h1
   have ZN:O (mh ⟨c,s⟩ rows[k].e=dG rows[k].e.allow rows[k].e.allow.length ⟨c,s⟩):=by show _=_;unfold mh;simp[h1]
   replace h1:O (rows[k].e.kind=1):=h1;go_wp2_with fail;rw[<-hW1];refine(wN rows[k].adA rows[k].e.allow.length rows[k].capA rows[k].e.allow ⟨c,s⟩ _ (WK _) lgA HA1).mono ?_;rintro e w2 ⟨rfl,hb2⟩;have HB2:=iD HB1 hb2;have Yr:O (w2.cell? ⟨w.heap.size+1,0,none⟩=some (.string c)/\w2.cell? ⟨w.heap.size+1,1,none⟩=some (.string s)/\w.heap.size+1<w2.heap.size):=⟨aD hb2 YH.2.2 YH.1,aD hb2 YH.2.2 YH.2.1,WJ YH.2.2 hb2.size⟩;clear hb2 hW1 t0 t1 t2 t3 t4 x0 x1;cases hz:dG rows[k].e.allow rows[k].e.allow.length ⟨c,s⟩;case true=>
    have HN:O (nA (ae rs) oa r ⟨c,s⟩=true):=by show _=_;unfold nA;rw[<-HE,HD,ZN,hz];rfl
    go_wp2;go_ret;exact⟨by rw[HN];rfl,HB2⟩
   have Ye:O ((ai<|rows.drop<|k+1).any (mh ⟨c,s⟩)=(ai rows).any (mh ⟨c,s⟩)):=by show _=_;rw[HD,ZN,hz];rfl
   go_wp2;go_roundw;case rel=>exact⟨k+1,cq,cx,Ye,HB2,Yr⟩
   simp[intOf]<;>omega
  have hq1:(rows[k].e.kind==1)=false:=by simpa using h1
  have Ye:O ((ai<|rows.drop<|k+1).any (mh ⟨c,s⟩)=(ai rows).any (mh ⟨c,s⟩)):=by show _=_;rw[HD];simp[mh,h1]
  have YY:O (ag w<|wr.alloc<|.cells #[.int .i64 rows[k].e.kind,.slice rows[k].adA rows[k].e.allow.length rows[k].capA,.string rows[k].e.over,.string rows[k].e.name,.slice rows[k].adK rows[k].e.kids.length rows[k].capK] 43):=by rw[<-hW1];exact HB1
  have HCX:O ((wr.alloc<|.cells #[.int .i64 rows[k].e.kind,.slice rows[k].adA rows[k].e.allow.length rows[k].capA,.string rows[k].e.over,.string rows[k].e.name,.slice rows[k].adK rows[k].e.kids.length rows[k].capK] 43).cell? ⟨w.heap.size+1,0,none⟩=some (.string c)/\(wr.alloc<|.cells #[.int .i64 rows[k].e.kind,.slice rows[k].adA rows[k].e.allow.length rows[k].capA,.string rows[k].e.over,.string rows[k].e.name,.slice rows[k].adK rows[k].e.kids.length rows[k].capK] 43).cell? ⟨w.heap.size+1,1,none⟩=some (.string s)/\w.heap.size+1<(wr.alloc<|.cells #[.int .i64 rows[k].e.kind,.slice rows[k].adA rows[k].e.allow.length rows[k].capA,.string rows[k].e.over,.string rows[k].e.name,.slice rows[k].adK rows[k].e.kids.length rows[k].capK] 43).heap.size):=by rw[<-hW1];exact YH
  clear hW1;go_wp2;go_roundw;case rel=>exact⟨k+1,cq,cx,Ye,YY,HCX⟩
  simp[intOf]<;>omega
 have HN:O (nA (ae rs) oa r ⟨c,s⟩=false):=by show _=_;unfold nA;rw[<-HE,<-HP,Xm cq];rfl
 go_wp2;go_ret;exact⟨by rw[HN];rfl,HB⟩
set_option linter.unusedVariables false
set_option maxRecDepth 100000
def xg{x y:Al}:kY x y=true↔x=y:=by
 unfold kY;simp only[WM,beq_iff_eq];constructor
 ·rintro⟨h0,h1⟩;obtain⟨xa,xb⟩:=x;obtain⟨ya,yb⟩:=y;simp only at h0 h1;rw[Io h0,Io h1]
 rintro rfl;simp
def EP(x y:Al):kY x y=kY y x:=by
 rw[Xe,xg,xg];exact⟨Eq.symm,Eq.symm⟩
def Rb(x y:Al){v:Bool}(h:kY x y=v)(w:af):
  (binOp .eql 27 (.agg #[.string x.t,.string x.s])<|.agg #[.string y.t,.string y.s]).run prog w=.ok (.bool v) w:=by
 subst h;go_simp;unfold kY
 (repeat' split)<;>simp_all
def xh(xs:Q0a)(o:Al):Bool:=xs.any fun x=>kY x o
def Rc{xs:Q0a}{o:Al}:xh xs o=true↔o∈xs:=by
 unfold xh;rw[Xj];constructor
 ·rintro⟨x,hx,e⟩;rw[<-xg.1 e];exact hx
 intro h;exact⟨o,h,xg.2 rfl⟩
def Ow{xs:Q0a}{o:Al}{k:Nat}(h:k<xs.length):xh (xs.take<|k+1) o=(xh (xs.take k) o || kY xs[k] o):=by
 rw[WN h];unfold xh;rw[List.any_append];simp only[XY,List.any_nil,Bool.or_false]
def Re{xs:Q0a}{o:Al}{k:Nat}(h:k<xs.length)(he:kY xs[k] o=true):xh xs o=true:=Xj.2 ⟨xs[k],WH h,he⟩
def Ll(ad:Q02)(cap:Nat)(ts:Q0a)(t:Al)(w:af)(hlen:bh ts)(hs:kV w ad ts):
  Calls prog 308 #[.slice ad ts.length cap,.agg #[.string t.t,.string t.s]] w fun e w'=>(∃r:Int,e=.returned (.int .i64 r)/\decide (0<=r)=xh ts t)/\ag w w':=by
 obtain⟨W,hW⟩:=eQx<|w.alloc<|.cells #[.string t.t,.string t.s] 27;have HB0:O (ag w W):=by show Below _ _ _;rw[hW];exact(WL w.heap.size w).alloc (WK _) _
 have hz:w.heap.size<W.heap.size:=by rw[hW];simp
 have b0:W.cell? (a7 w)=some (.string t.t):=by rw[hW];simp
 have b1:W.cell? (a8 w 1)=some (.string t.s):=by rw[hW];simp
 have HS:=aB<|hs.below HB0;clear hs;go_enter func308,ntmps308;go_wp2_with fail;rw[<-hW];clear hW;go_loopw[8] (fun i wr=>∃k:Nat,k<=ts.length/\i=.int .i64 k/\O (xh (ts.take k) t=false)/\ag W wr) (fun i _=>ts.length-(intOf i).toNat);case atStart=>exact⟨0,WO _,rfl,rfl,WL _ _⟩
 obtain⟨k,hk,rfl,HP,hB⟩:=hrel;have a0:=iH hB hz b0;have a1:=iH hB hz b1;by_cases hlt:k<ts.length
 ·rcases HS.out.below hB with hnil|⟨b,off,rfl,hb,hr⟩
  ·rw[hnil]at hlt;simp at hlt
  obtain⟨t0,t1⟩:=hr k hlt;have hk1:=bY k;have hk2:(k:Int)<(ts.length:Int):=cq;clear hr;cases hq:kY t ts[k];case true=>
   have HE:=Rb t ts[k] hq;have HN:O (xh ts t=true):=Re hlt (by rw[EP];exact hq);go_wp2_with fail;go_quiet (fail);go_wp2;go_ret;exact⟨⟨_,rfl,by rw[HN];simp⟩,HB0.trans<|below_drewN (hB.mono HB0.size) _⟩
  have HE:=Rb t ts[k] hq;have Ye:O (xh (ts.take<|k+1) t=false):=by show _=_;rw[Ow hlt,HP,EP,hq];rfl
  go_wp2_with fail;go_quiet (fail);go_wp2;go_roundw;case rel=>exact⟨k+1,cq,cx,Ye,below_drewN hB _⟩
  simp[intOf]<;>omega
 obtain rfl:k=ts.length:=cq;have HN:O (xh ts t=false):=by have:=HP.out;rw[Xa]at this;exact this
 go_wp2;go_ret;exact⟨⟨-1,rfl,by rw[HN];rfl⟩,HB0.trans<|hB.mono HB0.size⟩
def Dv(ad:Q02)(cap:Nat)(ts:Q0a)(t:Al)(w:af)(hlen:bh ts)(hs:kV w ad ts):
  Calls prog 268 #[.slice ad ts.length cap,.agg #[.string t.t,.string t.s]] w (bj w<|.bool<|xh ts t):=by
 have HB0:O (ag w<|w.alloc<|.cells #[.string t.t,.string t.s] 27):=(WL w.heap.size w).alloc (WK _) _;have HS:=aZ hs;clear hs;go_enter func268,ntmps268;go_wp2_with fail;refine(Ll ad cap ts t _ hlen<|HS.below HB0).mono ?_;rintro e w1 ⟨⟨r,rfl,hr⟩,hb1⟩;have HR:=aZ hr;have HB1:=aZ<|HB0.trans<|hb1.mono HB0.size;clear hr hb1;go_wp2;go_ret;exact⟨ah HR,HB1⟩
def il(xs:Q0a)(o:Al):List Al:=if xh xs o then xs else xs++[o]
def IJ:∃i,prog.info? 27=some i/\i.zero=some (.agg aE)/\i.size=2/\i.bytes=32 :=
 info_parts (P:=prog) (e:=27) (z:=.agg aE) (size:=2) (bytes:=32) cw
def uy{w:af}{base:Nat}{v:Value}{xs:Q0a}(h:w.ownsRow base 27 2 v xs.length<|pairs xs):∃ad cap,v=.slice ad xs.length cap/\kV w ad xs:=by
 rcases h.2 with⟨rfl,h0⟩|⟨g,cap,cur,rfl,hbg,hg,hnc,-⟩
 ·exact⟨none,0,by rw[h0],.inl<|Xb.1 h0⟩
 refine⟨_,cap,rfl,.inr ⟨g,0,rfl,(h.lt g rfl).2,fun i hi=>?_⟩⟩;obtain⟨h0,h1⟩:=qZ xs i hi;have hl:=kI xs;refine⟨?_,?_⟩
 ·rw[h.cellAt (0+i*2) cq,Xl];exact h0
 rw[h.cellAt (0+i*2+1) cq,Xl];exact h1
def nC(B:Nat)(v:Value)(xs:Q0a)(o:Al)(w:af)(hlen:xs.length<=1000)(hB:cd B w)(hown:w.ownsRow B 27 2 v xs.length<|pairs xs):
  Calls prog 200 #[v,.agg #[.string o.t,.string o.s]] w fun e w'=>∃v',e=.returned v'/\w'.ownsRow B 27 2 v' (il xs o).length (pairs<|il xs o)/\Aside w v w' v'/\∀B',(∀g,v.ownBlock=some g->B'<=g)->B'<=w.heap.size->Below B' w w':=by
 obtain⟨iO,h0,h1,h2,h3⟩:=IJ;have HIO:=aZ<|And.intro h0<|And.intro h1<|And.intro h2 h3;obtain⟨ad,cap,rfl,hsl⟩:=uy hown;obtain⟨W,hW⟩:=eQx<|w.alloc<|.cells #[.string o.t,.string o.s] 27;have HB0:O (ag w W):=by show Below _ _ _;rw[hW];exact(WL w.heap.size w).alloc (WK _) _
 have hz:w.heap.size<W.heap.size:=by rw[hW];simp
 have b0:W.cell? (a7 w)=some (.string o.t):=by rw[hW];simp
 have b1:W.cell? (a8 w 1)=some (.string o.s):=by rw[hW];simp
 have HSL:=aZ hsl;have HO:=aZ hown;clear hsl hown h0 h1 h2 h3;go_enter func200,ntmps200;go_wp2_with fail;rw[<-hW];clear hW;refine(Dv ad cap xs o _ cq<|HSL.below HB0).mono ?_;rintro e w1 ⟨rfl,hb1⟩;have HB1:=aZ<|HB0.trans<|hb1.mono HB0.size;have c0:=iH hb1 hz b0;have c1:=iH hb1 hz b1;have Yu:=aZ<|gy HO HB1;have HA1:O (Aside w (.slice ad xs.length cap) w1<|.slice ad xs.length cap):=Aside.below HB1;clear hb1 b0 b1;cases hh:xh xs o;case true=>
  have HW:O (il xs o=xs):=by show _=_;unfold il;rw[hh];rfl
  go_wp2;go_ret;exact⟨_,rfl,by rw[HW];exact Yu,HA1,fun B' _ hB'=>HB1.mono hB'⟩
 have HW:O (il xs o=xs++[o]):=by show _=_;unfold il;rw[hh];rfl
 obtain⟨W2,hW2⟩:=eQx<|w1.alloc<|.cells #[.string o.t,.string o.s] 27;have Yk:O (W2.ownsRow B 27 2 (.slice ad xs.length cap) xs.length<|pairs xs):=by show World.ownsRow _ _ _ _ _ _ _;rw[hW2];exact Yu.alloc _
 have HA2:O (Aside w (.slice ad xs.length cap) W2<|.slice ad xs.length cap):=by show Aside _ _ _ _;rw[hW2];exact HA1.trans<|Aside.below<|(WL _ _).alloc (WK _) _
 have HBW2:O (ag w W2):=by show Below _ _ _;rw[hW2];exact HB1.alloc HB1.size _
 have HN2:O (∀j u,[Value.string o.t,.string o.s][j]?=some u->W2.cell? ((⟨w1.heap.size,0,none⟩:Addr).add j)=some u):=fun j u hu=>by
  rw[hW2]
  match j,hu with
  | 0,hu=>simp at hu;subst hu;simp[Addr.add]
  | 1,hu=>simp at hu;subst hu;simp[Addr.add]
 have hsz2:cd B W2:=by have:=HB1.size;rw[hW2];simp;omega
 clear hh;go_wp2_with(at_builtin;rw[<-hW2];clear hW2;refine wpList_append_own_at _ rfl _ _ 192 rfl B 27 iO (.agg aE) 2 32 underlying192 HIO.1 HIO.2.1 HIO.2.2.1 HIO.2.2.2 rfl cv _ xs.length (pairs xs) rfl Yk ⟨w1.heap.size,0,none⟩ 1 1 [.string o.t,.string o.s] rfl rfl HN2 (by simp[Value.oneCell']) cy cq hsz2 ?_);intro v' w3 hown hgr _ hat;have HE:O (w3.ownsRow B 27 2 v' (il xs o).length<|pairs<|il xs o):=by
  show World.ownsRow _ _ _ _ _ _ _;rw[HW,WP];have:pairs (xs++[o])=pairs xs++[.string o.t,.string o.s]:=by simp[pairs]
  rw[this];exact hown
 have ZK:O (Aside w (.slice ad xs.length cap) w3 v'):=HA2.trans<|Aside.app hgr hat;have HBL:O (∀B',(∀g,(Value.slice ad xs.length cap).ownBlock=some g->B'<=g)->B'<=w.heap.size->Below B' w w3):=fun B' hv hB'=>(HBW2.mono hB').grown hgr (WR hB' HBW2.size) hv;clear hown hgr hat;go_wp2;go_ret;exact⟨_,rfl,HE,ZK,HBL⟩
def jf(xs:Q0a)(t:Tp):List Al:=il (il xs ⟨t.a,t.b⟩) ⟨t.c,t.d⟩
def fH(xs:Q0a)(t:Tp):List Al:=if t.s.toList==[] then il xs ⟨t.c,t.d⟩ else xs
def fP(ts:Q05):List Al:=ts.foldl jf []
def dC(ts:Q05):List Al:=ts.foldl fH []
def Lm(ts:Q05)(t:Tp):fP (ts++[t])=jf (fP ts) t:=by simp[fP]
def IK(ts:Q05)(t:Tp):dC (ts++[t])=fH (dC ts) t:=by simp[dC]
def tF(xs:Q0a)(o:Al):(il xs o).length<=xs.length+1:=by
 unfold il;split
 ·omega
 simp
def IL(xs:Q0a)(t:Tp):(jf xs t).length<=xs.length+2:=by
 unfold jf;have h1:=tF (il xs ⟨t.a,t.b⟩) ⟨t.c,t.d⟩;have h2:=tF xs ⟨t.a,t.b⟩;omega
def IM(xs:Q0a)(t:Tp):(fH xs t).length<=xs.length+1:=by
 unfold fH;split
 ·exact tF _ _
 omega
def Ox(t:Tp):K3:=(t.a,t.b,t.r)
def dY(ts:Q05):List (K3×Tp):=ts.map fun t=>(Ox t,t)
def Lp(ts:Q05)(t:Tp):dY (ts++[t])=dY ts++[(Ox t,t)]:=by simp[dY]
structure DatT(w:World)(D br bp:Nat)(tab:Value)(n1:Int)(E:List<|K3×Tp)(xo xu:Q0a)(np:Nat)(Mp:K3->Option Value)(vo vu:Value):Prop where
 gt:bp<D
 lt:D<w.heap.size
 kind:∃cur,w.heap[D]?=some (.cells cur 194 (0,0))
 c0:w.cell? ⟨D,0,none⟩=some tab
 c1:w.cell? ⟨D,1,none⟩=some (.int .i64 n1)
 c2:w.cell? ⟨D,2,none⟩=some (.map<|some br)
 c3:w.cell? ⟨D,3,none⟩=some (.map<|some bp)
 c4:w.cell? ⟨D,4,none⟩=some vo
 c5:w.cell? ⟨D,5,none⟩=some vu
 told:G.Grp rG prog 273 29 6 Tp.row w bp np Mp E
 objs:w.ownsRow (bp+1) 27 2 vo xo.length (pairs xo)
 users:w.ownsRow (bp+1) 27 2 vu xu.length (pairs xu)
 apart:∀g,vo.ownBlock=some g->vu.ownBlock≠some g
def fE{w:af}{base size n g:Nat}{e e':TypeId}{v:Value}{xs:Q03}{cur:Array Value}(h:w.ownsRow base e size v n xs)(hg:v.ownBlock=some g)(hc:w.heap[g]?=some (.cells cur e' (0,0))):e=e':=by
 rcases h.2 with⟨rfl,-⟩|⟨g',cap,cur',rfl,-,hg',-⟩
 ·simp[Value.ownBlock]at hg
 have e1:g'=g:=by simpa[Value.ownBlock] using hg
 rw[e1,hc]at hg';injection hg' with hg';injection hg' with _ h2;exact h2.symm
def Gi{w:af}{base size n g:Nat}{e:TypeId}{v:Value}{xs:Q03}{es:Array MapEntry}{c:Nat}(h:w.ownsRow base e size v n xs)(hg:v.ownBlock=some g)(hc:w.heap[g]?=some (.map es c)):False:=by
 rcases h.2 with⟨rfl,-⟩|⟨g',cap,cur',rfl,-,hg',-⟩
 ·simp[Value.ownBlock]at hg
 have e1:g'=g:=by simpa[Value.ownBlock] using hg
 rw[e1,hc]at hg';cases hg'
def fA{w w':af}{base size n:Nat}{e:TypeId}{v:Value}{xs:Q03}(h:w.ownsRow base e size v n xs)(hb:∀g,v.ownBlock=some g->w'.heap[g]?=w.heap[g]?):w'.ownsRow base e size v n xs:=by
 refine⟨h.1,?_⟩;rcases h.2 with h0|⟨g,cap,cur,rfl,h1,h2,h3⟩
 ·exact .inl h0
 exact .inr ⟨g,cap,cur,rfl,h1,(hb g rfl).trans h2,h3⟩
def kr{w:af}{base size n g:Nat}{e:TypeId}{v:Value}{xs:Q03}(h:w.ownsRow base e size v n xs)(hg:v.ownBlock=some g):∃cur,w.heap[g]?=some (.cells cur e (0,0)):=by
 rcases h.2 with⟨rfl,-⟩|⟨g',cap,cur',rfl,-,hg',-⟩
 ·simp[Value.ownBlock]at hg
 have e1:g'=g:=by simpa[Value.ownBlock] using hg
 exact⟨cur',by rw[<-e1];exact hg'⟩
def xk{w:af}{bp np:Nat}{Mp:K3->Option Value}{E:List<|K3×Tp}(h:G.Grp rG prog 273 29 6 Tp.row w bp np Mp E){k:K3}{v:Value}(hk:Mp k=some v):∃n xs,w.ownsRow (bp+1) 29 6 v n xs:=by
 rcases h.row k with⟨e,-⟩|⟨v',e,ho⟩
 ·rw[e]at hk;cases hk
 rw[e]at hk;injection hk with hk;subst hk;exact⟨_,_,ho⟩
def IP{w:af}{bp np g:Nat}{Mp:K3->Option Value}{E:List<|K3×Tp}{e:TypeId}{cur:Array Value}(h:G.Grp rG prog 273 29 6 Tp.row w bp np Mp E)(hc:w.heap[g]?=some (.cells cur e (0,0)))(hne:(29:TypeId)≠e):G.FreeB Mp g:=fun k v hk hg=>by
 obtain⟨n,xs,ho⟩:=xk h hk;exact hne<|fE ho hg hc
def xm{w w':af}{bp np:Nat}{Mp:K3->Option Value}{E:List<|K3×Tp}(h:G.Grp rG prog 273 29 6 Tp.row w bp np Mp E)(hm:w'.heap[bp]?=w.heap[bp]?)(hr:∀k v g,Mp k=some v->v.ownBlock=some g->w'.heap[g]?=w.heap[g]?):G.Grp rG prog 273 29 6 Tp.row w' bp np Mp E where
 map:=h.map.of_block hm
 row k:=by
  rcases h.row k with e|⟨v,e,ho⟩
  ·exact .inl e
  exact .inr ⟨v,e,fA ho fun g hg=>hr k v g e hg⟩
 apart:=h.apart
section
variable  {w w':World}{D br bp:Nat}{tab:Value}{n1:Int}{E:List (K3×Tp)}{xo xu:Q0a}{np:Nat}{Mp:K3->Option Value}{vo vu:Value}
def DatT.below(h:DatT w D br bp tab n1 E xo xu np Mp vo vu)(hb:ag w w'):DatT w' D br bp tab n1 E xo xu np Mp vo vu where
 gt:=h.gt
 lt:=WJ h.lt hb.size
 kind:=by obtain⟨cur,e⟩:=h.kind;exact⟨cur,(hb.block D h.lt).trans e⟩
 c0:=(hb.cell (p:=⟨D,0,none⟩) h.lt).trans h.c0
 c1:=(hb.cell (p:=⟨D,1,none⟩) h.lt).trans h.c1
 c2:=(hb.cell (p:=⟨D,2,none⟩) h.lt).trans h.c2
 c3:=(hb.cell (p:=⟨D,3,none⟩) h.lt).trans h.c3
 c4:=(hb.cell (p:=⟨D,4,none⟩) h.lt).trans h.c4
 c5:=(hb.cell (p:=⟨D,5,none⟩) h.lt).trans h.c5
 told:=h.told.below hb
 objs:=gy h.objs hb
 users:=gy h.users hb
 apart:=h.apart
def DatT.tell(h:DatT w D br bp tab n1 E xo xu np Mp vo vu){Mp':K3->Option Value}{E':List<|K3×Tp}{np':Nat}(hg:G.Grp rG prog 273 29 6 Tp.row w' bp np' Mp' E')(hs:G.Stl w Mp w' Mp' bp):DatT w' D br bp tab n1 E' xo xu np' Mp' vo vu:=by
 have hD:w'.heap[D]?=w.heap[D]?:=by
  obtain⟨cur,e⟩:=h.kind;exact hs.block D h.lt (by have:=h.gt;omega) (IP h.told e cv)
 have hc:∀o,w'.cell? (aq D o)=w.cell? (aq D o):=fun o=>WX (w:=w) (a:=⟨D,o,none⟩) hD;have hO:∀{v:Value} {n:Nat} {xs:Q03},w.ownsRow (bp+1) 27 2 v n xs->w'.ownsRow (bp+1) 27 2 v n xs:=fun {v n xs} ho=>fA ho fun g hg=>by
  obtain⟨cur,e⟩:=kr ho hg;have:=ho.lt g hg;exact hs.block g this.2 cq<|IP h.told e cv
 exact⟨h.gt,WJ h.lt hs.size,by obtain⟨cur,e⟩:=h.kind;exact⟨cur,hD.trans e⟩,(hc _).trans h.c0,(hc _).trans h.c1,(hc _).trans h.c2,(hc _).trans h.c3,(hc _).trans h.c4,(hc _).trans h.c5,hg,hO h.objs,hO h.users,h.apart⟩
def DatT.newO(h:DatT w D br bp tab n1 E xo xu np Mp vo vu){vo':Value}{xo':Q0a}(ho:w'.ownsRow (bp+1) 27 2 vo' xo'.length<|pairs xo')(ha:Aside w vo w' vo'):DatT (w'.setCell (aq D 4) vo') D br bp tab n1 E xo' xu np Mp vo' vu:=by
 obtain⟨cur,hk⟩:=h.kind;have hDo:vo.ownBlock≠some D:=fun e=>absurd (fE h.objs e hk) cv;have hD:w'.heap[D]?=w.heap[D]?:=ha.block D h.lt hDo;have hc:∀o,w'.cell? (aq D o)=w.cell? (aq D o):=fun o=>WX (w:=w) (a:=⟨D,o,none⟩) hD;have hc2:∀o,o≠4->(w'.setCell (aq D 4) vo').cell? (aq D o)=w.cell? (aq D o):=fun o ne=>(lT cq).trans<|hc o;have hDn:vo'.ownBlock≠some D:=ha.apart h.lt hDo;have hne:∀g,g≠D->(w'.setCell (aq D 4) vo').heap[g]?=w'.heap[g]?:=fun g e=>heap_setCell_other w' ⟨D,4,none⟩ g vo' e;have hbp:cU bp w:=by have:=h.gt;have:=h.lt;omega
 have hrow:∀k v g,Mp k=some v->v.ownBlock=some g->(w'.setCell (aq D 4) vo').heap[g]?=w.heap[g]?:=fun k v g hm hg=>by
  obtain⟨n,xs,hr⟩:=xk h.told hm;obtain⟨cr,er⟩:=kr hr hg;rw[hne g (fun e=>absurd (fE hr (e ▸ hg) hk) cv)];exact ha.block g (hr.lt g hg).2 fun e=>absurd (fE h.objs e er) cv
 refine⟨h.gt,by simpa using WJ h.lt ha.size,⟨_,heap_setCell_same w' D 4 cur _ vo'<|hD.trans hk⟩,(hc2 0 cq).trans h.c0,(hc2 1 cq).trans h.c1,(hc2 2 cq).trans h.c2,(hc2 3 cq).trans h.c3,QS<|(hc 4).trans h.c4,(hc2 5 cq).trans h.c5,xm h.told ?_ hrow,fA ho fun g hg=>hne g fun e=>hDn<|e ▸ hg,fA h.users fun g hg=>?_,fun g hg hu=>?_⟩
 ·rw[hne bp (by have:=h.gt;omega)];exact ha.block bp hbp fun e=>by have:=(h.objs.lt bp e).1;omega
 ·rw[hne g (fun e=>absurd (fE h.users (e ▸ hg) hk) cv)];exact ha.block g (h.users.lt g hg).2 fun e=>h.apart g e hg
 rcases ha.own with e|⟨g',e,hg'⟩
 ·exact h.apart g (e ▸ hg) hu
 rw[hg]at e;injection e with e;have:=(h.users.lt g hu).2;omega
def DatT.newU(h:DatT w D br bp tab n1 E xo xu np Mp vo vu){vu':Value}{xu':Q0a}(ho:w'.ownsRow (bp+1) 27 2 vu' xu'.length<|pairs xu')(ha:Aside w vu w' vu'):DatT (w'.setCell (aq D 5) vu') D br bp tab n1 E xo xu' np Mp vo vu':=by
 obtain⟨cur,hk⟩:=h.kind;have hDo:vu.ownBlock≠some D:=fun e=>absurd (fE h.users e hk) cv;have hD:w'.heap[D]?=w.heap[D]?:=ha.block D h.lt hDo;have hc:∀o,w'.cell? (aq D o)=w.cell? (aq D o):=fun o=>WX (w:=w) (a:=⟨D,o,none⟩) hD;have hc2:∀o,o≠5->(w'.setCell (aq D 5) vu').cell? (aq D o)=w.cell? (aq D o):=fun o ne=>(lT cq).trans<|hc o;have hDn:vu'.ownBlock≠some D:=ha.apart h.lt hDo;have hne:∀g,g≠D->(w'.setCell (aq D 5) vu').heap[g]?=w'.heap[g]?:=fun g e=>heap_setCell_other w' ⟨D,5,none⟩ g vu' e;have hbp:cU bp w:=by have:=h.gt;have:=h.lt;omega
 have hrow:∀k v g,Mp k=some v->v.ownBlock=some g->(w'.setCell (aq D 5) vu').heap[g]?=w.heap[g]?:=fun k v g hm hg=>by
  obtain⟨n,xs,hr⟩:=xk h.told hm;obtain⟨cr,er⟩:=kr hr hg;rw[hne g (fun e=>absurd (fE hr (e ▸ hg) hk) cv)];exact ha.block g (hr.lt g hg).2 fun e=>absurd (fE h.users e er) cv
 refine⟨h.gt,by simpa using WJ h.lt ha.size,⟨_,heap_setCell_same w' D 5 cur _ vu'<|hD.trans hk⟩,(hc2 0 cq).trans h.c0,(hc2 1 cq).trans h.c1,(hc2 2 cq).trans h.c2,(hc2 3 cq).trans h.c3,(hc2 4 cq).trans h.c4,QS<|(hc 5).trans h.c5,xm h.told ?_ hrow,fA h.objs fun g hg=>?_,fA ho fun g hg=>hne g fun e=>hDn<|e ▸ hg,fun g hg hu=>?_⟩
 ·rw[hne bp (by have:=h.gt;omega)];exact ha.block bp hbp fun e=>by have:=(h.users.lt bp e).1;omega
 ·rw[hne g (fun e=>absurd (fE h.objs (e ▸ hg) hk) cv)];exact ha.block g (h.objs.lt g hg).2 fun e=>h.apart g hg e
 rcases ha.own with e|⟨g',e,hg'⟩
 ·exact h.apart g hg<|e ▸ hu
 rw[hu]at e;injection e with e;have:=(h.objs.lt g hg).2;omega
end
def Rf:∃i,prog.info? 29=some i/\i.zero=some (.agg ar)/\i.size=6/\i.bytes=96 :=
 info_parts (P:=prog) (e:=29) (z:=.agg ar) (size:=6) (bytes:=96) cw
def Lr(u:af):(zeroValue 25).run prog u=.ok (.slice none 0 0) u:=cw
def ES{w:af}{bp np:Nat}{Mp:K3->Option Value}{E:List<|K3×Tp}(h:G.Grp rG prog 273 29 6 Tp.row w bp np Mp E)(k:K3):w.ownsRow (bp+1) 29 6 ((Mp k).getD<|.slice none 0 0) (G.lookL E k).length (G.flatG Tp.row<|G.lookL E k):=by
 rcases h.row k with⟨e,e2⟩|⟨v,e,ho⟩
 ·rw[e,e2];exact World.ownsRow_nil _ _ _ _
 rw[e];exact ho
def news_of_block{w:af}{g:Nat}{cs:Array Value}{T:TypeId}(h:w.heap[g]?=some (.cells cs T (0,0))):∀j u,cs.toList[j]?=some u->w.cell? ((⟨g,0,none⟩:Addr).add j)=some u:=by
 intro j u hu;have e:(⟨g,0,none⟩:Addr).add j=⟨g,j,none⟩:=by
  unfold Addr.add;by_cases hj:j=0
  ·subst hj;simp
  simp[hj]
 rw[e];simp[World.cell?,h];simpa using hu
def wZ.block{w w':af}{g:Nat}{t:Tp}(h:wZ w g t)(e:w'.heap[g]?=w.heap[g]?)(hl:cU g w'):wZ w' g t:=by
 obtain⟨h0,h1,h2,h3,h4,h5,_⟩:=h;have hc:∀o,w'.cell? (aq g o)=w.cell? (aq g o):=fun o=>WX (w:=w) (a:=⟨g,o,none⟩) e;exact⟨(hc _).trans h0,(hc _).trans h1,(hc _).trans h2,(hc _).trans h3,(hc _).trans h4,(hc _).trans h5,hl⟩
def lV{w:af}{g:Nat}{cs:Array Value}{T:TypeId}(h:w.heap[g]?=some (.cells cs T (0,0)))(o:Nat):w.frozen? (aq g o)=false:=by
 simp[World.frozen?,h]
def wZ.aside{w w':af}{g base n:Nat}{t:Tp}{v v':Value}{xs:Q03}(h:wZ w g t)(hc:∃cur,w.heap[g]?=some (.cells cur 29 (0,0)))(ho:w.ownsRow base 27 2 v n xs)(ha:Aside w v w' v'):wZ w' g t/\∃cur,w'.heap[g]?=some (.cells cur 29 (0,0)):=by
 obtain⟨cur,e⟩:=hc;have hl:=h.2.2.2.2.2.2;have hb:=ha.block g hl fun hg=>absurd (fE ho hg e) cv;exact⟨h.block hb<|WJ hl ha.size,cur,hb.trans e⟩
def Vn{C:Nat->Value}{a b c d e f g h i j:Value}(q:C=fun n=>(a::b::c::d::e::f::g::h::i::j::[]).getD n undef):C 0=a/\C 1=b/\C 2=c/\C 3=d/\C 4=e/\C 5=f/\C 6=g/\C 7=h/\C 8=i/\C 9=j:=by
 rw[q];exact⟨rfl,rfl,rfl,rfl,rfl,rfl,rfl,rfl,rfl,rfl⟩
def MZ{w w1:af}{D c:Nat}{v:Value}(h:w.cell? (aq D c)=some v)(hD:cU D w)(hb:ag w w1):w1.cell? (aq D c)=some v:=(hb.cell hD).trans h
def cell_of{w1 w':af}{D c:Nat}{v:Value}(h:w1.cell? (aq D c)=some v)(e:w'.heap[D]?=w1.heap[D]?):w'.cell? (aq D c)=some v:=(WX (w:=w1) (a:=⟨D,c,none⟩) e).trans h
def DatT.named{w:af}{p:Addr}{v:Value}{D br bp:Nat}{tab:Value}{n1:Int}{E:List<|K3×Tp}{xo xu:Q0a}{np:Nat}{Mp:K3->Option Value}{vo vu:Value}(h:DatT (w.setCell p v) D br bp tab n1 E xo xu np Mp vo vu):∃x,x=w.setCell p v/\DatT x D br bp tab n1 E xo xu np Mp vo vu:=⟨_,rfl,h⟩
def Rh(bp:Nat)(w:World)(vo:Value)(X:Q0a)(v':Value)(w':World):Prop:=∃w1,ag w w1/\w'.ownsRow (bp+1) 27 2 v' X.length (pairs X)/\Aside w1 vo w' v'/\∀B',(∀g,vo.ownBlock=some g->B'<=g)->B'<=w1.heap.size->Below B' w1 w'
def Ri(D br bp:Nat)(tab:Value)(n1:Int)(E:List<|K3×Tp)(xo xu:Q0a)(np:Nat)(Mp:K3->Option Value)(vo vu:Value)(t:Tp)(w:af)(hd:DatT w D br bp tab n1 E xo xu np Mp vo vu)(hnp:np<=1000)(hE:E.length<=1000)(hxo:xo.length<=500)(hxu:xu.length<=500)(ht:t.fits):
    Calls prog 134 #[.pointer (some<|am D),.agg<|cg t] w fun e w'=>e=.returned (.tuple #[])/\(∃Mp' vo' vu',DatT w' D br bp tab n1 (E++[(Ox t,t)]) (jf xo t) (fH xu t) (np+1) Mp' vo' vu')/\Below bp w w':=by
  obtain⟨iT,h0,h1,h2,h3⟩:=Rf;have HIT:=aZ<|And.intro h0<|And.intro h1<|And.intro h2 h3;obtain⟨W,hW⟩:=eQx<|(w.alloc<|.cells (cg t) 29).alloc<|.cells #[.string t.a,.string t.b,.string t.r] 273;have Yg:O (ag w W):=by show Below _ _ _;rw[hW];exact((WL _ _).alloc (WK _) _).alloc ct _
  have hWs:W.heap.size=w.heap.size+2:=by rw[hW];simp
  have HT6:O (wZ W w.heap.size t):=by show wZ _ _ _;rw[hW];refine⟨?_,?_,?_,?_,?_,?_,?_⟩<;>first|(simp;done)|(simp;omega)
  have HK3:O (W.cell? (am<|w.heap.size+1)=some (.string t.a)/\W.cell? (aq (w.heap.size+1) 1)=some (.string t.b)/\W.cell? (aq (w.heap.size+1) 2)=some (.string t.r)):=by show _/\_;rw[hW];refine⟨?_,?_,?_⟩<;>simp
  have HD:=aZ<|hd.below Yg;have hDl:cU D w:=hd.lt;have HFB:O (G.FreeB Mp w.heap.size):=hd.told.fresh<|WK _;have YY:O (W.heap[w.heap.size]?=some (.cells (cg t) 29 (0,0))):=by show _=_;rw[hW,Below.heap_alloc _ _ _ ct];exact heap_alloc_new w _
  have hbD:bp<D:=hd.gt;have HLL:O ((G.lookL E<|Ox t).length<=1000):=WR (XV _ _) hE;obtain⟨row0,hr0⟩:∃r,r=(Mp<|Ox t).getD (.slice none 0 0):=⟨_,rfl⟩;obtain⟨nn,hnn⟩:∃n,n=(G.lookL E<|Ox t).length:=⟨_,rfl⟩;obtain⟨xs,hxs⟩:∃x,x=G.flatG Tp.row (G.lookL E<|Ox t):=⟨_,rfl⟩;have Y7:=aZ hr0;have HNN:=aZ hnn;have ZO:=aZ hxs;have hnl:nn<=1000:=by rw[hnn];exact HLL
  have Y8:O (∀W0:World,ag W W0->W0.ownsRow (bp+1) 29 6 row0 nn xs):=fun W0 hb=>by rw[hr0,hnn,hxs];exact ES (HD.told.below hb) _
  have HKEY:O (∃kl,keyOf prog 273 (rG<|Ox t)=some kl):=FT _ ht.1 ht.2.1 ht.2.2.1;clear h0 h1 h2 h3 hr0 hnn hxs hd hE;obtain⟨C2,hC2⟩:∃C:Nat->Value,C=fun n=>(Value.pointer (some<|am D)::.pointer (some<|am D)::.pointer (some<|aq D 3)::.map (some bp)::.agg #[.string t.a,.string t.b,.string t.r]::.agg (cg t)::[]).getD n undef:=⟨_,rfl⟩;have Yr:O (C2 0=Value.pointer (some<|am D)/\C2 1=Value.pointer (some<|am D)/\C2 2=Value.pointer (some<|aq D 3)/\C2 3=Value.map (some bp)/\C2 4=Value.agg #[.string t.a,.string t.b,.string t.r]/\C2 5=Value.agg (cg t)):=by show _/\_;rw[hC2];exact⟨rfl,rfl,rfl,rfl,rfl,rfl⟩
  clear hC2;go_enter func134,ntmps134;go_wp2_with fail;rw[<-hW];clear hW;refine qU 11 _ _ (G.EI C2 (cg t) 29 6 W bp row0 nn xs<|G.Back rG prog 273 191 bp np Mp<|Ox t) cw rfl cw cw (vQ [(10,[0,1,2,3,4,8,5,6,7,9,10])]) (G.ei_start W) ?stepA ?finA<;>dsimp only[uI];case stepA =>
    rintro i hi o ho l fq w' Yx hI hpre;have HI:=aB hI;have XZ:O (∀e∈o.after,Region.binds .any e=true->l e.on=true):=hpre;clear hI hpre;have hc:=GY (i:=i) cq;clear hi
    repeat' rcases hc with rfl|hc
    · cases ho;have hA:=HI.early (i:=0) cq Yx;clear XZ HI;refine aa rfl fun K HK=>?_;go_simp;exact HK _ _ ⟨Value.pointer<|some ⟨D,0,none⟩,by simp[upd, *],hA.put cq Yr.1.symm⟩
    · cases ho;have hA:=HI.early (i:=1) cq Yx;have e0:=(hA.val 0 cq<|XZ ⟨0,.data⟩ ct rfl).trans Yr.1;clear XZ HI;refine aa rfl fun K HK=>?_;simp only[e0];go_simp;exact HK _ _ ⟨Value.pointer<|some ⟨D,0,none⟩,by simp[upd, *],hA.put cq Yr.2.1.symm⟩
    · cases ho;have hA:=HI.early (i:=2) cq Yx;have e1:=(hA.val 1 cq<|XZ ⟨1,.data⟩ ct rfl).trans Yr.2.1;clear XZ HI;refine aa rfl fun K HK=>?_;simp only[e1];go_simp;exact HK _ _ ⟨Value.pointer<|some ⟨D,3,none⟩,by simp[upd, *],hA.put cq Yr.2.2.1.symm⟩
    · cases ho;have hA:=HI.early (i:=3) cq Yx;have e2:=(hA.val 2 cq<|XZ ⟨2,.data⟩ ct rfl).trans Yr.2.2.1;have hb':=hA.bel;have d3:=(hb'.cell (p:=⟨D,3,none⟩)<|by show D<_;omega).trans HD.c3;clear XZ HI;refine aa rfl fun K HK=>?_;simp only[e2];go_simp;exact HK _ _ ⟨Value.map<|some bp,by simp[upd, *],hA.put cq Yr.2.2.2.1.symm⟩
    · cases ho;have hA:=HI.early (i:=4) cq Yx;have hb':=hA.bel;have k0:=(hb'.cell (p:=⟨w.heap.size+1,0,none⟩)<|by show w.heap.size+1<_;omega).trans HK3.1;have k1:=(hb'.cell (p:=⟨w.heap.size+1,1,none⟩)<|by show w.heap.size+1<_;omega).trans HK3.2.1;have k2:=(hb'.cell (p:=⟨w.heap.size+1,2,none⟩)<|by show w.heap.size+1<_;omega).trans HK3.2.2;clear XZ HI;refine aa rfl fun K HK=>?_;go_simp;exact HK _ _ ⟨Value.agg #[.string t.a,.string t.b,.string t.r],by simp[upd, *],hA.put cq Yr.2.2.2.2.1.symm⟩
    · cases ho;have hA:=HI.early (i:=5) cq Yx;have hb':=hA.bel;obtain⟨t0,t1,t2,t3,t4,t5,tl⟩:=HT6.below hb';clear XZ HI;refine aa rfl fun K HK=>?_;go_simp;exact HK _ _ ⟨Value.agg<|cg t,by simp[upd, *],hA.put cq Yr.2.2.2.2.2.symm⟩
    · cases ho;have hA:=HI.early (i:=6) cq Yx;have e5:=(hA.val 5 cq<|XZ ⟨5,.data⟩ ct rfl).trans Yr.2.2.2.2.2;clear XZ HI;refine aa rfl fun K HK=>?_;simp only[e5];go_simp;exact HK _ _ ⟨_,by simp[upd,e5],hA.lay⟩
    · cases ho;have hA:=HI.early (i:=7) cq Yx;have e3:=(hA.val 3 cq<|XZ ⟨3,.data⟩ ct rfl).trans Yr.2.2.2.1;have e4:=(hA.val 4 cq<|XZ ⟨4,.data⟩ ct rfl).trans Yr.2.2.2.2.1;have hall:∀k,k<=6->l k=true:=fun k hk=>by
        have hc:=VP (i:=k) cq
        repeat' rcases hc with rfl|hc
        all_goals exact XZ ⟨_,.phase⟩ ct rfl
      have hD':=HD.below hA.bel;obtain⟨kl,hkl⟩:=HKEY.out;obtain⟨st,w1,hrun,hg,hback⟩:=hD'.told.map.entry Qw Qv underlying191 Lr cy hkl;rw[<-Y7]at hrun;have hrun':(Instr.mapEntry 191 (.map<|some bp)<|Value.agg #[.string t.a,.string t.b,.string t.r]).run prog w'=.ok (.tuple #[row0,goInt st]) w1:=hrun;clear XZ HI;refine aa rfl fun K HK=>?_;simp only[e3,e4];go_simp;exact HK _ _ ⟨_,by simp[upd,e3,e4,goInt],hA.took hall hg hback⟩
    · cases ho;have h7:=XZ ⟨7,.data⟩ ct rfl;have hB:=HI.midB h7 (i:=8) cq Yx;obtain⟨st,e7⟩:=HI.seven h7;clear XZ HI;refine aa rfl fun K HK=>?_;simp only[e7];go_simp;exact HK _ _ ⟨_,by simp[upd,e7,goInt],hB.first⟩
    · cases ho;have h7:=XZ ⟨7,.chain⟩ ct rfl;have h8:=XZ ⟨8,.data⟩ ct rfl;have hB:=HI.midB h7 (i:=9) cq Yx;obtain ⟨W0,st,g,hm1,hm2,hm3,hm4,hm5,e7,hm7,hm8,hm9⟩:=hB.mid;have e8:=hm8 h8;have hown:=(Y8 W0 hm1).kept hm5 (by
        rcases h:row0.ownBlock with _|g'
        · exact .inl rfl
        · right;intro e;injection e with e;have:=((Y8 W0 hm1).lt g' h).1;omega)
      have hnew:w'.heap[g]?=some (.cells (cg t) 29 (0,0)):=by
        have hgl:cU g W0:=by
          rcases Nat.lt_or_ge g W0.heap.size with h|h
          · exact h
          · rw[Array.getElem?_eq_none h]at hm4;cases hm4
        rw[hm5.block g hgl (fun e=>by injection e with e;omega)];exact hm4
      clear XZ HI;refine ib w' rfl rfl _ _ 25 rfl (bp+1) 29 iT _ 6 96 underlying25 HIT.1 HIT.2.1 HIT.2.2.1 HIT.2.2.2 rfl cv row0 nn xs (by simp[Act.eval,e8]) hown ⟨g,0,none⟩ 1 1 [Value.string t.a,.string t.b,.string t.r,.string t.c,.string t.d,.string t.s] (by simp[Act.eval,hm2]) rfl (fun j u hu=>news_of_block hnew j u hu) (by simp[Value.oneCell']) cy cq (by have:=hm5.size;have:=hm1.size;omega) ?_;intro v' w2 hown2 Yl Z8;exact⟨v',by simp[upd,Act.put],hB.app h8 Yl hown2 Z8⟩
    · cases ho;have h7:=XZ ⟨7,.data⟩ ct rfl;obtain⟨st,e7⟩:=HI.seven h7;have HI2:=HI.second h7 e7;clear XZ HI;refine aa rfl fun K HK=>?_;simp only[e7];go_simp;exact HK _ _ ⟨_,by simp[upd,e7,goInt],HI2⟩
  case finA =>
    rintro o ho l fq w' hall hI;obtain rfl:=Option.some.inj ho;have hC:=hI.last hall;obtain⟨W0,w1,st,hm1,hm2,hm3,hm4,hm5,hm6,-,hm8⟩:=hC.mid;have e10:=hm8<|hall 10 cq;have e3:=(hC.val 3 cq).trans Yr.2.2.2.1;obtain⟨w3,hrun,hM3,hg3⟩:=hm6 w' (fq 9) (hm3.block bp (by have:=hm2.size;have:=hm1.size;omega) (fun e=>by have:=(Y8 W0 hm1).lt bp e.symm;omega));have hst:=(HD.told.below hm1).step (y:=Ox t) (s:=t) hm2 (by rw[<-HNN,<-ZO];exact hm4) (by rw[<-Y7];exact hm3) (by rw[<-Y7];exact hm5) hg3 hM3;have HDQ:=aZ<|(HD.below hm1).tell hst.1 hst.2;have HBQ:O (Below bp w w3):=by
      have b0:Below bp w W0:=(Yg.trans<|hm1.mono Yg.size).mono cq;have b1:Below bp w w1:=b0.grown hm2 (by have:=hm1.size;omega) (fun i hi=>by injection hi with hi;omega);have b2:Below bp w w':=b1.grown hm3 (by have:=hm2.size;have:=hm1.size;omega) (fun i hi=>by have:=((Y8 W0 hm1).lt i hi).1;omega);exact b2.grown hg3 (by have:=hm3.size;have:=hm2.size;have:=hm1.size;omega) (fun i hi=>by injection hi with hi;omega)
    have hz3:cV W w3:=by have:=hg3.size;have:=hm3.size;have:=hm2.size;have:=hm1.size;omega
    have hbx3:w3.heap[w.heap.size]?=some (.cells (cg t) 29 (0,0)):=by
      rw[hst.2.block w.heap.size (by have:=hm1.size;omega) cq HFB,hm1.block w.heap.size cq];exact YY
    have HTQ:O (wZ w3 w.heap.size t/\∃cur,w3.heap[w.heap.size]?=some (.cells cur 29 (0,0))):=⟨HT6.block (by rw[hbx3,YY]) cq,_,hbx3⟩;have Zq:(Instr.entryStore 191 (.map<|some bp) (.int .i64 st)<|fq 9).run prog w'=.ok () w3:=hrun;obtain⟨Mn,hMn⟩:∃M,M=l6 Mp (Ox t) (some<|fq 9):=⟨_,rfl⟩;rw[<-hMn]at HDQ;refine aa rfl fun K HK=>?_;simp only[e3,e10];go_simp;refine HK _ _ ?_;clear hst hrun Zq hM3 hg3 hm1 hm2 hm3 hm4 hm5 hm6 hm8 hC hI hall ho HK K e3 e10 HD HT6 HK3 Yg Y8 YY Yr HKEY HFB hMn Y7 HNN ZO hbx3;obtain⟨y0,hy0⟩:∃y,y=fq 0:=⟨_,rfl⟩;rw[<-hy0];obtain⟨y1,hy1⟩:∃y,y=fq 1:=⟨_,rfl⟩;rw[<-hy1];obtain⟨y2,hy2⟩:∃y,y=fq 2:=⟨_,rfl⟩;rw[<-hy2];obtain⟨y4,hy4⟩:∃y,y=fq 4:=⟨_,rfl⟩;rw[<-hy4];obtain⟨y8,hy8⟩:∃y,y=fq 8:=⟨_,rfl⟩;rw[<-hy8];obtain⟨y5,hy5⟩:∃y,y=fq 5:=⟨_,rfl⟩;rw[<-hy5];obtain⟨y6,hy6⟩:∃y,y=fq 6:=⟨_,rfl⟩;rw[<-hy6];obtain⟨y7,hy7⟩:∃y,y=fq 7:=⟨_,rfl⟩;rw[<-hy7];obtain⟨y9,hy9⟩:∃y,y=fq 9:=⟨_,rfl⟩;rw[<-hy9];clear hy0 hy1 hy2 hy4 hy8 hy5 hy6 hy7 hy9 fq l hz3;go_wp2_with fail;have hbz:bp+1<=w3.heap.size:=by have:=HDQ.lt;have:=HDQ.gt;omega
    have hx1:(il xo ⟨t.a,t.b⟩).length<=501:=by have:=tF xo ⟨t.a,t.b⟩;omega
    have m1:=trivial;obtain⟨CQ,hCQ⟩:∃C:Nat->Value,C=fun n=>(Value.pointer (some<|am D)::.pointer (some<|am D)::.pointer (some<|am D)::.pointer (some<|aq D 4)::vo::.pointer (some<|a7 w)::.agg #[.string t.a,.string t.b]::undef::.pointer (some<|am D)::.pointer (some<|aq D 4)::[]).getD n undef:=⟨_,rfl⟩;have HCQ:=aZ<|Vn hCQ;have HOB:=aZ HDQ.objs;have HCL:=aZ HDQ.c4;have HWO:=aZ<|nC (bp+1) vo xo ⟨t.a,t.b⟩;clear hCQ;refine dK 10 _ _ (G.WI CQ w3<|Rh bp w3 vo<|il xo ⟨t.a,t.b⟩) cw rfl cw (fun o ho l f w' hI hp=>?_) (vQ [(21,[0,1,2,3,4,5,6,7,8,9])]) (G.wi_start _) ?_ ?_<;>try dsimp only[uI]
    iterate 3
      · cases ho;intro k hk;have h9:=hp ⟨9,.data⟩ ct rfl;have hc:=Mv (i:=k) cq
        repeat' rcases hc with rfl|hc
        all_goals first|exact hI.nin h9|exact h9|exact hp ⟨_,.phase⟩ ct rfl
      · rintro i hi o ho l fr w' Yx hI hpre;have HI:=aZ hI;have XZ:O (∀e∈o.after,Region.binds .any e=true->l e.on=true):=hpre;clear hI hpre;have hc:=Mv (i:=i) cq;clear hi
        repeat' rcases hc with rfl|hc
        · cases ho;have hW:=HI.out;clear XZ HI;refine aa rfl fun K HK=>?_;go_simp;exact HK _ _ ⟨_,by simp[upd, *],hW.put cq cq HCQ.1.symm⟩
        · cases ho;have hW:=HI.out;clear XZ HI;refine aa rfl fun K HK=>?_;go_simp;exact HK _ _ ⟨_,by simp[upd, *],hW.put cq cq HCQ.2.1.symm⟩
        · cases ho;have hW:=HI.out;have e1:=(HI.val 1 cq cq<|XZ ⟨1,.data⟩ ct rfl).trans HCQ.2.1;clear XZ HI;refine aa rfl fun K HK=>?_;simp only[e1];go_simp;exact HK _ _ ⟨_,by simp[upd, *],hW.put cq cq HCQ.2.2.1.symm⟩
        · cases ho;have hW:=HI.out;have e2:=(HI.val 2 cq cq<|XZ ⟨2,.data⟩ ct rfl).trans HCQ.2.2.1;clear XZ HI;refine aa rfl fun K HK=>?_;simp only[e2];go_simp;exact HK _ _ ⟨_,by simp[upd, *],hW.put cq cq HCQ.2.2.2.1.symm⟩
        · cases ho;have hW:=HI.out;have e3:=(HI.val 3 cq cq<|XZ ⟨3,.data⟩ ct rfl).trans HCQ.2.2.2.1;have hb':=HI.early<|.inl Yx;have d4:=MZ HCL HDQ.lt hb';clear XZ HI;refine aa rfl fun K HK=>?_;simp only[e3];go_simp;exact HK _ _ ⟨_,by simp[upd, *],hW.put cq cq HCQ.2.2.2.2.1.symm⟩
        · cases ho;have hW:=HI.out;clear XZ HI;refine aa rfl fun K HK=>?_;go_simp;exact HK _ _ ⟨_,by simp[upd, *],hW.put cq cq HCQ.2.2.2.2.2.1.symm⟩
        · cases ho;have hW:=HI.out;have e5:=(HI.val 5 cq cq<|XZ ⟨5,.data⟩ ct rfl).trans HCQ.2.2.2.2.2.1;have hb':=HI.early<|.inr Yx;obtain⟨t0,t1,t2,t3,t4,t5,tl⟩:=HTQ.1.below hb';clear XZ HI;refine aa rfl fun K HK=>?_;simp only[e5];go_simp;exact HK _ _ ⟨_,by simp[upd, *],hW.put cq cq HCQ.2.2.2.2.2.2.1.symm⟩
        · cases ho;have hW:=HI.out;have e4:=(HI.val 4 cq cq<|XZ ⟨4,.data⟩ ct rfl).trans HCQ.2.2.2.2.1;have e6:=(HI.val 6 cq cq<|XZ ⟨6,.data⟩ ct rfl).trans HCQ.2.2.2.2.2.2.1;have h4:=XZ ⟨4,.data⟩ ct rfl;have h6:=XZ ⟨6,.data⟩ ct rfl;have hb':=HI.before Yx;have hown:=gy HOB hb';clear XZ HI;refine aa rfl fun K HK=>?_;simp only[e4,e6];go_simp;refine(HWO w' cq (WR hbz hb'.size) hown).mono ?_;rintro e w2 ⟨v',rfl,hown2,has,hbl⟩;exact HK _ _ ⟨v',by simp[upd,e4,e6],hW.call h4 h6 ⟨w',hb',hown2,has,hbl⟩⟩
        · cases ho;have hW:=HI.out;have e0:=(HI.val 0 cq cq<|XZ ⟨0,.data⟩ ct rfl).trans HCQ.1;clear XZ HI;refine aa rfl fun K HK=>?_;simp only[e0];go_simp;exact HK _ _ ⟨_,by simp[upd, *],hW.put cq cq HCQ.2.2.2.2.2.2.2.2.1.symm⟩
        · cases ho;have hW:=HI.out;have e8:=(HI.val 8 cq cq<|XZ ⟨8,.data⟩ ct rfl).trans HCQ.2.2.2.2.2.2.2.2.1;have h8:=XZ ⟨8,.data⟩ ct rfl;clear XZ HI;refine aa rfl fun K HK=>?_;simp only[e8];go_simp;exact HK _ _ ⟨_,by simp[upd, *],hW.put cq (fun _=>h8) HCQ.2.2.2.2.2.2.2.2.2.symm⟩
      rintro o ho l fr w' hall hI;obtain rfl:=Option.some.inj ho;obtain⟨hval,w1,hb1,hown,has,hbl⟩:=hI.last hall;have e9:=(hval 9 cq cq).trans HCQ.2.2.2.2.2.2.2.2.2;have hDw:=HDQ.below hb1;have hob:=gy HOB hb1
      first|have hDn:=hDw.newO hown has|have hDn:=hDw.newU hown has
      have hTn:=(HTQ.1.below hb1).aside (by obtain⟨cur,e⟩:=HTQ.2;exact⟨cur,(hb1.block _ HTQ.1.2.2.2.2.2.2).trans e⟩) hob has;obtain⟨cur,hkd⟩:=hDw.kind;have hDo:¬_=some D:=fun e=>absurd (fE hob e hkd) cv;have hkd':=(has.block D hDw.lt hDo).trans hkd;have fz:=fun o=>lV hkd' o;have d4:=cell_of (MZ HCL HDQ.lt hb1)<|has.block D hDw.lt hDo;obtain⟨adn,cpn,e7,-⟩:=uy hown;rw[e7]at hown has hDn;obtain⟨wq,hwn,hDn⟩:=hDn.named;replace HTQ:O (wZ wq w.heap.size t/\∃cur,wq.heap[w.heap.size]?=some (.cells cur 29 (0,0))):=by
        have hh:wq.heap[w.heap.size]?=w'.heap[w.heap.size]?:=by rw[hwn];exact heap_setCell_other w' _ w.heap.size _ (by show w.heap.size≠D;omega)
        obtain⟨cr,ecr⟩:=hTn.2;exact⟨hTn.1.block hh<|by rw[hwn];simpa using hTn.1.2.2.2.2.2.2,cr,hh.trans ecr⟩
      replace HBQ:O (Below bp w wq):=by
        have b1:Below bp w w1:=HBQ.trans<|hb1.mono cq;have b2:Below bp w w':=b1.trans (hbl bp (fun g hg=>by have:=(hob.lt g hg).1;omega) (by have:=hb1.size;omega));show Below _ _ _;rw[hwn];exact b2.setCell (by show bp<=D;omega) _
      replace HDQ:=aZ hDn;replace hbz:bp+1<=wq.heap.size:=by have:=HDQ.lt;omega
      clear hval;refine aa rfl fun K HK=>?_;simp only[e9,e7];go_simp;rw[<-hwn];refine HK _ _ ?_;rw[<-e7]at HDQ ⊢;clear hb1 hown has hbl hDw hDn hTn hkd hkd' hDo fz d4 HK K hI hall ho hwn e9 e7 HCQ HOB HCL HWO hob;obtain⟨vq,hvq⟩:∃y,y=fr 7:=⟨_,rfl⟩;rw[<-hvq]at HDQ ⊢;generalize fr 0=z0,fr 1=z1,fr 2=z2,fr 3=z3,fr 4=z4,fr 5=z5,fr 6=z6,fr 8=z8;clear hvq fr l
      first
        | (clear m1
           go_wp2_with fail;have m2:=trivial;obtain⟨CQ,hCQ⟩:∃C:Nat->Value,C=fun n=>(Value.pointer (some<|am D)::.pointer (some<|am D)::.pointer (some<|am D)::.pointer (some<|aq D 4)::vq::.pointer (some<|a8 w 3)::.agg #[.string t.c,.string t.d]::undef::.pointer (some<|am D)::.pointer (some<|aq D 4)::[]).getD n undef:=⟨_,rfl⟩;have HCQ:=aZ<|Vn hCQ;have HOB:=aZ HDQ.objs;have HCL:=aZ HDQ.c4;have HWO:=aZ<|nC (bp+1) vq (il xo ⟨t.a,t.b⟩) ⟨t.c,t.d⟩;clear hCQ;refine dK 10 _ _ (G.WI CQ wq<|Rh bp wq vq<|il (il xo ⟨t.a,t.b⟩) ⟨t.c,t.d⟩) cw rfl cw (fun o ho l f w' hI hp=>?_) (vQ [(31,[0,1,2,3,4,5,6,7,8,9])]) (G.wi_start _) ?_ ?_<;>try dsimp only[uI])
        | (clear m2
           obtain⟨t0,t1,t2,t3,t4,t5,tl⟩:=HTQ.1;cases hs:(t.s.toList==([]:List UInt8))
           · have HU:O (fH xu t=xu):=by show _=_;unfold fH;rw[hs];rfl
             go_wp2
             go_end0
             exact⟨rfl,⟨_,_,_,by rw[HU];exact HDQ⟩,HBQ⟩
           have HU:O (fH xu t=il xu ⟨t.c,t.d⟩):=by show _=_;unfold fH;rw[hs];rfl
           clear t0 t1 t2 t3 t4 tl;go_wp2_with fail;clear t5 hs;have m3:=trivial;obtain⟨CQ,hCQ⟩:∃C:Nat->Value,C=fun n=>(Value.pointer (some<|am D)::.pointer (some<|am D)::.pointer (some<|am D)::.pointer (some<|aq D 5)::vu::.pointer (some<|a8 w 3)::.agg #[.string t.c,.string t.d]::undef::.pointer (some<|am D)::.pointer (some<|aq D 5)::[]).getD n undef:=⟨_,rfl⟩;have HCQ:=aZ<|Vn hCQ;have HOB:=aZ HDQ.users;have HCL:=aZ HDQ.c5;have HWO:=aZ<|nC (bp+1) vu xu ⟨t.c,t.d⟩;clear hCQ;refine dK 10 _ _ (G.WI CQ wq<|Rh bp wq vu<|il xu ⟨t.c,t.d⟩) cw rfl cw (fun o ho l f w' hI hp=>?_) (vQ [(44,[0,1,2,3,4,5,6,7,8,9])]) (G.wi_start _) ?_ ?_<;>try dsimp only[uI])
        | (clear m3
           go_wp2
           go_end0
           exact⟨rfl,⟨_,_,_,by rw[HU];exact HDQ⟩,HBQ⟩)
def IQ(r:RR):List Value:=[.string r.name,r.sl]
abbrev Gj (w:World)(br nr:Nat)(Mr:KL->Option Value)(Er:List<|KL×RR):Prop:=G.Grp Hw prog 197 39 2 IQ w br nr Mr Er
def IR{w:af}{br nr:Nat}{Mr:KL->Option Value}{Er:List<|KL×RR}(h:Gj w br nr Mr Er){k:KL}{v:Value}(hk:Mr k=some v):∃n xs,w.ownsRow (br+1) 39 2 v n xs:=by
 rcases h.row k with⟨e,-⟩|⟨v',e,ho⟩
 ·rw[e]at hk;cases hk
 rw[e]at hk;injection hk with hk;subst hk;exact⟨_,_,ho⟩
def tH{w:af}{br nr g:Nat}{Mr:KL->Option Value}{Er:List<|KL×RR}{e:TypeId}{cur:Array Value}(h:Gj w br nr Mr Er)(hc:w.heap[g]?=some (.cells cur e (0,0)))(hne:(39:TypeId)≠e):G.FreeB Mr g:=fun k v hk hg=>by
 obtain⟨n,xs,ho⟩:=IR h hk;exact hne<|fE ho hg hc
def IU{w:af}{br nr g:Nat}{Mr:KL->Option Value}{Er:List<|KL×RR}{es:Array MapEntry}{c:Nat}(h:Gj w br nr Mr Er)(hc:w.heap[g]?=some (.map es c)):G.FreeB Mr g:=fun k v hk hg=>by
 obtain⟨n,xs,ho⟩:=IR h hk;exact Gi ho hg hc
def qD{K:Type}{enc:K->Value}{P:Program}{kt:TypeId}{w:af}{b n:Nat}{M:K->Option Value}(h:aN enc P kt w b n M):∃es c,w.heap[b]?=some (.map es c):=by
 obtain⟨D,⟨es,c,hb,-⟩,-⟩:=h;exact⟨es,c,hb⟩
structure DatA(w:World)(rs:Q06)(D br bp bt:Nat)(n1:Int)(nr:Nat)(Mr:KL->Option Value)(Er:List<|KL×RR)(E:List<|K3×Tp)(xo xu:Q0a)(np:Nat)(Mp:K3->Option Value)(vo vu:Value):Prop where
 dat:DatT w D br bp (.map<|some bt) n1 E xo xu np Mp vo vu
 tab:aN dE prog 146 w bt 36 (lN rs)
 rel:Gj w br nr Mr Er
 ord:bt<br/\br<bp
section
variable  {w w':World}{rs:Q06}{D br bp bt:Nat}{n1:Int}{nr:Nat}{Mr:KL->Option Value}{Er:List (KL×RR)}{E:List (K3×Tp)}{xo xu:Q0a}{np:Nat}{Mp:K3->Option Value}{vo vu:Value}
def DatA.below(h:DatA w rs D br bp bt n1 nr Mr Er E xo xu np Mp vo vu)(hb:ag w w'):DatA w' rs D br bp bt n1 nr Mr Er E xo xu np Mp vo vu:=⟨h.dat.below hb,h.tab.below hb,h.rel.below hb,h.ord⟩
def DatA.tell(h:DatA w rs D br bp bt n1 0 (fun _=>none) [] E xo xu np Mp vo vu){E':List<|K3×Tp}{xo' xu':Q0a}{np':Nat}{Mp':K3->Option Value}{vo' vu':Value}(hd:DatT w' D br bp (.map<|some bt) n1 E' xo' xu' np' Mp' vo' vu')(hb:Below bp w w'):DatA w' rs D br bp bt n1 0 (fun _=>none) [] E' xo' xu' np' Mp' vo' vu':=by
 obtain⟨h1,h2⟩:=h.ord;exact⟨hd,h.tab.of_block<|hb.block bt cq,⟨h.rel.map.of_block<|hb.block br cq,fun k=>.inl ⟨rfl,rfl⟩,fun k k' v v' _ e=>by cases e⟩,h.ord⟩
def DatA.list(h:DatA w rs D br bp bt n1 nr Mr Er E xo xu np Mp vo vu){nr':Nat}{Mr':KL->Option Value}{Er':List<|KL×RR}(hg:Gj w' br nr' Mr' Er')(hs:G.Stl w Mr w' Mr' br):DatA w' rs D br bp bt n1 nr' Mr' Er' E xo xu np Mp vo vu:=by
 obtain⟨h1,h2⟩:=h.ord;have hgt:=h.dat.gt;have hlt:=h.dat.lt;obtain⟨cur,hk⟩:=h.dat.kind;have hD:w'.heap[D]?=w.heap[D]?:=hs.block D hlt cq<|tH h.rel hk cv;have hc:∀o,w'.cell? (aq D o)=w.cell? (aq D o):=fun o=>WX (w:=w) (a:=⟨D,o,none⟩) hD;have hO:∀{v:Value} {n:Nat} {xs:Q03},w.ownsRow (bp+1) 27 2 v n xs->w'.ownsRow (bp+1) 27 2 v n xs:=fun {v n xs} ho=>fA ho fun g hg=>by
  obtain⟨cr,e⟩:=kr ho hg;have:=ho.lt g hg;exact hs.block g this.2 cq<|tH h.rel e cv
 obtain⟨es,c,eb⟩:=qD h.dat.told.map;obtain⟨es2,c2,eb2⟩:=qD h.tab;refine⟨⟨hgt,WJ hlt hs.size,⟨cur,hD.trans hk⟩,(hc _).trans h.dat.c0,(hc _).trans h.dat.c1,(hc _).trans h.dat.c2,(hc _).trans h.dat.c3,(hc _).trans h.dat.c4,(hc _).trans h.dat.c5,xm h.dat.told ?_ ?_,hO h.dat.objs,hO h.dat.users,h.dat.apart⟩,h.tab.of_block ?_,hg,h.ord⟩
 ·exact hs.block bp cq cq<|IU h.rel eb
 ·intro k v g hm hg2;obtain⟨n,xs,ho⟩:=xk h.dat.told hm;obtain⟨cr,e⟩:=kr ho hg2;have:=ho.lt g hg2;exact hs.block g this.2 cq<|tH h.rel e cv
 exact hs.block bt cq cq<|IU h.rel eb2
def DatA.count(h:DatA w rs D br bp bt n1 nr Mr Er E xo xu np Mp vo vu)(n2:Int):DatA (w.setCell (aq D 1)<|.int .i64 n2) rs D br bp bt n2 nr Mr Er E xo xu np Mp vo vu:=by
 obtain⟨h1,h2⟩:=h.ord;have hgt:=h.dat.gt;obtain⟨cur,hk⟩:=h.dat.kind;have hne:∀g,g≠D->(w.setCell (aq D 1)<|.int .i64 n2).heap[g]?=w.heap[g]?:=fun g e=>heap_setCell_other w ⟨D,1,none⟩ g _ e;have hc2:∀o,o≠1->(w.setCell (aq D 1)<|.int .i64 n2).cell? (aq D o)=w.cell? (aq D o):=fun o ne=>lT cq;have hO:∀{v:Value} {n:Nat} {xs:Q03},w.ownsRow (bp+1) 27 2 v n xs->(w.setCell (aq D 1)<|.int .i64 n2).ownsRow (bp+1) 27 2 v n xs:=fun {v n xs} ho=>fA ho fun g hg=>hne g fun e=>absurd (fE ho (e ▸ hg) hk) cv;refine⟨⟨hgt,by simpa using h.dat.lt,⟨_,heap_setCell_same w D 1 cur _ _ hk⟩,(hc2 0 cq).trans h.dat.c0,QS h.dat.c1,(hc2 2 cq).trans h.dat.c2,(hc2 3 cq).trans h.dat.c3,(hc2 4 cq).trans h.dat.c4,(hc2 5 cq).trans h.dat.c5,xm h.dat.told (hne bp cq) ?_,hO h.dat.objs,hO h.dat.users,h.dat.apart⟩,h.tab.of_block<|hne bt cq,⟨h.rel.map.of_block<|hne br cq,fun k=>?_,h.rel.apart⟩,h.ord⟩
 ·intro k v g hm hg2;obtain⟨n,xs,ho⟩:=xk h.dat.told hm;exact hne g fun e=>absurd (fE ho (e ▸ hg2) hk) cv
 rcases h.rel.row k with e|⟨v,e,ho⟩
 ·exact .inl e
 exact .inr ⟨v,e,fA ho fun g hg=>hne g fun e2=>absurd (fE ho (e2 ▸ hg) hk) cv⟩
end
def V9(w:af)(o:Al):∀j u,[Value.string o.t,.string o.s][j]?=some u->(w.alloc<|.cells #[.string o.t,.string o.s] 27).cell? ((⟨w.heap.size,0,none⟩:Addr).add j)=some u:=fun j u hu=>by
 match j,hu with
 | 0,hu=>simp at hu;subst hu;simp[Addr.add]
 | 1,hu=>simp at hu;subst hu;simp[Addr.add]
def kV.at0{w:af}{ad:Q02}{xs:Q0a}(h:kV w ad xs){k:Nat}(hk:k<xs.length):∃b off,ad=some (aq b off)/\U3 w b (off+k*2) xs[k]/\b<w.heap.size:=by
 rcases h with h|⟨b',off',e,hb,hr⟩
 ·rw[h]at hk;simp at hk
 exact⟨b',off',e,hr k hk,hb⟩
end Go.Proofs.YtojjoblnpldniaaGreat
