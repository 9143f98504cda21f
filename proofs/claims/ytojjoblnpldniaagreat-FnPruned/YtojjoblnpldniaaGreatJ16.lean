/- Contract of the program's look whether a tuple fits its table. -/
import Derived.Test.YtojjoblnpldniaaGreatSq
import Derived.Test.YtojjoblnpldniaaGreatJ11
import Derived.Test.YtojjoblnpldniaaGreatJ10
import Derived.Test.YtojjoblnpldniaaGreatJ14
open Go.Proofs.Tryz
set_option maxHeartbeats 80000000
namespace Go.Proofs.YtojjoblnpldniaaGreat
open ChangeShapes WideShapes ChangeAt RowKit Maps
open Pl
def om(a:Al)(e:Ex):Bool:=decide (e.kind=1)&&dJ e.allow e.allow.length a
def tT(ts:Q0b)(ty rel:ByteArray)(a:Al):Bool:=(ak ts ty rel).any (om a)
theorem fit_drop(a:Al)(rows:Q08)(k:Nat)(h:k<rows.length):(ai (rows.drop k)).any (om a)=(om a rows[k].e || (ai (rows.drop (k+1))).any (om a)):=by
 rw[gW _ _ h];rfl
set_option maxRecDepth 100000 in
theorem Iq(b n:Nat)(rs:Q06)(ad:Q02)(M:ByteArray×ByteArray->Option Value)(oa ob r c d s:bi)(w:af)(hV:aJ dw prog 146 w b n M)(hT:Tab rs M)(hs:jK w ad rs)(hl:∀r∈rs,r.light)(ho:oa.size<=maxLen)(hr:r.size<=maxLen):
  Calls prog 64 #[.map (some b),.agg #[.string oa,.string ob,.string r,.string c,.string d,.string s]] w fun e w'=>e=.returned (.bool (tT (ae rs) oa r ⟨c,s⟩))/\ag w w':=by
 have HT:=az hT;have HS:=az hs;have HL:=az hl;obtain⟨kl,hkl⟩:=jN (oa,r) ho hr;have XP:Hid (keyOf prog 146 (dw (oa,r))=some kl):=hkl;obtain⟨W0,hW0⟩:=eQx ((w.alloc (.cells #[.string oa,.string ob,.string r,.string c,.string d,.string s] 29)).alloc (.cells #[.string c,.string s] 216));have hal:ag w W0:=by
  rw[hW0]
  repeat(first|exact Vv _ _|refine Below.alloc ?_ (by first|(simp;done)|(simp;omega)) _)
 have HB0:=az hal;have HV0:=az (hV.below hal);have X9:Hid (W0.cell? ⟨w.heap.size+1,0,none⟩=some (.string c)/\W0.cell? ⟨w.heap.size+1,1,none⟩=some (.string s)/\w.heap.size+1<W0.heap.size):=⟨by rw[hW0];simp,by rw[hW0];simp,by rw[hW0];simp⟩;obtain⟨rows,WW,capE,HM,HE,HF⟩:∃(rows:Q08) (WW:Q02) (capE:Nat),Hid ((M (oa,r)).getD (.slice none 0 0)=.slice WW rows.length capE)/\Hid (ai rows=ak (ae rs) oa r)/\Hid (qN rs WW rows):=by
  cases e:M (oa,r) with
  | none=>exact⟨[],none,0,rfl,by show _=_;unfold ak;rw[HT.out.no _ e];rfl,.inl rfl⟩
  | some v =>
   obtain⟨t,ZL,q,hq,-,rfl,e1,-⟩:=HT.out.yes _ v e;exact⟨q.rows,q.ad,q.cap,rfl,by show _=_;unfold ak;rw[e1];rfl,.inr ⟨t,ZL,q,hq,rfl,rfl⟩⟩
 have Yf:=HF.out.light HL.out;have HLE1:rows.length<=1048576:=Yf.1;have HLE2:Hid (∀q∈rows,q.e.light):=Yf.2;have HSE:Hid (jo w WW rows):=HF.out.sl HS.out;clear hV hT hs hl hkl hal Yf;go_enter func64,ntmps64;go_wp2_with(at_lookup;rw[<-hW0];refine jM _ rfl _ _ 102 rfl 146 37 iZ underlying102 (oO _) b n M rfl HV0.out (oa,r) kl rfl XP.out ?_;rw[HM.out];clear hW0);go_loopw[23] (fun i wr=>∃k:Nat,k<=rows.length/\i=.int .i64 k/\Hid ((ai (rows.drop k)).any (om ⟨c,s⟩)=(ai rows).any (om ⟨c,s⟩))/\Hid (ag w wr)/\Hid (wr.cell? ⟨w.heap.size+1,0,none⟩=some (.string c)/\wr.cell? ⟨w.heap.size+1,1,none⟩=some (.string s)/\w.heap.size+1<wr.heap.size)) (fun i _=>rows.length-(intOf i).toNat);case atStart=>exact⟨0,Vy _,rfl,rfl,HB0,X9⟩
 clear HB0 X9 HV0;obtain⟨k,hk,rfl,HP,HB,HC⟩:=hrel;by_cases hlt:k<rows.length
 ·rcases HSE.out.below HB.out with hnil|⟨bE,offE,hadE,hbE,hrE,hok⟩
  ·rw[hnil]at hlt;simp at hlt
  obtain⟨t0,t1,t2,t3,t4⟩:=hrE k hlt;have Xc:Hid (rows[k].ok wr):=hok _ (Vs hlt);have lgA:rows[k].e.allow.length<=1048576:=(HLE2.out _ (Vs hlt)).1;have hk1:=bI k;have hk2:(k:Int)<(rows.length:Int):=by omega
  obtain⟨x0,x1,x2⟩:=HC.out;have HD:Hid ((ai rows).any (om ⟨c,s⟩)=(om ⟨c,s⟩ rows[k].e || (ai (rows.drop (k+1))).any (om ⟨c,s⟩))):=by show _=_;rw[<-HP.out];exact fit_drop _ _ _ hlt
  obtain⟨W1,hW1⟩:=eQx (wr.alloc (.cells #[.int .i64 rows[k].e.kind,.slice rows[k].adA rows[k].e.allow.length rows[k].capA,.string rows[k].e.over,.string rows[k].e.name,.slice rows[k].adK rows[k].e.kids.length rows[k].capK] 43));have hal:ag wr W1:=by rw[hW1];exact(Vv _ _).alloc (Vu _) _
  have HB1:=iX HB hal;have Xu:Hid (W1.cell? ⟨w.heap.size+1,0,none⟩=some (.string c)/\W1.cell? ⟨w.heap.size+1,1,none⟩=some (.string s)/\w.heap.size+1<W1.heap.size):=⟨aC hal x2 x0,aC hal x2 x1,Vt x2 hal.size⟩;have HA1:Hid (kD W1 rows[k].adA rows[k].e.allow):=Xc.out.1.below hal;rw[hadE];clear hrE hok hal HC;by_cases h1:rows[k].e.kind=1
  ·have hq1:(rows[k].e.kind==1)=true:=by simpa using h1
   have YB:Hid (om ⟨c,s⟩ rows[k].e=dJ rows[k].e.allow rows[k].e.allow.length ⟨c,s⟩):=by show _=_;unfold om;simp[h1]
   replace h1:Hid (rows[k].e.kind=1):=h1;go_wp2_with fail;rw[<-hW1];refine(vX rows[k].adA rows[k].e.allow.length rows[k].capA rows[k].e.allow ⟨c,s⟩ _ (Vu _) lgA HA1.out).mono ?_;rintro e w2 ⟨rfl,hb2⟩;have HB2:=iX HB1 hb2;have Xk:Hid (w2.cell? ⟨w.heap.size+1,0,none⟩=some (.string c)/\w2.cell? ⟨w.heap.size+1,1,none⟩=some (.string s)/\w.heap.size+1<w2.heap.size):=⟨aC hb2 Xu.out.2.2 Xu.out.1,aC hb2 Xu.out.2.2 Xu.out.2.1,Vt Xu.out.2.2 hb2.size⟩;clear hb2 hW1 t0 t1 t2 t3 t4 x0 x1;cases hz:dJ rows[k].e.allow rows[k].e.allow.length ⟨c,s⟩;case true=>
    have HN:Hid (tT (ae rs) oa r ⟨c,s⟩=true):=by show _=_;unfold tT;rw[<-HE.out,HD.out,YB.out,hz];rfl
    go_wp2;go_ret;exact⟨by rw[HN.out];rfl,HB2.out⟩
   have WQ:Hid ((ai (rows.drop (k+1))).any (om ⟨c,s⟩)=(ai rows).any (om ⟨c,s⟩)):=by show _=_;rw[HD.out,YB.out,hz];rfl
   go_wp2;go_roundw;case rel=>exact⟨k+1,by omega,by go_num,WQ,HB2,Xk⟩
   simp[intOf]<;>omega
  have hq1:(rows[k].e.kind==1)=false:=by simpa using h1
  have WQ:Hid ((ai (rows.drop (k+1))).any (om ⟨c,s⟩)=(ai rows).any (om ⟨c,s⟩)):=by show _=_;rw[HD.out];simp[om,h1]
  have XL:Hid (ag w (wr.alloc (.cells #[.int .i64 rows[k].e.kind,.slice rows[k].adA rows[k].e.allow.length rows[k].capA,.string rows[k].e.over,.string rows[k].e.name,.slice rows[k].adK rows[k].e.kids.length rows[k].capK] 43))):=by rw[<-hW1];exact HB1
  have HCX:Hid ((wr.alloc (.cells #[.int .i64 rows[k].e.kind,.slice rows[k].adA rows[k].e.allow.length rows[k].capA,.string rows[k].e.over,.string rows[k].e.name,.slice rows[k].adK rows[k].e.kids.length rows[k].capK] 43)).cell? ⟨w.heap.size+1,0,none⟩=some (.string c)/\(wr.alloc (.cells #[.int .i64 rows[k].e.kind,.slice rows[k].adA rows[k].e.allow.length rows[k].capA,.string rows[k].e.over,.string rows[k].e.name,.slice rows[k].adK rows[k].e.kids.length rows[k].capK] 43)).cell? ⟨w.heap.size+1,1,none⟩=some (.string s)/\w.heap.size+1<(wr.alloc (.cells #[.int .i64 rows[k].e.kind,.slice rows[k].adA rows[k].e.allow.length rows[k].capA,.string rows[k].e.over,.string rows[k].e.name,.slice rows[k].adK rows[k].e.kids.length rows[k].capK] 43)).heap.size):=by rw[<-hW1];exact Xu
  clear hW1;go_wp2;go_roundw;case rel=>exact⟨k+1,by omega,by go_num,WQ,XL,HCX⟩
  simp[intOf]<;>omega
 have HN:Hid (tT (ae rs) oa r ⟨c,s⟩=false):=by show _=_;unfold tT;rw[<-HE.out,<-HP.out,VU (by omega)];rfl
 go_wp2;go_ret;exact⟨by rw[HN.out];rfl,HB.out⟩
set_option linter.unusedVariables false
def KJ(r:RR):List Value:=[.string r.name,r.sl]
abbrev FJ (w:World)(br nr:Nat)(Mr:KL->Option Value)(Er:List (KL×RR)):Prop:=G.Grp Gi prog 197 39 2 KJ w br nr Mr Er
theorem Ir{w:af}{br nr:Nat}{Mr:KL->Option Value}{Er:List (KL×RR)}(h:FJ w br nr Mr Er){k:KL}{v:Value}(hk:Mr k=some v):∃n xs,w.ownsRow (br+1) 39 2 v n xs:=by
 rcases h.row k with⟨e,-⟩|⟨v',e,ho⟩
 ·rw[e]at hk;cases hk
 rw[e]at hk;injection hk with hk;subst hk;exact⟨_,_,ho⟩
theorem sK{w:af}{br nr g:Nat}{Mr:KL->Option Value}{Er:List (KL×RR)}{e:TypeId}{cur:Array Value}(h:FJ w br nr Mr Er)(hc:w.heap[g]?=some (.cells cur e (0,0)))(hne:(39:TypeId)≠e):G.FreeB Mr g:=fun k v hk hg=>by
 obtain⟨n,xs,ho⟩:=Ir h hk;exact hne (fe ho hg hc)
theorem Iu{w:af}{br nr g:Nat}{Mr:KL->Option Value}{Er:List (KL×RR)}{es:Array MapEntry}{c:Nat}(h:FJ w br nr Mr Er)(hc:w.heap[g]?=some (.map es c)):G.FreeB Mr g:=fun k v hk hg=>by
 obtain⟨n,xs,ho⟩:=Ir h hk;exact FD ho hg hc
theorem qj{K:Type}{enc:K->Value}{P:Program}{kt:TypeId}{w:af}{b n:Nat}{M:K->Option Value}(h:aJ enc P kt w b n M):∃es c,w.heap[b]?=some (.map es c):=by
 obtain⟨D,⟨es,c,hb,-⟩,-⟩:=h;exact⟨es,c,hb⟩
structure DatA(w:World)(rs:Q06)(D br bp bt:Nat)(n1:Int)(nr:Nat)(Mr:KL->Option Value)(Er:List (KL×RR))(E:List (K3×Tp))(xo xu:Q0a)(np:Nat)(Mp:K3->Option Value)(vo vu:Value):Prop where
 dat:DatT w D br bp (.map (some bt)) n1 E xo xu np Mp vo vu
 tab:aJ dw prog 146 w bt 36 (jY rs)
 rel:FJ w br nr Mr Er
 ord:bt<br/\br<bp
section
variable  {w w':World}{rs:Q06}{D br bp bt:Nat}{n1:Int}{nr:Nat}{Mr:KL->Option Value}{Er:List (KL×RR)}{E:List (K3×Tp)}{xo xu:Q0a}{np:Nat}{Mp:K3->Option Value}{vo vu:Value}
theorem DatA.below(h:DatA w rs D br bp bt n1 nr Mr Er E xo xu np Mp vo vu)(hb:ag w w'):DatA w' rs D br bp bt n1 nr Mr Er E xo xu np Mp vo vu:=⟨h.dat.below hb,h.tab.below hb,h.rel.below hb,h.ord⟩
theorem DatA.tell(h:DatA w rs D br bp bt n1 0 (fun _=>none) [] E xo xu np Mp vo vu){E':List (K3×Tp)}{xo' xu':Q0a}{np':Nat}{Mp':K3->Option Value}{vo' vu':Value}(hd:DatT w' D br bp (.map (some bt)) n1 E' xo' xu' np' Mp' vo' vu')(hb:Below bp w w'):DatA w' rs D br bp bt n1 0 (fun _=>none) [] E' xo' xu' np' Mp' vo' vu':=by
 obtain⟨h1,h2⟩:=h.ord;exact⟨hd,h.tab.of_block (hb.block bt (by omega)),⟨h.rel.map.of_block (hb.block br (by omega)),fun k=>.inl ⟨rfl,rfl⟩,fun k k' v v' _ e=>by cases e⟩,h.ord⟩
theorem DatA.list(h:DatA w rs D br bp bt n1 nr Mr Er E xo xu np Mp vo vu){nr':Nat}{Mr':KL->Option Value}{Er':List (KL×RR)}(hg:FJ w' br nr' Mr' Er')(hs:G.Stl w Mr w' Mr' br):DatA w' rs D br bp bt n1 nr' Mr' Er' E xo xu np Mp vo vu:=by
 obtain⟨h1,h2⟩:=h.ord;have hgt:=h.dat.gt;have hlt:=h.dat.lt;obtain⟨cur,hk⟩:=h.dat.kind;have hD:w'.heap[D]?=w.heap[D]?:=hs.block D hlt (by omega) (sK h.rel hk (by decide));have hc:∀o,w'.cell? ⟨D,o,none⟩=w.cell? ⟨D,o,none⟩:=fun o=>VN (w:=w) (a:=⟨D,o,none⟩) hD;have hO:∀{v:Value} {n:Nat} {xs:Q03},w.ownsRow (bp+1) 27 2 v n xs->w'.ownsRow (bp+1) 27 2 v n xs:=fun {v n xs} ho=>eX ho fun g hg=>by
  obtain⟨cr,e⟩:=jS ho hg;have:=ho.lt g hg;exact hs.block g this.2 (by omega) (sK h.rel e (by decide))
 obtain⟨es,c,eb⟩:=qj h.dat.told.map;obtain⟨es2,c2,eb2⟩:=qj h.tab;refine⟨⟨hgt,Vt hlt hs.size,⟨cur,hD.trans hk⟩,(hc _).trans h.dat.c0,(hc _).trans h.dat.c1,(hc _).trans h.dat.c2,(hc _).trans h.dat.c3,(hc _).trans h.dat.c4,(hc _).trans h.dat.c5,wN h.dat.told ?_ ?_,hO h.dat.objs,hO h.dat.users,h.dat.apart⟩,h.tab.of_block ?_,hg,h.ord⟩
 ·exact hs.block bp (by omega) (by omega) (Iu h.rel eb)
 ·intro k v g hm hg2;obtain⟨n,xs,ho⟩:=wM h.dat.told hm;obtain⟨cr,e⟩:=jS ho hg2;have:=ho.lt g hg2;exact hs.block g this.2 (by omega) (sK h.rel e (by decide))
 exact hs.block bt (by omega) (by omega) (Iu h.rel eb2)
theorem DatA.count(h:DatA w rs D br bp bt n1 nr Mr Er E xo xu np Mp vo vu)(n2:Int):DatA (w.setCell ⟨D,1,none⟩ (.int .i64 n2)) rs D br bp bt n2 nr Mr Er E xo xu np Mp vo vu:=by
 obtain⟨h1,h2⟩:=h.ord;have hgt:=h.dat.gt;obtain⟨cur,hk⟩:=h.dat.kind;have hne:∀g,g≠D->(w.setCell ⟨D,1,none⟩ (.int .i64 n2)).heap[g]?=w.heap[g]?:=fun g e=>heap_setCell_other w ⟨D,1,none⟩ g _ e;have hc2:∀o,o≠1->(w.setCell ⟨D,1,none⟩ (.int .i64 n2)).cell? ⟨D,o,none⟩=w.cell? ⟨D,o,none⟩:=fun o ne=>ll (by omega);have hO:∀{v:Value} {n:Nat} {xs:Q03},w.ownsRow (bp+1) 27 2 v n xs->(w.setCell ⟨D,1,none⟩ (.int .i64 n2)).ownsRow (bp+1) 27 2 v n xs:=fun {v n xs} ho=>eX ho fun g hg=>hne g fun e=>absurd (fe ho (e ▸ hg) hk) (by decide);refine⟨⟨hgt,by simpa using h.dat.lt,⟨_,heap_setCell_same w D 1 cur _ _ hk⟩,(hc2 0 (by omega)).trans h.dat.c0,Py h.dat.c1,(hc2 2 (by omega)).trans h.dat.c2,(hc2 3 (by omega)).trans h.dat.c3,(hc2 4 (by omega)).trans h.dat.c4,(hc2 5 (by omega)).trans h.dat.c5,wN h.dat.told (hne bp (by omega)) ?_,hO h.dat.objs,hO h.dat.users,h.dat.apart⟩,h.tab.of_block (hne bt (by omega)),⟨h.rel.map.of_block (hne br (by omega)),fun k=>?_,h.rel.apart⟩,h.ord⟩
 ·intro k v g hm hg2;obtain⟨n,xs,ho⟩:=wM h.dat.told hm;exact hne g fun e=>absurd (fe ho (e ▸ hg2) hk) (by decide)
 rcases h.rel.row k with e|⟨v,e,ho⟩
 ·exact .inl e
 exact .inr ⟨v,e,eX ho fun g hg=>hne g fun e2=>absurd (fe ho (e2 ▸ hg) hk) (by decide)⟩
end
set_option maxRecDepth 100000
def Uq(ts:Q0b)(w:World)(e:Ending)(w':World):Prop :=
 ((∃(b n:Nat) (σ:Ky->Option Int),e=.returned (.tuple #[.map (some b),.bool true])/\bN ts/\aJ dw prog 146 w' b n (jl σ)/\Least ts (fun k=>(σ k).getD 0)/\∀k,(∃x,σ k=some x)↔k∈au ts)\/(e=.returned (.tuple #[.map none,.bool false])/\¬bN ts))/\ag w w'
theorem sM:∀ts:List Tp,(fF ts).length<=2*ts.length:=by
 have key:∀(ts:Q05) (xs:Q0a),(ts.foldl iV xs).length<=xs.length+2*ts.length:=by
  intro ts
  induction ts with
  | nil=>intro xs;simp
  | cons t ts ih =>
   intro xs;have h1:=ih (iV xs t);have h2:=Ib xs t;simp only[List.foldl_cons,V8];omega
 intro ts;have:=key ts [];simpa[fF] using this
theorem qo:∀ts:List Tp,(di ts).length<=ts.length:=by
 have key:∀(ts:Q05) (xs:Q0a),(ts.foldl fw xs).length<=xs.length+ts.length:=by
  intro ts
  induction ts with
  | nil=>intro xs;simp
  | cons t ts ih =>
   intro xs;have h1:=ih (fw xs t);have h2:=Ic xs t;simp only[List.foldl_cons,V8];omega
 intro ts;have:=key ts [];simpa[di] using this
def cz(fit:Tp->Bool)(rs:Q06)(ts:Q05):Bool:=aD (ae rs)&&dX ts&&ts.all fit
def fC(f:Q00)(rs:Q06):List (KL×RR):=rs.flatMap fun t=>t.rows.map fun r=>((t.name,f (t.name,r.name)),r)
def jT(E:List (KL×RR)):Int:=E.foldl (fun m x=>max m (x.1.2+1)) 0
def U9(fit:Tp->Bool)(rs:Q06)(ts:Q05)(w:World)(e:Ending)(w':World):Prop :=
 ag w w'/\((cz fit rs ts=false/\e=.returned (.tuple #[.pointer none,.bool false])) \/
  (cz fit rs ts=true/\∃ (D br bp bt nr np:Nat) (Mr:KL->Option Value) (Mp:K3->Option Value) (vo vu:Value) (f:Q00),e=.returned (.tuple #[.pointer (some ⟨D,0,none⟩),.bool true])/\w.heap.size<=bt/\Least (ae rs) f /\
   DatA w' rs D br bp bt (jT (fC f rs)) nr Mr (fC f rs) (dQ ts) (fF ts) (di ts) np Mp vo vu))
theorem QN{w:af}{rs:Q06}{bt:Nat}(ht:aJ dw prog 146 w bt 36 (jY rs))(hl:bt<w.heap.size):
  DatA (((w.alloc (.map #[] 0)).alloc (.map #[] 0)).alloc (.cells #[.map (some bt),.int .i64 0,.map (some w.heap.size),.map (some (w.heap.size+1)),.slice none 0 0,.slice none 0 0] 194)) rs (w.heap.size+2) w.heap.size (w.heap.size+1) bt 0 0 (fun _=>none) [] [] [] [] 0 (fun _=>none) (.slice none 0 0) (.slice none 0 0):=by
 obtain⟨w1,h1⟩:=eQx (w.alloc (.map #[] 0));obtain⟨w2,h2⟩:=eQx (w1.alloc (.map #[] 0));have s1:w1.heap.size=w.heap.size+1:=by rw[h1];simp
 have s2:w2.heap.size=w.heap.size+2:=by rw[h2];simp;omega
 rw[<-h1,<-h2];have b1:ag w w1:=by rw[h1];exact(Vv _ _).alloc (Vu _) _
 have b2:ag w1 w2:=by rw[h2];exact(Vv _ _).alloc (Vu _) _
 have b3:∀o,ag w2 (w2.alloc o):=fun o=>(Vv _ _).alloc (Vu _) _;have g1:FJ w1 w.heap.size 0 (fun _=>none) []:=by rw[h1];exact G.grp_made w
 have g2:G.Grp qK prog 273 29 6 Tp.row w2 (w.heap.size+1) 0 (fun _=>none) []:=by
  have:=G.grp_made (enc:=qK) (P:=prog) (kt:=273) (et:=29) (sz:=6) (cl:=Tp.row) w1;rw[s1]at this;rw[h2];exact this
 rw[<-s2];refine⟨⟨by omega,by simp,⟨_,heap_alloc_new w2 _⟩,by simp,by simp,by simp,by simp,by simp,by simp,g2.below (b3 _),World.ownsRow_nil _ _ _ _,World.ownsRow_nil _ _ _ _,fun g e=>by simp[Value.ownBlock]at e⟩,((ht.below b1).below b2).below (b3 _),(g1.below b2).below (b3 _),hl,by omega⟩
theorem QO{p:Tp->Bool}{ts:Q05}{k:Nat}(h:k<ts.length):(ts.take (k+1)).all p=((ts.take k).all p&&p ts[k]):=by
 rw[Vx h,WH];simp
theorem SA{p:Tp->Bool}{ts:Q05}{k:Nat}(h:k<ts.length)(hp:p ts[k]=false):ts.all p=false:=by
 rw[List.all_eq_false];exact⟨_,Vs h,by rw[hp];decide⟩
theorem FK{rs:Q06}(h6:rs.length<=6)(hr:∀r∈rs,r.rows.length<=6):(au (ae rs)).length<=36:=by
 have key:∀l:List TR,(∀r∈l,r.rows.length<=6)->(au (ae l)).length<=6*l.length:=by
  intro l
  induction l with
  | nil=>intro _;simp[au,ae]
  | cons r l ih =>
   intro h;have h1:=ih fun q hq=>h q (V7 _ hq);have h2:=h r (by simp);have e:au (ae (r::l))=jZ r.p++au (ae l):=by simp[au,ae]
   have e2:(jZ r.p).length=r.rows.length:=by unfold jZ;rw[Wp];exact dz _
   rw[e,VD,e2,V8];omega
 have:=key rs hr;omega
theorem QP{rs:Q06}{σ:Ky->Option Int}(hS:bN (ae rs))(h6:rs.length<=6)(hr:∀r∈rs,r.rows.length<=6)(hL:Least (ae rs) (fun k=>(σ k).getD 0))(hk:∀k,(∃x,σ k=some x)↔k∈au (ae rs))(y:Ky):0<=(σ y).getD 0/\(σ y).getD 0<=36:=by
 refine⟨hL.sol.pos y,?_⟩;cases e:σ y with
 | none=>simp
 | some x =>
  have hy:y∈au (ae rs):=(hk y).1 ⟨x,e⟩;obtain⟨g,hg,hb⟩:=hL.sol.few (kJ hS.2.1);have h1:=hL.low y hy g hg;have h2:=hb y hy;have h3:=FK h6 hr;simp only[e]at h1;omega
def yh(f:Ky->Int)(n:ByteArray)(r:RR):KL×RR:=((n,f (n,r.name)),r)
theorem NY(f:Ky->Int){rs:Q06}{k:Nat}(h:k<rs.length):fC f (rs.take (k+1))=fC f (rs.take k)++rs[k].rows.map (yh f rs[k].name):=by
 unfold fC;rw[Vx h,WA];simp[yh]
theorem Iw(E:List (KL×RR))(x:KL×RR):jT (E++[x])=max (jT E) (x.1.2+1):=by simp[jT]
theorem QQ:∃i,prog.info? 39=some i/\i.zero=some (.agg #[.string ⟨#[]⟩,.slice none 0 0])/\i.size=2/\i.bytes=40 :=
 info_parts (P:=prog) (e:=39) (z:=.agg #[.string ⟨#[]⟩,.slice none 0 0]) (size:=2) (bytes:=40) (by kernel_rfl)
theorem QR(u:af):(zeroValue 34).run prog u=.ok (.slice none 0 0) u:=by kernel_rfl
theorem SB(u:af):(zeroValue 2).run prog u=.ok (.int .i64 0) u:=by kernel_rfl
theorem Ef{w:af}{br nr:Nat}{Mr:KL->Option Value}{E:List (KL×RR)}(h:FJ w br nr Mr E)(k:KL):w.ownsRow (br+1) 39 2 ((Mr k).getD (.slice none 0 0)) (G.lookL E k).length (G.flatG KJ (G.lookL E k)):=by
 rcases h.row k with⟨e,e2⟩|⟨v,e,ho⟩
 ·rw[e,e2];exact World.ownsRow_nil _ _ _ _
 rw[e];exact ho
theorem QS{w W w':af}{D g:Nat}{y x0 x1 x2 x3 x4 x5:Value}(h:W.cell? ⟨D,0,none⟩=some y/\W.cell? ⟨g,0,none⟩=some x0/\W.cell? ⟨g,1,none⟩=some x1/\W.cell? ⟨g,2,none⟩=some x2/\W.cell? ⟨g,3,none⟩=some x3/\W.cell? ⟨g,4,none⟩=some x4/\W.cell? ⟨g,5,none⟩=some x5/\D<W.heap.size/\g<W.heap.size/\ag w W)(hb:ag W w'):w'.cell? ⟨D,0,none⟩=some y/\w'.cell? ⟨g,0,none⟩=some x0/\w'.cell? ⟨g,1,none⟩=some x1/\w'.cell? ⟨g,2,none⟩=some x2/\w'.cell? ⟨g,3,none⟩=some x3/\w'.cell? ⟨g,4,none⟩=some x4/\w'.cell? ⟨g,5,none⟩=some x5/\D<w'.heap.size/\g<w'.heap.size/\ag w w':=by
 obtain⟨h0,g0,g1,g2,g3,g4,g5,hn,hm,hB⟩:=h;have hc:∀o,w'.cell? ⟨D,o,none⟩=W.cell? ⟨D,o,none⟩:=fun o=>hb.cell (p:=⟨D,o,none⟩) hn;have hd:∀o,w'.cell? ⟨g,o,none⟩=W.cell? ⟨g,o,none⟩:=fun o=>hb.cell (p:=⟨g,o,none⟩) hm;exact⟨(hc _).trans h0,(hd _).trans g0,(hd _).trans g1,(hd _).trans g2,(hd _).trans g3,(hd _).trans g4,(hd _).trans g5,Vt hn hb.size,Vt hm hb.size,hB.trans (hb.mono hB.size)⟩
theorem KM(fit:Tp->Bool)(ad:Q02)(cap:Nat)(rs:Q06)(Xe:Q02)(cap':Nat)(ts:Q05)(w:af)(hlen:rs.length<=1048576)(hs:jK w ad rs)(hl:∀r∈rs,r.light)(hfr:∀r∈rs,r.fits)(hC:Calls prog 112 #[.slice ad rs.length cap] w (Uq (ae rs) w))(hfb:aD (ae rs)=true->∀t:Tp,t.ok=true->tT (ae rs) t.a t.r ⟨t.c,t.s⟩=fit t)(hlt:ts.length<=1048576)(hst:Sl w Xe ts)(hft:∀x∈ts,x.fits):
  Calls prog 55 #[.slice ad rs.length cap,.slice Xe ts.length cap'] w (U9 fit rs ts w):=by
 have HS:=aV hs;have HL:=aV hl;have ZK:=aV hfr;have HST:=aV hst;have WT:=aV hft;have HC:=aV hC;have HFB:=aV hfb;obtain⟨iR,i0,i1,i2,i3⟩:=QQ;have Yo:=aV (And.intro i0 (And.intro i1 (And.intro i2 i3)));clear i0 i1 i2 i3;have Xh:ts.length<=maxLen:=by unfold maxLen;omega
 clear hs hl hfr hC hfb hst hft;go_enter func55,ntmps55;go_wp2_with fail;refine HC.out.mono ?_;rintro e w1 ⟨hL,hb1⟩;have HB1:=aV hb1;clear HC hb1;rcases hL with⟨bS,nS,σ,rfl,hS,hM,Zm,hk⟩|⟨rfl,hno⟩
 ·have HSD:Hid (aD (ae rs)=true):=aG.2 hS;have HM:=aV hM;have Yf:=aV Zm;have HKE:=aV hk;have hSP:=hS;obtain⟨h6,XA,-⟩:=aW hSP.1;have HTAB:=aV (ry hSP.1);have X0:=aV XA;clear hM Zm hk hS hSP XA;go_wp2_with fail;refine(oM Xe cap' ts _ Xh (HST.out.below HB1.out) WT.out).mono ?_;rintro e w2 ⟨he,hb2⟩;have HB2:=aV (HB1.out.trans (hb2.mono HB1.out.size));have Xl:=aV (HM.out.below hb2);clear hb2 HM;cases h2:dX ts;case false=>
   rw[h2]at he;subst he;have HN:Hid (cz fit rs ts=false):=by show _=_;unfold cz;rw[h2];simp
   clear h2;go_wp2;exact bodyPost_ret (v:=.tuple #[.pointer none,.bool false]) (by simp[results,Tryz.results55,go_sem]) rfl ⟨HB2.out,.inl ⟨HN.out,rfl⟩⟩
  rw[h2]at he;subst he;have HTU:=aV (Tx h2);have ZW:Hid (cz fit rs ts=ts.all (fit)):=by show _=_;unfold cz;rw[h2,HSD.out];simp
  have h40:ts.length<=40:=HTU.out.2.2;have HTBL:=aV (kS ad cap rs w2 h6 (HS.out.below HB2.out) X0.out ZK.out);clear h2;go_wp2_with fail;refine HTBL.out.mono ?_;rintro e w3 ⟨rfl,hV3,hb3⟩;have HB3:=aV (HB2.out.trans (hb3.mono HB2.out.size));have hbt:w2.heap.size<w3.heap.size:=hV3.lt;have hw2:w.heap.size<=w2.heap.size:=HB2.out.size;have HM3:=aV (Xl.out.below hb3);have HDN:=aV (QN hV3 hbt);obtain⟨bt,hbte⟩:∃b,b=w2.heap.size:=⟨_,rfl⟩;obtain⟨br,hbre⟩:∃b,b=w3.heap.size:=⟨_,rfl⟩;rw[<-hbte]at HDN hbt hw2 ⊢;obtain⟨W,hW⟩:=eQx (((w3.alloc (.map #[] 0)).alloc (.map #[] 0)).alloc (.cells #[.map (some bt),.int .i64 0,.map (some w3.heap.size),.map (some (w3.heap.size+1)),.slice none 0 0,.slice none 0 0] 194));rw[<-hW]at HDN;have hmm:=@run_makeMap prog;have HBW0:Hid (ag w3 W):=by
   show Below _ _ _;rw[hW];exact(((Vv _ _).alloc (Vu _) _).alloc (by simp) _).alloc (by simp;omega) _
  have HMW:=aV (HM3.out.below HBW0.out);have WS:=aV (HB3.out.trans (HBW0.out.mono HB3.out.size));have hbS:bS<br:=by rw[hbre];exact HM3.out.lt
  clear hb3 hV3 HTBL hbte;obtain⟨D,hDe⟩:∃b,b=br+2:=⟨_,rfl⟩;obtain⟨bp,hbpe⟩:∃b,b=br+1:=⟨_,rfl⟩;rw[<-hbre]at HDN;rw[<-hDe,<-hbpe]at HDN;have hDW:D<W.heap.size:=HDN.out.dat.lt;go_wp2_with fail;rw[<-hW,show w3.heap.size+1+1=D by omega,show w3.heap.size+1=bp by omega,<-hbre];have hwbr:w.heap.size<=br:=by rw[hbre];exact HB3.out.size
  have hbtr:bt<br:=by rw[hbre];exact hbt
  clear hbt;clear hbre hDe hbpe hW hmm HBW0;go_loopw[37] (fun i wr=>∃k:Nat,k<=ts.length/\i=.int .i64 (k:Int)/\Hid ((ts.take k).all (fit)=true)/\Hid (∃Mp vo vu,DatA wr rs D br bp bt 0 0 (fun _=>none) [] (dQ (ts.take k)) (fF (ts.take k)) (di (ts.take k)) k Mp vo vu)/\Hid (Below br W wr)) (fun i _=>ts.length-(intOf i).toNat);case atStart=>exact⟨0,Vy _,rfl,rfl,⟨_,_,_,by simpa[dQ,fF,di] using HDN.out⟩,Vv _ _⟩
  obtain⟨k,hk,rfl,Xd,HDA,HB⟩:=hrel;have Zb:Hid (ag w wr):=WS.out.trans (HB.out.mono hwbr);by_cases hkl:k<ts.length
  ·rcases HST.out.below Zb.out with hnil|⟨b,off,rfl,hb,hr⟩
   ·rw[hnil]at hkl;simp at hkl
   obtain⟨t0,t1,t2,t3,t4,t5⟩:=hr k hkl;have hk1:=bI k;have hk2:(k:Int)<(ts.length:Int):=by omega
   have HAT:=aV (QO (p:=fit) hkl);have HAH:=aV (SA (p:=fit) hkl);have HXF:=aV (WT.out _ (Vs hkl));have HXO:=aV (HTU.out.2.1 _ (Vs hkl));have HTK:Hid (ts.take (k+1)=ts.take k++[ts[k]]):=Vx hkl;obtain⟨x,hx⟩:=eQx (ts[k]);rw[<-hx]at t0 t1 t2 t3 t4 t5 HAT HAH HXF HXO HTK;obtain⟨W4,Xn⟩:=eQx (wr.alloc (.cells #[.string x.a,.string x.b,.string x.r,.string x.c,.string x.d,.string x.s] 29));have hb4:ag wr W4:=by rw[Xn];exact(Vv _ _).alloc (Vu _) _
   have hx4:wZ W4 wr.heap.size x:=by rw[Xn];exact EX wr x _
   obtain⟨Mp,vo,vu,Yw⟩:=HDA.out;have HD4:=aV (Yw.below hb4);have HX4:=aV hx4;have HBw4:=aV (Zb.out.trans (hb4.mono Zb.out.size));have HBW4:=aV (HB.out.trans (hb4.mono (by have:=HB.out.size;have:=HDN.out.ord;have:=HDN.out.dat.gt;omega)));have HLF:Hid (∀W',(fun w'=>w'.cell? ⟨D,0,none⟩=some (.map (some bt))/\w'.cell? ⟨wr.heap.size,0,none⟩=some (.string x.a)/\w'.cell? ⟨wr.heap.size,1,none⟩=some (.string x.b)/\w'.cell? ⟨wr.heap.size,2,none⟩=some (.string x.r)/\w'.cell? ⟨wr.heap.size,3,none⟩=some (.string x.c)/\w'.cell? ⟨wr.heap.size,4,none⟩=some (.string x.d)/\w'.cell? ⟨wr.heap.size,5,none⟩=some (.string x.s)/\D<w'.heap.size/\wr.heap.size<w'.heap.size/\ag W4 w') W'->Calls prog 64 #[.map (some bt),.agg #[.string x.a,.string x.b,.string x.r,.string x.c,.string x.d,.string x.s]] W' fun e w'=>e=.returned (.bool (fit x))/\ag W' w'):=fun W' hS'=>by
    have hb':=hS'.2.2.2.2.2.2.2.2.2;refine(Iq bt 36 rs ad (jY rs) x.a x.b x.r x.c x.d x.s W' ((HD4.out.tab).below hb') HTAB.out (HS.out.below (HBw4.out.trans (hb'.mono HBw4.out.size))) HL.out HXF.out.1 HXF.out.2.2.1).mono ?_;rintro e w6 ⟨rfl,hb6⟩;exact⟨by rw[HFB.out HSD.out x HXO.out],hb6⟩
   have H0:Hid ((fun w'=>w'.cell? ⟨D,0,none⟩=some (.map (some bt))/\w'.cell? ⟨wr.heap.size,0,none⟩=some (.string x.a)/\w'.cell? ⟨wr.heap.size,1,none⟩=some (.string x.b)/\w'.cell? ⟨wr.heap.size,2,none⟩=some (.string x.r)/\w'.cell? ⟨wr.heap.size,3,none⟩=some (.string x.c)/\w'.cell? ⟨wr.heap.size,4,none⟩=some (.string x.d)/\w'.cell? ⟨wr.heap.size,5,none⟩=some (.string x.s)/\D<w'.heap.size/\wr.heap.size<w'.heap.size/\ag W4 w') W4.drew):=⟨HD4.out.dat.c0,hx4.1,hx4.2.1,hx4.2.2.1,hx4.2.2.2.1,hx4.2.2.2.2.1,hx4.2.2.2.2.2.1,HD4.out.dat.lt,hx4.2.2.2.2.2.2,(Vv _ _).drew⟩;have ho40:=sM (ts.take k);have hu40:=qo (ts.take k);have hte:(dQ (ts.take k)).length<=40:=by unfold dQ;simp;omega
   have htl:(ts.take k).length<=40:=by rw[V9];omega
   have HALK:=Xd;clear hr hx hx4 Yw hb4 HDA HB Xd;cases hfx:fit x;case false=>
    rw[hfx]at HLF;go_wp2_with fail;rw[<-Xn];clear Xn
    go_region_held3 (fun w'=>w'.cell? ⟨D,0,none⟩=some (.map (some bt))/\w'.cell? ⟨wr.heap.size,0,none⟩=some (.string x.a)/\w'.cell? ⟨wr.heap.size,1,none⟩=some (.string x.b)/\w'.cell? ⟨wr.heap.size,2,none⟩=some (.string x.r)/\w'.cell? ⟨wr.heap.size,3,none⟩=some (.string x.c)/\w'.cell? ⟨wr.heap.size,4,none⟩=some (.string x.d)/\w'.cell? ⟨wr.heap.size,5,none⟩=some (.string x.s)/\D<w'.heap.size/\wr.heap.size<w'.heap.size/\ag W4 w')
     (first|assumption|exact QS (by assumption) hbx|exact H0.out)
     (first|(go_at_call 64;refine(HLF.out _ (by assumption)).mono ?_;rintro e w' ⟨rfl,hbx⟩))
    rename_i hH;have ZC:Hid (ag w _):=HBw4.out.trans (hH.2.2.2.2.2.2.2.2.2.mono HBw4.out.size);have HN:Hid (cz fit rs ts=false):=ZW.out.trans (HAH.out hfx);clear hH;go_wp2;exact bodyPost_ret (v:=.tuple #[.pointer none,.bool false]) (by simp[results,Tryz.results55,go_sem]) rfl ⟨ZC.out,.inl ⟨HN.out,rfl⟩⟩
   rw[hfx]at HLF;go_wp2_with fail;rw[<-Xn];clear Xn
   go_region_held3 (fun w'=>w'.cell? ⟨D,0,none⟩=some (.map (some bt))/\w'.cell? ⟨wr.heap.size,0,none⟩=some (.string x.a)/\w'.cell? ⟨wr.heap.size,1,none⟩=some (.string x.b)/\w'.cell? ⟨wr.heap.size,2,none⟩=some (.string x.r)/\w'.cell? ⟨wr.heap.size,3,none⟩=some (.string x.c)/\w'.cell? ⟨wr.heap.size,4,none⟩=some (.string x.d)/\w'.cell? ⟨wr.heap.size,5,none⟩=some (.string x.s)/\D<w'.heap.size/\wr.heap.size<w'.heap.size/\ag W4 w')
    (first|assumption|exact QS (by assumption) hbx|exact H0.out)
    (first|(go_at_call 64;refine(HLF.out _ (by assumption)).mono ?_;rintro e w' ⟨rfl,hbx⟩))
   rename_i hH;obtain⟨-,y0,y1,y2,y3,y4,y5,-,yl,hbH⟩:=hH;rename_i w5;have HD5:=aV (HD4.out.below hbH);have HBw5:=aV (HBw4.out.trans (hbH.mono HBw4.out.size));have HBW5:=aV (HBW4.out.trans (hbH.mono (by have:=HD4.out.ord;have:=HD4.out.dat.gt;have:=HD4.out.dat.lt;omega)));have HALN:Hid ((ts.take (k+1)).all fit=true):=by show _=_;rw[HAT.out,HALK.out,hfx];rfl
   clear hbH;go_wp2_with fail;refine(QA D br bp _ 0 _ _ _ k Mp vo vu x _ HD5.out.dat (by omega) (by omega) (by omega) (by omega) HXF.out).mono ?_;rintro e w6 ⟨rfl,⟨Mp',vo',vu',hd6⟩,hb6⟩;have HDN6:Hid (∃Mp vo vu,DatA w6 rs D br bp bt 0 0 (fun _=>none) [] (dQ (ts.take (k+1))) (fF (ts.take (k+1))) (di (ts.take (k+1))) (k+1) Mp vo vu):=by
    rw[HTK.out,KD,KC,Ia];exact⟨Mp',vo',vu',HD5.out.tell hd6 hb6⟩
   have HBW6:Hid (Below br W w6):=HBW5.out.trans (hb6.mono (by have:=HD4.out.ord;omega));clear hd6 hb6;go_wp2;go_roundw;case rel=>exact⟨k+1,by omega,by go_num,HALN,HDN6,HBW6⟩
   simp[intOf]<;>omega
  obtain rfl:k=ts.length:=by omega
  rw[VI]at Xd HDA;have HRT:Hid (cz fit rs ts=true):=ZW.out.trans Xd.out;obtain⟨Mp,vo,vu,Yw⟩:=HDA.out;have HD0:=aV Yw;obtain⟨f,hf⟩:∃f:Ky->Int,f=fun k=>(σ k).getD 0:=⟨_,rfl⟩;have HF:=aV hf;have HLS:Hid (Least (ae rs) f):=by rw[hf];exact Yf.out
  have HF36:Hid (∀y,0<=f y/\f y<=36):=by rw[hf];exact QP (aG.1 HSD.out) h6 X0.out Yf.out HKE.out
  obtain⟨wz,hwz⟩:=eQx wr;subst hwz;have hkk:decide ((ts.length:Int)<(ts.length:Int))=false:=by simp
  clear Yw HDA Xd hf Yf HTU ZW;go_wp2_with fail;go_loopw[54] (fun i wr=>∃k:Nat,k<=rs.length/\i=.int .i64 (k:Int)/\Hid ((fC f (rs.take k)).length<=6*k)/\Hid (∃nr Mr,nr<=6*k/\DatA wr rs D br bp bt (jT (fC f (rs.take k))) nr Mr (fC f (rs.take k)) (dQ ts) (fF ts) (di ts) ts.length Mp vo vu)/\Hid (Below br W wr)) (fun i _=>rs.length-(intOf i).toNat);case atStart=>exact⟨0,Vy _,rfl,Vy _,⟨0,_,Vy _,HD0.out⟩,HB⟩
  clear HD0 HB Zb;obtain⟨k,hk,rfl,Yt,HDA,HB⟩:=hrel;have Zb:Hid (ag w wr):=WS.out.trans (HB.out.mono hwbr);by_cases hkl:k<rs.length
  ·rcases HS.out.below Zb.out with hnil|⟨b,off,rfl,hb,hr,hok⟩
   ·rw[hnil]at hkl;simp at hkl
   obtain⟨t0,t1⟩:=hr k hkl;have hk1:=bI k;have hk2:(k:Int)<(rs.length:Int):=by omega
   have h6k:rs[k].rows.length<=6:=X0.out _ (Vs hkl);have z0:rs[k].name.size<=maxLen:=(ZK.out _ (Vs hkl)).1;have HFRk:Hid (∀q∈rs[k].rows,q.fits):=(ZK.out _ (Vs hkl)).2.2;have HSU:=aV (NY f hkl);obtain⟨W1,hW1⟩:=eQx (wr.alloc (.cells #[.string rs[k].name,.slice rs[k].ad rs[k].rows.length rs[k].cap] 36));have hal:ag wr W1:=by rw[hW1];exact(Vv _ _).alloc (Vu _) _
   obtain⟨nr,Mr,hnr,Yw⟩:=HDA.out;have HD1:=aV (Yw.below hal);have hbrz:br<wr.heap.size:=by have:=Yw.ord;have:=Yw.dat.gt;have:=Yw.dat.lt;omega
   have HB1:Hid (Below br W W1):=HB.out.trans (hal.mono (by omega));have HT1:Hid (W1.heap[wr.heap.size]?=some (.cells #[.string rs[k].name,.slice rs[k].ad rs[k].rows.length rs[k].cap] 36 (0,0))):=by rw[hW1];exact heap_alloc_new wr _
   have a1:W1.cell? ⟨wr.heap.size,1,none⟩=some (.slice rs[k].ad rs[k].rows.length rs[k].cap):=by rw[hW1];simp
   clear hr hok hal Yw HDA;go_wp2_with fail;rw[<-hW1];clear hW1 t0 t1 a1 HB;obtain⟨wo,hwo⟩:=eQx wr;subst hwo;go_loopw[61] (fun i w2=>∃j:Nat,j<=rs[k].rows.length/\i=.int .i64 (j:Int)/\Hid (∃nr Mr,nr<=6*k+j/\DatA w2 rs D br bp bt (jT (fC f (rs.take k)++(rs[k].rows.take j).map (yh f rs[k].name))) nr Mr (fC f (rs.take k)++(rs[k].rows.take j).map (yh f rs[k].name)) (dQ ts) (fF ts) (di ts) ts.length Mp vo vu)/\Hid (w2.heap[wo.heap.size]?=some (.cells #[.string rs[k].name,.slice rs[k].ad rs[k].rows.length rs[k].cap] 36 (0,0)))/\Hid (Below br W w2)) (fun i _=>rs[k].rows.length-(intOf i).toNat);case atStart=>exact⟨0,Vy _,rfl,⟨nr,Mr,by omega,by simpa using HD1.out⟩,HT1,HB1⟩
   clear HD1 HT1 HB1 Zb;obtain⟨j,hj,rfl,HDA,HT,HB⟩:=hrel;have Zb:Hid (ag w wr):=WS.out.trans (HB.out.mono hwbr);by_cases hjl:j<rs[k].rows.length
   ·rcases HS.out.below Zb.out with hnil|⟨b',off',he,hb2,hr,hok⟩
    ·rw[hnil]at hkl;simp at hkl
    injection he with he;injection he with he1 he2;subst he1;subst he2;have ok:=hok rs[k] (Vs hkl);rcases ok with hnil|⟨b2,WV,had,hbb,hr2,-⟩
    ·rw[hnil]at hjl;simp at hjl
    obtain⟨q0,q1⟩:=hr2 j hjl;have z1:rs[k].rows[j].name.size<=maxLen:=(HFRk.out _ (Vs hjl)).1;have hj1:=bI j;have hj2:(j:Int)<(rs[k].rows.length:Int):=by omega
    obtain⟨kl,hkl'⟩:=jN (rs[k].name,rs[k].rows[j].name) z0 z1;have XP:=aV hkl';obtain⟨nr,Mr,hnr,Yw⟩:=HDA.out;have HTKE:Hid ((rs[k].rows.take (j+1)).map (yh f rs[k].name)=(rs[k].rows.take j).map (yh f rs[k].name)++[yh f rs[k].name rs[k].rows[j]]):=by show _=_;rw[Vx hjl,Wl];rfl
    have hEl:((rs[k].rows.take j).map (yh f rs[k].name)).length=j:=by rw[Wp,V9];omega
    obtain⟨E0,hE0⟩:=eQx (fC f (rs.take k)++(rs[k].rows.take j).map (yh f rs[k].name));have hE0l:E0.length<=36:=by rw[hE0,VD,hEl];have:=Yt.out;omega
    rw[<-hE0]at Yw;have HE0:=aV hE0;obtain⟨fv,hfv⟩:=eQx (f (rs[k].name,rs[k].rows[j].name));have hfv36:=HF36.out (rs[k].name,rs[k].rows[j].name);rw[<-hfv]at hfv36;obtain⟨hfv0,hfv1⟩:=hfv36;have HFV:=aV hfv;have HLK:Hid ((jl σ (rs[k].name,rs[k].rows[j].name)).getD (.int .i64 0)=.int .i64 fv):=by
     show _=_;rw[hfv,HF.out];unfold jl;cases h:σ (rs[k].name,rs[k].rows[j].name)<;>simp[h]
    obtain⟨W2,hW2⟩:=eQx (wr.alloc (.cells #[.string rs[k].rows[j].name,.slice rs[k].rows[j].ad rs[k].rows[j].rows.length rs[k].rows[j].cap] 39));obtain⟨W3,hW3⟩:=eQx (W2.alloc (.cells #[.string rs[k].name,.int .i64 fv] 197));have hs2:W2.heap.size=wr.heap.size+1:=by rw[hW2];simp
    have hs3:W3.heap.size=wr.heap.size+2:=by rw[hW3];simp;omega
    have hal2:ag wr W2:=by rw[hW2];exact(Vv _ _).alloc (Vu _) _
    have hal3:ag W2 W3:=by rw[hW3];exact(Vv _ _).alloc (Vu _) _
    have hwol:wo.heap.size<wr.heap.size:=by
     rcases Nat.lt_or_ge wo.heap.size wr.heap.size with h|h
     ·exact h
     have:=HT.out;rw[Array.getElem?_eq_none h]at this;cases this
    have HFRB:Hid (G.FreeB Mr wr.heap.size):=Yw.rel.fresh (Vu _);have Xl:Hid (aJ dw prog 146 W2 bS nS (jl σ)):=HMW.out.of_block (by rw[hal2.block bS (by omega),HB.out.block bS hbS]);have HD3:=aV ((Yw.below hal2).below hal3);have HB3':Hid (Below br W W3):=(HB.out.trans (hal2.mono (by omega))).trans (hal3.mono (by omega));have HT3:Hid (W3.heap[wo.heap.size]?=some (.cells #[.string rs[k].name,.slice rs[k].ad rs[k].rows.length rs[k].cap] 36 (0,0))):=by show _=_;rw[hal3.block _ (by omega),hal2.block _ (by omega)];exact HT.out
    have c0:wr.cell? ⟨wo.heap.size,0,none⟩=some (.string rs[k].name):=by simp[World.cell?,HT.out]
    have c0b:W2.cell? ⟨wo.heap.size,0,none⟩=some (.string rs[k].name):=(hal2.cell (p:=⟨wo.heap.size,0,none⟩) (by show wo.heap.size<_;omega)).trans c0;have g0:W2.cell? ⟨wr.heap.size,0,none⟩=some (.string rs[k].rows[j].name):=by rw[hW2];simp
    have HR2:Hid (W3.cell? ⟨wr.heap.size,0,none⟩=some (.string rs[k].rows[j].name)/\W3.cell? ⟨wr.heap.size,1,none⟩=some (.slice rs[k].rows[j].ad rs[k].rows[j].rows.length rs[k].rows[j].cap)/\W3.cell? ⟨wr.heap.size+1,0,none⟩=some (.string rs[k].name)/\W3.cell? ⟨wr.heap.size+1,1,none⟩=some (.int .i64 fv)):=by
     show _/\_;rw[hW3,hW2];refine⟨?_,?_,?_,?_⟩<;>simp
    rw[had];clear hr hok hr2 hkl' Yw HDA hal2 hal3 HT HB hE0 hfv hEl;go_wp2_with(first|(at_lookup;rw[<-hW2];refine jM _ rfl _ _ 169 rfl 146 2 iZ underlying169 (SB _) bS nS (jl σ) rfl Xl.out (rs[k].name,rs[k].rows[j].name) kl rfl XP.out ?_;rw[HLK.out]));rw[<-hW2,<-hW3];clear hW2 hW3 g0 c0b c0 q0 q1 HLK Xl;obtain⟨row0,hr0⟩:∃r,r=(Mr (rs[k].name,fv)).getD (.slice none 0 0):=⟨_,rfl⟩;obtain⟨nn,hnn⟩:∃n,n=(G.lookL E0 (rs[k].name,fv)).length:=⟨_,rfl⟩;obtain⟨xs,hxs⟩:∃x,x=G.flatG KJ (G.lookL E0 (rs[k].name,fv)):=⟨_,rfl⟩;have X7:=aV hr0;have Ze:=aV hnn;have YC:=aV hxs;have hnl:nn<=36:=by rw[hnn];exact Vz (WJ _ _) hE0l
    have Yj:Hid (∀W0:World,ag W3 W0->W0.ownsRow (br+1) 39 2 row0 nn xs):=fun W0 hb=>by rw[hr0,hnn,hxs];exact Ef (HD3.out.rel.below hb) _
    have HKEY:Hid (∃kl,keyOf prog 197 (Gi (rs[k].name,fv))=some kl):=Lu _ z0 hfv0 (by show fv<=1000000;omega);have hDl:D<W3.heap.size:=HD3.out.dat.lt;have hbrD:br<D:=by have:=HD3.out.ord;have:=HD3.out.dat.gt;omega
    clear hr0 hnn hxs;obtain⟨C2,hC2⟩:∃C:Nat->Value,C=fun n=>(Value.pointer (some ⟨D,0,none⟩)::.pointer (some ⟨D,0,none⟩)::.pointer (some ⟨D,2,none⟩)::.map (some br)::.agg #[.string rs[k].name,.int .i64 fv]::.agg #[.string rs[k].rows[j].name,.slice rs[k].rows[j].ad rs[k].rows[j].rows.length rs[k].rows[j].cap]::[]).getD n undef:=⟨_,rfl⟩;have Xk:Hid (C2 0=Value.pointer (some ⟨D,0,none⟩)/\C2 1=Value.pointer (some ⟨D,0,none⟩)/\C2 2=Value.pointer (some ⟨D,2,none⟩)/\C2 3=Value.map (some br)/\C2 4=Value.agg #[.string rs[k].name,.int .i64 fv]/\C2 5=Value.agg #[.string rs[k].rows[j].name,.slice rs[k].rows[j].ad rs[k].rows[j].rows.length rs[k].rows[j].cap]):=by show _/\_;rw[hC2];exact⟨rfl,rfl,rfl,rfl,rfl,rfl⟩
    clear hC2;refine qy 11 _ _ (G.EI C2 #[.string rs[k].rows[j].name,.slice rs[k].rows[j].ad rs[k].rows[j].rows.length rs[k].rows[j].cap] 39 2 W3 br row0 nn xs (G.Back Gi prog 197 190 br nr Mr (rs[k].name,fv))) (by kernel_rfl) rfl (by kernel_rfl) (by kernel_rfl) (yt [(76,[0,1,2,3,4,8,5,6,7,9,10])]) (G.ei_start W3) ?stepA ?finA<;>dsimp only[wY];case stepA =>
     rintro i hi o ho l fq w' Xb hI hpre;have HI:=az hI;have WO:Hid (∀e∈o.after,Region.binds .any e=true->l e.on=true):=hpre;clear hI hpre;have hc:=F7 (i:=i) (by omega);clear hi
     repeat' rcases hc with rfl|hc
     ·cases ho;have hA:=HI.out.early (i:=0) (by omega) Xb;clear WO HI;refine aa rfl fun K HK=>?_;go_simp;exact HK.out _ _ ⟨Value.pointer (some ⟨D,0,none⟩),by simp[upd, *],hA.put (by omega) Xk.out.1.symm⟩
     ·cases ho;have hA:=HI.out.early (i:=1) (by omega) Xb;have e0:=(hA.val 0 (by omega) (WO.out ⟨0,.data⟩ (by simp) rfl)).trans Xk.out.1;clear WO HI;refine aa rfl fun K HK=>?_;simp only[e0];go_simp;exact HK.out _ _ ⟨Value.pointer (some ⟨D,0,none⟩),by simp[upd, *],hA.put (by omega) Xk.out.2.1.symm⟩
     ·cases ho;have hA:=HI.out.early (i:=2) (by omega) Xb;have e1:=(hA.val 1 (by omega) (WO.out ⟨1,.data⟩ (by simp) rfl)).trans Xk.out.2.1;clear WO HI;refine aa rfl fun K HK=>?_;simp only[e1];go_simp;exact HK.out _ _ ⟨Value.pointer (some ⟨D,2,none⟩),by simp[upd, *],hA.put (by omega) Xk.out.2.2.1.symm⟩
     ·cases ho;have hA:=HI.out.early (i:=3) (by omega) Xb;have e2:=(hA.val 2 (by omega) (WO.out ⟨2,.data⟩ (by simp) rfl)).trans Xk.out.2.2.1;have hb':=hA.bel;have d2:=(hb'.cell (p:=⟨D,2,none⟩) hDl).trans HD3.out.dat.c2;clear WO HI;refine aa rfl fun K HK=>?_;simp only[e2];go_simp;exact HK.out _ _ ⟨Value.map (some br),by simp[upd, *],hA.put (by omega) Xk.out.2.2.2.1.symm⟩
     ·cases ho;have hA:=HI.out.early (i:=4) (by omega) Xb;have hb':=hA.bel;have k0:=(hb'.cell (p:=⟨wr.heap.size+1,0,none⟩) (by show wr.heap.size+1<_;omega)).trans HR2.out.2.2.1;have k1:=(hb'.cell (p:=⟨wr.heap.size+1,1,none⟩) (by show wr.heap.size+1<_;omega)).trans HR2.out.2.2.2;clear WO HI;refine aa rfl fun K HK=>?_;go_simp;exact HK.out _ _ ⟨Value.agg #[.string rs[k].name,.int .i64 fv],by simp[upd, *],hA.put (by omega) Xk.out.2.2.2.2.1.symm⟩
     ·cases ho;have hA:=HI.out.early (i:=5) (by omega) Xb;have hb':=hA.bel;have k0:=(hb'.cell (p:=⟨wr.heap.size,0,none⟩) (by show wr.heap.size<_;omega)).trans HR2.out.1;have k1:=(hb'.cell (p:=⟨wr.heap.size,1,none⟩) (by show wr.heap.size<_;omega)).trans HR2.out.2.1;clear WO HI;refine aa rfl fun K HK=>?_;go_simp;exact HK.out _ _ ⟨Value.agg #[.string rs[k].rows[j].name,.slice rs[k].rows[j].ad rs[k].rows[j].rows.length rs[k].rows[j].cap],by simp[upd, *],hA.put (by omega) Xk.out.2.2.2.2.2.symm⟩
     ·cases ho;have hA:=HI.out.early (i:=6) (by omega) Xb;have e5:=(hA.val 5 (by omega) (WO.out ⟨5,.data⟩ (by simp) rfl)).trans Xk.out.2.2.2.2.2;clear WO HI;refine aa rfl fun K HK=>?_;simp only[e5];go_simp;exact HK.out _ _ ⟨_,by simp[upd,e5],hA.lay⟩
     ·cases ho;have hA:=HI.out.early (i:=7) (by omega) Xb;have e3:=(hA.val 3 (by omega) (WO.out ⟨3,.data⟩ (by simp) rfl)).trans Xk.out.2.2.2.1;have e4:=(hA.val 4 (by omega) (WO.out ⟨4,.data⟩ (by simp) rfl)).trans Xk.out.2.2.2.2.1;have hall:∀k,k<=6->l k=true:=fun k hk=>by
       have hc:=UH (i:=k) (by omega)
       repeat' rcases hc with rfl|hc
       ·exact WO.out ⟨0,.phase⟩ (by simp) rfl
       ·exact WO.out ⟨1,.phase⟩ (by simp) rfl
       ·exact WO.out ⟨2,.phase⟩ (by simp) rfl
       ·exact WO.out ⟨3,.phase⟩ (by simp) rfl
       ·exact WO.out ⟨4,.phase⟩ (by simp) rfl
       ·exact WO.out ⟨5,.phase⟩ (by simp) rfl
       exact WO.out ⟨6,.phase⟩ (by simp) rfl
      have hD':=HD3.out.below hA.bel;obtain⟨kl2,hkl2⟩:=HKEY.out;obtain⟨st,w1',hrun,hg,hback⟩:=hD'.rel.map.entry O8 O7 underlying190 QR (by unfold maxLen;omega) hkl2;rw[<-X7.out]at hrun;have hrun':(Instr.mapEntry 190 (.map (some br)) (Value.agg #[.string rs[k].name,.int .i64 fv])).run prog w'=.ok (.tuple #[row0,goInt st]) w1':=hrun;clear WO HI;refine aa rfl fun K HK=>?_;simp only[e3,e4];go_simp;exact HK.out _ _ ⟨_,by simp[upd,e3,e4,goInt],hA.took hall hg hback⟩
     ·cases ho;have h7:=WO.out ⟨7,.data⟩ (by simp) rfl;have hB:=HI.out.midB h7 (i:=8) (by omega) Xb;obtain⟨st,e7⟩:=HI.out.seven h7;clear WO HI;refine aa rfl fun K HK=>?_;simp only[e7];go_simp;exact HK.out _ _ ⟨_,by simp[upd,e7,goInt],hB.first⟩
     ·cases ho;have h7:=WO.out ⟨7,.chain⟩ (by simp) rfl;have h8:=WO.out ⟨8,.data⟩ (by simp) rfl;have hB:=HI.out.midB h7 (i:=9) (by omega) Xb;obtain ⟨W0,st,g,hm1,hm2,hm3,hm4,ZA,e7,hm7,hm8,hm9⟩:=hB.mid;have e8:=hm8 h8;have hown:=(Yj.out W0 hm1).kept ZA (by
       rcases h:row0.ownBlock with _|g'
       ·exact .inl rfl
       right;intro e;injection e with e;have:=((Yj.out W0 hm1).lt g' h).1;omega)
      have hnew:w'.heap[g]?=some (.cells #[.string rs[k].rows[j].name,.slice rs[k].rows[j].ad rs[k].rows[j].rows.length rs[k].rows[j].cap] 39 (0,0)):=by
       have hgl:g<W0.heap.size:=by
        rcases Nat.lt_or_ge g W0.heap.size with h|h
        ·exact h
        rw[Array.getElem?_eq_none h]at hm4;cases hm4
       rw[ZA.block g hgl (fun e=>by injection e with e;omega)];exact hm4
      clear WO HI;refine gP w' rfl rfl _ _ 34 rfl (br+1) 39 iR _ 2 40 underlying34 Yo.out.1 Yo.out.2.1 Yo.out.2.2.1 Yo.out.2.2.2 rfl (by decide) row0 nn xs (by simp[Act.eval,e8]) hown ⟨g,0,none⟩ 1 1 [Value.string rs[k].rows[j].name,.slice rs[k].rows[j].ad rs[k].rows[j].rows.length rs[k].rows[j].cap] (by simp[Act.eval,hm2]) rfl (fun j u hu=>news_of_block hnew j u hu) (by simp[Value.oneCell']) (by unfold maxLen;omega) (by omega) (by have:=ZA.size;have:=hm1.size;omega) ?_;intro v' w2' hown2 WZ YV;exact⟨v',by simp[upd,Act.put],hB.app h8 WZ hown2 YV⟩
     cases ho;have h7:=WO.out ⟨7,.data⟩ (by simp) rfl;obtain⟨st,e7⟩:=HI.out.seven h7;have HI2:=HI.out.second h7 e7;clear WO HI;refine aa rfl fun K HK=>?_;simp only[e7];go_simp;exact HK.out _ _ ⟨_,by simp[upd,e7,goInt],HI2⟩
    case finA =>
     rintro o ho l fq w' hall hI;obtain rfl:=Option.some.inj ho;have hC:=hI.last hall;obtain⟨W0,w1',st,hm1,hm2,hm3,hm4,ZA,hm6,-,hm8⟩:=hC.mid;have e10:=hm8 (hall 10 (by omega));have e3:=(hC.val 3 (by omega)).trans Xk.out.2.2.2.1;obtain⟨w7,hrun,hM3,hg3⟩:=hm6 w' (fq 9) (hm3.block br (by have:=hm2.size;have:=hm1.size;omega) (fun e=>by have:=(Yj.out W0 hm1).lt br e.symm;omega));have hst:=(HD3.out.rel.below hm1).step (y:=(rs[k].name,fv)) (s:=rs[k].rows[j]) hm2 (by rw[<-Ze.out,<-YC.out];exact hm4) (by rw[<-X7.out];exact hm3) (by rw[<-X7.out];exact ZA) hg3 hM3;have HD7:=aV ((HD3.out.below hm1).list hst.1 hst.2);have HB7:Hid (Below br W w7):=by
      have b0:Below br W W0:=HB3'.out.trans (hm1.mono (by omega));have b1:Below br W w1':=b0.grown hm2 (by have:=hm1.size;omega) (fun i hi=>by injection hi with hi;omega);have b2:Below br W w':=b1.grown hm3 (by have:=hm2.size;have:=hm1.size;omega) (fun i hi=>by have:=((Yj.out W0 hm1).lt i hi).1;omega);exact b2.grown hg3 (by have:=hm3.size;have:=hm2.size;have:=hm1.size;omega) (fun i hi=>by injection hi with hi;omega)
     have HT7:Hid (w7.heap[wo.heap.size]?=some (.cells #[.string rs[k].name,.slice rs[k].ad rs[k].rows.length rs[k].cap] 36 (0,0))):=by
      show _=_;have h0:W0.heap[wo.heap.size]?=_:=(hm1.block wo.heap.size (by omega)).trans HT3.out;rw[hst.2.block wo.heap.size (by have:=hm1.size;omega) (by omega) (sK (HD3.out.rel.below hm1) h0 (by decide))];exact h0
     have Ye:(Instr.entryStore 190 (.map (some br)) (.int .i64 st) (fq 9)).run prog w'=.ok () w7:=hrun;obtain⟨Mn,hMn⟩:∃M,M=lI Mr (rs[k].name,fv) (some (fq 9)):=⟨_,rfl⟩;rw[<-hMn]at HD7;refine aa rfl fun K HK=>?_;simp only[e3,e10];go_simp;refine HK.out _ _ ?_;obtain⟨n0,hn0⟩:∃n,n=jT E0:=⟨_,rfl⟩;have HN0:=aV hn0;rw[<-hn0]at HD7;have d1:=HD7.out.dat.c1;have fz:=fun o=>lq HD7.out.dat.kind.choose_spec o;have hDw:=HD7.out.dat.lt;clear hst hrun Ye hM3 hg3 hm1 hm2 hm3 hm4 ZA hm6 hm8 hC hI hall ho HK K e3 e10 HD3 HT3 HB3' Yj Xk HKEY hMn X7 Ze YC HR2 HFRB hn0 hDl hbrD;obtain⟨w8,hw8⟩:∃x,x=w7.setCell ⟨D,1,none⟩ (Value.int .i64 (max n0 (fv+1))):=⟨_,rfl⟩;have HEQ:Hid (fC f (rs.take k)++(rs[k].rows.take (j+1)).map (yh f rs[k].name)=E0++[((rs[k].name,fv),rs[k].rows[j])]):=by show _=_;rw[HTKE.out,<-VY,<-HE0.out];unfold yh;rw[<-HFV.out]
     have HD8:Hid (∃nr Mr,nr<=6*k+(j+1)/\DatA w8 rs D br bp bt (jT (fC f (rs.take k)++(rs[k].rows.take (j+1)).map (yh f rs[k].name))) nr Mr (fC f (rs.take k)++(rs[k].rows.take (j+1)).map (yh f rs[k].name)) (dQ ts) (fF ts) (di ts) ts.length Mp vo vu):=by
      rw[HEQ.out,Iw,<-HN0.out,hw8];exact⟨nr+1,Mn,by omega,HD7.out.count (max n0 (fv+1))⟩
     have HT8:Hid (w8.heap[wo.heap.size]?=some (.cells #[.string rs[k].name,.slice rs[k].ad rs[k].rows.length rs[k].cap] 36 (0,0))):=by
      show _=_;rw [hw8,heap_setCell_other w7 ⟨D,1,none⟩ wo.heap.size _ (fun e=>by
       have e':wo.heap.size=D:=e;have h1:=HT7.out;obtain⟨cur,h2⟩:=HD7.out.dat.kind;rw[e',h2]at h1;injection h1 with h1;injection h1 with _ h3;exact absurd h3 (by decide))]
      exact HT7.out
     have HB8:Hid (Below br W w8):=by show Below _ _ _;rw[hw8];exact HB7.out.setCell (by show br<=D;have:=HD7.out.ord;have:=HD7.out.dat.gt;omega) _
     rw[had]at HT8;clear HD7 HT7 HB7;go_wp2;rw[<-hw8];go_roundw;case rel=>exact⟨j+1,by omega,by go_num,HD8,HT8,HB8⟩
     simp[intOf]<;>omega
   obtain rfl:j=rs[k].rows.length:=by omega
   have HDN2:Hid (∃nr Mr,nr<=6*(k+1)/\DatA wr rs D br bp bt (jT (fC f (rs.take (k+1)))) nr Mr (fC f (rs.take (k+1))) (dQ ts) (fF ts) (di ts) ts.length Mp vo vu):=by
    obtain⟨nr,Mr,hnr,Yw⟩:=HDA.out;rw[VI]at Yw;rw[HSU.out];exact⟨nr,Mr,by omega,Yw⟩
   have HEL2:Hid ((fC f (rs.take (k+1))).length<=6*(k+1)):=by
    show _<=_;rw[HSU.out,VD,Wp];have:=Yt.out;omega
   clear HDA HT;go_wp2;go_roundw;case rel=>exact⟨k+1,by omega,by go_num,HEL2,HDN2,HB⟩
   simp[intOf]<;>omega
  obtain rfl:k=rs.length:=by omega
  rw[VI]at HDA;obtain⟨nr,Mr,-,Yw⟩:=HDA.out;have HDE:=aV Yw;clear Yw HDA;go_wp2;exact bodyPost_ret (v:=.tuple #[.pointer (some ⟨D,0,none⟩),.bool true]) (by simp[results,Tryz.results55,go_sem]) rfl ⟨Zb.out,.inr ⟨HRT.out,D,br,bp,bt,nr,ts.length,Mr,Mp,vo,vu,f,rfl,hw2,HLS.out,HDE.out⟩⟩
 have HN:Hid (cz fit rs ts=false):=by
  show _=_;unfold cz;cases hh:aD (ae rs);case false=>simp
  exact absurd (aG.1 hh) hno
 clear hno;go_wp2;exact bodyPost_ret (v:=.tuple #[.pointer none,.bool false]) (by simp[results,Tryz.results55,go_sem]) rfl ⟨HB1.out,.inl ⟨HN.out,rfl⟩⟩
theorem Va(w:af)(o:Al):∀j u,[Value.string o.t,.string o.s][j]?=some u->(w.alloc (.cells #[.string o.t,.string o.s] 27)).cell? ((⟨w.heap.size,0,none⟩:Addr).add j)=some u:=fun j u hu=>by
 match j,hu with
 | 0,hu=>simp at hu;subst hu;simp[Addr.add]
 | 1,hu=>simp at hu;subst hu;simp[Addr.add]
theorem kD.at0{w:af}{ad:Q02}{xs:Q0a}(h:kD w ad xs){k:Nat}(hk:k<xs.length):∃b off,ad=some ⟨b,off,none⟩/\TV w b (off+k*2) xs[k]/\b<w.heap.size:=by
 rcases h with h|⟨b',off',e,hb,hr⟩
 ·rw[h]at hk;simp at hk
 exact⟨b',off',e,hr k hk,hb⟩
end Go.Proofs.YtojjoblnpldniaaGreat
