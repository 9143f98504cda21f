/- Contract of the program's look whether a tuple fits its table. -/
import Derived.Test.YtajkkeikihhejaaGreatSq
import Derived.Test.YtajkkeikihhejaaGreatJ20
import Derived.Test.YtajkkeikihhejaaGreatJ21
open Go.Proofs.Tryz
set_option maxHeartbeats 80000000
namespace Go.Proofs.YtajkkeikihhejaaGreat
open Go.ChangeShapes Go.WideShapes Go.ChangeAt Go.RowKit Go.Maps
open Pl
def nH (a:Al)(e:Ex):Bool:=decide (e.kind=1)&&dH e.allow e.allow.length a
def x9 (ts:List Ty)(ty rel:ByteArray)(a:Al):Bool:=(aB ts ty rel).any (nH a)
theorem fit_drop (a:Al)(rows:List ER)(k:Nat)(h:k<rows.length):(aj (rows.drop k)).any (nH a)=(nH a rows[k].e || (aj (rows.drop (k+1))).any (nH a)):=by
 rw [gI _ _ h];rfl
set_option maxRecDepth 100000 in
theorem Pn (b n:Nat)(rs:List TR)(ad:Option Addr)(M:ByteArray×ByteArray->Option Value)(oa ob r c d s:bI)(w:af)(hV:aO dS prog 94 w b n M)(hT:Tab rs M)(hs:kX w ad rs)(hl:∀ r∈rs,r.light)(ho:oa.size<=maxLen)(hr:r.size<=maxLen) :
  Calls prog 100 #[.map (some b),.agg #[.string oa,.string ob,.string r,.string c,.string d,.string s]] w fun e w'=>e=.returned (.bool (x9 (ae rs) oa r ⟨c,s⟩))/\ag w w':=by
 have HT:=aA hT;have HS:=aA hs;have HL:=aA hl;obtain ⟨kl,hkl⟩:=jC (oa,r) ho hr;have VD:Hid (keyOf prog 94 (dS (oa,r))=some kl):=hkl;obtain ⟨W0,hW0⟩:∃ W0,W0=(w.alloc (.cells #[.string oa,.string ob,.string r,.string c,.string d,.string s] 46)).alloc (.cells #[.string c,.string s] 43):=⟨_,rfl⟩;have hal:ag w W0:=by
  rw [hW0]
  repeat (first|exact Uf _ _|refine Below.alloc ?_ (by first|(simp;done)|(simp;omega)) _)
 have HB0:=aA hal;have HV0:=aA (hV.below hal);have VR:Hid (W0.cell? ⟨w.heap.size+1,0,none⟩=some (.string c)/\W0.cell? ⟨w.heap.size+1,1,none⟩=some (.string s)/\w.heap.size+1<W0.heap.size):=⟨by rw [hW0];simp,by rw [hW0];simp,by rw [hW0];simp⟩;obtain ⟨rows,UO,capE,HM,HE,HF⟩:∃ (rows:List ER) (UO:Option Addr) (capE:Nat),Hid ((M (oa,r)).getD (.slice none 0 0)=.slice UO rows.length capE)/\Hid (aj rows=aB (ae rs) oa r)/\Hid (pV rs UO rows):=by
  cases e:M (oa,r) with
  | none=>exact ⟨[],none,0,rfl,by show _=_;unfold aB;rw [HT.out.no _ e];rfl,.inl rfl⟩
  | some v =>
   obtain ⟨t,htm,q,hq,-,rfl,e1,-⟩:=HT.out.yes _ v e;exact ⟨q.rows,q.ad,q.cap,rfl,by show _=_;unfold aB;rw [e1];rfl,.inr ⟨t,htm,q,hq,rfl,rfl⟩⟩
 have Vs:=HF.out.light HL.out;have HLE1:rows.length<=1048576:=Vs.1;have HLE2:Hid (∀ q∈rows,q.e.light):=Vs.2;have WU:Hid (iC w UO rows):=HF.out.sl HS.out;clear hV hT hs hl hkl hal Vs;go_enter func100,ntmps100;go_wp2_with (at_lookup;rw [<-hW0];refine jB _ rfl _ _ 91 rfl 94 33 ic underlying91 (lF _) b n M rfl HV0.out (oa,r) kl rfl VD.out ?_;rw [HM.out];clear hW0);go_loopw [23] (fun i wr=>∃ k:Nat,k<=rows.length/\i=.int .i64 k/\Hid ((aj (rows.drop k)).any (nH ⟨c,s⟩)=(aj rows).any (nH ⟨c,s⟩))/\Hid (ag w wr)/\Hid (wr.cell? ⟨w.heap.size+1,0,none⟩=some (.string c)/\wr.cell? ⟨w.heap.size+1,1,none⟩=some (.string s)/\w.heap.size+1<wr.heap.size)) (fun i _=>rows.length-(intOf i).toNat);case atStart=>exact ⟨0,Ui _,rfl,rfl,HB0,VR⟩
 clear HB0 VR HV0;obtain ⟨k,hk,rfl,HP,HB,HC⟩:=hrel;by_cases hlt:k<rows.length
 ·rcases WU.out.below HB.out with hnil|⟨bE,offE,WO,hbE,hrE,hok⟩
  ·rw [hnil]at hlt;simp at hlt
  obtain ⟨t0,t1,t2,t3,t4⟩:=hrE k hlt;have VP:Hid (rows[k].ok wr):=hok _ (Ud hlt);have lgA:rows[k].e.allow.length<=1048576:=(HLE2.out _ (Ud hlt)).1;have hk1:=bF k;have hk2:(k:Int)<(rows.length:Int):=by omega
  obtain ⟨x0,x1,x2⟩:=HC.out;have HD:Hid ((aj rows).any (nH ⟨c,s⟩)=(nH ⟨c,s⟩ rows[k].e || (aj (rows.drop (k+1))).any (nH ⟨c,s⟩))):=by show _=_;rw [<-HP.out];exact fit_drop _ _ _ hlt
  obtain ⟨W1,hW1⟩:∃ W1,W1=wr.alloc (.cells #[.int .i64 rows[k].e.kind,.slice rows[k].adA rows[k].e.allow.length rows[k].capA,.string rows[k].e.over,.string rows[k].e.name,.slice rows[k].adK rows[k].e.kids.length rows[k].capK] 39):=⟨_,rfl⟩;have hal:ag wr W1:=by rw [hW1];exact (Uf _ _).alloc (Ue _) _
  have HB1:=jP HB hal;have VS:Hid (W1.cell? ⟨w.heap.size+1,0,none⟩=some (.string c)/\W1.cell? ⟨w.heap.size+1,1,none⟩=some (.string s)/\w.heap.size+1<W1.heap.size):=⟨aH hal x2 x0,aH hal x2 x1,Uc x2 hal.size⟩;have HA1:Hid (jM W1 rows[k].adA rows[k].e.allow):=VP.out.1.below hal;rw [WO];clear hrE hok hal HC;by_cases h1:rows[k].e.kind=1
  ·have hq1:(rows[k].e.kind==1)=true:=by simpa using h1
   have WZ:Hid (nH ⟨c,s⟩ rows[k].e=dH rows[k].e.allow rows[k].e.allow.length ⟨c,s⟩):=by show _=_;unfold nH;simp [h1]
   replace h1:Hid (rows[k].e.kind=1):=h1;go_wp2_with fail;rw [<-hW1];refine (uO rows[k].adA rows[k].e.allow.length rows[k].capA rows[k].e.allow ⟨c,s⟩ _ (Ue _) lgA HA1.out).mono ?_;rintro e w2 ⟨rfl,hb2⟩;have HB2:=jP HB1 hb2;have Vq:Hid (w2.cell? ⟨w.heap.size+1,0,none⟩=some (.string c)/\w2.cell? ⟨w.heap.size+1,1,none⟩=some (.string s)/\w.heap.size+1<w2.heap.size):=⟨aH hb2 VS.out.2.2 VS.out.1,aH hb2 VS.out.2.2 VS.out.2.1,Uc VS.out.2.2 hb2.size⟩;clear hb2 hW1 t0 t1 t2 t3 t4 x0 x1;cases hz:dH rows[k].e.allow rows[k].e.allow.length ⟨c,s⟩;case true=>
    have HN:Hid (x9 (ae rs) oa r ⟨c,s⟩=true):=by show _=_;unfold x9;rw [<-HE.out,HD.out,WZ.out,hz];rfl
    go_wp2;go_ret;exact ⟨by rw [HN.out];rfl,HB2.out⟩
   have UW:Hid ((aj (rows.drop (k+1))).any (nH ⟨c,s⟩)=(aj rows).any (nH ⟨c,s⟩)):=by show _=_;rw [HD.out,WZ.out,hz];rfl
   go_wp2;go_roundw;case rel=>exact ⟨k+1,by omega,by go_num,UW,HB2,Vq⟩
   simp [intOf] <;> omega
  have hq1:(rows[k].e.kind==1)=false:=by simpa using h1
  have UW:Hid ((aj (rows.drop (k+1))).any (nH ⟨c,s⟩)=(aj rows).any (nH ⟨c,s⟩)):=by show _=_;rw [HD.out];simp [nH,h1]
  have Vg:Hid (ag w (wr.alloc (.cells #[.int .i64 rows[k].e.kind,.slice rows[k].adA rows[k].e.allow.length rows[k].capA,.string rows[k].e.over,.string rows[k].e.name,.slice rows[k].adK rows[k].e.kids.length rows[k].capK] 39))):=by rw [<-hW1];exact HB1
  have HCX:Hid ((wr.alloc (.cells #[.int .i64 rows[k].e.kind,.slice rows[k].adA rows[k].e.allow.length rows[k].capA,.string rows[k].e.over,.string rows[k].e.name,.slice rows[k].adK rows[k].e.kids.length rows[k].capK] 39)).cell? ⟨w.heap.size+1,0,none⟩=some (.string c)/\(wr.alloc (.cells #[.int .i64 rows[k].e.kind,.slice rows[k].adA rows[k].e.allow.length rows[k].capA,.string rows[k].e.over,.string rows[k].e.name,.slice rows[k].adK rows[k].e.kids.length rows[k].capK] 39)).cell? ⟨w.heap.size+1,1,none⟩=some (.string s)/\w.heap.size+1<(wr.alloc (.cells #[.int .i64 rows[k].e.kind,.slice rows[k].adA rows[k].e.allow.length rows[k].capA,.string rows[k].e.over,.string rows[k].e.name,.slice rows[k].adK rows[k].e.kids.length rows[k].capK] 39)).heap.size):=by rw [<-hW1];exact VS
  clear hW1;go_wp2;go_roundw;case rel=>exact ⟨k+1,by omega,by go_num,UW,Vg,HCX⟩
  simp [intOf] <;> omega
 have HN:Hid (x9 (ae rs) oa r ⟨c,s⟩=false):=by show _=_;unfold x9;rw [<-HE.out,<-HP.out,List.drop_of_length_le (by omega)];rfl
 go_wp2;go_ret;exact ⟨by rw [HN.out];rfl,HB.out⟩
set_option linter.unusedVariables false
def QT (r:RR):List Value:=[.string r.name,r.sl]
abbrev EL (w:World)(br nr:Nat)(Mr:KL->Option Value)(Er:List (KL×RR)):Prop:=G.Grp FH prog 172 147 2 QT w br nr Mr Er
theorem Gz {w:af}{br nr:Nat}{Mr:KL->Option Value}{Er:List (KL×RR)}(h:EL w br nr Mr Er){k:KL}{v:Value}(hk:Mr k=some v):∃ n xs,w.ownsRow (br+1) 147 2 v n xs:=by
 rcases h.row k with ⟨e,-⟩|⟨v',e,ho⟩
 ·rw [e]at hk;cases hk
 rw [e]at hk;injection hk with hk;subst hk;exact ⟨_,_,ho⟩
theorem rO {w:af}{br nr g:Nat}{Mr:KL->Option Value}{Er:List (KL×RR)}{e:TypeId}{cur:Array Value}(h:EL w br nr Mr Er)(hc:w.heap[g]?=some (.cells cur e (0,0)))(hne:(147:TypeId)≠e):G.FreeB Mr g:=fun k v hk hg=>by
 obtain ⟨n,xs,ho⟩:=Gz h hk;exact hne (dK ho hg hc)
theorem GD {w:af}{br nr g:Nat}{Mr:KL->Option Value}{Er:List (KL×RR)}{es:Array MapEntry}{c:Nat}(h:EL w br nr Mr Er)(hc:w.heap[g]?=some (.map es c)):G.FreeB Mr g:=fun k v hk hg=>by
 obtain ⟨n,xs,ho⟩:=Gz h hk;exact Ew ho hg hc
theorem pG {K:Type}{enc:K->Value}{P:Program}{kt:TypeId}{w:af}{b n:Nat}{M:K->Option Value}(h:aO enc P kt w b n M):∃ es c,w.heap[b]?=some (.map es c):=by
 obtain ⟨D,⟨es,c,hb,-⟩,-⟩:=h;exact ⟨es,c,hb⟩
structure DatA (w:World)(rs:List TR)(D br bp bt:Nat)(n1:Int)(nr:Nat)(Mr:KL->Option Value)(Er:List (KL×RR))(E:List (K3×Tp))(xo xu:List Al)(np:Nat)(Mp:K3->Option Value)(vo vu:Value):Prop where
 dat:DatT w D br bp (.map (some bt)) n1 E xo xu np Mp vo vu
 tab:aO dS prog 94 w bt 36 (nZ rs)
 rel:EL w br nr Mr Er
 ord:bt<br/\br<bp
section
variable  {w w':World}{rs:List TR}{D br bp bt:Nat}{n1:Int}{nr:Nat}{Mr:KL->Option Value}{Er:List (KL×RR)}{E:List (K3×Tp)}{xo xu:List Al}{np:Nat}{Mp:K3->Option Value}{vo vu:Value}
theorem DatA.below (h:DatA w rs D br bp bt n1 nr Mr Er E xo xu np Mp vo vu)(hb:ag w w'):DatA w' rs D br bp bt n1 nr Mr Er E xo xu np Mp vo vu:=⟨h.dat.below hb,h.tab.below hb,h.rel.below hb,h.ord⟩
theorem DatA.tell (h:DatA w rs D br bp bt n1 0 (fun _=>none) [] E xo xu np Mp vo vu){E':List (K3×Tp)}{xo' xu':List Al}{np':Nat}{Mp':K3->Option Value}{XZ X7:Value}(hd:DatT w' D br bp (.map (some bt)) n1 E' xo' xu' np' Mp' XZ X7)(hb:Below bp w w'):DatA w' rs D br bp bt n1 0 (fun _=>none) [] E' xo' xu' np' Mp' XZ X7:=by
 obtain ⟨h1,h2⟩:=h.ord;exact ⟨hd,h.tab.of_block (hb.block bt (by omega)),⟨h.rel.map.of_block (hb.block br (by omega)),fun k=>.inl ⟨rfl,rfl⟩,fun k k' v v' _ e=>by cases e⟩,h.ord⟩
theorem DatA.list (h:DatA w rs D br bp bt n1 nr Mr Er E xo xu np Mp vo vu){nr':Nat}{Mr':KL->Option Value}{Er':List (KL×RR)}(hg:EL w' br nr' Mr' Er')(hs:G.Stl w Mr w' Mr' br):DatA w' rs D br bp bt n1 nr' Mr' Er' E xo xu np Mp vo vu:=by
 obtain ⟨h1,h2⟩:=h.ord;have hgt:=h.dat.gt;have hlt:=h.dat.lt;obtain ⟨cur,hk⟩:=h.dat.kind;have hD:w'.heap[D]?=w.heap[D]?:=hs.block D hlt (by omega) (rO h.rel hk (by decide));have hc:∀ o,w'.cell? ⟨D,o,none⟩=w.cell? ⟨D,o,none⟩:=fun o=>Uy (w:=w) (a:=⟨D,o,none⟩) hD;have hO:∀ {v:Value} {n:Nat} {xs:List Value},w.ownsRow (bp+1) 27 2 v n xs->w'.ownsRow (bp+1) 27 2 v n xs:=fun {v n xs} ho=>d9 ho fun g hg=>by
  obtain ⟨cr,e⟩:=jI ho hg;have:=ho.lt g hg;exact hs.block g this.2 (by omega) (rO h.rel e (by decide))
 obtain ⟨es,c,eb⟩:=pG h.dat.told.map;obtain ⟨es2,c2,eb2⟩:=pG h.tab;refine ⟨⟨hgt,Uc hlt hs.size,⟨cur,hD.trans hk⟩,(hc _).trans h.dat.c0,(hc _).trans h.dat.c1,(hc _).trans h.dat.c2,(hc _).trans h.dat.c3,(hc _).trans h.dat.c4,(hc _).trans h.dat.c5,vJ h.dat.told ?_ ?_,hO h.dat.objs,hO h.dat.users,h.dat.apart⟩,h.tab.of_block ?_,hg,h.ord⟩
 ·exact hs.block bp (by omega) (by omega) (GD h.rel eb)
 ·intro k v g hm hg2;obtain ⟨n,xs,ho⟩:=vI h.dat.told hm;obtain ⟨cr,e⟩:=jI ho hg2;have:=ho.lt g hg2;exact hs.block g this.2 (by omega) (rO h.rel e (by decide))
 exact hs.block bt (by omega) (by omega) (GD h.rel eb2)
theorem DatA.count (h:DatA w rs D br bp bt n1 nr Mr Er E xo xu np Mp vo vu)(n2:Int):DatA (w.setCell ⟨D,1,none⟩ (.int .i64 n2)) rs D br bp bt n2 nr Mr Er E xo xu np Mp vo vu:=by
 obtain ⟨h1,h2⟩:=h.ord;have hgt:=h.dat.gt;obtain ⟨cur,hk⟩:=h.dat.kind;have hne:∀ g,g≠D->(w.setCell ⟨D,1,none⟩ (.int .i64 n2)).heap[g]?=w.heap[g]?:=fun g e=>heap_setCell_other w ⟨D,1,none⟩ g _ e;have hc2:∀ o,o≠1->(w.setCell ⟨D,1,none⟩ (.int .i64 n2)).cell? ⟨D,o,none⟩=w.cell? ⟨D,o,none⟩:=fun o ne=>kL (by omega);have hO:∀ {v:Value} {n:Nat} {xs:List Value},w.ownsRow (bp+1) 27 2 v n xs->(w.setCell ⟨D,1,none⟩ (.int .i64 n2)).ownsRow (bp+1) 27 2 v n xs:=fun {v n xs} ho=>d9 ho fun g hg=>hne g fun e=>absurd (dK ho (e ▸ hg) hk) (by decide);refine ⟨⟨hgt,by simpa using h.dat.lt,⟨_,heap_setCell_same w D 1 cur _ _ hk⟩,(hc2 0 (by omega)).trans h.dat.c0,Oz h.dat.c1,(hc2 2 (by omega)).trans h.dat.c2,(hc2 3 (by omega)).trans h.dat.c3,(hc2 4 (by omega)).trans h.dat.c4,(hc2 5 (by omega)).trans h.dat.c5,vJ h.dat.told (hne bp (by omega)) ?_,hO h.dat.objs,hO h.dat.users,h.dat.apart⟩,h.tab.of_block (hne bt (by omega)),⟨h.rel.map.of_block (hne br (by omega)),fun k=>?_,h.rel.apart⟩,h.ord⟩
 ·intro k v g hm hg2;obtain ⟨n,xs,ho⟩:=vI h.dat.told hm;exact hne g fun e=>absurd (dK ho (e ▸ hg2) hk) (by decide)
 rcases h.rel.row k with e|⟨v,e,ho⟩
 ·exact .inl e
 exact .inr ⟨v,e,d9 ho fun g hg=>hne g fun e2=>absurd (dK ho (e2 ▸ hg) hk) (by decide)⟩
end
end Go.Proofs.YtajkkeikihhejaaGreat
