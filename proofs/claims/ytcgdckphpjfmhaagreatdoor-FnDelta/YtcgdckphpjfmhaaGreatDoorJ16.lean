/- Contracts of the document's functions that add a tuple to a list. -/
import Derived.Test.YtcgdckphpjfmhaaGreatDoorSq
import Derived.Test.YtcgdckphpjfmhaaGreatDoorJ8
import Derived.Test.YtcgdckphpjfmhaaGreatDoorJ14
import Derived.Test.YtcgdckphpjfmhaaGreatDoorJ15
open Go.Proofs.Tryz
set_option maxHeartbeats 80000000
namespace Go.Proofs.YtcgdckphpjfmhaaGreatDoor
open ChangeShapes WideShapes ChangeAt RowKit Maps
open Pl
def tH(ts:Q05)(t:Tp):Bool:=dG ts&&t.ok && !iB ts t && !(ts.length==40)
def Cz(ts:Q05)(t:Tp):List Tp:=if tH ts t then ik ts t else []
theorem BJ{ts:Q05}{t:Tp}(h:tH ts t=true):Cz ts t=ik ts t:=by simp[Cz,h]
theorem sS{ts:Q05}{t:Tp}(h:tH ts t=false):Cz ts t=[]:=by simp[Cz,h]
def UC(w w':World)(e:Ending)(L:Q05)(f:Bool):Prop:=∃v:Value,e=.returned (.tuple #[v,.bool f])/\w'.ownsRow w.heap.size 29 6 v L.length (aF L)/\af w w'
theorem tY(b off cap:Nat)(ts:Q05)(t:Tp)(w:ae)(hlen:ts.length<=1048576)(hcap:ts.length<=cap)(hs:dM w b off ts)(hb:b<w.heap.size)(hf:∀x∈ts,x.fits)(ht:t.fits):
  Calls prog 108 #[.slice (some ⟨b,off,none⟩) ts.length cap,.agg #[.string t.a,.string t.b,.string t.r,.string t.c,.string t.d,.string t.s]] w fun e w'=>UC w w' e (Cz ts t) (tH ts t):=by
 have HF:=dm hf;have XC:=dm ht;obtain⟨W0,hW0⟩:∃W0,W0=w.alloc (.cells #[.string t.a,.string t.b,.string t.r,.string t.c,.string t.d,.string t.s] 29):=⟨_,rfl⟩;have HB0:=nC hW0;have HX0:Hid (uP W0 w.heap.size t):=by show uP _ _ _;rw[hW0];exact zy w t _
 have HS:=dm hs;have SL:Hid (∀W:World,af w W->Sl W (some ⟨b,off,none⟩) ts):=fun W hB=>.inr ⟨b,off,rfl,VY hb hB.size,HS.out.below hB hb⟩;have XQ:ts.length<=maxLen:=by unfold maxLen;omega
 have HT:=dm (ku (some ⟨b,off,none⟩) cap ts W0 XQ (SL.out _ HB0.out) hf);clear hs hf XQ ht;go_enter func108,ntmps108;go_wp2_with fail;rw[<-hW0];clear hW0;refine HT.out.mono ?_;rintro e w1 ⟨he,hb1⟩;have HB1:=kv HB0 hb1;have Yo:=aC (HX0.out.below hb1);clear HT HX0 HB0 hb1;cases h1:dG ts;case false=>
  rw[h1]at he;subst he;have HR:Hid (tH ts t=false):=by show _=_;simp[tH,h1]
  have HL:Hid (Cz ts t=[]):=sS HR.out;clear h1;go_wp2
  go_ret2
  exact⟨.slice none 0 0,by rw[HR.out];rfl,by rw[HL.out];exact World.ownsRow_nil _ _ _ _,HB1.out⟩
 rw[h1]at he;subst he;obtain⟨x0,x1,x2,x3,x4,x5,xl⟩:=Yo.out;have H1:=dm h1;obtain⟨e0,e1,e2,e3,e4,e5⟩:=XC.out;have HH:=dm (dD t.a t.b t.r t.c t.d t.s w1 e0 e1 e2 e3 e4 e5);clear h1 e0 e1 e2 e3 e4 e5;go_wp2_with fail;refine HH.out.mono ?_;rintro e w2 ⟨he,hb2⟩;have HB2:=kv HB1 hb2;have YH:=aC (Yo.out.below hb2);clear HH Yo HB1 hb2 x0 x1 x2 x3 x4 x5 xl;cases h2:t.ok;case false=>
  have h2':bz t.a t.b t.r t.c t.d t.s=false:=h2;rw[h2']at he;subst he;have HR:Hid (tH ts t=false):=by show _=_;simp[tH,H1.out,h2]
  have HL:Hid (Cz ts t=[]):=sS HR.out;clear h2 h2';go_wp2
  go_ret2
  exact⟨.slice none 0 0,by rw[HR.out];rfl,by rw[HL.out];exact World.ownsRow_nil _ _ _ _,HB2.out⟩
 have h2':bz t.a t.b t.r t.c t.d t.s=true:=h2;rw[h2']at he;subst he;have H2:=dm h2;obtain⟨x0,x1,x2,x3,x4,x5,xl⟩:=YH.out;have HH:=dm (xG (some ⟨b,off,none⟩) cap ts t w2 hlen (SL.out _ HB2.out));clear h2 h2';go_wp2_with fail;refine HH.out.mono ?_;rintro e w3 ⟨he,hb3⟩;have HB3:=kv HB2 hb3;have HX3:=aC (YH.out.below hb3);clear HH YH HB2 hb3 x0 x1 x2 x3 x4 x5 xl;cases h3:iB ts t;case true=>
  rw[h3]at he;subst he;have HR:Hid (tH ts t=false):=by show _=_;simp[tH,H1.out,H2.out,h3]
  have HL:Hid (Cz ts t=[]):=sS HR.out;clear h3;go_wp2
  go_ret2
  exact⟨.slice none 0 0,by rw[HR.out];rfl,by rw[HL.out];exact World.ownsRow_nil _ _ _ _,HB3.out⟩
 rw[h3]at he;subst he;have H3:=dm h3;clear h3;by_cases h4:ts.length=40
 ·have HR:Hid (tH ts t=false):=by show _=_;simp[tH,H1.out,H2.out,H3.out,h4]
  have HL:Hid (Cz ts t=[]):=sS HR.out;have h5:((ts.length:Int)==40)=true:=by simp;omega
  have H4:=dm h4;clear h4;go_wp2
  go_ret2
  exact⟨.slice none 0 0,by rw[HR.out];rfl,by rw[HL.out];exact World.ownsRow_nil _ _ _ _,HB3.out⟩
 have HR:Hid (tH ts t=true):=by show _=_;simp[tH,H1.out,H2.out,H3.out,h4]
 have HL:Hid (Cz ts t=ik ts t):=BJ HR.out;have h5:((ts.length:Int)==40)=false:=by simp;omega
 have h40:=MW H1.out;obtain⟨x0,x1,x2,x3,x4,x5,xl⟩:=HX3.out;have HP:=dm (DY b off cap ts t w3 (by omega) hcap (HS.out.below HB3.out hb) (VY hb HB3.out.size) HF.out XC.out);clear HX3;go_wp2_with fail;refine HP.out.mono ?_;rintro e w4 ⟨v4,rfl,hs4,hb4⟩;have HS4:=dm hs4;clear hs4 HP x0 x1 x2 x3 x4 x5 xl;go_wp2
 go_ret2
 exact⟨v4,by rw[HR.out];rfl,by rw[HL.out];exact dV HS4.out HB3.out.size,HB3.out.trans (hb4.mono HB3.out.size)⟩
def Tp.short(t:Tp):Prop:=t.a.size<=20/\t.b.size<=20/\t.r.size<=20/\t.c.size<=20/\t.d.size<=20/\t.s.size<=20
theorem Tp.short.fits{t:Tp}(h:t.short):t.fits:=by unfold Tp.short at h;unfold Tp.fits maxLen;omega
def qD(ts:Q05):Prop:=∀t∈ts,t.short
theorem qD.fits{ts:Q05}(h:qD ts):∀t∈ts,t.fits:=fun t ht=>(h t ht).fits
theorem ND:qD []:=fun t ht=>by cases ht
theorem sU(ts:Q05)(t:Tp):(ik ts t).length=ts.length+1:=by
 induction ts with
 | nil=>rfl
 | cons x xs ih =>
  unfold ik;split
  ·simp[ih]
  simp
theorem qD.put{ts:Q05}{t:Tp}(h:qD ts)(ht:t.short):qD (ik ts t):=fun x hx=>by
 rcases (vX ts t x).1 hx with rfl|k
 ·exact ht
 exact h x k
theorem pg{w w':ae}{R base n:Nat}{v:Value}{xs:Q03}(h:w.ownsRow base 29 6 v n xs)(hR:R<base)(hO:Only R w w'):w'.ownsRow base 29 6 v n xs :=
 h.kept hO (.inr fun e=>by have:=(h.lt R e).1;omega)
theorem nX{w:ae}{base g n c:Nat}{ts:Q05}(h:w.ownsRow base 29 6 (.slice (some ⟨g,0,none⟩) n c) n (aF ts))(hn:n=ts.length):dM w g 0 ts/\g<w.heap.size/\n<=c/\base<=g:=by
 have hlt:=h.lt g rfl;refine⟨?_,hlt.2,?_,hlt.1⟩
 ·subst hn;intro i hi;have key:∀j,j<6->w.cell? ⟨g,0+i*6+j,none⟩=(ts[i]).row[j]?:=fun j hj=>by
   rw[h.cellAt (0+i*6+j) (by have:=fB ts;omega),<-rE ts i hi j hj,WB]
  exact⟨key 0 (by omega),key 1 (by omega),key 2 (by omega),key 3 (by omega),key 4 (by omega),key 5 (by omega)⟩
 rcases h.2 with⟨e,-⟩|⟨g',cap',cur,e,-,-,hle,-⟩
 ·cases e
 injection e with e1 e2 e3;omega
theorem tZ{W:ae}{base:Nat}{e:TypeId}{size:Nat}{v:Value}{k:Nat}{xs:Q03}(h:W.ownsRow base e size v (k+1) xs):∃g cap,v=.slice (some ⟨g,0,none⟩) (k+1) cap:=by
 rcases h.2 with⟨_,h0⟩|⟨g,cap,_,rfl,_⟩
 ·omega
 exact⟨g,cap,rfl⟩
theorem Rd.grown{w w':ae}{R:Nat}{ad:Q02}{len cap:Nat}{row:Option Nat}(h:Rd w R ad len cap)(hg:w.grownBy w' row)(hR:some R≠row)(hb:0<len->∀b off,ad=some ⟨b,off,none⟩->some b≠row):Rd w' R ad len cap where
 lt:=VY h.lt hg.size
 code:=hg.cell h.code hR
 place:=by obtain⟨p,hp,hl⟩:=h.place;exact⟨p,hg.cell hp hR,hl⟩
 free:=(World.frozen?_of_block (w:=w) (a:=⟨R,1,none⟩) (hg.block R h.lt hR)).trans h.free
 bytes h0:=by
  obtain⟨b,off,e,hne,hbl,hc⟩:=h.bytes h0;refine⟨b,off,e,hne,VY hbl hg.size,fun i hi=>?_⟩;obtain⟨c,c0,c1,hcc⟩:=hc i hi;exact⟨c,c0,c1,hg.cell hcc (hb h0 b off e)⟩
 small:=h.small
theorem NE(R:Nat)(w:ae)(n:Int)(h:n<=1):
  Calls prog 88 #[.pointer (some ⟨R,0,none⟩),.int .i64 n] w fun e w'=>e=.returned (.int .i64 0)/\w'=w:=by
 go_enter func88,ntmps88;go_wp2;go_ret;exact⟨rfl,rfl⟩
theorem NF(R:Nat)(ad:Q02)(len cap:Nat)(n:Nat)(w:ae)(h:Rd w R ad len cap)(h1:1<=n)(h2:n<=256):
  Calls prog 88 #[.pointer (some ⟨R,0,none⟩),.int .i64 (n:Int)] w fun e w'=>(∃x:Nat,e=.returned (.int .i64 (x:Int))/\x<n)/\Rd w' R ad len cap/\Only R w w':=by
 by_cases hn:n=1
 ·subst hn;exact(NE R w 1 (by omega)).mono fun e w' ⟨he,hw⟩=>⟨⟨0,by rw[he];rfl,by omega⟩,by rw[hw];exact h,by rw[hw];exact Only.refl _ _⟩
 exact(dA R ad len cap n w h (by omega) (by omega)).mono fun e w' ⟨⟨x,he,h0,h3⟩,hR,hO⟩=>⟨⟨x.toNat,by rw[he,Int.toNat_of_nonneg h0],by omega⟩,hR,hO⟩
def qG(w:World)(R n:Nat)(k:Int)(a b r c d s:ByteArray):Prop:=n≠R/\n<w.heap.size/\(∀o,w.frozen? ⟨n,o,none⟩=false)/\w.cell? ⟨n,0,none⟩=some (.int .i64 k)/\w.cell? ⟨n,1,none⟩=some (.string a)/\w.cell? ⟨n,2,none⟩=some (.string b)/\w.cell? ⟨n,3,none⟩=some (.string r)/\w.cell? ⟨n,4,none⟩=some (.string c)/\w.cell? ⟨n,5,none⟩=some (.string d)/\w.cell? ⟨n,6,none⟩=some (.string s)
theorem qG.only{w w':ae}{R n:Nat}{k:Int}{a b r c d s:ByteArray}(h:qG w R n k a b r c d s)(hO:Only R w w'):qG w' R n k a b r c d s:=by
 obtain⟨h1,h2,h3,c0,c1,c2,c3,c4,c5,c6⟩:=h;have hc:=fun o=>hO.cell (b:=n) (o:=o) h2 h1;exact⟨h1,VY h2 hO.size,fun o=>(hO.frozen (o:=o) h2 h1).trans (h3 o),(hc 0).trans c0,(hc 1).trans c1,(hc 2).trans c2,(hc 3).trans c3,(hc 4).trans c4,(hc 5).trans c5,(hc 6).trans c6⟩
theorem qG.alloc{w:ae}{R n:Nat}{k:Int}{a b r c d s:ByteArray}(h:qG w R n k a b r c d s)(o:Obj):qG (w.alloc o) R n k a b r c d s:=h.only ((Only.refl R w).alloc o)
theorem LF{w:ae}{R:Nat}(hR:R<w.heap.size)(t:TypeId)(k:Int)(a b r c d s:bZ):qG (w.alloc (.cells #[.int .i64 k,.string a,.string b,.string r,.string c,.string d,.string s] t)) R w.heap.size k a b r c d s:=by
 refine⟨by omega,by simp,fun o=>by simp,?_,?_,?_,?_,?_,?_,?_⟩<;>simp
theorem UD{w:ae}{n m i j:Nat}{v:Value}(h:n≠m\/i≠j):(w.setCell ⟨n,i,none⟩ v).cell? ⟨m,j,none⟩=w.cell? ⟨m,j,none⟩:=by
 apply World.cell?_setCell_other;intro e;have kc:=congrArg Addr.block e;have e2:=congrArg Addr.off e;rcases h with h|h
 ·exact h kc
 exact h e2
theorem Sy{w:ae}{a:Addr}{v u:Value}(h:w.cell? a=some u):(w.setCell a v).cell? a=some v:=World.cell?_setCell_same _ _ _ h
theorem qG.set{w:ae}{R n:Nat}{k k':Int}{a b r c d s a' b' r' c' d' s':ByteArray}(h:qG w R n k a b r c d s):qG (((((((w.setCell ⟨n,0,none⟩ (.int .i64 k')).setCell ⟨n,1,none⟩ (.string a')).setCell ⟨n,2,none⟩ (.string b')).setCell ⟨n,3,none⟩ (.string r')).setCell ⟨n,4,none⟩ (.string c')).setCell ⟨n,5,none⟩ (.string d')).setCell ⟨n,6,none⟩ (.string s')) R n k' a' b' r' c' d' s':=by
 obtain⟨h1,h2,h3,c0,c1,c2,c3,c4,c5,c6⟩:=h;refine⟨h1,by simpa using h2,fun o=>by simpa using h3 o,?_,?_,?_,?_,?_,?_,?_⟩
 all_goals(repeat rw[UD (.inr (by omega))])
 all_goals exact Sy (u:=_) (by (repeat rw[UD (.inr (by omega))]);assumption)
theorem qG.setOther{w:ae}{R n m:Nat}{k k':Int}{a b r c d s a' b' r' c' d' s':ByteArray}(h:qG w R m k a b r c d s)(hn:n≠m):qG (((((((w.setCell ⟨n,0,none⟩ (.int .i64 k')).setCell ⟨n,1,none⟩ (.string a')).setCell ⟨n,2,none⟩ (.string b')).setCell ⟨n,3,none⟩ (.string r')).setCell ⟨n,4,none⟩ (.string c')).setCell ⟨n,5,none⟩ (.string d')).setCell ⟨n,6,none⟩ (.string s')) R m k a b r c d s:=by
 obtain⟨h1,h2,h3,c0,c1,c2,c3,c4,c5,c6⟩:=h;refine⟨h1,by simpa using h2,fun o=>by simpa using h3 o,?_,?_,?_,?_,?_,?_,?_⟩
 all_goals((repeat rw[UD (.inl hn)]);assumption)
theorem xO{w a0:ae}{R n:Nat}{k':Int}{a' b' r' c' d' s':ByteArray}(h:Only R a0 w)(hn:a0.heap.size<=n):Only R a0 (((((((w.setCell ⟨n,0,none⟩ (.int .i64 k')).setCell ⟨n,1,none⟩ (.string a')).setCell ⟨n,2,none⟩ (.string b')).setCell ⟨n,3,none⟩ (.string r')).setCell ⟨n,4,none⟩ (.string c')).setCell ⟨n,5,none⟩ (.string d')).setCell ⟨n,6,none⟩ (.string s')) :=
 ((((((h.setNew hn).setNew hn).setNew hn).setNew hn).setNew hn).setNew hn).setNew hn
theorem FI{w:ae}{R n:Nat}{ad:Q02}{len cap:Nat}{k':Int}{a' b' r' c' d' s':ByteArray}(h:Rd w R ad len cap)(hn:n≠R)(hb:0<len->∀b off,ad=some ⟨b,off,none⟩->b≠n):Rd (((((((w.setCell ⟨n,0,none⟩ (.int .i64 k')).setCell ⟨n,1,none⟩ (.string a')).setCell ⟨n,2,none⟩ (.string b')).setCell ⟨n,3,none⟩ (.string r')).setCell ⟨n,4,none⟩ (.string c')).setCell ⟨n,5,none⟩ (.string d')).setCell ⟨n,6,none⟩ (.string s')) R ad len cap :=
 ((((((h.setFar hn hb).setFar hn hb).setFar hn hb).setFar hn hb).setFar hn hb).setFar hn hb).setFar hn hb
def Vy(R:Nat)(ad:Q02)(len cap:Nat)(w:World)(e:Ending)(w':World):Prop:=(∃(k:Int) (a b r c d s:ByteArray),e=.returned (.agg #[.int .i64 k,.string a,.string b,.string r,.string c,.string d,.string s])/\a.size<=20/\b.size<=20/\r.size<=20/\c.size<=20/\d.size<=20/\s.size<=20)/\Rd w' R ad len cap/\Only R w w'
theorem H6{R:Nat}{ad:Q02}{len cap:Nat}{w w':ae}{k:Int}{a b r c d s:ByteArray}(ht:a.size<=20/\b.size<=20/\r.size<=20/\c.size<=20/\d.size<=20/\s.size<=20)(hR:Rd w' R ad len cap)(hO:Only R w w'):Vy R ad len cap w (.returned (.agg #[.int .i64 k,.string a,.string b,.string r,.string c,.string d,.string s])) w':=⟨⟨k,a,b,r,c,d,s,rfl,ht⟩,hR,hO⟩
theorem Km(R:Nat)(ad:Q02)(len cap g c0:Nat)(ts:Q05)(w:ae)(h:Rd w R ad len cap)(hlen:ts.length<=20)(hsh:qD ts)(hrow:dM w g 0 ts)(hg:g<w.heap.size)(hgR:g≠R):
  Calls prog 65 #[.pointer (some ⟨R,0,none⟩),.slice (some ⟨g,0,none⟩) ts.length c0] w fun e w'=>Vy R ad len cap w e w':=by
 have Z5:=h.lt;have HFAR:Hid (0<len->∀b off,ad=some ⟨b,off,none⟩->b<w.heap.size):=fun h0 b off e=>by
  obtain⟨b',off',e',-,hbl,-⟩:=h.bytes h0;rw[e]at e';injection e' with e';injection e' with e1 e2;omega
 obtain⟨W0,hW0⟩:∃W0,W0=w.alloc (.cells #[.int .i64 0,.string ⟨#[]⟩,.string ⟨#[]⟩,.string ⟨#[]⟩,.string ⟨#[]⟩,.string ⟨#[]⟩,.string ⟨#[]⟩] 31):=⟨_,rfl⟩;have YW:Hid (qG W0 R w.heap.size 0 ⟨#[]⟩ ⟨#[]⟩ ⟨#[]⟩ ⟨#[]⟩ ⟨#[]⟩ ⟨#[]⟩):=by show qG _ _ _ _ _ _ _ _ _ _;rw[hW0];exact LF Z5 _ _ _ _ _ _ _ _
 have Yw:Hid (Rd W0 R ad len cap):=by show Rd _ _ _ _ _;rw[hW0];exact h.alloc _
 have Yz:Hid (Only R w W0):=by show Only _ _ _;rw[hW0];exact(Only.refl _ _).alloc _
 have HRow:Hid (∀W,Only R w W->dM W g 0 ts):=fun W hO i hi=>by
  obtain⟨x0,x1,x2,x3,x4,x5⟩:=hrow i hi;have hc:=fun o=>hO.cell (b:=g) (o:=o) hg hgR;exact⟨(hc _).trans x0,(hc _).trans x1,(hc _).trans x2,(hc _).trans x3,(hc _).trans x4,(hc _).trans x5⟩
 have HSH:=aC hsh;clear h hrow hsh;go_enter func65,ntmps65;go_wp2_with fail;rw[<-hW0];clear hW0;refine(Dz R ad len cap _ Yw.out).mono ?_;rintro e w1 ⟨⟨a,b,r,c,d,s,rfl,ha,hb,hr,hc,hd,hs⟩,XV,XT⟩;have HT:Hid (a.size<=20/\b.size<=20/\r.size<=20/\c.size<=20/\d.size<=20/\s.size<=20):=⟨ha,hb,hr,hc,hd,hs⟩;obtain⟨W1,hW1⟩:∃W1,W1=w1.alloc (.cells #[.int .i64 1,.string a,.string b,.string r,.string c,.string d,.string s] 31):=⟨_,rfl⟩;have HS1:Hid (qG W1 R w.heap.size 0 ⟨#[]⟩ ⟨#[]⟩ ⟨#[]⟩ ⟨#[]⟩ ⟨#[]⟩ ⟨#[]⟩):=by show qG _ _ _ _ _ _ _ _ _ _;rw[hW1];exact(YW.out.only XT).alloc _
 have Yl:Hid (qG W1 R w1.heap.size 1 a b r c d s):=by show qG _ _ _ _ _ _ _ _ _ _;rw[hW1];exact LF XV.lt _ _ _ _ _ _ _ _
 have HR1:Hid (Rd W1 R ad len cap):=by show Rd _ _ _ _ _;rw[hW1];exact XV.alloc _
 have XD:Hid (Only R w W1):=by show Only _ _ _;rw[hW1];exact(Yz.out.trans XT).alloc _
 have hBw:w.heap.size<w1.heap.size:=by have:=YW.out.2.1;have:=XT.size;omega
 clear ha hb hr hc hd hs XV XT Yw Yz YW;by_cases hts:ts.length=0
 case' pos =>
  have hdc:decide ((0:Int)<(ts.length:Int))=false:=by simp[hts]
  have hdc2:decide (0<ts.length)=false:=by simp[hts]
  clear hts;go_wp2_with fail;rw[<-hW1];clear hW1;obtain⟨wj,k1,ka,kb,kr,kc,kd,ks,hwj,HSJ,HCJ,HRJ,HOJ,HTJ⟩:∃(wj:World) (k1:Int) (ka kb kr kc kd ks:ByteArray),wj=W1/\Hid (qG wj R w.heap.size 0 ⟨#[]⟩ ⟨#[]⟩ ⟨#[]⟩ ⟨#[]⟩ ⟨#[]⟩ ⟨#[]⟩)/\Hid (qG wj R w1.heap.size k1 ka kb kr kc kd ks)/\Hid (Rd wj R ad len cap)/\Hid (Only R w wj)/\Hid (ka.size<=20/\kb.size<=20/\kr.size<=20/\kc.size<=20/\kd.size<=20/\ks.size<=20):=⟨_,_,_,_,_,_,_,_,rfl,HS1,Yl,HR1,XD,HT⟩;rw[<-hwj];clear hwj HS1 Yl HR1 XD HT
 case' neg =>
  have hdc:decide ((0:Int)<(ts.length:Int))=true:=by simp;omega
  have hdc2:decide (0<ts.length)=true:=by simp;omega
  go_wp2_with fail;rw[<-hW1];clear hW1;refine(iY R ad len cap 3 _ HR1.out (by omega) (by omega)).mono ?_;rintro e w2 ⟨⟨q1,rfl⟩,hR2,hO2⟩;have HS2:=dm (HS1.out.only hO2);have XN:=dm (Yl.out.only hO2);have HR2:=dm hR2;have Xv:Hid (Only R w w2):=XD.out.trans hO2;clear hR2 hO2 HS1 Yl HR1 XD;cases q1
  case' false =>
   go_wp2_with fail;obtain⟨wj,k1,ka,kb,kr,kc,kd,ks,hwj,HSJ,HCJ,HRJ,HOJ,HTJ⟩:∃(wj:World) (k1:Int) (ka kb kr kc kd ks:ByteArray),wj=w2/\Hid (qG wj R w.heap.size 0 ⟨#[]⟩ ⟨#[]⟩ ⟨#[]⟩ ⟨#[]⟩ ⟨#[]⟩ ⟨#[]⟩)/\Hid (qG wj R w1.heap.size k1 ka kb kr kc kd ks)/\Hid (Rd wj R ad len cap)/\Hid (Only R w wj)/\Hid (ka.size<=20/\kb.size<=20/\kr.size<=20/\kc.size<=20/\kd.size<=20/\ks.size<=20):=⟨_,_,_,_,_,_,_,_,rfl,HS2,XN,HR2,Xv,HT⟩;rw[<-hwj];clear hwj HS2 XN HR2 Xv HT
  case' true =>
   go_wp2_with fail;refine(NF R ad len cap ts.length _ HR2.out (by omega) (by omega)).mono ?_;rintro e w3 ⟨⟨x,rfl,hx⟩,Y3,hO3⟩;have HS3:=dm (HS2.out.only hO3);have HC3:=dm (XN.out.only hO3);have HR3:=dm Y3;have XG:Hid (Only R w w3):=Xv.out.trans hO3;obtain⟨x0,x1,x2,x3,x4,x5⟩:=HRow.out w3 XG.out x hx;rw[WB]at x0 x1 x2 x3 x4 x5;have HTX:Hid (ts[x].a.size<=20/\ts[x].b.size<=20/\ts[x].r.size<=20/\ts[x].c.size<=20/\ts[x].d.size<=20/\ts[x].s.size<=20):=HSH.out _ (VZ hx);have j0:=bC x;have j1:(x:Int)<(ts.length:Int):=by omega
   obtain⟨t1,t2,t3,e0,kc,e2,e3,e4,e5,e6⟩:=HC3.out;obtain⟨W3,hW3⟩:∃W3,W3=(((((((w3.setCell ⟨w1.heap.size,0,none⟩ (.int .i64 2)).setCell ⟨w1.heap.size,1,none⟩ (.string ts[x].a)).setCell ⟨w1.heap.size,2,none⟩ (.string ts[x].b)).setCell ⟨w1.heap.size,3,none⟩ (.string ts[x].r)).setCell ⟨w1.heap.size,4,none⟩ (.string ts[x].c)).setCell ⟨w1.heap.size,5,none⟩ (.string ts[x].d)).setCell ⟨w1.heap.size,6,none⟩ (.string ts[x].s)):=⟨_,rfl⟩;have HSW:Hid (qG W3 R w.heap.size 0 ⟨#[]⟩ ⟨#[]⟩ ⟨#[]⟩ ⟨#[]⟩ ⟨#[]⟩ ⟨#[]⟩):=by show qG _ _ _ _ _ _ _ _ _ _;rw[hW3];exact HS3.out.setOther (by omega)
   have HCW:Hid (qG W3 R w1.heap.size 2 ts[x].a ts[x].b ts[x].r ts[x].c ts[x].d ts[x].s):=by show qG _ _ _ _ _ _ _ _ _ _;rw[hW3];exact HC3.out.set
   have HRW:Hid (Rd W3 R ad len cap):=by show Rd _ _ _ _ _;rw[hW3];exact FI HR3.out t1 (fun h0 b off e eb=>by have:=HFAR.out h0 b off e;omega)
   have HOW:Hid (Only R w W3):=by show Only _ _ _;rw[hW3];exact xO XG.out (by omega)
   clear Y3 hO3 HS2 XN HR2 Xv;go_wp2_with fail;rw[<-hW3];clear hW3;obtain⟨wj,k1,ka,kb,kr,kc,kd,ks,hwj,HSJ,HCJ,HRJ,HOJ,HTJ⟩:∃(wj:World) (k1:Int) (ka kb kr kc kd ks:ByteArray),wj=W3/\Hid (qG wj R w.heap.size 0 ⟨#[]⟩ ⟨#[]⟩ ⟨#[]⟩ ⟨#[]⟩ ⟨#[]⟩ ⟨#[]⟩)/\Hid (qG wj R w1.heap.size k1 ka kb kr kc kd ks)/\Hid (Rd wj R ad len cap)/\Hid (Only R w wj)/\Hid (ka.size<=20/\kb.size<=20/\kr.size<=20/\kc.size<=20/\kd.size<=20/\ks.size<=20):=⟨_,_,_,_,_,_,_,_,rfl,HSW,HCW,HRW,HOW,HTX⟩;rw[<-hwj];clear hwj HSW HCW HRW HOW HTX
 all_goals
  refine(iY R ad len cap 20 _ HRJ.out (by omega) (by omega)).mono ?_;rintro e w5 ⟨⟨q2,rfl⟩,X9,XW⟩;have HS5:=dm (HSJ.out.only XW);have HC5:=dm (HCJ.out.only XW);have XY:=dm X9;have XH:Hid (Only R w w5):=HOJ.out.trans XW;clear X9 XW HSJ HCJ HRJ HOJ;cases q2;case false=>
   obtain⟨z1,z2,z3,d0,u1,d2,d3,d4,d5,d6⟩:=HS5.out;obtain⟨t1,t2,t3,x0,x1,x2,x3,x4,x5,x6⟩:=HC5.out;go_wp2;exact bodyPost_ret (v:=.agg #[.int .i64 k1,.string ka,.string kb,.string kr,.string kc,.string kd,.string ks]) (by simp[results,Tryz.results65,go_sem, *]) rfl (H6 HTJ.out (FI XY.out z1 (fun h0 b off e eb=>by have:=HFAR.out h0 b off e;omega)) (xO XH.out (V4 _)))
  go_wp2_with fail;refine(Lm R ad len cap 1 2 _ XY.out (by decide) (by decide) (by decide)).mono ?_;rintro e w6 ⟨⟨z,rfl⟩,hR6,Z6⟩;have Zk:=dm hR6;have Yf:Hid (Only R w w6):=XH.out.trans Z6;obtain⟨z1,z2,z3,d0,u1,d2,d3,d4,d5,d6⟩:=HS5.out.only Z6;obtain⟨t1,t2,t3,x0,x1,x2,x3,x4,x5,x6⟩:=HC5.out.only Z6;clear hR6 Z6 HS5 HC5 XY XH;go_wp2;exact bodyPost_ret (v:=.agg #[.int .i64 z,.string ka,.string kb,.string kr,.string kc,.string kd,.string ks]) (by simp[results,Tryz.results65,go_sem, *]) rfl (H6 HTJ.out (FI (Zk.out.setFar t1 (fun h0 b off e eb=>by have:=HFAR.out h0 b off e;omega)) z1 (fun h0 b off e eb=>by have:=HFAR.out h0 b off e;omega)) (xO (Yf.out.setNew (by omega)) (V4 _)))
set_option linter.unusedVariables false
set_option maxRecDepth 100000
theorem NG{p:Tp->Bool}{ts:Q05}{k:Nat}(h:k<ts.length):(ts.take (k+1)).all p=((ts.take k).all p&&p ts[k]):=by
 rw[V8 h,Xj];simp
theorem Qz{p:Tp->Bool}{ts:Q05}{k:Nat}(h:k<ts.length)(hp:p ts[k]=false):ts.all p=false:=by
 rw[List.all_eq_false];exact⟨_,VZ h,by rw[hp];decide⟩
def iC(fit:Tp->Bool)(sok:Bool)(ts:Q05):Bool:=sok&&dG ts&&ts.all fit
theorem Kn(sv:Value)(fit:Tp->Bool)(sok:Bool)(ad:Q02)(cap:Nat)(ts:Q05)(w:ae)(hlen:ts.length<=1048576)(hs:Sl w ad ts)(hf:∀x∈ts,x.fits)
  (hsok:∀w1:World,af w w1->Calls prog 91 #[sv] w1 fun e w'=>e=.returned (.bool sok)/\af w1 w')
  (hfit:∀(t:Tp) (w1:World),t.fits->af w w1->Calls prog 110 #[sv,.agg #[.string t.a,.string t.b,.string t.r,.string t.c,.string t.d,.string t.s]] w1 fun e w'=>e=.returned (.bool (fit t))/\af w1 w') :
  Calls prog 68 #[sv,.slice ad ts.length cap] w fun e w'=>e=.returned (.bool (iC fit sok ts))/\af w w':=by
 have HS:=aG hs;have HF:=aG hf;have HSO:=aG hsok;have XC:=aG hfit;have XQ:ts.length<=maxLen:=by unfold maxLen;omega
 clear hs hf hsok hfit;go_enter func68,ntmps68;go_wp2_with fail;refine(HSO.out _ (V5 _ _)).mono ?_;rintro e w1 ⟨rfl,hb1⟩;have HB1:=aG hb1;clear hb1;cases sok;case false=>
  have HN:Hid (iC fit false ts=false):=by show _=_;unfold iC;simp
  go_wp2;go_ret;exact⟨by rw[HN.out];rfl,HB1.out⟩
 go_wp2_with fail;refine(ku ad cap ts _ XQ (HS.out.below HB1.out) HF.out).mono ?_;rintro e w2 ⟨he,hb2⟩;have HB2:=aG (HB1.out.trans (hb2.mono HB1.out.size));clear hb2;cases h2:dG ts;case false=>
  rw[h2]at he;subst he;have HN:Hid (iC fit true ts=false):=by show _=_;unfold iC;rw[h2];simp
  go_wp2;go_ret;exact⟨by rw[HN.out];rfl,HB2.out⟩
 rw[h2]at he;subst he;have HN:Hid (iC fit true ts=ts.all fit):=by show _=_;unfold iC;rw[h2];simp
 clear h2;go_wp2;go_loopw[5] (fun i wr=>∃k:Nat,k<=ts.length/\i=.int .i64 (k:Int)/\Hid ((ts.take k).all fit=true)/\Hid (af w wr)) (fun i _=>ts.length-(intOf i).toNat);case atStart=>exact⟨0,Wd _,rfl,rfl,HB2⟩
 obtain⟨k,hk,rfl,XJ,HB⟩:=hrel;by_cases hlt:k<ts.length
 ·rcases HS.out.below HB.out with hnil|⟨b,off,rfl,hb,hr⟩
  ·rw[hnil]at hlt;simp at hlt
  obtain⟨t0,t1,t2,t3,t4,t5⟩:=hr k hlt;have hk1:=bC k;have hk2:(k:Int)<(ts.length:Int):=by omega
  have HC:=aG (XC.out ts[k] wr (HF.out _ (VZ hlt)) HB.out);have HAT:=aG (NG (p:=fit) hlt);have HAH:=aG (Qz (p:=fit) hlt);clear hr;go_wp2_with fail;refine HC.out.mono ?_;rintro e w3 ⟨he,hb3⟩;have HB3:=aG (HB.out.trans (hb3.mono HB.out.size));clear hb3 t0 t1 t2 t3 t4 t5;cases hfx:fit ts[k];case false=>
   rw[hfx]at he;subst he;have HE:Hid (iC fit true ts=false):=HN.out.trans (HAH.out hfx);go_wp2;go_ret;exact⟨by rw[HE.out];rfl,HB3.out⟩
  rw[hfx]at he;subst he;have HA2:Hid ((ts.take (k+1)).all fit=true):=by show _=_;rw[HAT.out,XJ.out,hfx];rfl
  go_wp2;go_roundw;case rel=>exact⟨k+1,by omega,by go_num,HA2,HB3⟩
  simp[intOf]<;>omega
 obtain rfl:k=ts.length:=by omega
 have HE:Hid (iC fit true ts=true):=by show _=_;rw[HN.out];have:=XJ.out;rw[Wo]at this;exact this
 go_wp2;go_ret;exact⟨by rw[HE.out];rfl,HB.out⟩
def wF(fit:Tp->Bool)(sok:Bool)(ts:Q05)(k:Int)(t:Tp):Int:=if iC fit sok ts then bn fit ts k t else 1
def qp(fit:Tp->Bool)(sok:Bool)(ts:Q05)(k:Int)(t:Tp):List Tp:=if iC fit sok ts then nu fit ts k t else []
theorem BL{fit:Tp->Bool}{sok:Bool}{ts:Q05}(h:iC fit sok ts=true):sok=true/\dG ts=true/\ts.all fit=true:=by
 unfold iC at h;simp only[V9]at h;exact⟨h.1.1,h.1.2,h.2⟩
theorem za(sv:Value)(fit:Tp->Bool)(sok:Bool)(b off cap:Nat)(ts:Q05)(k:Int)(t:Tp)(w:ae)(hlen:ts.length<=1048576)(hcp:ts.length<=cap)(hb:b<w.heap.size)(hr:dM w b off ts)(hf:∀x∈ts,x.fits)(ht:t.fits)
  (hsok:∀w1:World,af w w1->Calls prog 91 #[sv] w1 fun e w'=>e=.returned (.bool sok)/\af w1 w')
  (hfit:∀(t:Tp) (w1:World),t.fits->af w w1->Calls prog 110 #[sv,.agg #[.string t.a,.string t.b,.string t.r,.string t.c,.string t.d,.string t.s]] w1 fun e w'=>e=.returned (.bool (fit t))/\af w1 w') :
  Calls prog 35 #[sv,.slice (some ⟨b,off,none⟩) ts.length cap,.agg #[.int .i64 k,.string t.a,.string t.b,.string t.r,.string t.c,.string t.d,.string t.s]] w fun e w'=>∃v,e=.returned (.tuple #[v,.int .i64 (wF fit sok ts k t)])/\w'.ownsRow w.heap.size 29 6 v (qp fit sok ts k t).length (aF (qp fit sok ts k t))/\af w w'/\(wF fit sok ts k t=0->∃g c,v=.slice (some ⟨g,0,none⟩) (qp fit sok ts k t).length c):=by
 have HR:=aG hr;have HF:=aG hf;have HT:=aG ht;have HSO:=aG hsok;have XC:=aG hfit;clear hr hf ht hsok hfit;obtain⟨W0,hW0⟩:∃W0,W0=w.alloc (.cells #[.int .i64 k,.string t.a,.string t.b,.string t.r,.string t.c,.string t.d,.string t.s] 31):=⟨_,rfl⟩;have HX0:Hid (oC W0 w.heap.size k t):=by show oC _ _ _ _;rw[hW0];refine⟨?_,?_,?_,?_,?_,?_,?_,?_⟩<;>simp
 have HB0:=nC hW0;have HSL0:Hid (Sl W0 (some ⟨b,off,none⟩) ts):=.inr ⟨b,off,rfl,VY hb HB0.out.size,HR.out.below HB0.out hb⟩;go_enter func35,ntmps35;go_wp2_with fail;rw[<-hW0];clear hW0;refine(Kn sv fit sok _ cap ts W0 hlen HSL0.out HF.out (fun w1 h=>HSO.out w1 (HB0.out.trans (h.mono HB0.out.size))) (fun t w1 ht h=>XC.out t w1 ht (HB0.out.trans (h.mono HB0.out.size)))).mono ?_;rintro e w1 ⟨he,hb1⟩;have HB1:=aG (HB0.out.trans (hb1.mono HB0.out.size));have Yo:=aG (HX0.out.below hb1);clear hb1 HX0 HB0 HSL0;cases hra:iC fit sok ts;case false=>
  rw[hra]at he;subst he;have HC:Hid (wF fit sok ts k t=1/\qp fit sok ts k t=[]):=by show _/\_;unfold wF qp;rw[hra];exact⟨rfl,rfl⟩
  go_wp2;exact bodyPost_ret (v:=.tuple #[.slice none 0 0,.int .i64 1]) (by simp[results,Tryz.results35,go_sem]) rfl ⟨_,by rw[HC.out.1],by rw[HC.out.2];exact World.ownsRow_nil _ _ _ _,HB1.out,fun h=>by rw[HC.out.1]at h;cases h⟩
 rw[hra]at he;subst he;have HC:Hid (wF fit sok ts k t=bn fit ts k t/\qp fit sok ts k t=nu fit ts k t):=by show _/\_;unfold wF qp;rw[hra];exact⟨rfl,rfl⟩
 have HU:=aG (GU (BL hra).2.1);obtain⟨x0,x1,x2,x3,x4,x5,x6,xl⟩:=Yo.out;go_wp2_with fail;refine(Cy sv fit b off cap ts k t w1 (fun w2 h=>XC.out t w2 HT.out (HB1.out.trans (h.mono HB1.out.size))) HU.out.2.2 hcp (HR.out.below HB1.out hb) (VY hb HB1.out.size) HF.out HT.out).mono ?_;rintro e w2 ⟨g,c,rfl,hown,hb2⟩;have HO:=aG (jK hown HB1.out.size);have HB2:=aG (HB1.out.trans (hb2.mono HB1.out.size));clear hown hb2;go_wp2;exact bodyPost_ret (v:=.tuple #[.slice (some ⟨g,0,none⟩) (nu fit ts k t).length c,.int .i64 (bn fit ts k t)]) (by simp[results,Tryz.results35,go_sem]) rfl ⟨_,by rw[HC.out.1],by rw[HC.out.2];exact HO.out,HB2.out,fun _=>⟨g,c,by rw[HC.out.2]⟩⟩
def H7(B:Nat)(w:World)(ad:Q02)(L:Q05):Prop:=Sl w ad L/\(L≠[]->∃g,ad=some ⟨g,0,none⟩/\B<=g/\jM w g)
theorem H7.mono{B B':Nat}{w:ae}{ad:Q02}{L:Q05}(h:H7 B w ad L)(hB:B'<=B):H7 B' w ad L:=⟨h.1,fun k=>by obtain⟨g,e,h1,h2⟩:=h.2 k;exact⟨g,e,Wh hB h1,h2⟩⟩
theorem Vz{w:ae}{ad:Q02}{L:Q05}(h:Sl w ad L)(hne:L≠[]){g o:Nat}(e:ad=some ⟨g,o,none⟩):g<w.heap.size:=by
 rcases h with h|⟨b,off,e2,hb,-⟩
 ·exact absurd h hne
 rw[e]at e2;injection e2 with e2;injection e2 with e2 e3;omega
theorem H7.later{B:Nat}{w w':ae}{ad:Q02}{L:Q05}(h:H7 B w ad L)(hb:af w w'):H7 B w' ad L:=⟨h.1.below hb,fun hne=>by
 obtain⟨g,e,h1,h2⟩:=h.2 hne;exact⟨g,e,h1,fun j=>mF hb (Vz h.1 hne e) (h2 j)⟩⟩
theorem BM{w:ae}{base g n c:Nat}{ts:Q05}(h:w.ownsRow base 29 6 (.slice (some ⟨g,0,none⟩) n c) n (aF ts))(hn:n=ts.length):dM w g 0 ts/\g<w.heap.size/\n<=c/\base<=g:=by
 have hlt:=h.lt g rfl;refine⟨?_,hlt.2,?_,hlt.1⟩
 ·subst hn;intro i hi;have key:∀j,j<6->w.cell? ⟨g,0+i*6+j,none⟩=(ts[i]).row[j]?:=fun j hj=>by
   rw[h.cellAt (0+i*6+j) (by have:=fB ts;omega),<-rE ts i hi j hj,WB]
  exact⟨key 0 (by omega),key 1 (by omega),key 2 (by omega),key 3 (by omega),key 4 (by omega),key 5 (by omega)⟩
 rcases h.2 with⟨e,-⟩|⟨g',cap',cur,e,-,-,hle,-⟩
 ·cases e
 injection e with e1 e2 e3;omega
theorem QA{w:ae}{base g c:Nat}{ts:Q05}(h:w.ownsRow base 29 6 (.slice (some ⟨g,0,none⟩) ts.length c) ts.length (aF ts)):dM w g 0 ts/\g<w.heap.size/\ts.length<=c:=⟨(BM h rfl).1,(BM h rfl).2.1,(BM h rfl).2.2.1⟩
theorem pq{w w':ae}{base:Nat}{e:TypeId}{size:Nat}{v:Value}{n:Nat}{xs:Q03}(h:w.ownsRow base e size v n xs)(hh:∀g,v.ownBlock=some g->w'.heap[g]?=w.heap[g]?):w'.ownsRow base e size v n xs:=by
 refine⟨h.1,?_⟩;rcases h.2 with hl|⟨g,cap,cur,rfl,h1,h2,h3⟩
 ·exact .inl hl
 exact .inr ⟨g,cap,cur,rfl,h1,(hh g rfl).trans h2,h3⟩
theorem BN{w:ae}{base size n:Nat}{e:TypeId}{v:Value}{xs:Q03}(h:w.ownsRow base e size v n xs):∃ad cap,v=.slice ad n cap:=by
 rcases h.2 with⟨rfl,h0⟩|⟨g,cap,cur,rfl,-⟩
 ·exact⟨none,0,by rw[h0]⟩
 exact⟨_,_,rfl⟩
theorem Ed{w:ae}{base size n cap:Nat}{e:TypeId}{ad:Q02}{xs:Q03}(h:w.ownsRow base e size (.slice ad n cap) n xs)(hn:n≠0):∃g,ad=some ⟨g,0,none⟩/\(Value.slice ad n cap).ownBlock=some g:=by
 rcases h.2 with⟨-,h0⟩|⟨g,cap',cur,e1,-⟩
 ·exact absurd h0 hn
 injection e1 with e1;exact⟨g,e1,by rw[e1];rfl⟩
theorem ma{w:ae}{base base' size n:Nat}{e:TypeId}{v:Value}{xs:Q03}(h:w.ownsRow base e size v n xs)(hb:base'<=base):w.ownsRow base' e size v n xs:=by
 refine⟨h.1,?_⟩;rcases h.2 with hl|⟨g,cap,cur,e,h1,h2⟩
 ·exact .inl hl
 exact .inr ⟨g,cap,cur,e,Wh hb h1,h2⟩
theorem Sz{w:ae}{base size n cap:Nat}{e:TypeId}{ad:Q02}{xs:Q03}(h:w.ownsRow base e size (.slice ad n cap) n xs):n<=cap:=by
 rcases h.2 with⟨e1,h0⟩|⟨g,cap',cur,e1,-,-,hnc,-⟩
 ·injection e1 with _ e2 e3;omega
 injection e1 with _ e2 e3;omega
theorem Ko(xs:Q04):∀p,aA (xs.take p)=(aA xs).take (p*5):=by
 induction xs with
 | nil=>intro p;simp[aA]
 | cons x xs ih =>
  intro p;cases p with
  | zero=>simp[aA]
  | succ p =>
   have ih:=ih p;unfold aA at ih⊢;rw[List.take_succ_cons,WF,WF,ih,show(p+1)*5=p*5+1+1+1+1+1 by omega];simp[Fc.row]
theorem Kq(xs:Q04):∀p,aA (xs.drop p)=(aA xs).drop (p*5):=by
 induction xs with
 | nil=>intro p;simp[aA]
 | cons x xs ih =>
  intro p;cases p with
  | zero=>simp[aA]
  | succ p =>
   have ih:=ih p;unfold aA at ih⊢;rw[List.drop_succ_cons,WF,ih,show(p+1)*5=p*5+1+1+1+1+1 by omega];simp[Fc.row]
theorem BO{w:ae}{base g n cap:Nat}{xs:Q04}(h:w.ownsRow base 43 5 (.slice (some ⟨g,0,none⟩) n cap) n (aA xs))(p:Nat)(hp:p<=n):∀j u,(aA (xs.take p))[j]?=some u->w.cell? ((⟨g,0,none⟩:Addr).add j)=some u:=fun j u hu=>by
 rw[Ko,List.getElem?_take]at hu;split at hu
 ·rename_i hj;have:=h.cellAt j (by omega);rw[hu]at this;have e:(⟨g,0,none⟩:Addr).add j=⟨g,j,none⟩:=by unfold Addr.add;split<;>simp_all
  rw[e];exact this
 cases hu
theorem Kr{w:ae}{base g n cap:Nat}{xs:Q04}(h:w.ownsRow base 43 5 (.slice (some ⟨g,0,none⟩) n cap) n (aA xs))(p:Nat)(hp:p<=n):∀j u,(aA (xs.drop p))[j]?=some u->w.cell? ((⟨g,p*5,none⟩:Addr).add j)=some u:=fun j u hu=>by
 rw[Kq,List.getElem?_drop]at hu;have hl:=h.1;have hj:p*5+j<n*5:=by
  rw[<-hl];exact(List.getElem?_eq_some_iff.1 hu).1
 have:=h.cellAt (p*5+j) hj;rw[hu]at this;have e:(⟨g,p*5,none⟩:Addr).add j=⟨g,p*5+j,none⟩:=by unfold Addr.add;split<;>simp_all
 rw[e];exact this
theorem wG(xs:Q04):∀u∈aA xs,u.oneCell'=true:=fun u hu=>by
 obtain⟨q,-,h⟩:=Wx.1 hu;simp only[Fc.row,Ws,List.not_mem_nil,or_false]at h;rcases h with rfl|rfl|rfl|rfl|rfl<;>rfl
theorem Kt{w:ae}{a:Addr}{xs:Q04}(h:xs=[]):∀j u,(aA xs)[j]?=some u->w.cell? (a.add j)=some u:=fun j u hu=>by
 rw[h]at hu;simp[aA]at hu
def pu(x y:Fc):Bool:=fQ x.a x.b x.r x.c x.d ⟨#[]⟩ y.a y.b y.r y.c y.d ⟨#[]⟩
theorem LG{w W w':ae}{n m i0 i1 i2 i3 i4 j0 j1 j2 j3 j4:Nat}{x0 x1 x2 x3 x4 y0 y1 y2 y3 y4:Value}(h:W.cell? ⟨n,i0,none⟩=some x0/\W.cell? ⟨n,i1,none⟩=some x1/\W.cell? ⟨n,i2,none⟩=some x2/\W.cell? ⟨n,i3,none⟩=some x3/\W.cell? ⟨n,i4,none⟩=some x4/\W.cell? ⟨m,j0,none⟩=some y0/\W.cell? ⟨m,j1,none⟩=some y1/\W.cell? ⟨m,j2,none⟩=some y2/\W.cell? ⟨m,j3,none⟩=some y3/\W.cell? ⟨m,j4,none⟩=some y4/\af w W)(hb:af W w'):w'.cell? ⟨n,i0,none⟩=some x0/\w'.cell? ⟨n,i1,none⟩=some x1/\w'.cell? ⟨n,i2,none⟩=some x2/\w'.cell? ⟨n,i3,none⟩=some x3/\w'.cell? ⟨n,i4,none⟩=some x4/\w'.cell? ⟨m,j0,none⟩=some y0/\w'.cell? ⟨m,j1,none⟩=some y1/\w'.cell? ⟨m,j2,none⟩=some y2/\w'.cell? ⟨m,j3,none⟩=some y3/\w'.cell? ⟨m,j4,none⟩=some y4/\af w w':=by
 obtain⟨h0,h1,h2,h3,h4,k0,k1,k2,k3,k4,hB⟩:=h;exact⟨aU hb (aL h0) h0,aU hb (aL h1) h1,aU hb (aL h2) h2,aU hb (aL h3) h3,aU hb (aL h4) h4,aU hb (aL k0) k0,aU hb (aL k1) k1,aU hb (aL k2) k2,aU hb (aL k3) k3,aU hb (aL k4) k4,hB.trans (hb.mono hB.size)⟩
theorem Ku(ad:Q02)(cap:Nat)(rows:Q04)(w:ae)(hlen:rows.length<=1048576)(hs:tT w ad rows)(hfit:∀x∈rows,x.fits):
  Calls prog 70 #[.slice ad rows.length cap] w fun e w'=>(∃v:Value,e=.returned v/\w'.ownsRow w.heap.size 43 5 v rows.length (aA (kS pu rows)))/\af w w':=by
 obtain⟨iR,hiR,zR0,zR1,zR2⟩:=wE;have YC:Hid (prog.info? 43=some iR/\iR.zero=some (.agg #[.string ⟨#[]⟩,.string ⟨#[]⟩,.string ⟨#[]⟩,.string ⟨#[]⟩,.string ⟨#[]⟩])/\iR.size=5/\iR.bytes=80):=⟨hiR,zR0,zR1,zR2⟩;have HS:=ak hs;have XC:=ak hfit;clear hs hfit hiR zR0 zR1 zR2;obtain⟨W0,hW0⟩:∃W0,W0=w.alloc (.cells #[] 43):=⟨_,rfl⟩;have HB0:=nC hW0;have Yz:Hid (W0.ownsRow w.heap.size 43 5 (.slice (some ⟨w.heap.size,0,none⟩) 0 0) 0 []):=by
  show World.ownsRow _ _ _ _ _ _ _;rw[hW0];exact World.ownsRow_lit w #[] 0 (V4 _) (by unfold maxLen;omega) (by simp)
 go_enter func70,ntmps70;go_wp2_with fail;rw[<-hW0];clear hW0;go_loopw[3,4] (fun v i wr=>∃(k g c:Nat),k<=rows.length/\i=.int .i64 k/\v=.slice (some ⟨g,0,none⟩) k c/\Hid (wr.ownsRow w.heap.size 43 5 (.slice (some ⟨g,0,none⟩) k c) k (aA (kS pu (rows.take k))))/\Hid (af w wr)) (fun _ i _=>rows.length-(intOf i).toNat);case atStart=>exact⟨0,w.heap.size,0,Wd _,rfl,rfl,Yz,HB0⟩
 clear Yz HB0;obtain⟨k,g,c,hk,rfl,rfl,HO,HB⟩:=hrel;by_cases hlt:k<rows.length
 ·obtain⟨acc,hacc⟩:∃acc,acc=kS pu (rows.take k):=⟨_,rfl⟩;obtain⟨b,off,Xx,hrow,hbl⟩:∃b off,ad=some ⟨b,off,none⟩/\M7 w b (off+k*5) rows[k]/\b<w.heap.size:=by
   rcases HS.out with h|⟨b',off',e,hb,hr⟩
   ·rw[h]at hlt;simp at hlt
   exact⟨b',off',e,hr k hlt,hb⟩
  obtain⟨x,hx⟩:∃x,rows[k]=x:=⟨_,rfl⟩;have HNX:Hid (kS pu (rows.take (k+1))=rD pu x acc):=by show _=_;rw[V8 hlt,JI,hacc,hx]
  have hal:acc.length=k:=by rw[hacc,(gF _).length_eq,WK];omega
  have Zw:Hid x.fits:=by show Fc.fits x;rw[<-hx];exact XC.out _ (VZ hlt)
  have HAF:Hid (∀z∈acc,z.fits):=fun z hz=>by
   rw[hacc]at hz;exact XC.out z (List.mem_of_mem_take ((gF _).mem_iff.1 hz))
  rw[<-hacc]at HO;rw[hx]at hrow;have XJ:=ak hal;have hkc:k<=c:=Sz HO.out;have hk1:=bC k;have hk2:(k:Int)<(rows.length:Int):=by omega
  have Yn:=ak hrow;have HBL:=ak hbl;obtain⟨wo,hwo⟩:∃wo,wo=wr:=⟨_,rfl⟩;subst hwo;subst Xx;clear hacc hal hrow hbl hx;go_wp2_with fail;go_loopw[5] (fun i wr=>∃p:Nat,p<=k/\i=.int .i64 p/\Hid (∀(i:Nat) (h:i<acc.length),i<p->pu acc[i] x=true)/\Hid (af wo wr)) (fun i _=>k-(intOf i).toNat);case atStart=>exact⟨0,Wd _,rfl,fun i h hi=>absurd hi (Xg _),V5 _ _⟩
  obtain⟨p,hp,rfl,HU,HBP⟩:=hrel;have HOP:Hid (wr.ownsRow w.heap.size 43 5 (.slice (some ⟨g,0,none⟩) k c) k (aA acc)):=pq HO.out fun z hz=>HBP.out.block z (HO.out.lt z hz).2;have HBWP:Hid (af w wr):=HB.out.trans (HBP.out.mono HB.out.size);obtain⟨y0,y1,y2,y3,y4⟩:=Yn.out.same (fun o=>HBWP.out.cell (p:=⟨b,o,none⟩) HBL.out);have hbr:b<wr.heap.size:=VY HBL.out HBWP.out.size;have hgr:g<wr.heap.size:=(HOP.out.lt g rfl).2;have hp1:=bC p;by_cases hpk:p<k
  ·have hp2:(p:Int)<(k:Int):=by omega
   have hd:decide ((p:Int)<(k:Int))=true:=by simp;omega
   have hpa:p<acc.length:=by rw[XJ.out];exact hpk
   obtain⟨y,hy⟩:∃y,acc[p]=y:=⟨_,rfl⟩;have hc5:∀c,c<5->wr.cell? ⟨g,p*5+c,none⟩=y.row[c]?:=fun c hc=>by
    rw[HOP.out.cellAt (p*5+c) (by omega),rP acc p hpa c hc,hy]
   have s0:wr.cell? ⟨g,p*5,none⟩=some (.string y.a):=hc5 0 (by omega);have s1:wr.cell? ⟨g,p*5+1,none⟩=some (.string y.b):=hc5 1 (by omega);have s2:wr.cell? ⟨g,p*5+2,none⟩=some (.string y.r):=hc5 2 (by omega);have s3:wr.cell? ⟨g,p*5+3,none⟩=some (.string y.c):=hc5 3 (by omega);have s4:wr.cell? ⟨g,p*5+4,none⟩=some (.string y.d):=hc5 4 (by omega);have hyf:y.fits:=by rw[<-hy];exact HAF.out _ (VZ hpa)
   have HC:Hid (∀W':World,Calls prog 115 #[.agg #[.string y.a,.string y.b,.string y.r,.string y.c,.string y.d],.agg #[.string x.a,.string x.b,.string x.r,.string x.c,.string x.d]] W' fun e w'=>e=.returned (.bool (pu y x))/\af W' w'):=fun W'=>wu _ _ _ _ _ _ _ _ _ _ W' hyf.1 hyf.2.1 hyf.2.2.1 hyf.2.2.2.1 hyf.2.2.2.2 Zw.out.1 Zw.out.2.1 Zw.out.2.2.1 Zw.out.2.2.2.1 Zw.out.2.2.2.2;clear hc5 hyf;have HYE:=ak hy;clear hy;have hbp:=HBP.out;cases hq:pu y x;case true=>
    have HU2:Hid (∀(i:Nat) (h:i<acc.length),i<p+1->pu acc[i] x=true):=fun i h hi=>by
     by_cases e:i=p
     ·subst e;rw[HYE.out];exact hq
     exact HU.out i h (by omega)
    rw[hq]at HC;clear hq;go_wp2_with fail
    go_region_held3 (fun w'=>w'.cell? ⟨g,p*5,none⟩=some (.string y.a)/\w'.cell? ⟨g,p*5+1,none⟩=some (.string y.b)/\w'.cell? ⟨g,p*5+2,none⟩=some (.string y.r)/\w'.cell? ⟨g,p*5+3,none⟩=some (.string y.c)/\w'.cell? ⟨g,p*5+4,none⟩=some (.string y.d)/\w'.cell? ⟨b,off+k*5,none⟩=some (.string x.a)/\w'.cell? ⟨b,off+k*5+1,none⟩=some (.string x.b)/\w'.cell? ⟨b,off+k*5+2,none⟩=some (.string x.r)/\w'.cell? ⟨b,off+k*5+3,none⟩=some (.string x.c)/\w'.cell? ⟨b,off+k*5+4,none⟩=some (.string x.d)/\af wo w')
     (first|assumption|exact LG (by assumption) hbx|exact⟨s0,s1,s2,s3,s4,y0,y1,y2,y3,y4,hbp.drew⟩)
     (first|(go_at_call 115;refine(HC.out _).mono ?_;rintro e w' ⟨rfl,hbx⟩))
    rename_i hJ;have HJB:=ak hJ.2.2.2.2.2.2.2.2.2.2;have HSZ:Hid (wr.heap.size<=w'.heap.size):=by show _<=_;exact Wh (by first|exact V4 _|simp) hbx.size
    clear hJ s0 s1 s2 s3 s4 y0 y1 y2 y3 y4 hd;go_wp2;go_roundw;case rel=>exact⟨p+1,by omega,by go_num,HU2,HJB⟩
    simp[intOf]<;>omega
   have HPT:Hid (rD pu x acc=acc.take p++x::acc.drop p):=Fb (by rw[XJ.out];exact hp) HU.out (fun _=>by rw[HYE.out];exact hq);rw[hq]at HC;clear hq;go_wp2_with fail
   go_region_held3 (fun w'=>w'.cell? ⟨g,p*5,none⟩=some (.string y.a)/\w'.cell? ⟨g,p*5+1,none⟩=some (.string y.b)/\w'.cell? ⟨g,p*5+2,none⟩=some (.string y.r)/\w'.cell? ⟨g,p*5+3,none⟩=some (.string y.c)/\w'.cell? ⟨g,p*5+4,none⟩=some (.string y.d)/\w'.cell? ⟨b,off+k*5,none⟩=some (.string x.a)/\w'.cell? ⟨b,off+k*5+1,none⟩=some (.string x.b)/\w'.cell? ⟨b,off+k*5+2,none⟩=some (.string x.r)/\w'.cell? ⟨b,off+k*5+3,none⟩=some (.string x.c)/\w'.cell? ⟨b,off+k*5+4,none⟩=some (.string x.d)/\af wo w')
    (first|assumption|exact LG (by assumption) hbx|exact⟨s0,s1,s2,s3,s4,y0,y1,y2,y3,y4,hbp.drew⟩)
    (first|(go_at_call 115;refine(HC.out _).mono ?_;rintro e w' ⟨rfl,hbx⟩))
   rename_i hJ;have HJB:=ak hJ.2.2.2.2.2.2.2.2.2.2;have HSZ:Hid (wr.heap.size<=w'.heap.size):=by show _<=_;exact Wh (by first|exact V4 _|simp) hbx.size
   obtain⟨X,hX⟩:∃X,w'=X:=⟨_,rfl⟩;subst hX;have XU:=aC HJB;have HSX:Hid (wr.heap.size<=w'.heap.size):=by show _<=_;exact HSZ.out
   clear hJ s0 s1 s2 s3 s4 hd HC HYE hbp HJB HSZ;clear y0 y1 y2 y3 y4 hbr HOP HBWP HBP HU;obtain⟨W1,hW1⟩:∃W1,W1=w'.alloc (.cells #[] 43):=⟨_,rfl⟩;have XO:Hid (W1.ownsRow w'.heap.size 43 5 (.slice (some ⟨w'.heap.size,0,none⟩) 0 0) 0 []):=by
    show World.ownsRow _ _ _ _ _ _ _;rw[hW1];exact World.ownsRow_lit w' #[] 0 (V4 _) (by unfold maxLen;omega) (by simp)
   have HB1:=nC hW1;have HBO1:Hid (af wo W1):=XU.out.trans (HB1.out.mono XU.out.size);have HR1:Hid (W1.ownsRow w.heap.size 43 5 (.slice (some ⟨g,0,none⟩) k c) k (aA acc)):=pq HO.out fun z hz=>HBO1.out.block z (HO.out.lt z hz).2;have hz1:w'.heap.size<=W1.heap.size:=HB1.out.size;have hgX:g<w'.heap.size:=VY (HO.out.lt g rfl).2 XU.out.size;have hpc:p<=c:=by omega
   go_wp2_with(at_builtin;go_must (rw[<-hW1];clear hW1;refine wpList_append_own_at _ rfl _ _ 34 rfl w'.heap.size 43 iR (.agg #[.string ⟨#[]⟩,.string ⟨#[]⟩,.string ⟨#[]⟩,.string ⟨#[]⟩,.string ⟨#[]⟩]) 5 80 underlying34 YC.out.1 YC.out.2.1 YC.out.2.2.1 YC.out.2.2.2 rfl (by decide) _ 0 [] rfl XO.out ⟨g,0,none⟩ p c (aA (acc.take p)) rfl (by rw[l8,WK];congr 1;have:=XJ.out;omega) (BO HR1.out p hp) (wG _) (by unfold maxLen;omega) (by omega) hz1 ?_));intro v2 w2 hown2 XP _ _;have Xv:Hid (w2.ownsRow w'.heap.size 43 5 v2 p (aA (acc.take p))):=by
    show World.ownsRow _ _ _ _ _ _ _
    first|exact hown2|(rw[WB,Xi]at hown2;exact hown2)|simpa using hown2
   have HB2:Hid (af w' w2):=HB1.out.grown XP HB1.out.size (fun z hz=>by simp[Value.ownBlock]at hz;omega);have hz2:w'.heap.size<=w2.heap.size:=HB2.out.size;have ZX:Hid (af w w2):=(HB.out.trans (XU.out.mono HB.out.size)).trans (HB2.out.mono (Wh HB.out.size XU.out.size));obtain⟨y0,y1,y2,y3,y4⟩:=Yn.out.same (fun o=>ZX.out.cell (p:=⟨b,o,none⟩) HBL.out);have hbr:b<w2.heap.size:=VY HBL.out ZX.out.size;obtain⟨W3,hW3⟩:∃W3,W3=w2.alloc (.cells #[.string x.a,.string x.b,.string x.r,.string x.c,.string x.d] 43):=⟨_,rfl⟩;have XG:Hid (W3.ownsRow w'.heap.size 43 5 v2 p (aA (acc.take p))):=by show World.ownsRow _ _ _ _ _ _ _;rw[hW3];exact Xv.out.alloc _
   have YZ:Hid (∀j u,x.row[j]?=some u->W3.cell? ((⟨w2.heap.size,0,none⟩:Addr).add j)=some u):=by show ∀j u,_;rw[hW3];exact Ec w2 x
   have HB3:Hid (af w' W3):=by show Below _ _ _;rw[hW3];exact HB2.out.alloc HB2.out.size _
   have hz3:w'.heap.size<=W3.heap.size:=HB3.out.size;clear hown2 XP XO HB1 HBO1 HR1 hz1;go_wp2_with(at_builtin;go_must (rw[<-hW3];clear hW3;refine wpList_append_own_at _ rfl _ _ 34 rfl w'.heap.size 43 iR (.agg #[.string ⟨#[]⟩,.string ⟨#[]⟩,.string ⟨#[]⟩,.string ⟨#[]⟩,.string ⟨#[]⟩]) 5 80 underlying34 YC.out.1 YC.out.2.1 YC.out.2.2.1 YC.out.2.2.2 rfl (by decide) v2 p (aA (acc.take p)) rfl XG.out ⟨w2.heap.size,0,none⟩ 1 1 x.row rfl rfl YZ.out (by simp[Fc.row,Value.oneCell']) (by unfold maxLen;omega) (by omega) hz3 ?_));intro v4 w4 X8 YK _ _;have XE:=aC X8;have XM:Hid (af w' w4):=HB3.out.grown YK HB3.out.size (fun z hz=>(Xv.out.lt z hz).1);have hz4:w'.heap.size<=w4.heap.size:=XM.out.size;have HBO4:Hid (af wo w4):=XU.out.trans (XM.out.mono XU.out.size);have HR4:Hid (w4.ownsRow w.heap.size 43 5 (.slice (some ⟨g,0,none⟩) k c) k (aA acc)):=pq HO.out fun z hz=>HBO4.out.block z (HO.out.lt z hz).2;clear X8 YK XG Xv YZ HB3 hz3 HB2 hz2 ZX y0 y1 y2 y3 y4 hbr;go_wp2_with(at_builtin;go_must (refine wpList_append_own_at _ rfl _ _ 34 rfl w'.heap.size 43 iR (.agg #[.string ⟨#[]⟩,.string ⟨#[]⟩,.string ⟨#[]⟩,.string ⟨#[]⟩,.string ⟨#[]⟩]) 5 80 underlying34 YC.out.1 YC.out.2.1 YC.out.2.2.1 YC.out.2.2.2 rfl (by decide) v4 (p+1) (aA (acc.take p)++x.row) rfl XE.out ⟨g,p*5,none⟩ (k-p) (c-p) (aA (acc.drop p)) rfl (by rw[l8,WR];have:=XJ.out;congr 1;omega) (Kr HR4.out p hp) (wG _) (by unfold maxLen;omega) (by omega) hz4 ?_));intro v5 w5 hown5 hgr5 _ _;have hn5:p+1+(k-p)=k+1:=by omega
   have Yi:Hid (af w' w5):=XM.out.grown hgr5 XM.out.size (fun z hz=>(XE.out.lt z hz).1);have hown6:w5.ownsRow w'.heap.size 43 5 v5 (k+1) (aA (kS pu (rows.take (k+1)))):=by
    rw[HNX.out,HPT.out,aA,WP,WF,<-hn5];exact hown5
   obtain⟨ZH,c5,rfl⟩:=BN hown6;obtain⟨g5,rfl,-⟩:=Ed hown6 (Nat.succ_ne_zero _);have Yf:=ak (ma hown6 (Wh HB.out.size XU.out.size));have YB:Hid (af w w5):=(HB.out.trans (XU.out.mono HB.out.size)).trans (Yi.out.mono (Wh HB.out.size XU.out.size));clear hown5 hown6 hgr5 hn5;go_wp2;go_roundw;case rel=>exact⟨k+1,g5,c5,by omega,by go_num,by first|rfl|simp,Yf,YB⟩
   simp[intOf]<;>omega
  have hd:decide ((p:Int)<(k:Int))=false:=by simp;omega
  have hpe:¬(p:Int)<(k:Int):=by omega
  have HPT:Hid (rD pu x acc=acc.take p++x::acc.drop p):=Fb (by rw[XJ.out];exact hp) HU.out (fun h=>absurd (by rw[XJ.out]at h;exact h) hpk);go_wp2_with fail;go_quiet (fail);clear hd hpe;obtain⟨X,hX⟩:∃X,wr.drewN nq=X:=⟨_,rfl⟩;have XU:Hid (af wo X):=by show Below _ _ _;rw[<-hX];exact below_drewN HBP.out _
  have HSX:Hid (wr.heap.size<=X.heap.size):=by show _<=_;rw[<-hX];exact V4 _
  rw[hX];clear hX y0 y1 y2 y3 y4 hbr HOP HBWP HBP HU;obtain⟨W1,hW1⟩:∃W1,W1=X.alloc (.cells #[] 43):=⟨_,rfl⟩;have XO:Hid (W1.ownsRow X.heap.size 43 5 (.slice (some ⟨X.heap.size,0,none⟩) 0 0) 0 []):=by
   show World.ownsRow _ _ _ _ _ _ _;rw[hW1];exact World.ownsRow_lit X #[] 0 (V4 _) (by unfold maxLen;omega) (by simp)
  have HB1:=nC hW1;have HBO1:Hid (af wo W1):=XU.out.trans (HB1.out.mono XU.out.size);have HR1:Hid (W1.ownsRow w.heap.size 43 5 (.slice (some ⟨g,0,none⟩) k c) k (aA acc)):=pq HO.out fun z hz=>HBO1.out.block z (HO.out.lt z hz).2;have hz1:X.heap.size<=W1.heap.size:=HB1.out.size;have hgX:g<X.heap.size:=VY (HO.out.lt g rfl).2 XU.out.size;have hpc:p<=c:=by omega
  go_wp2_with(at_builtin;go_must (rw[<-hW1];clear hW1;refine wpList_append_own_at _ rfl _ _ 34 rfl X.heap.size 43 iR (.agg #[.string ⟨#[]⟩,.string ⟨#[]⟩,.string ⟨#[]⟩,.string ⟨#[]⟩,.string ⟨#[]⟩]) 5 80 underlying34 YC.out.1 YC.out.2.1 YC.out.2.2.1 YC.out.2.2.2 rfl (by decide) _ 0 [] rfl XO.out ⟨g,0,none⟩ p c (aA (acc.take p)) rfl (by rw[l8,WK];congr 1;have:=XJ.out;omega) (BO HR1.out p hp) (wG _) (by unfold maxLen;omega) (by omega) hz1 ?_));intro v2 w2 hown2 XP _ _;have Xv:Hid (w2.ownsRow X.heap.size 43 5 v2 p (aA (acc.take p))):=by
   show World.ownsRow _ _ _ _ _ _ _
   first|exact hown2|(rw[WB,Xi]at hown2;exact hown2)|simpa using hown2
  have HB2:Hid (af X w2):=HB1.out.grown XP HB1.out.size (fun z hz=>by simp[Value.ownBlock]at hz;omega);have hz2:X.heap.size<=w2.heap.size:=HB2.out.size;have ZX:Hid (af w w2):=(HB.out.trans (XU.out.mono HB.out.size)).trans (HB2.out.mono (Wh HB.out.size XU.out.size));obtain⟨y0,y1,y2,y3,y4⟩:=Yn.out.same (fun o=>ZX.out.cell (p:=⟨b,o,none⟩) HBL.out);have hbr:b<w2.heap.size:=VY HBL.out ZX.out.size;obtain⟨W3,hW3⟩:∃W3,W3=w2.alloc (.cells #[.string x.a,.string x.b,.string x.r,.string x.c,.string x.d] 43):=⟨_,rfl⟩;have XG:Hid (W3.ownsRow X.heap.size 43 5 v2 p (aA (acc.take p))):=by show World.ownsRow _ _ _ _ _ _ _;rw[hW3];exact Xv.out.alloc _
  have YZ:Hid (∀j u,x.row[j]?=some u->W3.cell? ((⟨w2.heap.size,0,none⟩:Addr).add j)=some u):=by show ∀j u,_;rw[hW3];exact Ec w2 x
  have HB3:Hid (af X W3):=by show Below _ _ _;rw[hW3];exact HB2.out.alloc HB2.out.size _
  have hz3:X.heap.size<=W3.heap.size:=HB3.out.size;clear hown2 XP XO HB1 HBO1 HR1 hz1;go_wp2_with(at_builtin;go_must (rw[<-hW3];clear hW3;refine wpList_append_own_at _ rfl _ _ 34 rfl X.heap.size 43 iR (.agg #[.string ⟨#[]⟩,.string ⟨#[]⟩,.string ⟨#[]⟩,.string ⟨#[]⟩,.string ⟨#[]⟩]) 5 80 underlying34 YC.out.1 YC.out.2.1 YC.out.2.2.1 YC.out.2.2.2 rfl (by decide) v2 p (aA (acc.take p)) rfl XG.out ⟨w2.heap.size,0,none⟩ 1 1 x.row rfl rfl YZ.out (by simp[Fc.row,Value.oneCell']) (by unfold maxLen;omega) (by omega) hz3 ?_));intro v4 w4 X8 YK _ _;have XE:=aC X8;have XM:Hid (af X w4):=HB3.out.grown YK HB3.out.size (fun z hz=>(Xv.out.lt z hz).1);have hz4:X.heap.size<=w4.heap.size:=XM.out.size;have HBO4:Hid (af wo w4):=XU.out.trans (XM.out.mono XU.out.size);have HR4:Hid (w4.ownsRow w.heap.size 43 5 (.slice (some ⟨g,0,none⟩) k c) k (aA acc)):=pq HO.out fun z hz=>HBO4.out.block z (HO.out.lt z hz).2;clear X8 YK XG Xv YZ HB3 hz3 HB2 hz2 ZX y0 y1 y2 y3 y4 hbr;obtain rfl:p=k:=by omega
  have HDN:Hid (acc.drop p=[]):=Ww (by rw[XJ.out];exact V4 _);by_cases hce:c=p
  all_goals
   go_wp2_with(at_builtin;go_must (refine wpList_append_own_at _ rfl _ _ 34 rfl X.heap.size 43 iR (.agg #[.string ⟨#[]⟩,.string ⟨#[]⟩,.string ⟨#[]⟩,.string ⟨#[]⟩,.string ⟨#[]⟩]) 5 80 underlying34 YC.out.1 YC.out.2.1 YC.out.2.2.1 YC.out.2.2.2 rfl (by decide) v4 (p+1) (aA (acc.take p)++x.row) rfl XE.out _ 0 _ (aA (acc.drop p)) rfl (by rw[HDN.out];rfl) (Kt HDN.out) (wG _) (by unfold maxLen;omega) (by omega) hz4 ?_));intro v5 w5 hown5 hgr5 _ _;have hn5:p+1+0=p+1:=rfl;have Yi:Hid (af X w5):=XM.out.grown hgr5 XM.out.size (fun z hz=>(XE.out.lt z hz).1);have hown6:w5.ownsRow X.heap.size 43 5 v5 (p+1) (aA (kS pu (rows.take (p+1)))):=by
    rw[HNX.out,HPT.out,aA,WP,WF,<-hn5];exact hown5
   obtain⟨ZH,c5,rfl⟩:=BN hown6;obtain⟨g5,rfl,-⟩:=Ed hown6 (Nat.succ_ne_zero _);have Yf:=ak (ma hown6 (Wh HB.out.size XU.out.size));have YB:Hid (af w w5):=(HB.out.trans (XU.out.mono HB.out.size)).trans (Yi.out.mono (Wh HB.out.size XU.out.size));clear hown5 hown6 hgr5 hn5;go_wp2;go_roundw;case rel=>exact⟨p+1,g5,c5,by omega,by go_num,by first|rfl|simp,Yf,YB⟩
   simp[intOf]<;>omega
 obtain rfl:k=rows.length:=by omega
 have HE:Hid (wr.ownsRow w.heap.size 43 5 (.slice (some ⟨g,0,none⟩) rows.length c) rows.length (aA (kS pu rows))):=by have h:=HO.out;rw[Wo]at h;exact h
 go_wp2;go_ret;exact⟨⟨_,rfl,HE.out⟩,HB.out⟩
open Go.Sort
theorem nY(ad:Q02)(cap:Nat)(ts:Q04)(t:Fc)(w:ae)(hlen:ts.length<=1048576)(hs:tT w ad ts):
  Calls prog 13 #[.slice ad ts.length cap,.agg #[.string t.a,.string t.b,.string t.r,.string t.c,.string t.d]] w fun e w'=>e=.returned (.bool (bY ts t))/\af w w':=by
 have HS:=ol hs;clear hs;obtain⟨W0,hW0⟩:∃W0,W0=w.alloc (.cells #[.string t.a,.string t.b,.string t.r,.string t.c,.string t.d] 43):=⟨_,rfl⟩;have HB0:=nC hW0;have HX0:Hid (∀j (hj:j<5),W0.cell? ⟨w.heap.size,j,none⟩=some (t.row[j]'hj)):=fun j hj=>by
  have hc:j=0\/j=1\/j=2\/j=3\/j=4:=by omega
  rw[hW0];rcases hc with rfl|rfl|rfl|rfl|rfl<;>simp[Fc.row]
 go_enter func13,ntmps13;go_wp2;rw[<-hW0];clear hW0;go_loopw[5] (fun i wr=>∃k:Nat,k<=ts.length/\i=.int .i64 k/\Hid (bY (ts.drop k) t=bY ts t)/\Hid (af W0 wr)) (fun i _=>ts.length-(intOf i).toNat);case atStart=>exact⟨0,Wd _,rfl,rfl,V5 _ _⟩
 obtain⟨k,hk,rfl,HP,HB⟩:=hrel;have Xz:Hid (af w wr):=HB0.out.trans (HB.out.mono HB0.out.size);by_cases hlt:k<ts.length
 ·rcases HS.out.below Xz.out with hnil|⟨b,off,rfl,hb,hr⟩
  ·rw[hnil]at hlt;simp at hlt
  obtain⟨t0,t1,t2,t3,t4⟩:=hr k hlt;have x0:=cell_regrown (cell_later HB.out (HX0.out 0 (by omega)));have x1:=cell_regrown (cell_later HB.out (HX0.out 1 (by omega)));have x2:=cell_regrown (cell_later HB.out (HX0.out 2 (by omega)));have x3:=cell_regrown (cell_later HB.out (HX0.out 3 (by omega)));have x4:=cell_regrown (cell_later HB.out (HX0.out 4 (by omega)));simp only[Fc.row,List.getElem_cons_zero,List.getElem_cons_succ]at x0 x1 x2 x3 x4;replace t0:=cell_regrown t0;replace t1:=cell_regrown t1;replace t2:=cell_regrown t2;replace t3:=cell_regrown t3;replace t4:=cell_regrown t4;have hk1:=bC k;have hk2:(k:Int)<(ts.length:Int):=by omega
  have HD:Hid (bY ts t=(xC ts[k] t || bY (ts.drop (k+1)) t)):=by show _=_;rw[<-HP.out];exact DK hlt
  have Yb:Hid (∀d os,af W0 (grow (redrawn wr d) os)):=fun d os=>HB.out.trans ((below_regrown wr d os).mono HB.out.size);clear hr;obtain⟨q,hq⟩:∃q,xC ts[k] t=q:=⟨_,rfl⟩;have heq:=JW ts[k] t hq;rw[hq]at HD;clear hq;go_wp2_with fail;refine wp_region_quiet_below (by kernel_rfl) (by kernel_rfl) ?_
  repeat(go_big_quiet_step (fail))
  refine wpQuiet_nil ?_;rintro _ ⟨⟨dq,osq⟩,rfl⟩;cases q;case true=>
   go_wp2;go_ret;exact⟨by rw[HD.out];rfl,HB0.out.trans ((Yb.out dq osq).mono HB0.out.size)⟩
  go_wp2;go_roundw;case rel=>exact⟨k+1,by omega,by go_num,HD.out.symm,Yb.out dq osq⟩
  simp[intOf]<;>omega
 have HE:Hid (bY ts t=false):=by
  show _=_;rw[<-HP.out,Ww (by omega)];rfl
 go_wp2;go_ret;exact⟨by rw[HE.out];rfl,Xz.out⟩
theorem UE(x y:Fc){v:Bool}(h:(!xC x y)=v)(w:ae):
  (binOp .neq 43 (.agg #[.string x.a,.string x.b,.string x.r,.string x.c,.string x.d]) (.agg #[.string y.a,.string y.b,.string y.r,.string y.c,.string y.d])).run prog w=.ok (.bool v) w:=by
 subst h;go_simp;unfold xC
 (repeat' split)<;>simp_all
theorem kE(ad XB:Q02)(cap cap':Nat)(ts:Q04)(w:ae)(hlen:ts.length<=1048576)(hs:tT w ad ts)(hs':tT w XB ts):
  Calls prog 10 #[.slice ad ts.length cap,.slice XB ts.length cap'] w fun e w'=>e=.returned (.bool true)/\af w w':=by
 have HS:=ol hs;have HS':=ol hs';clear hs hs';have hnn:((ts.length:Int) != (ts.length:Int))=false:=by simp
 go_enter func10,ntmps10;go_wp2;go_loopw[5] (fun i wr=>∃k:Nat,k<=ts.length/\i=.int .i64 k/\Hid (af w wr)) (fun i _=>ts.length-(intOf i).toNat);case atStart=>exact⟨0,Wd _,rfl,V5 _ _⟩
 obtain⟨k,hk,rfl,HB⟩:=hrel;have hk1:=bC k;by_cases hlt:k<ts.length
 ·have hk2:(k:Int)<(ts.length:Int):=by omega
  rcases HS.out.below HB.out with hnil|⟨b,off,rfl,hb,hr⟩
  ·rw[hnil]at hlt;simp at hlt
  rcases HS'.out.below HB.out with hnil|⟨b',off',rfl,hb',hr'⟩
  ·rw[hnil]at hlt;simp at hlt
  obtain⟨t0,t1,t2,t3,t4⟩:=hr k hlt;obtain⟨u0,u1,u2,u3,u4⟩:=hr' k hlt;have heq:=UE ts[k] ts[k] (v:=false) (by rw[Bg.2 rfl];rfl);replace t0:=cell_regrown t0;replace t1:=cell_regrown t1;replace t2:=cell_regrown t2;replace t3:=cell_regrown t3;replace t4:=cell_regrown t4;replace u0:=cell_regrown u0;replace u1:=cell_regrown u1;replace u2:=cell_regrown u2;replace u3:=cell_regrown u3;replace u4:=cell_regrown u4;clear hr hr';go_wp2_with fail;refine wp_region_quiet_below (by kernel_rfl) (by kernel_rfl) ?_
  repeat(go_big_quiet_step (fail))
  refine wpQuiet_nil ?_;rintro _ ⟨⟨dq,osq⟩,rfl⟩;have HB2:=ol (HB.out.trans ((below_regrown wr dq osq).mono HB.out.size));clear t0 t1 t2 t3 t4 u0 u1 u2 u3 u4 heq;go_wp2;go_roundw;case rel=>exact⟨k+1,by omega,by go_num,HB2⟩
  simp[intOf]<;>omega
 go_wp2;go_ret;exact⟨rfl,HB.out⟩
theorem UF{P:Nat->Prop}(h:∃n,P n):∃n,P n/\∀m,P m->n<=m:=by
 obtain⟨n,hn⟩:=h
 induction n using Nat.strongRecOn with
 | ind n ih =>
  by_cases hx:∃m,m<n/\P m
  ·obtain⟨m,hm,hp⟩:=hx;exact ih m hm hp
  exact⟨n,hn,fun m hm=>Nat.le_of_not_lt fun hlt=>hx ⟨m,hlt,hm⟩⟩
theorem QB{ts:Q0b}(h:∃f,Sol ts f):∃f,Least ts f:=by
 have key:∀ k,∃ n:Nat,(∃ g,Sol ts g/\g k=(n:Int))/\∀ m:Nat,(∃ g,Sol ts g/\g k=(m:Int))->n<=m:=fun k=>UF (by
  obtain⟨f,hf⟩:=h;exact⟨(f k).toNat,f,hf,by have:=hf.pos k;omega⟩)
 have low:∀k g,Sol ts g->(((key k).choose:Nat):Int)<=g k:=fun k g hg=>by
  have h1:=(key k).choose_spec.2 (g k).toNat ⟨g,hg,by have:=hg.pos k;omega⟩;have:=hg.pos k;omega
 refine⟨fun k=>(((key k).choose:Nat):Int),⟨fun k=>Int.natCast_nonneg _,fun k hk d hd=>?_⟩,fun k hk g hg=>low k g hg⟩;obtain⟨g,hg,e⟩:=(key k).choose_spec.1;have h1:=low (d.typ,d.rel) g hg;have h2:=hg.up k hk d hd;show(((key (d.typ,d.rel)).choose:Nat):Int)+stepOf d<=(((key k).choose:Nat):Int);rw[<-e];exact Int.le_trans (Int.add_le_add_right h1 _) h2
theorem VC(ts:Q0b):∃st,aD ts=true->Least ts st:=by
 by_cases h:aD ts=true
 ·obtain⟨st,hst⟩:=QB (bG.1 h).2.2;exact⟨st,fun _=>hst⟩
 exact⟨fun _=>0,fun h2=>absurd h2 h⟩
end Go.Proofs.YtcgdckphpjfmhaaGreatDoor
