/- What the drawing of a schema, a log and a place answers: all in memory of their own; nothing that was there is touched. -/
import Derived.Test.YtcgdckphpjfmhaaGreatDoorSq
import Derived.Test.YtcgdckphpjfmhaaGreatDoorJ22
import Derived.OpenShut
import Derived.ShutString
import Derived.HandedShaped
import Derived.LaidMore
import Derived.Test.YtcgdckphpjfmhaaGreatDoorCards
import Derived.Test.YtcgdckphpjfmhaaGreatDoorTie
import Derived.Lay
import Derived.LaidHandle
import Derived.Stop.Joined
import Derived.ChangeVars
open Go.Proofs.Tryz
set_option maxHeartbeats 80000000
namespace Go.Proofs.YtcgdckphpjfmhaaGreatDoor
set_option maxRecDepth 100000
set_option linter.unusedVariables false
open ChangeShapes WideShapes ChangeAt RowKit
open Pl
def oO(c:Int×Tp):List Value:=.int .i64 c.1::c.2.row
def jO(cs:List (Int×Tp)):List Value:=cs.flatMap oO
theorem DX:∀cs:List (Int×Tp),(jO cs).length=cs.length*7
 | []=>rfl
 | r::rs=>by have:=DX rs;simp only[jO,oO,Tp.row,Wi,VI,We,WH]at this ⊢;omega
theorem Ij:∀(rs:List (Int×Tp)) (i:Nat) (h:i<rs.length) (j:Nat),j<7->(jO rs)[i*7+j]?=(oO rs[i])[j]?
 | [],i,h,_,_=>by simp at h
 | r::rs,0,_,j,hj=>by
  simp only[jO,Wi,Nat.zero_mul,V4,List.getElem_cons_zero];rw[Wx (by simpa[oO,Tp.row] using hj)]
 | r::rs,i+1,h,j,hj=>by
  have:=Ij rs i (by simpa using h) j hj;simp only[jO,Wi,List.getElem_cons_succ]at this ⊢;rw[Wu (by simp[oO,Tp.row];omega),<-this];congr 1;simp[oO,Tp.row];omega
theorem Kq(cs:List (Int×Tp))(c:Int×Tp):jO (cs++[c])=jO cs++oO c:=by simp[jO]
theorem QT{w:ae}{base g n c:Nat}{cs:List (Int×Tp)}(h:w.ownsRow base 31 7 (.slice (some ⟨g,0,none⟩) n c) n (jO cs))(hn:n=cs.length):BC w g 0 cs/\g<w.heap.size/\n<=c/\base<=g:=by
 have hlt:=h.lt g rfl;refine⟨?_,hlt.2,?_,hlt.1⟩
 ·subst hn;intro i hi;have key:∀j,j<7->w.cell? ⟨g,0+i*7+j,none⟩=(oO cs[i])[j]?:=fun j hj=>by
   rw[h.cellAt (0+i*7+j) (by have:=DX cs;omega),<-Ij cs i hi j hj,V4]
  exact⟨key 0 (by omega),key 1 (by omega),key 2 (by omega),key 3 (by omega),key 4 (by omega),key 5 (by omega),key 6 (by omega)⟩
 rcases h.2 with⟨e,-⟩|⟨g',cap',cur,e,-,-,hle,-⟩
 ·cases e
 injection e with e1 e2 e3;omega
theorem QU{w:ae}{base n:Nat}{v:Value}{xs:Q03}(h:w.ownsRow base 31 7 v n xs)(hn:n≠0):∃g c,v=.slice (some ⟨g,0,none⟩) n c:=by
 rcases h.2 with⟨_,h0⟩|⟨g,cap,cur,e,-⟩
 ·exact absurd h0 hn
 exact⟨g,cap,e⟩
theorem Uy:∃i,prog.info? 31=some i/\i.zero=some (.agg #[.int .i64 0,.string ⟨#[]⟩,.string ⟨#[]⟩,.string ⟨#[]⟩,.string ⟨#[]⟩,.string ⟨#[]⟩,.string ⟨#[]⟩])/\i.size=7/\i.bytes=104 :=
 info_parts (P:=prog) (e:=31) (z:=.agg #[.int .i64 0,.string ⟨#[]⟩,.string ⟨#[]⟩,.string ⟨#[]⟩,.string ⟨#[]⟩,.string ⟨#[]⟩,.string ⟨#[]⟩]) (size:=7) (bytes:=104) (by kernel_rfl)
theorem Vi(w:ae)(c:Int×Tp):∀j u,(oO c)[j]?=some u->(w.alloc (.cells #[.int .i64 c.1,.string c.2.a,.string c.2.b,.string c.2.r,.string c.2.c,.string c.2.d,.string c.2.s] 31)).cell? ((⟨w.heap.size,0,none⟩:Addr).add j)=some u:=by
 intro j u hu;rw[show(⟨w.heap.size,0,none⟩:Addr).add j=⟨w.heap.size,0+j,none⟩ by simp[Addr.add];omega,V4];have:=World.cell?_alloc_mark w #[.int .i64 c.1,.string c.2.a,.string c.2.b,.string c.2.r,.string c.2.c,.string c.2.d,.string c.2.s] 31 (0,0) j;rw[this];simpa[oO,Tp.row] using hu
theorem Kr{ts:Q05}{k:Int}{t:Tp}(hf:p8 ts)(ht:t.short):p8 (bn ts k t):=by
 intro x hx;unfold bn at hx;split at hx
 ·exact hf x ((lJ ts t x).1 hx).1
 rcases (mo ts t x).1 hx with rfl|h1
 ·exact ht
 exact hf x h1
theorem NG(ts:Q05)(k:Int)(t:Tp):(bn ts k t).length<=ts.length+1:=by
 unfold bn;split
 ·exact VJ (List.length_filter_le _ _) (Nat.le_succ _)
 rw[M4];exact VC _
theorem QV{rs:Q06}{ts:Q05}{k:Int}{t:Tp}(h:Si rs ts k t=0):Nu rs ts k t=bn ts k t:=by
 unfold Si sH at h;unfold Nu qh;split at h
 ·rename_i hr;rw[if_pos hr];exact qX h
 cases h
def Vj(w:World)(e:Ending)(w':World):Prop:=∃(v:Value) (rs:Q06) (g c:Nat) (cs:List (Int×Tp)) (n:Int),e=.returned (.tuple #[v,.slice (some ⟨g,0,none⟩) cs.length c,.int .i64 n])/\iV w' w.heap.size v rs/\GoodS rs/\cs.length<=11/\(∀x∈cs,x.2.short)/\w'.ownsRow w.heap.size 31 7 (.slice (some ⟨g,0,none⟩) cs.length c) cs.length (jO cs)/\af w w'
theorem xE(ad:Q02)(len cap:Nat)(w:ae)(h:Bytes w ad len):
  Calls prog 45 #[.slice ad len cap] w (Vj w):=by
 have H:=fe h;clear h;go_enter func45,ntmps45;go_wp2_with fail;refine(Hd ad len cap _ H.out).mono ?_;rintro e w1 ⟨rfl,Xv,hb1⟩;obtain⟨R,hRR⟩:∃R,R=w.heap.size:=⟨_,rfl⟩;have hRn:w.heap.size<=R:=by omega
 rw[<-hRR]at Xv;simp only[<-hRR];have HB1:=fe hb1;have HR1:=fe Xv;clear Xv hb1 hRR H;go_wp2_with fail;refine(J6 R ad len cap _ HR1.out).mono ?_;rintro e w2 ⟨v,rs,rfl,hT2,hG,hR2,hO2⟩;have hb:=HR1.out.lt;obtain⟨XP,XU,rfl,-,-⟩:=hT2.read;have HB2:Hid (af w w2):=Only.toBelow HB1.out hO2 HB1.out.size (by omega);have HT2:=fe hT2;have HG:=fe hG;have HS:Hid (∀W,Only R w2 W->jP W XP rs):=hT2.slT hb;obtain⟨W3,hW3⟩:∃W3,W3=(w2.alloc (.cells #[] 31)).alloc (.cells #[] 29):=⟨_,rfl⟩;have HL3:Hid (W3.ownsRow w2.heap.size 31 7 (.slice (some ⟨w2.heap.size,0,none⟩) 0 0) ([]:List (Int×Tp)).length (jO [])):=by
  show World.ownsRow _ _ _ _ _ _ _;rw[hW3];exact(World.ownsRow_lit w2 #[] 0 (VC _) (by unfold maxLen;omega) (by simp)).alloc _
 have HR3:Hid (Rd W3 R ad len cap):=by show Rd _ _ _ _ _;rw[hW3];exact(hR2.alloc _).alloc _
 have Xm:Hid (Only R w2 W3):=by show Only _ _ _;rw[hW3];exact((Only.refl _ _).alloc _).alloc _
 have Zz:Hid (w2.heap.size+1<W3.heap.size):=by show _<_;rw[hW3];simp
 have hR2l:R<w2.heap.size:=hR2.lt;have HFAR:Hid (0<len->∀b off,ad=some ⟨b,off,none⟩->b<w2.heap.size):=fun h0 b off e=>by
  obtain⟨b',off',e',-,hb',-⟩:=hR2.bytes h0;rw[e]at e';injection e' with e';injection e' with e1 e2;omega
 obtain⟨iC,h0,h1,h2,h3⟩:=Uy;have HIC:=fe (And.intro h0 (And.intro h1 (And.intro h2 h3)));have hlen:rs.length<=1048576:=by have:=hG.1;omega
 have hsz:w.heap.size<w1.heap.size:=by omega
 clear hT2 hG hR2 hO2 HB1 HR1 h0 h1 h2 h3;go_wp2_with fail;rw[<-hW3];clear hW3;refine(bB R ad len cap 12 _ HR3.out (by omega) (by omega)).mono ?_;rintro e w4 ⟨⟨x,rfl,hx0,hx1⟩,ZI,hO4⟩;have HL4:Hid (w4.ownsRow w2.heap.size 31 7 (.slice (some ⟨w2.heap.size,0,none⟩) 0 0) ([]:List (Int×Tp)).length (jO [])):=HL3.out.kept hO4 (.inr fun e=>by have:=(HL3.out.lt R e).1;omega);have HR4:=fe ZI;have Xk:=fe (Xm.out.trans hO4);have HM4:Hid (w2.heap.size+1<w4.heap.size):=Vy Zz.out hO4.size;clear ZI hO4 HL3 HR3 Xm Zz;go_wp2_with fail;go_loopw[7,8,9] (fun v l i wr=>∃(k:Nat) (cs:List (Int×Tp)) (gL cL:Nat) (ts:Q05) (gT cT:Nat),i=.int .i64 k/\v=.slice (some ⟨gL,0,none⟩) cs.length cL/\l=.slice (some ⟨gT,0,none⟩) ts.length cT/\cs.length+k<=11/\ts.length+k<=11/\ts.length<=cT/\Hid (∀x∈cs,x.2.short)/\Hid (p8 ts)/\Hid (wr.ownsRow w2.heap.size 31 7 v cs.length (jO cs))/\Hid (dE wr gT 0 ts/\gT<wr.heap.size/\w2.heap.size<=gT/\gT≠gL)/\Hid (Rd wr R ad len cap)/\Hid (Only R w2 wr)) (fun _ _ i _=>(intOf i).toNat);case atStart=>exact⟨x.toNat,[],w2.heap.size,0,[],w2.heap.size+1,0,by rw[Int.toNat_of_nonneg hx0],rfl,rfl,by simp;omega,by simp;omega,VC _,(fun x hx=>by cases hx),M0,HL4,⟨(fun i hi=>by simp at hi),HM4.out,by omega,by omega⟩,HR4,Xk⟩
 clear HL4 HR4 Xk HM4 hx0 hx1;obtain⟨k,cs,gL,cL,ts,gT,cT,rfl,rfl,rfl,hkc,hkt,hcT,HCS,HTS,HL,HM,HR,HO⟩:=hrel;by_cases hk0:0<k
 ·have hk1:(0:Int)<(k:Int):=by omega
  have hkm:((k-1:Nat):Int)=(k:Int)-1:=by omega
  go_wp2_with fail;refine(Kj R ad len cap gT cT ts _ HR.out (by omega) HTS.out HM.out.1 HM.out.2.1 (by have:=HM.out.2.2.1;omega)).mono ?_;rintro e w5 ⟨⟨z,a,b,r,c,d,s,rfl,ht⟩,Xo,Xn⟩;have HT:=aC ht;have HL5:=fe (HL.out.kept Xn (.inr fun e=>by have:=(HL.out.lt R e).1;omega));obtain⟨W6,YN⟩:∃W6,W6=w5.alloc (.cells #[.int .i64 z,.string a,.string b,.string r,.string c,.string d,.string s] 31):=⟨_,rfl⟩;have Yv:Hid (Rd W6 R ad len cap):=by show Rd _ _ _ _ _;rw[YN];exact Xo.alloc _
  have HOa:Only R wr W6:=by rw[YN];exact Xn.alloc _
  have XD:=fe (HO.out.trans HOa);have HL6:Hid (W6.ownsRow w2.heap.size 31 7 (.slice (some ⟨gL,0,none⟩) cs.length cL) cs.length (jO cs)):=by show World.ownsRow _ _ _ _ _ _ _;rw[YN];exact HL5.out.alloc _
  have HM6:Hid (dE W6 gT 0 ts/\gT<W6.heap.size/\w2.heap.size<=gT/\gT≠gL):=⟨fun i hi=>(HM.out.1 i hi).same fun o=>HOa.cell (b:=gT) (o:=o) HM.out.2.1 (by have:=HM.out.2.2.1;omega),Vy HM.out.2.1 HOa.size,HM.out.2.2⟩;have HX6:Hid (uA W6 R w5.heap.size z a b r c d s):=by show uA _ _ _ _ _ _ _ _ _ _;rw[YN];exact Fh Xo.lt _ _ _ _ _ _ _ _
  obtain⟨q,hq⟩:∃q,Si rs ts z ⟨a,b,r,c,d,s⟩=q:=⟨_,rfl⟩;have HA:=fe (Ia XP XU rs gT cT ts z ⟨a,b,r,c,d,s⟩ W6 hlen (HS.out _ XD.out) HG.out.2.1 HG.out.2.2 (by omega) hcT HM6.out.2.1 HM6.out.1 HTS.out.fits (Tp.short.fits (t:=⟨a,b,r,c,d,s⟩) HT.out));rw[hq]at HA;clear ht Xo Xn HOa HL5 HL HR HO;obtain⟨-,-,-,d0,d1,d2,d3,d4,d5,d6⟩:=HX6.out;go_wp2_with fail;rw[<-YN];clear YN;refine HA.out.mono ?_;rintro e w7 ⟨v7,rfl,Xz,YL,hz7⟩;have HR7:=fe (Yv.out.below YL);have YD:=fe (XD.out.below YL);have HL7:=fe (HL6.out.kept (Only.of_below YL (R:=R)) (.inr fun e=>by have:=(HL6.out.lt R e).1;omega));have HM7:Hid (dE w7 gT 0 ts/\gT<w7.heap.size/\w2.heap.size<=gT/\gT≠gL):=⟨fun i hi=>(HM6.out.1 i hi).same fun o=>YL.cell (p:=⟨gT,o,none⟩) HM6.out.2.1,Vy HM6.out.2.1 YL.size,HM6.out.2.2⟩;have HX7:=fe (HX6.out.only (Only.of_below YL));clear d0 d1 d2 d3 d4 d5 d6;by_cases hq0:q=0
  case' pos =>
   obtain⟨gN,cN,rfl⟩:=hz7 hq0;have HN:=fe (QV (hq.trans hq0));subst hq0;have Zj:=RV (ts:=Nu rs ts z ⟨a,b,r,c,d,s⟩) Xz rfl;rw[show dE w7 gN 0 (Nu rs ts z ⟨a,b,r,c,d,s⟩)=dE w7 gN 0 (bn ts z ⟨a,b,r,c,d,s⟩) by rw[HN.out]]at Zj;have HU:Hid (∃tN:List Tp,tN.length+(k-1)<=11/\tN.length<=cN/\p8 tN/\(Nu rs ts z ⟨a,b,r,c,d,s⟩).length=tN.length/\dE w7 gN 0 tN/\gN<w7.heap.size/\w2.heap.size<=gN/\gN≠gL):=by
    have hsz6:=XD.out.size;have hgL:=(HL6.out.lt gL rfl).2;have hbs:=Zj.2.2.2;refine⟨bn ts z ⟨a,b,r,c,d,s⟩,by have:=NG ts z ⟨a,b,r,c,d,s⟩;omega,?_,Kr HTS.out HT.out,by rw[HN.out],Zj.1,Zj.2.1,by omega,by omega⟩;have:=Zj.2.2.1;rwa [HN.out]at this
   clear Zj;have hq2:((0:Int) != 0)=false:=by simp
   have hq3:((0:Int)==0)=true:=by simp
   clear hq Xz YL hz7 HA HM6 HL6 Yv XD HX6
  case' neg =>
   have hq2:(q != 0)=true:=by simpa using hq0
   have hq3:(q==0)=false:=by simpa using hq0
   obtain⟨ad7,cap7,rfl,-,-⟩:=KJ Xz rfl;clear hq Xz YL hz7 HA HM6 HL6 Yv XD HX6;go_wp2_with fail;refine(ib R ad len cap 30 _ HR7.out (by omega) (by omega)).mono ?_;rintro e w8 ⟨⟨q1,rfl⟩,hR8,hO8⟩;replace HR7:=fe hR8;replace YD:=fe (YD.out.trans hO8);replace HL7:=fe (HL7.out.kept hO8 (.inr fun e=>by have:=(HL7.out.lt R e).1;omega));replace HM7:Hid (dE w8 gT 0 ts/\gT<w8.heap.size/\w2.heap.size<=gT/\gT≠gL):=⟨fun i hi=>(HM7.out.1 i hi).same fun o=>hO8.cell (b:=gT) (o:=o) HM7.out.2.1 (by have:=HM7.out.2.2.1;omega),Vy HM7.out.2.1 hO8.size,HM7.out.2.2⟩;replace HX7:=fe (HX7.out.only hO8);clear hR8 hO8;cases q1
   case' false =>
    go_wp2;go_roundw;case rel=>exact⟨k-1,cs,gL,cL,ts,gT,cT,by rw[hkm],rfl,rfl,by omega,by omega,hcT,HCS,HTS,HL7,HM7,HR7,YD⟩
    simp[intOf];omega
   have HU:Hid (∃tN:List Tp,tN.length+(k-1)<=11/\tN.length<=cT/\p8 tN/\ts.length=tN.length/\dE w8 gT 0 tN/\gT<w8.heap.size/\w2.heap.size<=gT/\gT≠gL):=⟨ts,by omega,hcT,HTS.out,rfl,HM7.out.1,HM7.out.2⟩;obtain⟨gN,cN,hgN,hcN⟩:∃gN cN,gN=gT/\cN=cT:=⟨_,_,rfl,rfl⟩;clear HM7 hcT HM;subst hgN;subst hcN;obtain⟨w7,hw7⟩:∃w7,w7=w8:=⟨_,rfl⟩;rw[<-hw7]at HR7 YD HL7 HU HX7 ⊢;clear hw7
  all_goals
   obtain⟨-,-,-,d0,d1,d2,d3,d4,d5,d6⟩:=HX7.out;obtain⟨W9,Y6⟩:∃W9,W9=w7.alloc (.cells #[.int .i64 z,.string a,.string b,.string r,.string c,.string d,.string s] 31):=⟨_,rfl⟩;have HW9:Hid (W9.ownsRow w2.heap.size 31 7 (.slice (some ⟨gL,0,none⟩) cs.length cL) cs.length (jO cs)):=by show World.ownsRow _ _ _ _ _ _ _;rw[Y6];exact HL7.out.alloc _
   have HN9:Hid (∀j u,(oO (z,⟨a,b,r,c,d,s⟩))[j]?=some u->W9.cell? ((⟨w7.heap.size,0,none⟩:Addr).add j)=some u):=by rw[Y6];exact Vi w7 (z,⟨a,b,r,c,d,s⟩)
   have HO9:Hid (Only R w2 W9):=by show Only _ _ _;rw[Y6];exact YD.out.alloc _
   have HO79:Hid (Only R w7 W9):=by show Only _ _ _;rw[Y6];exact(Only.refl _ _).alloc _
   have HR9:Hid (Rd W9 R ad len cap):=by show Rd _ _ _ _ _;rw[Y6];exact HR7.out.alloc _
   have hsz9:w2.heap.size<=W9.heap.size:=HO9.out.size;clear HL7 HR7 YD HX7;go_wp2_with(at_builtin;rw[<-Y6];clear Y6;refine wpList_append_own_at _ rfl _ _ 44 rfl w2.heap.size 31 iC (.agg #[.int .i64 0,.string ⟨#[]⟩,.string ⟨#[]⟩,.string ⟨#[]⟩,.string ⟨#[]⟩,.string ⟨#[]⟩,.string ⟨#[]⟩]) 7 104 underlying44 HIC.out.1 HIC.out.2.1 HIC.out.2.2.1 HIC.out.2.2.2 rfl (by decide) _ cs.length (jO cs) rfl HW9.out ⟨w7.heap.size,0,none⟩ 1 1 (oO (z,⟨a,b,r,c,d,s⟩)) rfl rfl HN9.out (by simp[oO,Tp.row,Value.oneCell']) (by unfold maxLen;omega) (by omega) hsz9 ?_);intro v' w10 hown hgr _ hat;obtain⟨tN,n1,n2,n3,n4,n5,n6,n7,n8⟩:=HU.out;have HLX:Hid (w10.ownsRow w2.heap.size 31 7 v' (cs++[((z,⟨a,b,r,c,d,s⟩):Int×Tp)]).length (jO (cs++[((z,⟨a,b,r,c,d,s⟩):Int×Tp)]))):=by
    show World.ownsRow _ _ _ _ _ _ _;rw[VI,Kq];exact hown
   have hrow:∀g,(Value.slice (some ⟨gL,0,none⟩) cs.length cL).ownBlock=some g->w2.heap.size<=g:=fun g e=>(HW9.out.lt g e).1;have ZO:Hid (Rd w10 R ad len cap):=HR9.out.grown hgr (fun e=>by have:=hrow R e.symm;omega) (fun h0 b off e e2=>by have:=HFAR.out h0 b off e;have:=hrow b e2.symm;omega);have HOX:Hid (Only R w2 w10):=HO9.out.grownNew hgr fun g e=>hrow g e;have HCX:Hid (∀y∈cs++[(z,(⟨a,b,r,c,d,s⟩:Tp))],y.2.short):=fun y hy=>by
    rcases VL.1 hy with h|h
    ·exact HCS.out y h
    obtain rfl:=VK.1 h;exact HT.out
   have hgl:some gN≠(Value.slice (some ⟨gL,0,none⟩) cs.length cL).ownBlock:=fun(e:some gN=some gL)=>n8 (Option.some.inj e);obtain⟨g3,c3,rfl⟩:=QU HLX.out (by simp);have hg3:g3=gL\/g3=W9.heap.size:=by
    rcases hat with e|e
    ·exact .inl (Option.some.inj (show some g3=some gL from e))
    exact .inr (Option.some.inj (show some g3=some W9.heap.size from e))
   have HMX:Hid (dE w10 gN 0 tN/\gN<w10.heap.size/\w2.heap.size<=gN/\gN≠g3):=by
    have:=HO79.out.size;refine⟨fun i hi=>?_,Vy (Vy n6 HO79.out.size) hgr.size,n7,by omega⟩;obtain⟨x0,x1,x2,x3,x4,x5⟩:=(n5 i hi).same fun o=>HO79.out.cell (b:=gN) (o:=o) n6 (by omega);exact⟨hgr.cell x0 hgl,hgr.cell x1 hgl,hgr.cell x2 hgl,hgr.cell x3 hgl,hgr.cell x4 hgl,hgr.cell x5 hgl⟩
   have HTX:=fe n3;have HN4:=fe n4;have hcX:(cs++[(z,(⟨a,b,r,c,d,s⟩:Tp))]).length+(k-1)<=11:=by simp;omega
   clear hown hgr hrow hat hgl hg3 HW9 HN9 HO9 HO79 HR9 HU d0 d1 d2 d3 d4 d5 d6 n3 n4 n5 n6 n7 n8;obtain⟨cX,hcX2⟩:∃cX,cX=cs++[(z,(⟨a,b,r,c,d,s⟩:Tp))]:=⟨_,rfl⟩;rw[<-hcX2]at HLX HCX hcX ⊢;clear hcX2;go_wp2;go_roundw;case rel=>exact⟨k-1,cX,g3,c3,tN,gN,cN,by rw[hkm],rfl,by rw[HN4.out],hcX,n1,n2,HCX,HTX,HLX,HMX,ZO,HOX⟩
   simp[intOf];omega
 obtain rfl:k=0:=by omega
 go_wp2_with fail;refine(E9 R ad len cap 0 cs.length _ HR.out (by omega) (by omega) (by omega)).mono ?_;rintro e w5 ⟨⟨n,rfl⟩,-,Xn⟩;have hO:=HO.out.trans Xn;have HP:Hid (Vj w (.returned (.tuple #[.slice XP rs.length XU,.slice (some ⟨gL,0,none⟩) cs.length cL,.int .i64 n])) w5):=⟨_,rs,gL,cL,cs,n,rfl,Xf.lower (HT2.out.only hb hO) (WS hsz),HG.out,by omega,HCS.out,fT (HL.out.kept Xn (.inr fun e=>by have:=(HL.out.lt R e).1;omega)) (by omega),Only.toBelow HB2.out hO HB2.out.size (by omega)⟩;clear hO Xn HM HL HR HO;go_wp2;exact bodyPost_ret (v:=.tuple #[.slice XP rs.length XU,.slice (some ⟨gL,0,none⟩) cs.length cL,.int .i64 n]) (by simp[results,Tryz.results45,go_sem, *]) rfl HP.out
open Maps
set_option linter.unusedSectionVars false
section
variable  [DecidableEq Fc]
def Ik(L0:Q04)(w:World)(e:Ending)(w':World):Prop:=(∃(L:Q04) (v:Value),e=.returned v/\L.Perm L0/\L.Pairwise (fun x y=>Op.bytesLess (RZ y) (RZ x)=false)/\w'.ownsRow w.heap.size 43 5 v L.length (fF L))/\af w w'
theorem Ch(st:Q00)(ad:Q02)(cap:Nat)(rs:Q06)(WY:Q02)(cap':Nat)(ts:Q05)(w:ae)(hlen:rs.length<=1048576)(hs:jP w ad rs)(hl:∀r∈rs,r.light)(hfr:∀r∈rs,r.fits)(hcp:∀r∈rs,r.caps)(hlt:ts.length<=1048576)(hst:Sl w WY ts)(hft:∀x∈ts,x.fits)(hle:ak (ag rs)=true->Least (ag rs) st):
  Calls prog 12 #[.slice ad rs.length cap,.slice WY ts.length cap'] w (Ik (ed st rs ts) w):=by
 have HC:=aD (Bv (kK rs) ad cap rs WY cap' ts w hlen hs hl hfr (pQ ad cap rs w hlen hs hl hfr hcp) (fun h t ht=>NF h ht) hlt hst hft);have HS:=aD hs;have Xd:=aD hft;have YJ:=aD hfr;have XM:=aD hle;clear hs hl hfr hcp hst hft hle;go_enter func12,ntmps12;go_wp2_with fail;refine HC.out.mono ?_;rintro e w1 ⟨hb1,⟨hr,rfl⟩|⟨hr,D,br,bp,bt,nr,np,Mr,Mp,vo,vu,f,rfl,hbt,hLf,Yi⟩⟩
 ·have HP:Hid (Ik (ed st rs ts) w (.returned (.slice none 0 0)) w1):=⟨⟨[],_,rfl,by rw[xD hr],List.Pairwise.nil,World.ownsRow_nil _ _ _ _⟩,hb1⟩;clear hb1 HC hr;go_wp2;go_ret;exact HP.out
 have hsd:ak (ag rs)=true/\ts.length<=40:=by
  unfold bC dZ at hr;simp only[VF,VM]at hr;exact⟨hr.1.1,hr.1.2.1⟩
 obtain⟨hsd,ht40⟩:=hsd;have hSP:=bz.1 hsd;obtain⟨h6,YH,-⟩:=bu hSP.1;have hE36:=zf h6 YH;have hfk:∀k∈av (ag rs),f k+1<=(av (ag rs)).length:=fun k hk=>by
  obtain⟨g,hg,hb⟩:=hLf.sol.few (mi hSP.2.1);have h1:=hLf.low k hk g hg;have h2:=hb k hk;omega
 have hc0:0<=jI (eG f rs):=(Fw (eG f rs) 0).1;have hcl:jI (eG f rs)<=(av (ag rs)).length:=Ld _ _ _ (by omega) fun x hx=>by
  obtain⟨k,hk,e,-⟩:=Ux hx;rw[e];exact hfk k hk
 obtain⟨N,hN⟩:∃N:Nat,jI (eG f rs)=N:=⟨(jI (eG f rs)).toNat,by omega⟩;have hkN:∀k∈av (ag rs),f k<(N:Int):=fun k hk=>by
  obtain⟨x,hx,e⟩:=Sy (f:=f) hk;have h2:=(Fw (eG f rs) 0).2 x hx;have h3:x.1.2+1<=jI (eG f rs):=h2;rw[e,hN]at h3;omega
 have hLs:mW (ag rs) ts f (iJ ts) (fo ts) N=ed st rs ts:=by
  rw[uD hr];unfold rE;rw[<-xy (fun k hk=>hLf.same (XM.out hsd) k hk)];exact(L8 hkN _ (by omega)).symm
 rw [hN]at Yi;have Ya:=aD (NE w1 rs ad D br bp bt N nr Mr f ts (iJ ts) (fo ts) np Mp vo vu Yi (HS.out.below hb1) (by omega) (by have:=oM ts;omega) (by have:=mR ts;omega) hE36 (fun k=>by
  have:(G.lookL (eG f rs) k).length<=(eG f rs).length:=WM _ _;rw[Sz]at this;omega) hSP.1 Xd.out (by omega) (uC Xd.out) (rG Xd.out) (DW YJ.out))
 rw[hLs]at Ya;have hGO:=rF f rs ts (iJ ts) (fo ts) N;rw[hLs]at hGO;have HB1:=aD hb1;have hll:=hGO.len (by have:=oM ts;omega) hE36 (by have:=mR ts;omega);have HFF:Hid (∀x∈ed st rs ts,x.fits):=fun x hx=>by
  have h1:=hGO.sub x hx;unfold Hu at h1;obtain⟨o,ho,h1⟩:=VZ.1 h1;obtain⟨k,hk,h1⟩:=VZ.1 h1;obtain⟨u,hu,rfl⟩:=VQ.1 h1;exact⟨(uC Xd.out o ho).1,(uC Xd.out o ho).2,DW YJ.out k hk,(rG Xd.out u hu).1,(rG Xd.out u hu).2⟩
 obtain⟨L0,hL0⟩:∃L0,L0=ed st rs ts:=⟨_,rfl⟩;rw[<-hL0]at Ya hll HFF;have HL0:=aD hL0;clear HC hb1 Yi hLf hfk hc0 hcl hN hkN hLs hGO hSP hsd h6 YH hE36 hr hbt hL0;go_wp2_with fail;refine Ya.out.mono ?_;rintro e w2 ⟨⟨v,rfl,hown⟩,hb2⟩;have HB2:=aD (HB1.out.trans (hb2.mono HB1.out.size));have WV:=aD (lG hown HB1.out.size);clear Ya hown hb2 HB1;cases L0 with
 | nil =>
  obtain⟨adF,X8,rfl,-⟩:=sQ WV.out;have HSN:=aD (Nb adF X8 (.func (.func 44) #[] #[]) w2);have HP:Hid (Ik [] w (.returned (.slice adF 0 X8)) w2):=⟨⟨[],_,rfl,List.Perm.refl _,List.Pairwise.nil,WV.out⟩,HB2.out⟩;clear WV HB2;go_wp2_with fail;refine HSN.out.mono ?_;rintro e w3 ⟨rfl,rfl⟩;go_wp2;go_ret;rw[<-HL0.out];exact HP.out
 | cons x0 xs0 =>
  obtain⟨L1,hL1⟩:∃L1,L1=x0::xs0:=⟨_,rfl⟩;obtain⟨g,X8,rfl⟩:=ownsRow_succ (k:=xs0.length) WV.out;have hgl:=(WV.out.lt g rfl).1;have HSF:=aD (Na w.heap.size g X8 (x0::xs0) w2 HFF.out WV.out (by simp) (by omega));rw[<-hL1]at HSF;have hlL:xs0.length+1=L1.length:=by rw[hL1];rfl
  rw[<-hL1]at HL0;rw[hlL];clear WV HFF hll hL1 hlL;go_wp2_with fail;refine HSF.out.mono ?_;rintro e w3 ⟨rfl,ys,hp,hso,hrow,hcg⟩;have HP:Hid (Ik L1 w (.returned (.slice (some ⟨g,0,none⟩) L1.length X8)) w3):=⟨⟨ys,_,rfl,hp,hso,by rw[hp.length_eq];exact hrow⟩,HB2.out.trans (hcg.below (fun k hk=>by rw[hk];exact hgl) HB2.out.size)⟩;clear hp hso hrow hcg HB2 HSF;go_wp2;go_ret;rw[<-HL0.out];exact HP.out
end
section
variable  [DecidableEq Fc]
end
section
variable  [DecidableEq Fc]
theorem Ci(st:Q00)(ad:Q02)(cap:Nat)(rs:Q06)(WY:Q02)(cap':Nat)(ts:Q05)(f:Fc)(w:ae)(hlen:rs.length<=1048576)(hs:jP w ad rs)(hl:∀r∈rs,r.light)(hfr:∀r∈rs,r.fits)(hlt:ts.length<=1048576)(hst:Sl w WY ts)(hft:∀x∈ts,x.fits)(hle:ak (ag rs)=true->Least (ag rs) st):
  Calls prog 49 #[.slice ad rs.length cap,.slice WY ts.length cap',.agg #[.string f.a,.string f.b,.string f.r,.string f.c,.string f.d]] w fun e w'=>e=.returned (.bool (bR (ed st rs ts) f))/\af w w':=by
 obtain⟨W0,hW0⟩:∃W0,W0=w.alloc (.cells #[.string f.a,.string f.b,.string f.r,.string f.c,.string f.d] 43):=⟨_,rfl⟩;have HB0:=oQ hW0;have hbx:sK W0 w.heap.size f:=by rw[hW0];exact World.alloc_heap_new w _
 have Yl:=aD hbx;have hLl:=BH st (rs:=rs) (ts:=ts);have HRC:Hid (∀W':World,af W0 W'->Calls prog 68 #[.slice ad rs.length cap,.slice WY ts.length cap'] W' fun e w'=>e=.returned (.bool (bC (kK rs) rs ts))/\af W' w'):=fun W' h=>by
  have hb:=HB0.out.trans (h.mono HB0.out.size);exact Ig ad cap rs WY cap' ts W' hlen (hs.below hb) hl hfr hlt (hst.below hb) hft
 have HAC:Hid (bC (kK rs) rs ts=true->∀W':World,af W0 W'->Calls prog 71 #[.slice ad rs.length cap,.slice WY ts.length cap'] W' fun e w'=>(∃v,e=.returned v/\w'.ownsRow W'.heap.size 43 5 v (ed st rs ts).length (fF (ed st rs ts)))/\af W' w'):=fun hr W' h=>by
  have hb:=HB0.out.trans (h.mono HB0.out.size);have hsd:ak (ag rs)=true/\ts.length<=40:=by
   unfold bC dZ at hr;simp only[VF,VM]at hr;exact⟨hr.1.1,hr.1.2.1⟩
  have:=Ns st ad cap rs WY cap' ts W' (bz.1 hsd.1) (hle hsd.1) (hs.below hb) hl hsd.2 (hst.below hb);rw[<-uD hr]at this;exact this
 clear hs hl hfr hst hft hle hbx;go_enter func49,ntmps49;go_wp2_with fail;rw[<-hW0];clear hW0;cases hr:bC (kK rs) rs ts;case true=>
  have HA:=aD (HAC.out hr);rw[hr]at HRC;obtain⟨c0,c1,c2,c3,c4,cl⟩:=Yl.out.c;obtain⟨L,Zp⟩:∃L,L=ed st rs ts:=⟨_,rfl⟩;rw[<-Zp]at HA hLl;have XM:=aD Zp;clear HAC hr Zp
  go_region_held3 (fun w'=>w'.cell? ⟨w.heap.size,0,none⟩=some (.string f.a)/\w'.cell? ⟨w.heap.size,1,none⟩=some (.string f.b)/\w'.cell? ⟨w.heap.size,2,none⟩=some (.string f.r)/\w'.cell? ⟨w.heap.size,3,none⟩=some (.string f.c)/\w'.cell? ⟨w.heap.size,4,none⟩=some (.string f.d)/\af W0 w')
   (first|assumption|exact Fx (by assumption) hbx|exact⟨c0,c1,c2,c3,c4,(VD _ _).drew⟩)
   (first|(go_at_call 68;refine(HRC.out _ (And.right (And.right (And.right (And.right (And.right (by assumption))))))).mono ?_;rintro e w' ⟨rfl,hbx⟩)|(go_at_call 71;refine(HA.out _ (And.right (And.right (And.right (And.right (And.right (by assumption))))))).mono ?_;rintro e w' ⟨⟨v,rfl,hown⟩,hbx⟩;obtain⟨adL,Y3,rfl,hsl⟩:=sQ hown)|(go_at_call 72;refine(oq adL Y3 L f _ (by omega) (by first|exact hsl|exact hsl.below (VD _ _))).mono ?_;rintro e w'' ⟨rfl,hbx⟩))
  rename_i hJ;have HG:=aD (HB0.out.trans (hJ.2.2.2.2.2.mono HB0.out.size));clear hJ hown hsl c0 c1 c2 c3 c4 HB0;go_wp2;go_ret;exact⟨by rw[XM.out];rfl,HG.out⟩
 rw[hr]at HRC;have HN:Hid (bR (ed st rs ts) f=false):=by show _=_;rw[xD hr];rfl
 clear HAC hr;refine cZ 10 (fun n=>(undef::undef::undef::undef::undef::undef::undef::undef::undef::undef::[]).getD n undef) (fun fq=>{ tmps:=List.toArray (Value.slice ad rs.length cap::.slice WY ts.length cap'::.agg #[.string f.a,.string f.b,.string f.r,.string f.c,.string f.d]::undef::undef::.pointer (some ⟨w.heap.size,0,none⟩)::.bool false::fq 0::fq 1::fq 2::fq 3::fq 4::fq 5::fq 6::fq 7::fq 8::fq 9::[]),defers:=[] }) (fun n v _=>v=(Value.slice ad rs.length cap::.slice WY ts.length cap'::.bool false::.bool false::undef::undef::undef::undef::undef::.bool false::[]).getD n undef) (fun w'=>af W0 w') (by kernel_rfl) rfl (by kernel_rfl) (by kernel_rfl) rfl (VD _ _).drew ?fO ?finF;case fO =>
  rintro i hi o ho fq w' hG hpre;have HG:Hid (af W0 w'):=hG;have HM:Hid (∀e∈o.after,Region.binds .any e=true->_):=hpre;clear hG hpre;have hc:=Fy (i:=i) (by omega);clear hi
  repeat' rcases hc with rfl|hc
  iterate 2
   ·cases ho;have hm:=HM.out
    try simp[Region.binds]at hm
    clear HM;refine wpOp_step rfl (fun K hK=>?_);have HK:Hid (∀a w,_->K a w):=hK;clear hK;go_simp;exact HK.out _ _ ⟨_,by simp[upd, *],HG.out,rfl,fun k u hu=>hu⟩
  ·cases ho;have e0:fq 0=.slice ad rs.length cap:=HM.out ⟨0,.data⟩ (by simp) rfl;have e1:fq 1=.slice WY ts.length cap':=HM.out ⟨1,.data⟩ (by simp) rfl;clear HM;refine wpOp_step rfl (fun K hK=>?_);have HK:Hid (∀a w,_->K a w):=hK;clear hK;simp only[e0,e1];go_simp;refine(HRC.out _ HG.out).mono ?_;rintro e w9 ⟨rfl,hb9⟩;have HG9:=kL HG hb9;clear hb9;go_wp2_with fail;exact HK.out _ _ ⟨Value.bool false,by simp[upd,e0,e1],HG9.out,rfl,fun k u hu=>hu⟩
  iterate 7
   ·cases ho;have hm:=HM.out
    try simp[Region.binds]at hm
    clear HM;refine wpOp_step rfl (fun K hK=>?_);have HK:Hid (∀a w,_->K a w):=hK;clear hK
    try simp only[hm]
    go_simp;exact HK.out _ _ ⟨_,by simp[upd, *],HG.out,rfl,fun k u hu=>hu⟩
 case finF =>
  rintro o ho fq w' hG hall;have e9:fq 9=.bool false:=hall 9 (by omega);have HG:Hid (af W0 w'):=hG;clear hG hall;cases ho;refine wpOp_step rfl (fun K hK=>?_);have HK:Hid (∀a w,_->K a w):=hK;clear hK;simp only[e9];go_simp;refine HK.out _ _ ?_;clear HK;go_wp2;go_ret;exact⟨by rw[HN.out];rfl,HB0.out.trans (HG.out.mono HB0.out.size)⟩
end
theorem DY(x y:Fc):wR x y=wR y x:=by rw[VV,vv,vv];exact⟨Eq.symm,Eq.symm⟩
theorem NH{x y:Q04}(h:x.Perm y)(f:Fc):bR x f=bR y f:=by rw[VV,iX,iX];exact h.mem_iff
theorem Il(ad:Q02)(cap:Nat)(ts:Q04)(t:Fc)(w:ae)(hlen:ts.length<=1048576)(hs:BU w ad ts):
  Calls prog 96 #[.slice ad ts.length cap,.agg #[.string t.a,.string t.b,.string t.r,.string t.c,.string t.d]] w fun e w'=>(∃r:Int,e=.returned (.int .i64 r)/\decide (0<=r)=bR ts t)/\af w w':=by
 have HS:=aD hs;clear hs;obtain⟨W0,hW0⟩:∃W0,W0=w.alloc (.cells #[.string t.a,.string t.b,.string t.r,.string t.c,.string t.d] 43):=⟨_,rfl⟩;have HB0:=oQ hW0;have HX0:Hid (sK W0 w.heap.size t):=by show sK _ _ _;rw[hW0];exact World.alloc_heap_new w _
 go_enter func96,ntmps96;go_wp2_with fail;rw[<-hW0];clear hW0;go_loopw[8] (fun i wr=>∃k:Nat,k<=ts.length/\i=.int .i64 k/\Hid (bR (ts.drop k) t=bR ts t)/\Hid (af W0 wr)) (fun i _=>ts.length-(intOf i).toNat);case atStart=>exact⟨0,VG _,rfl,rfl,VD _ _⟩
 obtain⟨k,hk,rfl,HP,HB⟩:=hrel;have WZ:Hid (af w wr):=HB0.out.trans (HB.out.mono HB0.out.size);by_cases hlt:k<ts.length
 ·obtain⟨b,off,Xb,⟨t0,t1,t2,t3,t4⟩,hb⟩:=BU.at0 (HS.out.below WZ.out) hlt;obtain⟨x0,x1,x2,x3,x4,xl⟩:=(HX0.out.bel HB.out).c;have hk1:=bq k;have hk2:(k:Int)<(ts.length:Int):=by omega
  have HD:Hid (bR ts t=(wR ts[k] t || bR (ts.drop (k+1)) t)):=by show _=_;rw[<-HP.out];exact CZ hlt
  subst Xb;cases hq:wR ts[k] t;case true=>
   have heq:=Ew t ts[k] (v:=true) (by rw[DY];exact hq);have HN:Hid (bR ts t=true):=by show _=_;rw[HD.out,hq];rfl
   clear hq;go_wp2_with fail;go_quiet (fail);clear t0 t1 t2 t3 t4 x0 x1 x2 x3 x4 heq;go_wp2;go_ret;exact⟨⟨k,rfl,by rw[HN.out];simp⟩,below_drewN WZ.out _⟩
  have heq:=Ew t ts[k] (v:=false) (by rw[DY];exact hq);have Xa:Hid (bR (ts.drop (k+1)) t=bR ts t):=by show _=_;rw[HD.out,hq];rfl
  clear hq;go_wp2_with fail;go_quiet (fail);clear t0 t1 t2 t3 t4 x0 x1 x2 x3 x4 heq;go_wp2;go_roundw;case rel=>exact⟨k+1,by omega,by go_num,Xa,below_drewN HB.out _⟩
  simp[intOf]<;>omega
 have HN:Hid (bR ts t=false):=by show _=_;rw[<-HP.out,VW (by omega)];rfl
 go_wp2;go_ret;exact⟨⟨-1,rfl,by rw[HN.out];simp⟩,WZ.out⟩
theorem BI(ad:Q02)(cap:Nat)(ts:Q04)(t:Fc)(w:ae)(hlen:ts.length<=1048576)(hs:BU w ad ts):
  Calls prog 53 #[.slice ad ts.length cap,.agg #[.string t.a,.string t.b,.string t.r,.string t.c,.string t.d]] w fun e w'=>e=.returned (.bool (bR ts t))/\af w w':=by
 obtain⟨W0,hW0⟩:∃W0,W0=w.alloc (.cells #[.string t.a,.string t.b,.string t.r,.string t.c,.string t.d] 43):=⟨_,rfl⟩;have HB0:=oQ hW0;have HC:=aD (Il ad cap ts t W0 hlen (hs.below HB0.out));clear hs;go_enter func53,ntmps53;go_wp2_with fail;rw[<-hW0];clear hW0;refine HC.out.mono ?_;rintro e w' ⟨⟨r,rfl,hr⟩,hbx⟩;have HR:=aD hr;have Yl:=aD (HB0.out.trans (hbx.mono HB0.out.size));clear hr hbx;go_wp2;go_ret;exact⟨by rw[<-HR.out];rfl,Yl.out⟩
section
variable  [DecidableEq Fc]
theorem tC(st:Q00)(ad:Q02)(cap:Nat)(rs:Q06)(WY:Q02)(cap':Nat)(ts:Q05)(f:Fc)(w:ae)(hlen:rs.length<=1048576)(hs:jP w ad rs)(hl:∀r∈rs,r.light)(hfr:∀r∈rs,r.fits)(hcp:∀r∈rs,r.caps)(hlt:ts.length<=1048576)(hst:Sl w WY ts)(hft:∀x∈ts,x.fits)(hle:ak (ag rs)=true->Least (ag rs) st):
  Calls prog 19 #[.slice ad rs.length cap,.slice WY ts.length cap',.agg #[.string f.a,.string f.b,.string f.r,.string f.c,.string f.d]] w fun e w'=>e=.returned (.bool (bR (ed st rs ts) f))/\af w w':=by
 obtain⟨W0,hW0⟩:∃W0,W0=w.alloc (.cells #[.string f.a,.string f.b,.string f.r,.string f.c,.string f.d] 43):=⟨_,rfl⟩;have HB0:af w W0:=by rw[hW0];exact(VD _ _).alloc (VC _) _
 have hbx:sK W0 w.heap.size f:=by rw[hW0];exact World.alloc_heap_new w _
 obtain⟨c0,c1,c2,c3,c4,cl⟩:=hbx.c;have Xe:Hid (∀W':World,(W'.cell? ⟨w.heap.size,0,none⟩=some (.string f.a)/\W'.cell? ⟨w.heap.size,1,none⟩=some (.string f.b)/\W'.cell? ⟨w.heap.size,2,none⟩=some (.string f.r)/\W'.cell? ⟨w.heap.size,3,none⟩=some (.string f.c)/\W'.cell? ⟨w.heap.size,4,none⟩=some (.string f.d)/\af w W')->Calls prog 12 #[.slice ad rs.length cap,.slice WY ts.length cap'] W' (Ik (ed st rs ts) W')):=fun W' h=>Ch st ad cap rs WY cap' ts W' hlen (hs.below h.2.2.2.2.2) hl hfr hcp hlt (hst.below h.2.2.2.2.2) hft hle;have hLl:=BH st (rs:=rs) (ts:=ts);clear hs hl hfr hcp hst hft hle hbx;go_enter func19,ntmps19;go_wp2_with fail;rw[<-hW0];clear hW0
 go_region_held3 (fun w'=>w'.cell? ⟨w.heap.size,0,none⟩=some (.string f.a)/\w'.cell? ⟨w.heap.size,1,none⟩=some (.string f.b)/\w'.cell? ⟨w.heap.size,2,none⟩=some (.string f.r)/\w'.cell? ⟨w.heap.size,3,none⟩=some (.string f.c)/\w'.cell? ⟨w.heap.size,4,none⟩=some (.string f.d)/\af w w')
  (first|assumption|exact Fx (by assumption) hbx|exact⟨c0,c1,c2,c3,c4,HB0.drew⟩)
  (first|(go_at_call 12;refine(Xe.out _ (by assumption)).mono ?_;rintro e w' ⟨⟨L,v,rfl,hp,-,hown⟩,hbx⟩;obtain⟨adL,Y3,rfl,hsl⟩:=sQ hown;have HLL:Hid (L.length<=1048576):=(by show _<=_;rw[hp.length_eq];exact VJ hLl (by decide)))|(go_at_call 53;refine(BI adL Y3 L f _ HLL.out (by first|exact hsl|exact hsl.below (VD _ _))).mono ?_;rintro e w'' ⟨rfl,hbx⟩))
 rename_i hJ;have HG:=aD hJ.2.2.2.2.2;have HE:=aD (NH hp f);clear hJ hown hsl hp c0 c1 c2 c3 c4;go_wp2;go_ret;exact⟨by rw[HE.out];rfl,HG.out⟩
end
section
variable  [DecidableEq Fc]
end
theorem Fc.short.fits{f:Fc}(h:f.short):f.fits:=by unfold Fc.short at h;unfold Fc.fits maxLen;omega
def Uz(w:World)(R n:Nat):Prop:=n≠R/\n<w.heap.size/\(∀o,w.frozen? ⟨n,o,none⟩=false)/\∀j,j<5->∃u,w.cell? ⟨n,j,none⟩=some u
theorem Uz.only{w w':ae}{R n:Nat}(h:Uz w R n)(hO:Only R w w'):Uz w' R n:=by
 obtain⟨h1,h2,h3,h4⟩:=h;exact⟨h1,Vy h2 hO.size,fun o=>(hO.frozen (o:=o) h2 h1).trans (h3 o),fun j hj=>by obtain⟨u,hu⟩:=h4 j hj;exact⟨u,(hO.cell (b:=n) (o:=j) h2 h1).trans hu⟩⟩
theorem jo{w:ae}{n i j:Nat}{v:Value}(h:i≠j):(w.setCell ⟨n,i,none⟩ v).cell? ⟨n,j,none⟩=w.cell? ⟨n,j,none⟩:=by
 apply World.cell?_setCell_other;intro e;exact h (congrArg Addr.off e)
theorem Uz.set{w:ae}{R n:Nat}(h:Uz w R n)(v0 v1 v2 v3 v4:Value)(W:ae)(hW:W=((((w.setCell ⟨n,0,none⟩ v0).setCell ⟨n,1,none⟩ v1).setCell ⟨n,2,none⟩ v2).setCell ⟨n,3,none⟩ v3).setCell ⟨n,4,none⟩ v4):W.cell? ⟨n,0,none⟩=some v0/\W.cell? ⟨n,1,none⟩=some v1/\W.cell? ⟨n,2,none⟩=some v2/\W.cell? ⟨n,3,none⟩=some v3/\W.cell? ⟨n,4,none⟩=some v4/\Only n w W:=by
 obtain⟨-,-,-,h4⟩:=h;obtain⟨u0,c0⟩:=h4 0 (by omega);obtain⟨u1,c1⟩:=h4 1 (by omega);obtain⟨u2,c2⟩:=h4 2 (by omega);obtain⟨u3,c3⟩:=h4 3 (by omega);obtain⟨u4,c4⟩:=h4 4 (by omega);subst hW;refine⟨?_,?_,?_,?_,?_,((((Only.refl n w).set 0 v0).set 1 v1).set 2 v2).set 3 v3 |>.set 4 v4⟩
 ·rw[jo (by omega),jo (by omega),jo (by omega),jo (by omega)];exact World.cell?_setCell_same _ _ _ c0
 ·rw[jo (by omega),jo (by omega),jo (by omega)];exact World.cell?_setCell_same (u:=u1) _ _ _ (by rw[jo (by omega)];exact c1)
 ·rw[jo (by omega),jo (by omega)];exact World.cell?_setCell_same (u:=u2) _ _ _ (by rw[jo (by omega),jo (by omega)];exact c2)
 ·rw[jo (by omega)];exact World.cell?_setCell_same (u:=u3) _ _ _ (by rw[jo (by omega),jo (by omega),jo (by omega)];exact c3)
 exact World.cell?_setCell_same (u:=u4) _ _ _ (by rw[jo (by omega),jo (by omega),jo (by omega),jo (by omega)];exact c4)
def Vk(w:World)(e:Ending)(w':World):Prop:=∃(v:Value) (rs:Q06) (g c:Nat) (cs:List (Int×Tp)) (n:Int) (f:Fc),e=.returned (.tuple #[v,.slice (some ⟨g,0,none⟩) cs.length c,.int .i64 n,.agg #[.string f.a,.string f.b,.string f.r,.string f.c,.string f.d]])/\iV w' w.heap.size v rs/\GoodS rs/\cs.length<=11/\(∀x∈cs,x.2.short)/\f.fits/\w'.ownsRow w.heap.size 31 7 (.slice (some ⟨g,0,none⟩) cs.length c) cs.length (jO cs)/\af w w'
theorem yP(ad:Q02)(len cap:Nat)(w:ae)(h:Bytes w ad len):
  Calls prog 14 #[.slice ad len cap] w (Vk w):=by
 obtain⟨W0,hW0⟩:∃W0,W0=w.alloc (.cells #[.string ⟨#[]⟩,.string ⟨#[]⟩,.string ⟨#[]⟩,.string ⟨#[]⟩,.string ⟨#[]⟩] 43):=⟨_,rfl⟩;have HB0:=oQ hW0;have hz0:w.heap.size<W0.heap.size:=by rw[hW0];simp
 have H:=fe h;have HD:=fe (xE ad len cap W0 (h.below HB0.out));have YT:Hid (Uz W0 (w.heap.size+1) w.heap.size):=by
  show Uz _ _ _;rw[hW0];refine⟨by omega,by simp,fun o=>by simp,fun j hj=>?_⟩;have hc:j=0\/j=1\/j=2\/j=3\/j=4:=by omega
  rcases hc with rfl|rfl|rfl|rfl|rfl<;>exact⟨_,by simp;rfl⟩
 clear h;go_enter func14,ntmps14;go_wp2_with fail;rw[<-hW0];clear hW0;refine HD.out.mono ?_;rintro e w2 ⟨v,rs,g,c,cs,n,rfl,hT,hG,hl,hsh,hown,hb2⟩;obtain⟨XP,XU,rfl,-,-⟩:=hT.read;have HB2:=kL HB0 hb2;have HS2:=fe (YT.out.only (Only.of_below hb2));have HT2:=fe hT;have WV:=fe hown;have HG:=fe hG;have HSH:=fe hsh;clear hT hG hsh hown hb2 HD YT HB0;go_wp2_with fail;refine(Hd ad len cap _ (H.out.below HB2.out)).mono ?_;rintro e w3 ⟨rfl,Yz,hb3⟩;have HR3:=fe Yz;have HB3:=fe hb3;clear Yz hb3;go_wp2_with fail;refine(Qx w2.heap.size ad len cap _ HR3.out).mono ?_;rintro e w4 ⟨⟨f,rfl,hsf⟩,-,hO4⟩;have hb4:af w2 w4:=Only.toBelow HB3.out hO4 HB3.out.size (VC _);have hS4:=HS2.out.only (Only.of_below hb4);obtain⟨W5,YG⟩:∃W5,W5=((((w4.setCell ⟨w.heap.size,0,none⟩ (.string f.a)).setCell ⟨w.heap.size,1,none⟩ (.string f.b)).setCell ⟨w.heap.size,2,none⟩ (.string f.r)).setCell ⟨w.heap.size,3,none⟩ (.string f.c)).setCell ⟨w.heap.size,4,none⟩ (.string f.d):=⟨_,rfl⟩;have HC5:=fe (hS4.set _ _ _ _ _ W5 YG);have Xt:Hid (Vk w (.returned (.tuple #[.slice XP rs.length XU,.slice (some ⟨g,0,none⟩) cs.length c,.int .i64 n,.agg #[.string f.a,.string f.b,.string f.r,.string f.c,.string f.d]])) W5):=by
  obtain⟨-,-,-,-,-,Xn⟩:=HC5.out;have hB4:af w w4:=HB2.out.trans (hb4.mono HB2.out.size);have ho4:=aJ WV.out hb4;exact⟨_,rs,g,c,cs,n,f,rfl,Xf.lower ((show iV w4 W0.heap.size (.slice XP rs.length XU) rs from Xf.below mU HT2.out hb4).only hz0 Xn) (WS hz0),HG.out,hl,HSH.out,hsf.fits,fT (ho4.kept Xn (.inr fun e=>by have:=(ho4.lt _ e).1;omega)) (WS hz0),Only.toBelow hB4 Xn hB4.size (VC _)⟩
 obtain⟨s1,s2,s3,s4⟩:=hS4;obtain⟨u0,k0⟩:=s4 0 (by omega);obtain⟨u1,k1⟩:=s4 1 (by omega);obtain⟨u2,k2⟩:=s4 2 (by omega);obtain⟨u3,k3⟩:=s4 3 (by omega);obtain⟨u4,k4⟩:=s4 4 (by omega);clear s4 hb4 hO4 hsf HR3 HB3 HS2 HT2 WV HB2;go_wp2;rw[<-YG];clear YG k0 k1 k2 k3 k4 s2 s3;obtain⟨c0,c1,c2,c3,c4,-⟩:=HC5.out;exact bodyPost_ret (v:=.tuple #[.slice XP rs.length XU,.slice (some ⟨g,0,none⟩) cs.length c,.int .i64 n,.agg #[.string f.a,.string f.b,.string f.r,.string f.c,.string f.d]]) (by simp[results,Tryz.results14,go_sem, *]) rfl Xt.out
def Vl(w:World)(r:Option (List Tp))(e:Ending)(w':World):Prop :=
 af w w'/\((r=none/\e=.returned (.tuple #[.slice none 0 0,.bool false])) \/ ∃L v,r=some L/\e=.returned (.tuple #[v,.bool true])/\w'.ownsRow w.heap.size 29 6 v L.length (aF L))
theorem oP(ad:Q02)(cap:Nat)(rs:Q06)(b off cap':Nat)(cs:List (Int×Tp))(n:Int)(w:ae)(hE:Ca w)(hlen:rs.length<=1048576)(hs:jP w ad rs)(hl:∀r∈rs,r.light)(hfr:∀r∈rs,r.fits)(hcp:∀r∈rs,r.caps)(hlc:cs.length<=1048576)(hcap:cs.length<=cap')(hb:b<w.heap.size)(hr:BC w b off cs)(hf:∀c∈cs,c.2.fits):
  Calls prog 17 #[.slice ad rs.length cap,.slice (some ⟨b,off,none⟩) cs.length cap',.int .i64 n] w (Vl w (sJ (iE rs) (ak (ag rs)) cs n)):=by
 have HE:=ay hE;have HS:=ay hs;have HL:=ay hl;have YJ:=ay hfr;have HCP:=ay hcp;have HR:=ay hr;have HF:=ay hf;clear hE hs hl hfr hcp hr hf;go_enter func17,ntmps17;go_wp2_with fail;refine(xB ad cap rs _ hlen HS.out HL.out YJ.out HCP.out).mono ?_;rintro e w1 ⟨he,hb1⟩;have HB1:=ay hb1;clear hb1;cases h1:ak (ag rs);case false=>
  rw[h1]at he;subst he;have HN:Hid (sJ (iE rs) (ak (ag rs)) cs n=none):=by show _=_;rw[h1];unfold sJ;rw[if_neg (by simp)]
  clear h1;go_wp2;exact bodyPost_ret (v:=.tuple #[.slice none 0 0,.bool false]) (by simp[results,Tryz.results17,go_sem]) rfl ⟨HB1.out,.inl ⟨HN.out,rfl⟩⟩
 rw[h1]at he;subst he;have H1:=ay h1;clear h1;by_cases h60:60<cs.length
 ·have hd:decide ((60:Int)<(cs.length:Int))=true:=by simp;omega
  have HN:Hid (sJ (iE rs) (ak (ag rs)) cs n=none):=by show _=_;rw[H1.out];unfold sJ;rw[if_neg (by omega)]
  go_wp2;exact bodyPost_ret (v:=.tuple #[.slice none 0 0,.bool false]) (by simp[results,Tryz.results17,go_sem]) rfl ⟨HB1.out,.inl ⟨HN.out,rfl⟩⟩
 have hd:decide ((60:Int)<(cs.length:Int))=false:=by simp;omega
 by_cases hn0:n<0
 ·have HN:Hid (sJ (iE rs) (ak (ag rs)) cs n=none):=by show _=_;rw[H1.out];unfold sJ;rw[if_neg (by omega)]
  go_wp2;exact bodyPost_ret (v:=.tuple #[.slice none 0 0,.bool false]) (by simp[results,Tryz.results17,go_sem]) rfl ⟨HB1.out,.inl ⟨HN.out,rfl⟩⟩
 have hd0:decide (n<0)=false:=by simp;omega
 by_cases hn1:(cs.length:Int)<n
 ·have HN:Hid (sJ (iE rs) (ak (ag rs)) cs n=none):=by show _=_;rw[H1.out];unfold sJ;rw[if_neg (by omega)]
  go_wp2;exact bodyPost_ret (v:=.tuple #[.slice none 0 0,.bool false]) (by simp[results,Tryz.results17,go_sem]) rfl ⟨HB1.out,.inl ⟨HN.out,rfl⟩⟩
 have hd1:decide ((cs.length:Int)<n)=false:=by simp;omega
 obtain⟨N,rfl⟩:∃N:Nat,n=(N:Int):=⟨n.toNat,by omega⟩;have hNc:N<=cs.length:=by omega
 have HN:Hid (sJ (iE rs) (ak (ag rs)) cs N=jd (iE rs) [] (cs.take N)):=by show _=_;rw[H1.out];unfold sJ;rw[if_pos (by refine⟨rfl,?_,?_,?_⟩<;>omega)];simp
 have hSP:=bz.1 H1.out;obtain⟨h6,YH,-⟩:=bu hSP.1;have HTAB:=ay (uq hSP.1);have HTBL:=ay (qV ad cap rs w1 h6 (HS.out.below HB1.out) YH YJ.out);clear hSP YH h6 h60 hn0 hn1;go_wp2_with fail;refine HTBL.out.mono ?_;rintro e w2 ⟨rfl,hV2,hb2⟩;have HB2:=ay (HB1.out.trans (hb2.mono HB1.out.size));have Zk:=ay hV2;obtain⟨bm,hbm⟩:∃bm,bm=w1.heap.size:=⟨_,rfl⟩;rw[<-hbm]at Zk ⊢;clear hb2 hV2 HTBL hbm;have hNcap:(N:Int)<=(cap':Int):=by omega
 go_wp2;go_loopw[9,38] (fun v i wr=>∃(m:Nat) (ts:Q05) (adv:Q02) (cv:Nat),m<=N/\i=.int .i64 m/\v=.slice adv ts.length cv/\Hid (jd (iE rs) ts ((cs.take N).drop m)=jd (iE rs) [] (cs.take N))/\Hid (wr.ownsRow w.heap.size 29 6 (.slice adv ts.length cv) ts.length (aF ts))/\Hid (af w wr)/\Hid (aN dO prog 151 wr bm 36 (qg rs))/\Hid (Sv wr adv cv ts)/\Hid (Up ts/\(∀x∈ts,x.ok=true)/\ts.length<=40/\∀x∈ts,x.fits)) (fun _ i _=>N-(intOf i).toNat);case atStart=>exact⟨0,[],none,0,VG _,rfl,rfl,rfl,World.ownsRow_nil _ _ _ _,HB2,Zk,.inl ⟨rfl,rfl,rfl⟩,List.Pairwise.nil,by simp,by simp,by simp⟩
 clear HB2 Zk HB1;obtain⟨m,ts,adv,cv,hm,rfl,rfl,Yx,HO,HB,HMV,HSV,HU⟩:=hrel;by_cases hlt:m<N
 ·have hd2:decide ((m:Int)<(N:Int))=true:=by simp;omega
  have hmc:m<cs.length:=by omega
  obtain⟨c0,c1,c2,c3,c4,c5,c6⟩:=HR.out.below HB.out hb m hmc;have hm0:=bq m;have hm1:(m:Int)<(N:Int):=by omega
  have HST:=ay (GG (fit:=iE rs) (ts:=ts) hmc hlt);have HCF:=ay (HF.out _ (Vz hmc));obtain⟨c,hc⟩:∃c,c=cs[m]:=⟨_,rfl⟩;rw[<-hc]at c0 c1 c2 c3 c4 c5 c6 HST HCF;obtain⟨W4,XX⟩:∃W4,W4=wr.alloc (.cells #[.int .i64 c.1,.string c.2.a,.string c.2.b,.string c.2.r,.string c.2.c,.string c.2.d,.string c.2.s] 31):=⟨_,rfl⟩;have XR:=oQ XX;have HX4:Hid (nN W4 wr.heap.size c.1 c.2):=by show nN _ _ _ _;rw[XX];refine⟨?_,?_,?_,?_,?_,?_,?_,?_⟩<;>simp
  have X7:Hid (af w W4):=HB.out.trans (XR.out.mono HB.out.size);have Xe:=ay (yh (.map (some bm)) (iE rs) adv cv ts c.1 c.2 W4 (HE.out.below X7.out) (fun w5 hok hb5=>by
   have hB5:af w w5:=X7.out.trans (hb5.mono X7.out.size);refine(Bf bm 36 rs ad (qg rs) c.2.a c.2.b c.2.r c.2.c c.2.d c.2.s w5 ((HMV.out.below XR.out).below hb5) HTAB.out (HS.out.below hB5) HL.out HCF.out.1 HCF.out.2.2.1).mono ?_;rintro e w6 ⟨rfl,hb6⟩;exact⟨by rw[DU H1.out hok],hb6⟩) HU.out.2.2.1 (HSV.out.below XR.out) HU.out.2.2.2 HU.out.1 HU.out.2.1 HCF.out)
  clear hc;go_wp2_with fail;rw[<-XX];clear XX c0 c1 c2 c3 c4 c5 c6;refine Xe.out.mono ?_;rintro e w5 ⟨hb5,hor⟩;have Yd:=ay (X7.out.trans (hb5.mono X7.out.size));have HMV5:=ay ((HMV.out.below XR.out).below hb5);rcases hor with⟨hz,v,rfl,hown⟩|⟨hz,g,T,u,v,rfl,-⟩
  ·have HR2:=ay (pJ HU.out.1 HU.out.2.1 HU.out.2.2.1 hz);have XW:=ay (BB (k:=c.1) HU.out.2.2.2 HCF.out);have HL2:Hid (jd (iE rs) (bn ts c.1 c.2) ((cs.take N).drop (m+1))=jd (iE rs) [] (cs.take N)):=by show _=_;rw[<-Yx.out,HST.out,if_pos hz]
   have hown2:=fT hown X7.out.size;obtain⟨adn,cn,rfl,hsv⟩:=Fp hown2;have WV:=ay hown2;have HSV2:=ay hsv;clear hown hown2 hsv hb5 Xe hz;go_wp2;go_roundw;case rel=>exact⟨m+1,bn ts c.1 c.2,adn,cn,by omega,by go_num,rfl,HL2,WV,Yd,HMV5,HSV2,HR2.out.1,HR2.out.2.1,HR2.out.2.2,XW.out⟩
   simp[intOf]<;>omega
  have Yr:Hid (sJ (iE rs) (ak (ag rs)) cs N=none):=by show _=_;rw[HN.out,<-Yx.out,HST.out,if_neg hz]
  clear hb5 Xe hz;go_wp2;exact bodyPost_ret (v:=.tuple #[.slice none 0 0,.bool false]) (by simp[results,Tryz.results17,go_sem]) rfl ⟨Yd.out,.inl ⟨Yr.out,rfl⟩⟩
 have hd2:decide ((m:Int)<(N:Int))=false:=by simp;omega
 obtain rfl:m=N:=by omega
 have Yr:Hid (sJ (iE rs) (ak (ag rs)) cs m=some ts):=by show _=_;rw[HN.out,<-Yx.out,List.drop_eq_nil_of_le (by rw[V9];omega)];rfl
 go_wp2;exact bodyPost_ret (v:=.tuple #[.slice adv ts.length cv,.bool true]) (by simp[results,Tryz.results17,go_sem]) rfl ⟨HB.out,.inr ⟨ts,_,Yr.out,rfl,HO.out⟩⟩
theorem Le{fit:Tp->Bool}:∀(cs:List (Int×Tp)) (ts L:Q05),Up ts->(∀x∈ts,x.ok=true)->ts.length<=40->jd fit ts cs=some L->L.length<=40
 | [],ts,L,_,_,hl,h=>by
  unfold jd at h;injection h with h;rw[<-h];exact hl
 | c::cs,ts,L,hu,hok,hl,h=>by
  unfold jd at h;split at h
  ·rename_i hz;obtain⟨h1,h2,h3⟩:=pJ hu hok hl hz;exact Le cs _ _ h1 h2 h3 h
  cases h
def eH(rs:Q06)(cs:List (Int×Tp))(n:Int):List Tp:=(sJ (iE rs) (ak (ag rs)) cs n).getD []
def lH(rs:Q06)(cs:List (Int×Tp))(n:Int):Bool:=(sJ (iE rs) (ak (ag rs)) cs n).isSome
theorem wy(rs:Q06)(cs:List (Int×Tp))(n:Int):(eH rs cs n).length<=40:=by
 unfold eH;cases h:sJ (iE rs) (ak (ag rs)) cs n with
 | none=>simp
 | some L =>
  unfold sJ at h;split at h
  ·exact Le _ [] L List.Pairwise.nil (by simp) (by simp) h
  cases h
theorem Im(ad:Q02)(cap:Nat)(rs:Q06)(WY:Q02)(cap':Nat)(cs:List (Int×Tp))(n:Int)(w:ae)(hlen:rs.length<=1048576)(hs:jP w ad rs)(hl:∀r∈rs,r.light)(hfr:∀r∈rs,r.fits)(hlc:cs.length<=1048576)(hsc:UG w WY cs)(hf:∀c∈cs,c.2.fits):
  Calls prog 48 #[.slice ad rs.length cap,.slice WY cs.length cap',.int .i64 n] w fun e w'=>∃(ad5:Q02) (cap5:Nat),e=.returned (.tuple #[.slice ad5 (eH rs cs n).length cap5,.bool (lH rs cs n)])/\Sl w' ad5 (eH rs cs n)/\af w w':=by
 refine (xA (.slice ad rs.length cap) (iE rs) (ak (ag rs)) WY cap' cs n w hlc hsc hf (fun w1 hb=>iD ad cap rs w1 hlen (hs.below hb) hl hfr)
  (fun t w1 ht hb=>uz ad cap rs t.a t.b t.r t.c t.d t.s w1 hlen (hs.below hb) hl ht.1 ht.2.1 ht.2.2.1 ht.2.2.2.1 ht.2.2.2.2.1 ht.2.2.2.2.2)).mono ?_
 rintro e w' ⟨hb,⟨hr,rfl⟩|⟨L,g,c,hr,rfl,ho⟩⟩
 ·refine⟨none,0,?_,?_,hb⟩
  ·unfold eH lH;rw[hr];rfl
  unfold eH;rw[hr];exact .inl rfl
 obtain⟨hrow,hlt,-⟩:=Br ho;refine⟨some ⟨g,0,none⟩,c,?_,?_,hb⟩
 ·unfold eH lH;rw[hr];rfl
 unfold eH;rw[hr];exact .inr ⟨g,0,rfl,hlt,hrow⟩
theorem Io(ad:Q02)(cap:Nat)(rs:Q06)(b off cap':Nat)(cs:List (Int×Tp))(n:Int)(w:ae)(hE:Ca w)(hlen:rs.length<=1048576)(hs:jP w ad rs)(hl:∀r∈rs,r.light)(hfr:∀r∈rs,r.fits)(hcp:∀r∈rs,r.caps)(hlc:cs.length<=1048576)(hcap:cs.length<=cap')(hb:b<w.heap.size)(hr:BC w b off cs)(hf:∀c∈cs,c.2.fits):
  Calls prog 17 #[.slice ad rs.length cap,.slice (some ⟨b,off,none⟩) cs.length cap',.int .i64 n] w fun e w'=>∃(ad8:Q02) (Yy:Nat),e=.returned (.tuple #[.slice ad8 (eH rs cs n).length Yy,.bool (lH rs cs n)])/\Fa w.heap.size w' ad8 (eH rs cs n)/\af w w':=by
 refine(oP ad cap rs b off cap' cs n w hE hlen hs hl hfr hcp hlc hcap hb hr hf).mono ?_;rintro e w' ⟨hb,⟨hr,rfl⟩|⟨L,v,hr,rfl,ho⟩⟩
 ·refine⟨none,0,?_,?_,hb⟩
  ·unfold eH lH;rw[hr];rfl
  unfold eH;rw[hr];exact Qg rfl
 obtain⟨ad8,Yy,rfl,hO⟩:=Sd ho rfl;refine⟨ad8,Yy,?_,?_,hb⟩
 ·unfold eH lH;rw[hr];rfl
 unfold eH;rw[hr];exact hO
theorem DZ{fit:Tp->Bool}:∀(cs:List (Int×Tp)) (ts L:Q05),(∀x∈ts,x.fits)->(∀c∈cs,c.2.fits)->jd fit ts cs=some L->∀x∈L,x.fits
 | [],ts,L,h1,_,h=>by
  unfold jd at h;injection h with h;rw[<-h];exact h1
 | c::cs,ts,L,h1,h2,h=>by
  unfold jd at h;split at h
  ·refine DZ cs _ L (fun x hx=>?_) (fun d hd=>h2 d (Wv _ hd)) h;unfold bn at hx;split at hx
   ·exact h1 x ((lJ ts c.2 x).1 hx).1
   rcases (mo ts c.2 x).1 hx with rfl|hx
   ·exact h2 c (WB)
   exact h1 x hx
  cases h
theorem pU{rs:Q06}{cs:List (Int×Tp)}{n:Int}(h:∀c∈cs,c.2.fits):∀x∈eH rs cs n,x.fits:=by
 unfold eH;cases e:sJ (iE rs) (ak (ag rs)) cs n with
 | none=>intro x hx;cases hx
 | some L =>
  unfold sJ at e;split at e
  ·exact DZ _ [] L (fun x hx=>by cases hx) (fun c hc=>h c (List.mem_of_mem_take hc)) e
  cases e
section
variable  [DecidableEq Fc]
def Cj(st:Q00)(rs:Q06)(cs:List (Int×Tp))(n:Int)(f:Fc):Bool:=lH rs cs n&&bR (ed st rs (eH rs cs n)) f
theorem yQ(st:Q00)(ad:Q02)(cap:Nat)(rs:Q06)(WY:Q02)(cap':Nat)(cs:List (Int×Tp))(n:Int)(f:Fc)(w:ae)(hlen:rs.length<=1048576)(hs:jP w ad rs)(hl:∀r∈rs,r.light)(hfr:∀r∈rs,r.fits)(hlc:cs.length<=1048576)(hsc:UG w WY cs)(hf:∀c∈cs,c.2.fits)(hle:ak (ag rs)=true->Least (ag rs) st):
  Calls prog 16 #[.slice ad rs.length cap,.slice WY cs.length cap',.int .i64 n,.agg #[.string f.a,.string f.b,.string f.r,.string f.c,.string f.d]] w fun e w'=>e=.returned (.tuple #[.bool (Cj st rs cs n f),.bool (lH rs cs n)])/\af w w':=by
 obtain⟨W0,hW0⟩:∃W0,W0=w.alloc (.cells #[.string f.a,.string f.b,.string f.r,.string f.c,.string f.d] 43):=⟨_,rfl⟩;have HB0:=oQ hW0;have hbx:sK W0 w.heap.size f:=by rw[hW0];exact World.alloc_heap_new w _
 obtain⟨c0,c1,c2,c3,c4,cl⟩:=hbx.c;have HK0:=aD (show W0.cell? ⟨w.heap.size,0,none⟩=some (.string f.a)/\W0.cell? ⟨w.heap.size,1,none⟩=some (.string f.b)/\W0.cell? ⟨w.heap.size,2,none⟩=some (.string f.r)/\W0.cell? ⟨w.heap.size,3,none⟩=some (.string f.c)/\W0.cell? ⟨w.heap.size,4,none⟩=some (.string f.d)/\af w W0 from ⟨c0,c1,c2,c3,c4,HB0.out⟩);have HT:=aD (Im ad cap rs WY cap' cs n W0 hlen (hs.below HB0.out) hl hfr hlc (hsc.below HB0.out) hf);have HCK:Hid (∀(W':World) (ad5:Q02) (cap5:Nat),af w W'->Sl W' ad5 (eH rs cs n)->Calls prog 49 #[.slice ad rs.length cap,.slice ad5 (eH rs cs n).length cap5,.agg #[.string f.a,.string f.b,.string f.r,.string f.c,.string f.d]] W' fun e w'=>e=.returned (.bool (bR (ed st rs (eH rs cs n)) f))/\af W' w'):=fun W' ad5 cap5 hb h5 =>
  Ci st ad cap rs ad5 cap5 (eH rs cs n) f W' hlen (hs.below hb) hl hfr (VJ (wy _ _ _) (by decide)) h5 (pU hf) hle
 obtain⟨L,hL⟩:∃L,eH rs cs n=L:=⟨_,rfl⟩;obtain⟨q,hQ⟩:∃q,lH rs cs n=q:=⟨_,rfl⟩;obtain⟨v,hv⟩:∃v,bR (ed st rs L) f=v:=⟨_,rfl⟩;have HA:Hid (Cj st rs cs n f=(q&&v)):=by show _=_;unfold Cj;rw[hL,hQ,hv]
 rw[HA.out,hQ];rw[hL,hQ]at HT;rw[hL,hv]at HCK;clear hs hl hfr hsc hf hle hL hQ hv HA c0 c1 c2 c3 c4 cl hbx;go_enter func16,ntmps16;go_wp2_with fail;rw[<-hW0];clear hW0;refine HT.out.mono ?_;rintro e w1 ⟨ad5,cap5,rfl,hs5,hb1⟩;have HB1:=kL HB0 hb1;have HS5:=aD hs5;obtain⟨k0,k1,k2,k3,k4,-⟩:=Fx HK0.out hb1;clear hs5 hb1 HT HB0 HK0;cases q;case false=>
  go_wp2;exact bodyPost_ret (v:=.tuple #[.bool false,.bool false]) (by simp[results,Tryz.results16,go_sem]) rfl ⟨rfl,HB1.out⟩
 go_wp2_with fail;refine(HCK.out _ _ _ HB1.out HS5.out).mono ?_;rintro e w2 ⟨rfl,hb2⟩;have HB2:=kL HB1 hb2;clear hb2 k0 k1 k2 k3 k4;go_wp2;exact bodyPost_ret (v:=.tuple #[.bool v,.bool true]) (by simp[results,Tryz.results16,go_sem]) rfl ⟨rfl,HB2.out⟩
theorem p9(st:Q00)(ad:Q02)(cap:Nat)(rs:Q06)(b off cap':Nat)(cs:List (Int×Tp))(n:Int)(f:Fc)(w:ae)(hE:Ca w)(hlen:rs.length<=1048576)(hs:jP w ad rs)(hl:∀r∈rs,r.light)(hfr:∀r∈rs,r.fits)(hcp:∀r∈rs,r.caps)(hlc:cs.length<=1048576)(hcap:cs.length<=cap')(hb:b<w.heap.size)(hr:BC w b off cs)(hf:∀c∈cs,c.2.fits)(hle:ak (ag rs)=true->Least (ag rs) st):
  Calls prog 15 #[.slice ad rs.length cap,.slice (some ⟨b,off,none⟩) cs.length cap',.int .i64 n,.agg #[.string f.a,.string f.b,.string f.r,.string f.c,.string f.d]] w fun e w'=>e=.returned (.tuple #[.bool (Cj st rs cs n f),.bool (lH rs cs n)])/\af w w':=by
 obtain⟨W0,hW0⟩:∃W0,W0=w.alloc (.cells #[.string f.a,.string f.b,.string f.r,.string f.c,.string f.d] 43):=⟨_,rfl⟩;have HB0:=oQ hW0;have hbx:sK W0 w.heap.size f:=by rw[hW0];exact World.alloc_heap_new w _
 obtain⟨c0,c1,c2,c3,c4,cl⟩:=hbx.c;have HK0:=aD (show W0.cell? ⟨w.heap.size,0,none⟩=some (.string f.a)/\W0.cell? ⟨w.heap.size,1,none⟩=some (.string f.b)/\W0.cell? ⟨w.heap.size,2,none⟩=some (.string f.r)/\W0.cell? ⟨w.heap.size,3,none⟩=some (.string f.c)/\W0.cell? ⟨w.heap.size,4,none⟩=some (.string f.d)/\af w W0 from ⟨c0,c1,c2,c3,c4,HB0.out⟩);have HT:=aD (Io ad cap rs b off cap' cs n W0 (hE.below HB0.out) hlen (hs.below HB0.out) hl hfr hcp hlc hcap (Vy hb HB0.out.size) (fun i hi=>(hr i hi).same fun o=>HB0.out.cell (p:=⟨b,o,none⟩) hb) hf);have HCK:Hid (∀(W':World) (ad5:Q02) (cap5:Nat),af w W'->Sl W' ad5 (eH rs cs n)->Calls prog 19 #[.slice ad rs.length cap,.slice ad5 (eH rs cs n).length cap5,.agg #[.string f.a,.string f.b,.string f.r,.string f.c,.string f.d]] W' fun e w'=>e=.returned (.bool (bR (ed st rs (eH rs cs n)) f))/\af W' w'):=fun W' ad5 cap5 hb h5 =>
  tC st ad cap rs ad5 cap5 (eH rs cs n) f W' hlen (hs.below hb) hl hfr hcp (VJ (wy _ _ _) (by decide)) h5 (pU hf) hle
 obtain⟨L,hL⟩:∃L,eH rs cs n=L:=⟨_,rfl⟩;obtain⟨q,hQ⟩:∃q,lH rs cs n=q:=⟨_,rfl⟩;obtain⟨v,hv⟩:∃v,bR (ed st rs L) f=v:=⟨_,rfl⟩;have HA:Hid (Cj st rs cs n f=(q&&v)):=by show _=_;unfold Cj;rw[hL,hQ,hv]
 rw[HA.out,hQ];rw[hL,hQ]at HT;rw[hL,hv]at HCK;clear hs hl hfr hcp hf hle hL hQ hv HA c0 c1 c2 c3 c4 cl hbx hE hr;go_enter func15,ntmps15;go_wp2_with fail;rw[<-hW0];clear hW0;refine HT.out.mono ?_;rintro e w1 ⟨ad5,cap5,rfl,hs5,hb1⟩;have HB1:=kL HB0 hb1;have HS5:=aD hs5.1;obtain⟨k0,k1,k2,k3,k4,-⟩:=Fx HK0.out hb1;clear hs5 hb1 HT HB0 HK0;cases q;case false=>
  go_wp2;exact bodyPost_ret (v:=.tuple #[.bool false,.bool false]) (by simp[results,Tryz.results15,go_sem]) rfl ⟨rfl,HB1.out⟩
 go_wp2_with fail;refine(HCK.out _ _ _ HB1.out HS5.out).mono ?_;rintro e w2 ⟨rfl,hb2⟩;have HB2:=kL HB1 hb2;clear hb2 k0 k1 k2 k3 k4;go_wp2;exact bodyPost_ret (v:=.tuple #[.bool v,.bool true]) (by simp[results,Tryz.results15,go_sem]) rfl ⟨rfl,HB2.out⟩
end
theorem SA{rs:Q06}{ts:Q05}{k:Int}{t:Tp}(h:gu (iE rs) (ak (ag rs)) ts=true):Si rs ts k t=aQ (iE rs) ts k t/\Nu rs ts k t=mI (iE rs) ts k t:=by
 unfold Si Nu sH qh;rw[if_pos h,if_pos h];exact⟨rfl,rfl⟩
theorem Ip{fit:Tp->Bool}(c:Int×Tp):∀(cs:List (Int×Tp)) (ts:Q05),jd fit ts (cs++[c])=(jd fit ts cs).bind fun L=>if aQ fit L c.1 c.2=0 then some (bn L c.1 c.2) else none
 | [],ts=>by
  show(if aQ fit ts c.1 c.2=0 then jd fit (bn ts c.1 c.2) [] else none)=_;rfl
 | x::cs,ts=>by
  show(if aQ fit ts x.1 x.2=0 then jd fit (bn ts x.1 x.2) (cs++[c]) else none)=(if aQ fit ts x.1 x.2=0 then jd fit (bn ts x.1 x.2) cs else none).bind _;split
  ·exact Ip c cs _
  rfl
theorem D5{fit:Tp->Bool}:∀(cs:List (Int×Tp)) (ts L:Q05),Up ts->(∀x∈ts,x.ok=true)->ts.length<=40->(∀x∈ts,fit x=true)->jd fit ts cs=some L->Up L/\(∀x∈L,x.ok=true)/\L.length<=40/\∀x∈L,fit x=true
 | [],ts,L,h1,h2,h3,h4,h=>by
  unfold jd at h;injection h with h;rw[<-h];exact⟨h1,h2,h3,h4⟩
 | c::cs,ts,L,h1,h2,h3,h4,h=>by
  unfold jd at h;split at h
  ·rename_i hz;obtain⟨a1,a2,a3⟩:=pJ h1 h2 h3 hz;exact D5 cs _ _ a1 a2 a3 (ME h4 hz) h
  cases h
theorem zh{rs:Q06}{cs:List (Int×Tp)}{n:Int}(h:lH rs cs n=true):ak (ag rs)=true/\cs.length<=60/\0<=n/\n<=cs.length/\jd (iE rs) [] (cs.take n.toNat)=some (eH rs cs n):=by
 unfold lH at h;unfold eH;cases ha:sJ (iE rs) (ak (ag rs)) cs n with
 | none=>rw[ha]at h;cases h
 | some L =>
  unfold sJ at ha;split at ha
  ·rename_i hc;exact⟨hc.1,hc.2.1,hc.2.2.1,hc.2.2.2,ha⟩
  cases ha
theorem QW{rs:Q06}{cs:List (Int×Tp)}{n:Int}{L:Q05}(h1:ak (ag rs)=true)(h2:cs.length<=60)(h3:0<=n)(h4:n<=cs.length)(h5:jd (iE rs) [] (cs.take n.toNat)=some L):lH rs cs n=true/\eH rs cs n=L:=by
 unfold lH eH sJ;rw[if_pos ⟨h1,h2,h3,h4⟩,h5];exact⟨rfl,rfl⟩
theorem QX{rs:Q06}{cs:List (Int×Tp)}{k:Nat}(h:lH rs cs (k:Int)=true):lH rs (cs.take k) (k:Int)=true/\eH rs (cs.take k) (k:Int)=eH rs cs (k:Int):=by
 obtain⟨h1,h2,-,h4,h5⟩:=zh h;refine QW h1 (by rw[V9];omega) (by omega) (by rw[V9];omega) ?_;rw[<-h5];simp[List.take_take]
theorem QY{rs:Q06}{cs:List (Int×Tp)}(h:lH rs cs 0=true):eH rs cs 0=[]:=by
 have h5:=(zh h).2.2.2.2;exact(Option.some.inj h5).symm
theorem QZ{rs:Q06}{cs:List (Int×Tp)}{k:Nat}(hk:k<cs.length)(h:lH rs cs ((k:Int)+1)=true):
  Si rs (eH rs cs (k:Int)) cs[k].1 cs[k].2=0/\Nu rs (eH rs cs (k:Int)) cs[k].1 cs[k].2=eH rs cs ((k:Int)+1):=by
 obtain⟨h1,h2,-,h4,h5⟩:=zh h;have e:((k:Int)+1).toNat=k+1:=by omega
 rw[e,VE hk,Ip]at h5;cases hp:jd (iE rs) [] (cs.take k) with
 | none=>rw[hp]at h5;cases h5
 | some L =>
  have hL:=(QW (cs:=cs) (n:=(k:Int)) h1 h2 (by omega) (by omega) (by simpa using hp)).2;rw[hp]at h5;simp only[Option.bind_some]at h5;split at h5
  ·rename_i hz;have h6:=Option.some.inj h5;obtain⟨a1,a2,a3,a4⟩:=D5 _ [] L List.Pairwise.nil (by simp) (by simp) (by simp) hp;have hr:gu (iE rs) (ak (ag rs)) L=true:=by
    unfold gu;rw[h1,Qm a1 a2 a3,VN.2 a4];rfl
   obtain⟨b1,b2⟩:=SA (k:=cs[k].1) (t:=cs[k].2) hr;rw[hL,b1,b2,<-h6];refine⟨hz,?_⟩;unfold mI;rw[if_pos hz]
  cases h5
end Go.Proofs.YtcgdckphpjfmhaaGreatDoor
namespace Go.Proofs.YtcgdckphpjfmhaaGreatDoor.fnHistory
open Go.Sort
open ChangeShapes WideShapes ChangeAt RowKit
open Pl
set_option linter.unusedVariables false
theorem uE(ad:Q02)(cap:Nat)(rs:Q06)(b off cap':Nat)(cs:List (Int×Tp))(n:Int)(w:ae)(hE:Ca w)(hlen:rs.length<=1048576)(hs:jP w ad rs)(hl:∀r∈rs,r.light)(hfr:∀r∈rs,r.fits)(hcp:∀r∈rs,r.caps)(hlc:cs.length<=1048576)(hcap:cs.length<=cap')(hb:b<w.heap.size)(hr:BC w b off cs)(hf:∀c∈cs,c.2.fits):
  Calls prog 17 #[.slice ad rs.length cap,.slice (some ⟨b,off,none⟩) cs.length cap',.int .i64 n] w fun e w'=>∃(ad8:Q02) (Yy:Nat),e=.returned (.tuple #[.slice ad8 (eH rs cs n).length Yy,.bool (lH rs cs n)])/\Sv w' ad8 Yy (eH rs cs n)/\af w w':=by
 refine(oP ad cap rs b off cap' cs n w hE hlen hs hl hfr hcp hlc hcap hb hr hf).mono ?_;rintro e w' ⟨hb,⟨hr,rfl⟩|⟨L,v,hr,rfl,ho⟩⟩
 ·refine⟨none,0,?_,?_,hb⟩
  ·unfold eH lH;rw[hr];rfl
  unfold eH;rw[hr];exact .inl ⟨rfl,rfl,rfl⟩
 obtain⟨ad8,Yy,rfl,hO⟩:=Fp ho;refine⟨ad8,Yy,?_,?_,hb⟩
 ·unfold eH lH;rw[hr];rfl
 unfold eH;rw[hr];exact hO
theorem Kt(a:Nat->Addr)(ad:Q02)(cap:Nat)(rs:Q06)(WY:Q02)(cap':Nat)(ts:Q05)(k:Int)(t:Tp)(w:ae)(hE:ErrsD w a)(hlen:rs.length<=1048576)(hs:jP w ad rs)(hl:∀r∈rs,r.light)(hfr:∀r∈rs,r.fits)(hcpT:∀r∈rs,r.caps)(hlt:ts.length<=1048576)(hst:Sv w WY cap' ts)(hf:∀x∈ts,x.fits)(ht:t.fits):
  Calls prog 11 #[.slice ad rs.length cap,.slice WY ts.length cap',.agg #[.int .i64 k,.string t.a,.string t.b,.string t.r,.string t.c,.string t.d,.string t.s]] w fun e w'=>∃(ad8:Q02) (Yy:Nat),e=.returned (.tuple #[.slice ad8 (Nu rs ts k t).length Yy,.int .i64 (Si rs ts k t)])/\Sv w' ad8 Yy (Nu rs ts k t)/\af w w':=by
 refine(yN (iE rs) a ad cap rs WY cap' ts k t w hE hlen hs hl hfr (fun w1 hb=>pQ ad cap rs w1 hlen (hs.below hb) hl hfr hcpT) (fun h t ht=>DU h ht) hlt hst hf ht).mono ?_;rintro e w' ⟨v,rfl,ho,hb⟩;obtain⟨ad8,Yy,rfl,hO⟩:=Fp ho;exact⟨ad8,Yy,rfl,hO,hb⟩
theorem Tt{w:ae}{b off k:Nat}{cs:List (Int×Tp)}(h:BC w b off cs):BC w b off (cs.take k):=fun i hi=>by
 rw[List.getElem_take];exact h i (by rw[V9]at hi;omega)
structure St(w:World)(a:Nat->Addr)(XP:Q02)(g n:Nat)(rs:Q06)(cs:List (Int×Tp))(f:Fc)(W:World):Prop where
 bel:af w W
 sl:jP W XP rs
 gl:g<W.heap.size
 row:BC W g 0 cs
 err:ErrsD W a
 lt:n<W.heap.size
 bx:W.cell? ⟨n,0,none⟩=some (.string f.a)/\W.cell? ⟨n,1,none⟩=some (.string f.b)/\W.cell? ⟨n,2,none⟩=some (.string f.r)/\W.cell? ⟨n,3,none⟩=some (.string f.c)/\W.cell? ⟨n,4,none⟩=some (.string f.d)
theorem St.later{w W W':ae}{a:Nat->Addr}{XP:Q02}{g n:Nat}{rs:Q06}{cs:List (Int×Tp)}{f:Fc}(h:St w a XP g n rs cs f W)(hb:af W W'):St w a XP g n rs cs f W' :=
 ⟨h.bel.trans (hb.mono h.bel.size),h.sl.below hb,Vy h.gl hb.size,h.row.below hb h.gl,h.err.below hb,Vy h.lt hb.size,by
  obtain⟨c0,c1,c2,c3,c4⟩:=h.bx;have hk:=fun o=>hb.cell (p:=⟨n,o,none⟩) h.lt;exact⟨(hk _).trans c0,(hk _).trans c1,(hk _).trans c2,(hk _).trans c3,(hk _).trans c4⟩⟩
set_option maxRecDepth 100000 in
theorem walk[DecidableEq Fc](ad:Q02)(len cap:Nat)(a:Nat->Addr)(w:ae)(hE:ErrsD w a)(h:Bytes w ad len):
  Calls prog 4 #[.slice ad len cap] w fun e w'=>e=.returned (.bool true)/\af w w':=by
 have H:=fe h;have HE:=fe hE;clear h hE;go_enter func4,ntmps4;go_wp2_with fail;refine(RU ad len cap w).mono ?_;rintro e w0 ⟨rfl,rfl⟩;by_cases hbig:(1048576:Int)<(len:Int)
 ·go_wp2;go_ret;exact⟨rfl,VD _ _⟩
 go_wp2_with fail;refine(yP ad len cap _ H.out).mono ?_;rintro e w1 ⟨v,rs,g,c,cs,n,f,rfl,hT,⟨hG1,hG2,hG3⟩,hl9,hsh,hff,hown,hb1⟩;obtain⟨XP,XU,rfl,hs1,hcp⟩:=hT.read;obtain⟨hrow,hg,hgc,-⟩:=QT hown rfl;obtain⟨W1,hW1⟩:∃W1,W1=w1.alloc (.cells #[.string f.a,.string f.b,.string f.r,.string f.c,.string f.d] 43):=⟨_,rfl⟩;have Z7:af w1 W1:=by rw[hW1];exact(VD _ _).alloc (VC _) _
 have K1:Hid (St w0 a XP g w1.heap.size rs cs f W1):=by
  refine⟨hb1.trans (Z7.mono hb1.size),hs1.below Z7,Vy hg Z7.size,hrow.below Z7 hg,(HE.out.below hb1).below Z7,by rw[hW1];simp,?_⟩;refine⟨?_,?_,?_,?_,?_⟩<;>(rw[hW1];simp)
 have hlen:rs.length<=1048576:=by omega
 have hlc:cs.length<=1048576:=by omega
 obtain⟨st,hst0⟩:=Va (ag rs);have XM:=fe hst0;have HL:=fe hG2;have HF:=fe hG3;have HC:=fe hcp;have Y5:Hid (∀x∈cs,x.2.fits):=fun x hx=>(hsh x hx).fits;obtain⟨b,hbv⟩:∃b,Cj st rs cs n f=b:=⟨_,rfl⟩;obtain⟨q,hQ⟩:∃q,lH rs cs n=q:=⟨_,rfl⟩;obtain⟨L,hL⟩:∃L,eH rs cs n=L:=⟨_,rfl⟩;have hLl:L.length<=1048576:=by rw[<-hL];exact VJ (wy _ _ _) (by decide)
 have HBV:=fe hbv;have HQQ:=fe hQ;have HLL:=fe hL;clear hT hG2 hG3 hcp hb1 hs1 hbig hown hsh hff hrow hg Z7 hbv hQ hL H HE hst0;obtain⟨x0,x1,x2,x3,x4⟩:=K1.out.bx;go_wp2_with fail;rw[<-hW1];clear hW1;refine(p9 st XP XU rs g 0 c cs n f _ K1.out.err.errs hlen K1.out.sl HL.out HF.out HC.out hlc hgc K1.out.gl K1.out.row Y5.out XM.out).mono ?_;rintro e w2 ⟨rfl,hb2⟩;rw[HBV.out,HQQ.out];have K2:=fe (K1.out.later hb2);clear hb2 K1 x0 x1 x2 x3 x4;obtain⟨x0,x1,x2,x3,x4⟩:=K2.out.bx;go_wp2_with fail;refine(yQ st XP XU rs (some ⟨g,0,none⟩) c cs n f _ hlen K2.out.sl HL.out HF.out hlc (.inr ⟨g,0,rfl,K2.out.gl,K2.out.row⟩) Y5.out XM.out).mono ?_;rintro e w3 ⟨rfl,hb3⟩;rw[HBV.out,HQQ.out];have K3:=fe (K2.out.later hb3);clear hb3 K2 x0 x1 x2 x3 x4;go_wp2_with fail;refine(uE XP XU rs g 0 c cs n _ K3.out.err.errs hlen K3.out.sl HL.out HF.out HC.out hlc hgc K3.out.gl K3.out.row Y5.out).mono ?_;rintro e w4 ⟨adL,Y3,rfl,hvL,hb4⟩;rw[HLL.out]at hvL;rw[HLL.out,HQQ.out];have K4:=fe (K3.out.later hb4);have HV4:=fe hvL;clear hb4 K3 hvL;have hbn:(b != b)=false:=by simp
 have hbb:(b==b)=true:=by simp
 cases q
 ·have hqn:(false != false)=false:=rfl;have hqq:(false==false)=true:=rfl;have HBe:=fe K4.out.bel;go_wp2;go_ret;exact⟨rfl,HBe.out⟩
 have hqn:(true != true)=false:=rfl;have HTY:=fe (zh HQQ.out);obtain⟨k,rfl⟩:∃k:Nat,n=(k:Int):=⟨n.toNat,by have:=HTY.out.2.2.1;omega⟩;have hk:k<=cs.length:=by have:=HTY.out.2.2.2.1;omega
 have hk0:=bq k;have hkc:(k:Int)<=(c:Int):=by omega
 have XB:Hid ((cs.take k).length=k):=by show _=_;rw[V9];omega
 have HTK:=fe (QX HQQ.out);have HSK:Hid (∀x∈cs.take k,x.2.fits):=fun x hx=>Y5.out x (List.mem_of_mem_take hx);have HHF:Hid (bR (ed st rs L) f=b):=by
  show _=_;have:=HBV.out;unfold Cj at this;rw[HQQ.out,HLL.out]at this;simpa using this
 have YU:=fe (fun(W:World) (hW:St w0 a XP g w1.heap.size rs cs f W)=>uE XP XU rs g 0 c (cs.take k) (k:Int) W hW.err.errs hlen hW.sl HL.out HF.out HC.out (by rw[XB.out];omega) (by rw[XB.out];omega) hW.gl (Tt hW.row) HSK.out);have HCC:=fe (fun(W:World) (hW:St w0 a XP g w1.heap.size rs cs f W)=>p9 st XP XU rs g 0 c (cs.take k) (k:Int) f W hW.err.errs hlen hW.sl HL.out HF.out HC.out (by rw[XB.out];omega) (by rw[XB.out];omega) hW.gl (Tt hW.row) HSK.out XM.out);rw[XB.out,HTK.out.1,HTK.out.2,HLL.out]at YU;have HCB:Hid (Cj st rs (cs.take k) (k:Int) f=b):=by
  show _=_;unfold Cj;rw[HTK.out.1,HTK.out.2,HLL.out,HHF.out];simp
 rw[XB.out,HTK.out.1,HCB.out]at HCC;clear XB HTK HSK HCB HTY;go_wp2_with fail;refine(YU.out _ K4.out).mono ?_;rintro e w5 ⟨adM,capM,rfl,hvM,hb5⟩;have K5:=fe (K4.out.later hb5);have HV5:=fe (HV4.out.below hb5);have HM5:=fe hvM;clear hb5 K4 HV4 hvM YU;obtain⟨x0,x1,x2,x3,x4⟩:=K5.out.bx;replace x0:=cell_regrown x0;replace x1:=cell_regrown x1;replace x2:=cell_regrown x2;replace x3:=cell_regrown x3;replace x4:=cell_regrown x4;have HCM:Hid (∀d os,Calls prog 15 #[.slice XP rs.length XU,.slice (some ⟨g,0,none⟩) k c,.int .i64 (k:Int),.agg #[.string f.a,.string f.b,.string f.r,.string f.c,.string f.d]] (grow (redrawn w5 d) os) fun e w2=>e=.returned (.tuple #[.bool b,.bool true])/\∃p:Regrown,w2=grow (redrawn w5 p.d) p.os):=by
  refine cu fun W' hb=>?_;exact HCC.out W' (K5.out.later hb)
 go_wp2_with fail;refine wp_region_quiet_below (by kernel_rfl) (by kernel_rfl) ?_
 repeat(go_big_quiet_step (exact HCM.out _ _))
 refine wpQuiet_nil ?_;rintro _ ⟨⟨dq,osq⟩,rfl⟩;have hb6:=below_regrown w5 dq osq;obtain⟨w6,hw6⟩:∃w6,w6=grow (redrawn w5 dq) osq:=⟨_,rfl⟩;rw[<-hw6]at hb6 ⊢;have K6:=fe (K5.out.later hb6);have HV6:=fe (HV5.out.below hb6);have HM6:=fe (HM5.out.below hb6);clear hb6 K5 HV5 HM5 HCM HCC hw6 x0 x1 x2 x3 x4;go_wp2_with fail;refine(rA adM adL capM Y3 L _ hLl HM6.out.sl HV6.out.sl).mono ?_;rintro e w7 ⟨rfl,YL⟩;have K7:=fe (K6.out.later YL);have HV7:=fe (HV6.out.below YL);clear YL K6 HV6 HM6;obtain⟨x0,x1,x2,x3,x4⟩:=K7.out.bx;have HLF:Hid (∀x∈L,x.fits):=by have:=pU (rs:=rs) (n:=(k:Int)) Y5.out;rw[HLL.out]at this;exact this
 go_wp2_with fail;refine(tC st XP XU rs adL Y3 L f _ hlen K7.out.sl HL.out HF.out HC.out hLl HV7.out.sl HLF.out XM.out).mono ?_;rintro e w8 ⟨rfl,hb8⟩;rw[HHF.out];have K8:=fe (K7.out.later hb8);have HV8:=fe (HV7.out.below hb8);clear hb8 K7 HV7 x0 x1 x2 x3 x4;by_cases hkz:k=0
 ·have hkb:((k:Int)==0)=true:=by simp[hkz]
  have hlz:((L.length:Int)==0)=true:=by
   have h0:=QY (rs:=rs) (cs:=cs) (by have:=HQQ.out;rwa [hkz]at this);have h1:=HLL.out;rw[hkz]at h1;rw[<-h1,show((0:Nat):Int)=0 from rfl,h0];rfl
  have HBe:=fe K8.out.bel;go_wp2;go_ret;exact⟨rfl,HBe.out⟩
 have hkb:((k:Int)==0)=false:=by simpa using hkz
 obtain⟨j,hj⟩:∃j,k=j+1:=⟨k-1,by omega⟩;have hjc:j<cs.length:=by omega
 have hwj:IntKind.i64.wrap ((k:Int)-1)=(j:Int):=by rw[IntKind.wrap_i64]<;>omega
 have hwk:(k:Int)-1=(j:Int):=by omega
 have XV:=fe (QZ (rs:=rs) hjc (by have:=HQQ.out;rw[hj]at this;simpa using this));have HLK:Hid (eH rs cs ((j:Int)+1)=L):=by show _=_;rw[<-HLL.out,hj];simp
 rw[HLK.out]at XV;clear HLK hj;obtain⟨M,hM⟩:∃M,eH rs cs (j:Int)=M:=⟨_,rfl⟩;obtain⟨y,hy⟩:∃y,lH rs cs (j:Int)=y:=⟨_,rfl⟩;have HMT:=fe (fun(W:World) (hW:St w0 a XP g w1.heap.size rs cs f W)=>uE XP XU rs g 0 c cs (j:Int) W hW.err.errs hlen hW.sl HL.out HF.out HC.out hlc hgc hW.gl hW.row Y5.out);have HMF:Hid (∀x∈M,x.fits):=by have:=pU (rs:=rs) (n:=(j:Int)) Y5.out;rw[hM]at this;exact this
 have hMl:M.length<=1048576:=by rw[<-hM];exact VJ (wy _ _ _) (by decide)
 rw[hM,hy]at HMT;rw[hM]at XV;clear hM hy;have HMT2:=HMT;clear HMT;go_wp2_with fail;refine(HMT2.out _ K8.out).mono ?_;rintro e w9 ⟨Yw,X0,rfl,hvO,hb9⟩;have K9:=fe (K8.out.later hb9);have HV9:=fe (HV8.out.below hb9);have HO9:=fe hvO;clear hb9 K8 HV8 hvO HMT2;obtain⟨t0,t1,t2,t3,t4,t5,t6⟩:=K9.out.row j hjc;have HCF:=fe (Y5.out _ (Vz hjc));obtain⟨z,hz⟩:∃z,z=cs[j]:=⟨_,rfl⟩;rw[<-hz]at t0 t1 t2 t3 t4 t5 t6 HCF XV;simp only[V4]at t0 t1 t2 t3 t4 t5 t6;clear hz;have hj0:=bq j;have hj1:(j:Int)<(cs.length:Int):=by omega
 go_wp2_with fail;refine(Kt a XP XU rs Yw X0 M z.1 z.2 _ K9.out.err hlen K9.out.sl HL.out HF.out HC.out hMl HO9.out HMF.out HCF.out).mono ?_;rintro e w10 ⟨adP,capP,rfl,hvP,hb10⟩;rw[XV.out.2]at hvP;rw[XV.out.1,XV.out.2];have K10:=fe (K9.out.later hb10);have HV10:=fe (HV9.out.below hb10);have HP10:=fe hvP;clear hb10 K9 HV9 HO9 hvP t0 t1 t2 t3 t4 t5 t6;go_wp2_with fail;refine(rA adP adL capP Y3 L _ hLl HP10.out.sl HV10.out.sl).mono ?_;rintro e w11 ⟨rfl,hb11⟩;have HBe:=fe (K10.out.later hb11).bel;clear hb11;go_wp2;go_ret;exact⟨rfl,HBe.out⟩
theorem own:ownKnob prog.godebug=none:=by kernel_rfl
theorem laidOut:laidOutB prog=true:=by kernel_rfl
abbrev nm (i:Nat):String:=(Rows.fnHistorySpec.vars[i]?).getD default
theorem n0:prog.globalNamed (nm 5)=some 0:=by kernel_rfl
theorem n2:prog.globalNamed (nm 0)=some 2:=by kernel_rfl
theorem n3:prog.globalNamed (nm 2)=some 3:=by kernel_rfl
theorem n4:prog.globalNamed (nm 3)=some 4:=by kernel_rfl
theorem n5:prog.globalNamed (nm 1)=some 5:=by kernel_rfl
theorem n6:prog.globalNamed (nm 4)=some 6:=by kernel_rfl
theorem n1 : Tryz.prog.globalNamed "errors.errorType" = some 1 := by kernel_rfl
theorem t0:(prog.globals[0]?).map (·.type)=some 73:=by kernel_rfl
theorem t2:(prog.globals[2]?).map (·.type)=some 73:=by kernel_rfl
theorem t3:(prog.globals[3]?).map (·.type)=some 73:=by kernel_rfl
theorem t4:(prog.globals[4]?).map (·.type)=some 73:=by kernel_rfl
theorem t5:(prog.globals[5]?).map (·.type)=some 73:=by kernel_rfl
theorem t6:(prog.globals[6]?).map (·.type)=some 73:=by kernel_rfl
theorem star : "*" ++ "errors.errorString" = "*errors.errorString" := by decide
theorem NI (u : TypeId) (h : Tryz.prog.typeName? 3 u = some "*errors.errorString") : u = 350 :=
 typeName_ptr_named (nm := "errors.errorString") (by rw [star]; kernel_rfl) (by kernel_rfl) (by decide) u (by rw [star]; exact h)
theorem cellsE:prog.cellsOf 369=1:=by kernel_rfl
theorem cellsS:prog.cellsOf 9=1:=by kernel_rfl
theorem rt : (Tryz.prog.cutTypes.find? (·.1 == "internal/reflectlite.rtype")).map (·.2) = some 204 := by kernel_rfl
theorem UA:((List.range prog.types.size).filter fun t=>prog.rowNamed t [101,114,114,111,114])=[73]:=by kernel_rfl
theorem hnd:typeHandle prog 73=.pointer (some ⟨8,73,none⟩):=by kernel_rfl
theorem parts {W : World} (h : laidMetH Tryz.prog Rows.fnHistoryRow.laid W) : laidMet Tryz.prog (Rows.fnHistoryRow.laid.drop 1) W ∧ handlesMet Tryz.prog [("errors.errorType", Rows.laid_errors_errorType)] W := h
theorem UB{W:ae}(h:laidMetH prog Rows.fnHistoryRow.laid W):1<W.heap.size/\W.cell? ⟨1,0,none⟩=some (.iface 204 (.agg #[.pointer (some ⟨8,73,none⟩)])):=by
 obtain⟨name,u,ty,e1,e2,e3,e4,e5⟩:=(parts h).2 _ (VK.2 rfl);have en:name=[101,114,114,111,114]:=(Option.some.inj e1).symm;subst en;obtain rfl:=Option.some.inj (rt.symm.trans e2);have hm:ty∈(List.range prog.types.size).filter fun t=>prog.rowNamed t [101,114,114,111,114]:=WE.2 ⟨List.mem_range.2 e3,e4⟩;rw[UA]at hm;obtain rfl:=VK.1 hm;rw[hnd]at e5;have hc:W.cell? ⟨1,0,none⟩=some (.iface 204 (.agg #[.pointer (some ⟨8,73,none⟩)])):=by simpa using World.var?_cell n1 e5 0
 exact⟨World.block_lt_of_cell? W ⟨1,0,none⟩ hc,hc⟩
set_option maxRecDepth 100000 in
theorem SB{W:ae}(h:laidMetH prog Rows.fnHistoryRow.laid W):
  ∃a0 a2 a3 a4 a5 a6:Addr,[a0,a2,a3,a4,a5,a6].Nodup/\W.var? prog (nm 5)=some #[.iface 350 (.pointer (some a0))]/\W.var? prog (nm 0)=some #[.iface 350 (.pointer (some a2))]/\W.var? prog (nm 2)=some #[.iface 350 (.pointer (some a3))]/\W.var? prog (nm 3)=some #[.iface 350 (.pointer (some a4))]/\W.var? prog (nm 1)=some #[.iface 350 (.pointer (some a5))]/\W.var? prog (nm 4)=some #[.iface 350 (.pointer (some a6))]/\(∃c T,W.heap[a0.block]?=some (.cells c T (0,0)))/\(∃c T,W.heap[a2.block]?=some (.cells c T (0,0)))/\(∃c T,W.heap[a3.block]?=some (.cells c T (0,0)))/\(∃c T,W.heap[a4.block]?=some (.cells c T (0,0)))/\(∃c T,W.heap[a5.block]?=some (.cells c T (0,0)))/\(∃c T,W.heap[a6.block]?=some (.cells c T (0,0))):=by
 obtain⟨ps,⟨g0,k0,cs0,f0,p0,q0,hg0,ht0,hv0,hd0,⟨g2,k2,cs2,f2,p2,q2,hg2,ht2,hv2,hd2,⟨g3,k3,cs3,f3,p3,q3,hg3,ht3,hv3,hd3,⟨g4,k4,cs4,f4,p4,q4,hg4,ht4,hv4,hd4,⟨g5,k5,cs5,f5,p5,q5,hg5,ht5,hv5,hd5,⟨g6,k6,cs6,f6,p6,q6,Y4,ht6,hv6,hd6,hq6,e6⟩,e5⟩,e4⟩,e3⟩,e2⟩,e0⟩,hnd,hrows⟩:=(parts h).1;obtain rfl:=Option.some.inj (n0.symm.trans hg0);obtain rfl:=Option.some.inj (n2.symm.trans hg2);obtain rfl:=Option.some.inj (n3.symm.trans hg3);obtain rfl:=Option.some.inj (n4.symm.trans hg4);obtain rfl:=Option.some.inj (n5.symm.trans hg5);obtain rfl:=Option.some.inj (n6.symm.trans Y4);obtain rfl:=Option.some.inj (t0.symm.trans ht0);obtain rfl:=Option.some.inj (t2.symm.trans ht2);obtain rfl:=Option.some.inj (t3.symm.trans ht3);obtain rfl:=Option.some.inj (t4.symm.trans ht4);obtain rfl:=Option.some.inj (t5.symm.trans ht5);obtain rfl:=Option.some.inj (t6.symm.trans ht6);have hq6':q6=[]:=hq6;subst hq6';subst e6;subst e5;subst e4;subst e3;subst e2;subst e0;obtain⟨l0⟩:=cs0;obtain⟨l2⟩:=cs2;obtain⟨l3⟩:=cs3;obtain⟨l4⟩:=cs4;obtain⟨l5⟩:=cs5;obtain⟨l6⟩:=cs6;have ok0:∀u v,l0=[.iface u v]->Value.okWide prog W .any 0 u v:=fun u v e=>by
  subst e;exact(hrows 0 0 (by simp[MemPlace.row])).2 u v (by simpa using World.var?_cell hg0 hv0 0)
 have ok2:∀u v,l2=[.iface u v]->Value.okWide prog W .any 0 u v:=fun u v e=>by
  subst e;exact(hrows 2 0 (by simp[MemPlace.row])).2 u v (by simpa using World.var?_cell hg2 hv2 0)
 have ok3:∀u v,l3=[.iface u v]->Value.okWide prog W .any 0 u v:=fun u v e=>by
  subst e;exact(hrows 3 0 (by simp[MemPlace.row])).2 u v (by simpa using World.var?_cell hg3 hv3 0)
 have ok4:∀u v,l4=[.iface u v]->Value.okWide prog W .any 0 u v:=fun u v e=>by
  subst e;exact(hrows 4 0 (by simp[MemPlace.row])).2 u v (by simpa using World.var?_cell hg4 hv4 0)
 have ok5:∀u v,l5=[.iface u v]->Value.okWide prog W .any 0 u v:=fun u v e=>by
  subst e;exact(hrows 5 0 (by simp[MemPlace.row])).2 u v (by simpa using World.var?_cell hg5 hv5 0)
 have ok6:∀u v,l6=[.iface u v]->Value.okWide prog W .any 0 u v:=fun u v e=>by
  subst e;exact(hrows 6 0 (by simp[MemPlace.row])).2 u v (by simpa using World.var?_cell Y4 hv6 0)
 obtain⟨a0,s0,rfl,-,-,-,rfl⟩:=errorString_of_trod underlying73 NI underlying350 underlying369 rfl rfl underlying9 cellsE cellsS hd0 ok0;obtain⟨a2,s2,rfl,-,-,-,rfl⟩:=errorString_of_trod underlying73 NI underlying350 underlying369 rfl rfl underlying9 cellsE cellsS hd2 ok2;obtain⟨a3,s3,rfl,-,-,-,rfl⟩:=errorString_of_trod underlying73 NI underlying350 underlying369 rfl rfl underlying9 cellsE cellsS hd3 ok3;obtain⟨a4,s4,rfl,-,-,-,rfl⟩:=errorString_of_trod underlying73 NI underlying350 underlying369 rfl rfl underlying9 cellsE cellsS hd4 ok4;obtain⟨a5,s5,rfl,-,-,-,rfl⟩:=errorString_of_trod underlying73 NI underlying350 underlying369 rfl rfl underlying9 cellsE cellsS hd5 ok5;obtain⟨a6,s6,rfl,-,-,-,rfl⟩:=errorString_of_trod underlying73 NI underlying350 underlying369 rfl rfl underlying9 cellsE cellsS hd6 ok6;have b0:=(hrows a0.block a0.off (by simp[MemPlace.row])).1;have b2:=(hrows a2.block a2.off (by simp[MemPlace.row])).1;have b3:=(hrows a3.block a3.off (by simp[MemPlace.row])).1;have b4:=(hrows a4.block a4.off (by simp[MemPlace.row])).1;have b5:=(hrows a5.block a5.off (by simp[MemPlace.row])).1;have b6:=(hrows a6.block a6.off (by simp[MemPlace.row])).1;refine⟨a0,a2,a3,a4,a5,a6,?_,hv0,hv2,hv3,hv4,hv5,hv6,b0,b2,b3,b4,b5,b6⟩;have x02:a0≠a2:=by rintro rfl;simp[MemPlace.row]at hnd
 have x03:a0≠a3:=by rintro rfl;simp[MemPlace.row]at hnd
 have x04:a0≠a4:=by rintro rfl;simp[MemPlace.row]at hnd
 have x05:a0≠a5:=by rintro rfl;simp[MemPlace.row]at hnd
 have x06:a0≠a6:=by rintro rfl;simp[MemPlace.row]at hnd
 have x23:a2≠a3:=by rintro rfl;simp[MemPlace.row]at hnd
 have x24:a2≠a4:=by rintro rfl;simp[MemPlace.row]at hnd
 have x25:a2≠a5:=by rintro rfl;simp[MemPlace.row]at hnd
 have x26:a2≠a6:=by rintro rfl;simp[MemPlace.row]at hnd
 have x34:a3≠a4:=by rintro rfl;simp[MemPlace.row]at hnd
 have x35:a3≠a5:=by rintro rfl;simp[MemPlace.row]at hnd
 have x36:a3≠a6:=by rintro rfl;simp[MemPlace.row]at hnd
 have x45:a4≠a5:=by rintro rfl;simp[MemPlace.row]at hnd
 have x46:a4≠a6:=by rintro rfl;simp[MemPlace.row]at hnd
 have x56:a5≠a6:=by rintro rfl;simp[MemPlace.row]at hnd
 simp[x02,x03,x04,x05,x06,x23,x24,x25,x26,x34,x35,x36,x45,x46,x56]
def pick(a0 a2 a3 a4 a5 a6:Addr)(g:Nat):Addr:=if g=0 then a0 else if g=2 then a2 else if g=3 then a3 else if g=4 then a4 else if g=5 then a5 else a6
end Go.Proofs.YtcgdckphpjfmhaaGreatDoor.fnHistory
