/- Contract of the document's function on what an expression names. -/
import Derived.Test.YtajkkeikihhejaaGreatSq
import Derived.Test.YtajkkeikihhejaaGreatJ7
open Go.Proofs.Tryz
set_option maxHeartbeats 80000000
namespace Go.Proofs.YtajkkeikihhejaaGreat
open ChangeShapes WideShapes ChangeAt RowKit
open Pl
def pU(ts:Q0b)(a:Al):Bool:=lH ts a.t&&(a.s.toList.isEmpty || !(aB ts a.t a.s).isEmpty)
def oL(ts:Q0b)(xs:Q0a):Bool:=xs.all (pU ts)
def lI(ts:Q0b)(typ:ByteArray)(e:Ex):Bool :=
 if e.kind=2 then !(aB ts typ e.name).isEmpty
 else if e.kind=3 then bH (aB ts typ e.over) && !(iw ts typ e.over e.name).isEmpty
 else true
def aW(ts:Q0b)(typ:ByteArray):List Ex->Bool
 | []=>true
 | e::es=>if oL ts e.allow&&lI ts typ e then aW ts typ es else false
def nR(ts:Q0b)(xs:Q0a)(k:Nat):Bool:=oL ts (xs.take k)
theorem zZ(ts:Q0b)(xs:Q0a):nR ts xs 0=true:=by simp[nR,oL]
theorem oM(ts:Q0b)(xs:Q0a)(k:Nat)(h:k<xs.length):nR ts xs (k+1)=(nR ts xs k&&pU ts xs[k]):=by
 unfold nR oL;rw[UX h,VV];simp
theorem uY(ts:Q0b)(xs:Q0a)(k:Nat)(h:k<xs.length)(hb:pU ts xs[k]=false):oL ts xs=false:=by
 unfold oL;rw[Bool.eq_false_iff];intro h2;rw[U5]at h2;have:=h2 xs[k] (UR h);rw[hb]at this;cases this
theorem aH{w w':af}{g o:Nat}{v:Value}(hB:ae w w')(hg:g<w.heap.size)(h:w.cell? ⟨g,o,none⟩=some v):w'.cell? ⟨g,o,none⟩=some v:=(hB.cell (p:=⟨g,o,none⟩) hg).trans h
set_option maxRecDepth 8000 in
theorem IY(ad V5:Q02)(cap capE:Nat)(rs:Q06)(typ:bQ)(rows:Q08)(w:af)(hlen:rs.length<=1048576)(hs:kU w ad rs)(hl:∀r∈rs,r.light)(hle:rows.length<=1048576)(hse:gZ w V5 rows)(hlE:∀q∈rows,q.e.light):
  Calls prog 136 #[.slice ad rs.length cap,.string typ,.slice V5 rows.length capE] w fun e w'=>e=.returned (.bool (aW (ag rs) typ (ak rows)))/\ae w w':=by
 have HS:=aC hs;have HL:=aC hl;have HE:=aC hse;have WR:=aC hlE;clear hs hl hse hlE;go_enter func136,ntmps136;go_wp2_with fail;go_loopw[7] (fun i wr=>∃k:Nat,k<=rows.length/\i=.int .i64 k/\Hid (aW (ag rs) typ (ak (rows.drop k))=aW (ag rs) typ (ak rows))/\Hid (ae w wr)) (fun i _=>rows.length-(intOf i).toNat);case atStart=>exact⟨0,UY _,rfl,rfl,UV _ _⟩
 obtain⟨k,hk,rfl,HP,HB⟩:=hrel;by_cases hlt:k<rows.length
 ·have HS1:Hid (kU _ ad rs):=HS.out.below HB.out;rcases HE.out.below HB.out with rfl|⟨b,off,rfl,hb,hr,hok⟩
  ·simp at hlt
  obtain⟨t0,t1,t2,t3,t4⟩:=hr k hlt;have XE:Hid (rows[k].ok wr):=hok rows[k] (UR hlt);have lg:=(WR.out rows[k] (UR hlt)).1;have hk1:=bG k;have hk2:(k:Int)<(rows.length:Int):=by omega
  clear hr hok;obtain⟨W1,hW1⟩:∃W1,W1=wr.alloc (.cells #[.int .i64 rows[k].e.kind,.slice rows[k].adA rows[k].e.allow.length rows[k].capA,.string rows[k].e.over,.string rows[k].e.name,.slice rows[k].adK rows[k].e.kids.length rows[k].capK] 39):=⟨_,rfl⟩;have hal:ae wr W1:=by rw[hW1];exact(UV _ _).alloc (UU _) _
  have Ws:=aC hal;have V9:=jR HB hal;have hgl:wr.heap.size<W1.heap.size:=by rw[hW1];simp
  have g0:W1.cell? ⟨wr.heap.size,0,none⟩=some (.int .i64 rows[k].e.kind):=by rw[hW1];simp
  have g1:W1.cell? ⟨wr.heap.size,1,none⟩=some (.slice rows[k].adA rows[k].e.allow.length rows[k].capA):=by rw[hW1];simp
  have g2:W1.cell? ⟨wr.heap.size,2,none⟩=some (.string rows[k].e.over):=by rw[hW1];simp
  have g3:W1.cell? ⟨wr.heap.size,3,none⟩=some (.string rows[k].e.name):=by rw[hW1];simp
  clear hal;go_wp2_with fail;rw[<-hW1];clear hW1;go_loopw[9] (fun i w2=>∃j:Nat,j<=rows[k].e.allow.length/\i=.int .i64 j/\Hid (nR (ag rs) rows[k].e.allow j=true)/\Hid (ae W1 w2)) (fun i _=>rows[k].e.allow.length-(intOf i).toNat);case atStart=>exact⟨0,UY _,rfl,zZ _ _,UV _ _⟩
  obtain⟨j,hj,rfl,HJ,HB2⟩:=hrel;have d0:=aH HB2.out hgl g0;have d1:=aH HB2.out hgl g1;have d2:=aH HB2.out hgl g2;have d3:=aH HB2.out hgl g3;clear g0 g1 g2 g3 t0 t1 t2 t3 t4;have Y7:Hid (ae w _):=V9.out.trans (HB2.out.mono V9.out.size);have HS2:Hid (kU _ ad rs):=HS.out.below Y7.out;by_cases hjl:j<rows[k].e.allow.length
  ·have hA2:lq _ rows[k].adA rows[k].e.allow:=((XE.out.1).below Ws.out).below HB2.out;rcases hA2 with hnil|⟨ba,Yi,Yj,ZK,hra⟩
   ·rw[hnil]at hjl;simp at hjl
   rw[Yj]at d1;obtain⟨q0,q1⟩:=hra j hjl;have hj1:=bG j;have hj2:(j:Int)<(rows[k].e.allow.length:Int):=by omega
   clear hra Yj;go_wp2_with fail;refine(IV ad cap rs _ _ hlen (HS2.out.below ((UV _ _).alloc (UU _) _))).mono ?_;rintro e w3 ⟨rfl,rfl⟩;cases hty:lH (ag rs) rows[k].e.allow[j].t;case false=>
    have HN:Hid (aW (ag rs) typ (ak rows)=false):=by
     show _=_;rw[<-HP.out,gV _ _ hlt];simp[aW,uY (ag rs) _ j hjl (by simp[pU,hty])]
    go_wp2;go_ret;exact⟨by rw[HN.out];rfl,Y7.out.alloc Y7.out.size _⟩
   cases he:rows[k].e.allow[j].s.toList.isEmpty;case true=>
    have HJ2:Hid (nR (ag rs) rows[k].e.allow (j+1)=true):=by show _=_;rw[oM _ _ _ hjl,HJ.out];simp[pU,hty,he]
    go_wp2;go_roundw;case rel=>exact⟨j+1,by omega,by go_num,HJ2,HB2.out.alloc HB2.out.size _⟩
    simp[intOf]<;>omega
   go_wp2_with fail;refine(iK ad cap rs _ _ _ hlen (HS2.out.below ((UV _ _).alloc (UU _) _)) HL.out).mono ?_;rintro e w3 ⟨⟨Xm,ad3,cap3,rfl,hx3,-,-⟩,rfl⟩;by_cases hz:Xm.length=0
   ·have HN:Hid (aW (ag rs) typ (ak rows)=false):=by
     have h1:aB (ag rs) rows[k].e.allow[j].t rows[k].e.allow[j].s=[]:=by unfold aB;rw[<-hx3,Vb.1 hz];rfl
     show _=_;rw[<-HP.out,gV _ _ hlt];simp[aW,uY (ag rs) _ j hjl (by simp[pU,he,h1])]
    rw[hz];clear hx3;go_wp2;go_ret;exact⟨by rw[HN.out];rfl,Y7.out.alloc Y7.out.size _⟩
   have HJ2:Hid (nR (ag rs) rows[k].e.allow (j+1)=true):=by
    have h1:aB (ag rs) rows[k].e.allow[j].t rows[k].e.allow[j].s≠[]:=by
     unfold aB;rw[<-hx3];intro h2;apply hz;rw[<-aQ,h2];rfl
    show _=_;rw[oM _ _ _ hjl,HJ.out];simp[pU,hty,h1]
   have hzb:((Xm.length:Int)==0)=false:=by simp;intro h;apply hz;rw[h];rfl
   clear hx3;go_wp2;go_roundw;case rel=>exact⟨j+1,by omega,by go_num,HJ2,HB2.out.alloc HB2.out.size _⟩
   simp[intOf]<;>omega
  have YX:Hid (oL (ag rs) rows[k].e.allow=true):=by
   have:=HJ.out;unfold nR at this;rwa [Vs (by omega)]at this
  by_cases h2:rows[k].e.kind=2
  ·go_wp2_with fail;refine(iK ad cap rs _ _ _ hlen HS2.out HL.out).mono ?_;rintro e w3 ⟨⟨Xm,ad3,cap3,rfl,hx3,-,-⟩,rfl⟩;by_cases hz:Xm.length=0
   ·have HN:Hid (aW (ag rs) typ (ak rows)=false):=by
     have h1:aB (ag rs) typ rows[k].e.name=[]:=by unfold aB;rw[<-hx3,Vb.1 hz];rfl
     show _=_;rw[<-HP.out,gV _ _ hlt];simp[aW,lI,h2,h1]
    rw[hz];clear hx3;go_wp2;go_ret;exact⟨by rw[HN.out];rfl,Y7.out⟩
   have Wj:Hid (aW (ag rs) typ (ak (rows.drop (k+1)))=aW (ag rs) typ (ak rows)):=by
    have h1:aB (ag rs) typ rows[k].e.name≠[]:=by
     unfold aB;rw[<-hx3];intro h2;apply hz;rw[<-aQ,h2];rfl
    show _=_;rw[<-HP.out,gV _ _ hlt];simp[aW,lI,h2,h1,YX.out]
   have hzb:((Xm.length:Int)==0)=false:=by simp;intro h;apply hz;rw[h];rfl
   clear hx3;go_wp2;go_roundw;case rel=>exact⟨k+1,by omega,by go_num,Wj,Y7⟩
   simp[intOf]<;>omega
  by_cases h3:rows[k].e.kind=3
  ·go_wp2_with fail;refine(iK ad cap rs _ _ _ hlen HS2.out HL.out).mono ?_;rintro e w3 ⟨⟨Xm,ad3,cap3,rfl,hx3,hs3,hf3⟩,rfl⟩;have hl3:=hf3.light HL.out;go_wp2_with fail;refine(Ez ad3 cap3 Xm _ hl3.1 hs3 hl3.2).mono ?_;rintro e w3 ⟨rfl,rfl⟩;have HX:Hid (ak Xm=aB (ag rs) typ rows[k].e.over):=hx3;clear hx3 hs3 hf3 hl3;rw[HX.out];cases hd:bH (aB (ag rs) typ rows[k].e.over);case false=>
    have HN:Hid (aW (ag rs) typ (ak rows)=false):=by
     show _=_;rw[<-HP.out,gV _ _ hlt];simp[aW,lI,h3,hd]
    go_wp2;go_ret;exact⟨by rw[HN.out];rfl,Y7.out⟩
   go_wp2_with fail;refine(xZ ad cap rs _ _ _ _ hlen HS2.out HL.out).mono ?_;rintro e w4 ⟨⟨ad4,cap4,rfl,-⟩,hb4⟩;have XF:=jR Y7 hb4;clear hb4;by_cases hz:(iw (ag rs) typ rows[k].e.over rows[k].e.name).length=0
   ·have HN:Hid (aW (ag rs) typ (ak rows)=false):=by
     show _=_;rw[<-HP.out,gV _ _ hlt];simp[aW,lI,h3,Vb.1 hz]
    rw[hz];go_wp2;go_ret;exact⟨by rw[HN.out];rfl,XF.out⟩
   have Wj:Hid (aW (ag rs) typ (ak (rows.drop (k+1)))=aW (ag rs) typ (ak rows)):=by
    have h1:iw (ag rs) typ rows[k].e.over rows[k].e.name≠[]:=by intro h;apply hz;rw[h];rfl
    show _=_;rw[<-HP.out,gV _ _ hlt];simp[aW,lI,h3,h1,hd,YX.out]
   have hzb:(((iw (ag rs) typ rows[k].e.over rows[k].e.name).length:Int)==0)=false:=by simp;intro h;apply hz;rw[h];rfl
   go_wp2;go_roundw;case rel=>exact⟨k+1,by omega,by go_num,Wj,XF⟩
   simp[intOf]<;>omega
  have Wj:Hid (aW (ag rs) typ (ak (rows.drop (k+1)))=aW (ag rs) typ (ak rows)):=by
   show _=_;rw[<-HP.out,gV _ _ hlt];simp[aW,lI,h2,h3,YX.out]
  have hb2:(rows[k].e.kind==2)=false:=by simpa using h2
  have hb3:(rows[k].e.kind==3)=false:=by simpa using h3
  go_wp2;go_roundw;case rel=>exact⟨k+1,by omega,by go_num,Wj,Y7⟩
  simp[intOf]<;>omega
 have HN:Hid (aW (ag rs) typ (ak rows)=true):=by show _=_;rw[<-HP.out,Vf (by omega)];rfl
 go_wp2;go_ret;exact⟨by rw[HN.out];rfl,HB.out⟩
end Go.Proofs.YtajkkeikihhejaaGreat
