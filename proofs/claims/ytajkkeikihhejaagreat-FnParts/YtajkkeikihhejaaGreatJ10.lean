/- Contract of the document's function on what an expression names. -/
import Derived.Test.YtajkkeikihhejaaGreatSq
import Derived.Test.YtajkkeikihhejaaGreatJ9
import Derived.Test.YtajkkeikihhejaaGreatJ2
open Go.Proofs.Tryz
set_option maxHeartbeats 80000000
namespace Go.Proofs.YtajkkeikihhejaaGreat
open Go.ChangeShapes Go.WideShapes Go.ChangeAt Go.RowKit
open Pl
def pW (ts:List Ty)(a:Al):Bool:=lh ts a.t&&(a.s.toList.isEmpty || !(aB ts a.t a.s).isEmpty)
def o6 (ts:List Ty)(xs:List Al):Bool:=xs.all (pW ts)
def ll (ts:List Ty)(typ:ByteArray)(e:Ex):Bool :=
 if e.kind=2 then !(aB ts typ e.name).isEmpty
 else if e.kind=3 then bz (aB ts typ e.over) && !(ig ts typ e.over e.name).isEmpty
 else true
def aS (ts:List Ty)(typ:ByteArray):List Ex->Bool
 | []=>true
 | e::es=>if o6 ts e.allow&&ll ts typ e then aS ts typ es else false
def nW (ts:List Ty)(xs:List Al)(k:Nat):Bool:=o6 ts (xs.take k)
theorem zH (ts:List Ty)(xs:List Al):nW ts xs 0=true:=by simp [nW,o6]
theorem o7 (ts:List Ty)(xs:List Al)(k:Nat)(h:k<xs.length):nW ts xs (k+1)=(nW ts xs k&&pW ts xs[k]):=by
 unfold nW o6;rw [Uh h,List.all_append];simp
theorem uP (ts:List Ty)(xs:List Al)(k:Nat)(h:k<xs.length)(hb:pW ts xs[k]=false):o6 ts xs=false:=by
 unfold o6;rw [Bool.eq_false_iff];intro h2;rw [Un]at h2;have:=h2 xs[k] (Ud h);rw [hb]at this;cases this
theorem aH {w w':af}{g o:Nat}{v:Value}(hB:ag w w')(hg:g<w.heap.size)(h:w.cell? ⟨g,o,none⟩=some v):w'.cell? ⟨g,o,none⟩=some v:=(hB.cell (p:=⟨g,o,none⟩) hg).trans h
set_option maxRecDepth 8000 in
theorem Iu (ad UO:Option Addr)(cap capE:Nat)(rs:List TR)(typ:bI)(rows:List ER)(w:af)(hlen:rs.length<=1048576)(hs:kX w ad rs)(hl:∀ r∈rs,r.light)(hle:rows.length<=1048576)(hse:iC w UO rows)(ZZ:∀ q∈rows,q.e.light) :
  Calls prog 136 #[.slice ad rs.length cap,.string typ,.slice UO rows.length capE] w fun e w'=>e=.returned (.bool (aS (ae rs) typ (aj rows)))/\ag w w':=by
 have HS:=aA hs;have HL:=aA hl;have HE:=aA hse;have Vs:=aA ZZ;clear hs hl hse ZZ;go_enter func136,ntmps136;go_wp2_with fail;go_loopw [7] (fun i wr=>∃ k:Nat,k<=rows.length/\i=.int .i64 k/\Hid (aS (ae rs) typ (aj (rows.drop k))=aS (ae rs) typ (aj rows))/\Hid (ag w wr)) (fun i _=>rows.length-(intOf i).toNat);case atStart=>exact ⟨0,Ui _,rfl,rfl,Uf _ _⟩
 obtain ⟨k,hk,rfl,HP,HB⟩:=hrel;by_cases hlt:k<rows.length
 ·have HS1:Hid (kX _ ad rs):=HS.out.below HB.out;rcases HE.out.below HB.out with rfl|⟨b,off,rfl,hb,hr,hok⟩
  ·simp at hlt
  obtain ⟨t0,t1,t2,t3,t4⟩:=hr k hlt;have VP:Hid (rows[k].ok wr):=hok rows[k] (Ud hlt);have lg:=(Vs.out rows[k] (Ud hlt)).1;have hk1:=bF k;have hk2:(k:Int)<(rows.length:Int):=by omega
  clear hr hok;obtain ⟨W1,hW1⟩:∃ W1,W1=wr.alloc (.cells #[.int .i64 rows[k].e.kind,.slice rows[k].adA rows[k].e.allow.length rows[k].capA,.string rows[k].e.over,.string rows[k].e.name,.slice rows[k].adK rows[k].e.kids.length rows[k].capK] 39):=⟨_,rfl⟩;have hal:ag wr W1:=by rw [hW1];exact (Uf _ _).alloc (Ue _) _
  have U2:=aA hal;have UU:=jP HB hal;have hgl:wr.heap.size<W1.heap.size:=by rw [hW1];simp
  have g0:W1.cell? ⟨wr.heap.size,0,none⟩=some (.int .i64 rows[k].e.kind):=by rw [hW1];simp
  have g1:W1.cell? ⟨wr.heap.size,1,none⟩=some (.slice rows[k].adA rows[k].e.allow.length rows[k].capA):=by rw [hW1];simp
  have g2:W1.cell? ⟨wr.heap.size,2,none⟩=some (.string rows[k].e.over):=by rw [hW1];simp
  have g3:W1.cell? ⟨wr.heap.size,3,none⟩=some (.string rows[k].e.name):=by rw [hW1];simp
  clear hal;go_wp2_with fail;rw [<-hW1];clear hW1;go_loopw [9] (fun i w2=>∃ j:Nat,j<=rows[k].e.allow.length/\i=.int .i64 j/\Hid (nW (ae rs) rows[k].e.allow j=true)/\Hid (ag W1 w2)) (fun i _=>rows[k].e.allow.length-(intOf i).toNat);case atStart=>exact ⟨0,Ui _,rfl,zH _ _,Uf _ _⟩
  obtain ⟨j,hj,rfl,HJ,HB2⟩:=hrel;have d0:=aH HB2.out hgl g0;have d1:=aH HB2.out hgl g1;have d2:=aH HB2.out hgl g2;have d3:=aH HB2.out hgl g3;clear g0 g1 g2 g3 t0 t1 t2 t3 t4;have XL:Hid (ag w _):=UU.out.trans (HB2.out.mono UU.out.size);have HS2:Hid (kX _ ad rs):=HS.out.below XL.out;by_cases hjl:j<rows[k].e.allow.length
  ·have hA2:jM _ rows[k].adA rows[k].e.allow:=((VP.out.1).below U2.out).below HB2.out;rcases hA2 with hnil|⟨ba,WH,WJ,WA,hra⟩
   ·rw [hnil]at hjl;simp at hjl
   rw [WJ]at d1;obtain ⟨q0,q1⟩:=hra j hjl;have hj1:=bF j;have hj2:(j:Int)<(rows[k].e.allow.length:Int):=by omega
   clear hra WJ;go_wp2_with fail;refine (Ip ad cap rs _ _ hlen (HS2.out.below ((Uf _ _).alloc (Ue _) _))).mono ?_;rintro e w3 ⟨rfl,rfl⟩;cases hty:lh (ae rs) rows[k].e.allow[j].t;case false=>
    have HN:Hid (aS (ae rs) typ (aj rows)=false):=by
     show _=_;rw [<-HP.out,gI _ _ hlt];simp [aS,uP (ae rs) _ j hjl (by simp [pW,hty])]
    go_wp2;go_ret;exact ⟨by rw [HN.out];rfl,XL.out.alloc XL.out.size _⟩
   cases he:rows[k].e.allow[j].s.toList.isEmpty;case true=>
    have HJ2:Hid (nW (ae rs) rows[k].e.allow (j+1)=true):=by show _=_;rw [o7 _ _ _ hjl,HJ.out];simp [pW,hty,he]
    go_wp2;go_roundw;case rel=>exact ⟨j+1,by omega,by go_num,HJ2,HB2.out.alloc HB2.out.size _⟩
    simp [intOf] <;> omega
   go_wp2_with fail;refine (je ad cap rs _ _ _ hlen (HS2.out.below ((Uf _ _).alloc (Ue _) _)) HL.out).mono ?_;rintro e w3 ⟨⟨VK,ad3,cap3,rfl,hx3,-,-⟩,rfl⟩;by_cases hz:VK.length=0
   ·have HN:Hid (aS (ae rs) typ (aj rows)=false):=by
     have h1:aB (ae rs) rows[k].e.allow[j].t rows[k].e.allow[j].s=[]:=by unfold aB;rw [<-hx3,Uu.1 hz];rfl
     show _=_;rw [<-HP.out,gI _ _ hlt];simp [aS,uP (ae rs) _ j hjl (by simp [pW,he,h1])]
    rw [hz];clear hx3;go_wp2;go_ret;exact ⟨by rw [HN.out];rfl,XL.out.alloc XL.out.size _⟩
   have HJ2:Hid (nW (ae rs) rows[k].e.allow (j+1)=true):=by
    have h1:aB (ae rs) rows[k].e.allow[j].t rows[k].e.allow[j].s≠[]:=by
     unfold aB;rw [<-hx3];intro h2;apply hz;rw [<-aN,h2];rfl
    show _=_;rw [o7 _ _ _ hjl,HJ.out];simp [pW,hty,h1]
   have hzb:((VK.length:Int)==0)=false:=by simp;intro h;apply hz;rw [h];rfl
   clear hx3;go_wp2;go_roundw;case rel=>exact ⟨j+1,by omega,by go_num,HJ2,HB2.out.alloc HB2.out.size _⟩
   simp [intOf] <;> omega
  have Xz:Hid (o6 (ae rs) rows[k].e.allow=true):=by
   have:=HJ.out;unfold nW at this;rwa [List.take_of_length_le (by omega)]at this
  by_cases h2:rows[k].e.kind=2
  ·go_wp2_with fail;refine (je ad cap rs _ _ _ hlen HS2.out HL.out).mono ?_;rintro e w3 ⟨⟨VK,ad3,cap3,rfl,hx3,-,-⟩,rfl⟩;by_cases hz:VK.length=0
   ·have HN:Hid (aS (ae rs) typ (aj rows)=false):=by
     have h1:aB (ae rs) typ rows[k].e.name=[]:=by unfold aB;rw [<-hx3,Uu.1 hz];rfl
     show _=_;rw [<-HP.out,gI _ _ hlt];simp [aS,ll,h2,h1]
    rw [hz];clear hx3;go_wp2;go_ret;exact ⟨by rw [HN.out];rfl,XL.out⟩
   have UW:Hid (aS (ae rs) typ (aj (rows.drop (k+1)))=aS (ae rs) typ (aj rows)):=by
    have h1:aB (ae rs) typ rows[k].e.name≠[]:=by
     unfold aB;rw [<-hx3];intro h2;apply hz;rw [<-aN,h2];rfl
    show _=_;rw [<-HP.out,gI _ _ hlt];simp [aS,ll,h2,h1,Xz.out]
   have hzb:((VK.length:Int)==0)=false:=by simp;intro h;apply hz;rw [h];rfl
   clear hx3;go_wp2;go_roundw;case rel=>exact ⟨k+1,by omega,by go_num,UW,XL⟩
   simp [intOf] <;> omega
  by_cases h3:rows[k].e.kind=3
  ·go_wp2_with fail;refine (je ad cap rs _ _ _ hlen HS2.out HL.out).mono ?_;rintro e w3 ⟨⟨VK,ad3,cap3,rfl,hx3,hs3,hf3⟩,rfl⟩;have hl3:=hf3.light HL.out;go_wp2_with fail;refine (Eh ad3 cap3 VK _ hl3.1 hs3 hl3.2).mono ?_;rintro e w3 ⟨rfl,rfl⟩;have HX:Hid (aj VK=aB (ae rs) typ rows[k].e.over):=hx3;clear hx3 hs3 hf3 hl3;rw [HX.out];cases hd:bz (aB (ae rs) typ rows[k].e.over);case false=>
    have HN:Hid (aS (ae rs) typ (aj rows)=false):=by
     show _=_;rw [<-HP.out,gI _ _ hlt];simp [aS,ll,h3,hd]
    go_wp2;go_ret;exact ⟨by rw [HN.out];rfl,XL.out⟩
   go_wp2_with fail;refine (xG ad cap rs _ _ _ _ hlen HS2.out HL.out).mono ?_;rintro e w4 ⟨⟨ad4,cap4,rfl,-⟩,hb4⟩;have Vx:=jP XL hb4;clear hb4;by_cases hz:(ig (ae rs) typ rows[k].e.over rows[k].e.name).length=0
   ·have HN:Hid (aS (ae rs) typ (aj rows)=false):=by
     show _=_;rw [<-HP.out,gI _ _ hlt];simp [aS,ll,h3,Uu.1 hz]
    rw [hz];go_wp2;go_ret;exact ⟨by rw [HN.out];rfl,Vx.out⟩
   have UW:Hid (aS (ae rs) typ (aj (rows.drop (k+1)))=aS (ae rs) typ (aj rows)):=by
    have h1:ig (ae rs) typ rows[k].e.over rows[k].e.name≠[]:=by intro h;apply hz;rw [h];rfl
    show _=_;rw [<-HP.out,gI _ _ hlt];simp [aS,ll,h3,h1,hd,Xz.out]
   have hzb:(((ig (ae rs) typ rows[k].e.over rows[k].e.name).length:Int)==0)=false:=by simp;intro h;apply hz;rw [h];rfl
   go_wp2;go_roundw;case rel=>exact ⟨k+1,by omega,by go_num,UW,Vx⟩
   simp [intOf] <;> omega
  have UW:Hid (aS (ae rs) typ (aj (rows.drop (k+1)))=aS (ae rs) typ (aj rows)):=by
   show _=_;rw [<-HP.out,gI _ _ hlt];simp [aS,ll,h2,h3,Xz.out]
  have hb2:(rows[k].e.kind==2)=false:=by simpa using h2
  have hb3:(rows[k].e.kind==3)=false:=by simpa using h3
  go_wp2;go_roundw;case rel=>exact ⟨k+1,by omega,by go_num,UW,XL⟩
  simp [intOf] <;> omega
 have HN:Hid (aS (ae rs) typ (aj rows)=true):=by show _=_;rw [<-HP.out,List.drop_of_length_le (by omega)];rfl
 go_wp2;go_ret;exact ⟨by rw [HN.out];rfl,HB.out⟩
open Go.Sort
def bq (i:Nat)(kind:Int):List Int->Nat->List Bool->List Bool
 | [],_,out=>out
 | x::xs,k,out=>bq i kind xs (k+1) (out.set x.toNat (out.getD i false || (kind==6&&k==1)))
def dV (es:List Ex):Nat->List Bool->List Bool
 | 0,out=>out
 | i+1,out=>dV es i (match es[i]? with|none=>out|some e=>bq i e.kind e.kids 0 out)
def dC (es:List Ex):List Bool:=dV es es.length (List.replicate es.length false)
theorem xH (i:Nat)(kind:Int)(xs:List Int)(k:Nat)(out:List Bool):(bq i kind xs k out).length=out.length:=by
 induction xs generalizing k out with
 | nil=>rfl
 | cons x xs ih=>simp [bq,ih]
def bools (xs:List Bool):List Value:=xs.map Value.bool
theorem Fil.set {w wr:af}{g n o:Nat}{xs:List Value}(h:Fil w wr g n xs)(v:Value)(ho:o<xs.length)(hn:o<n):Fil w (wr.setCell ⟨g,o,none⟩ v) g n (xs.set o v) where
 below:=h.below.setCell (p:=⟨g,o,none⟩) h.ge v
 ge:=h.ge
 lt:=by simpa using h.lt
 done j hj:=by
  by_cases e:j=o
  ·subst e;obtain ⟨u,hu⟩:=Option.isSome_iff_exists.mp (h.there j hn);rw [xA hu];simp
  have hj':j<xs.length:=by simpa using hj
  rw [lQ (Ne.symm e),h.done j hj',List.getElem_set_ne (Ne.symm e)]
 there j hj:=by
  by_cases e:j=o
  ·subst e;obtain ⟨u,hu⟩:=Option.isSome_iff_exists.mp (h.there j hn);rw [xA hu];rfl
  rw [lQ (Ne.symm e)];exact h.there j hj
 free j:=by simpa using h.free j
theorem Fil.drew {w wr:af}{g n:Nat}{xs:List Value}(h:Fil w wr g n xs):Fil w wr.drew g n xs:=⟨h.below.drew,h.ge,h.lt,h.done,h.there,h.free⟩
theorem CF {w w0:af}{n:Nat}{base:Nat}{e:TypeId}{v:Value}(h:w0.ownsRow base e 1 (.slice (some ⟨w.heap.size,0,none⟩) n n) n (madeCells #[v] (n*1)).toList)(hg:w.grownBy w0 none):Fil w w0 w.heap.size n (List.replicate n v) where
 below:=(Uf _ _).grown hg (Ue _) (fun k hk=>by cases hk)
 ge:=Ue _
 lt:=(h.lt w.heap.size rfl).2
 done j hj:=by
  have hj':j<n:=by simpa using hj
  rw [h.cellAt j (by omega),toList_madeCells_one];simp [hj']
 there j hj:=by
  rw [h.cellAt j (by omega),Uj (by rw [h.1];omega)];rfl
 free j:=h.frozenAt j
theorem zI:(prog.info? 4).map (fun i=>(i.zero,i.size,i.bytes))=some (some (.bool false),1,1):=by kernel_rfl
theorem zJ (es:List Ex)(m:Nat)(out:List Bool)(h:m<es.length):dV es (m+1) out=dV es m (bq m es[m].kind es[m].kids 0 out):=by
 simp [dV,h]
theorem jF (i:Nat)(kind:Int)(ks:List Int)(j:Nat)(out:List Bool)(h:j<ks.length):bq i kind (ks.drop j) j out=bq i kind (ks.drop (j+1)) (j+1) (out.set ks[j].toNat (out.getD i false || (kind==6&&j==1))):=by
 rw [UB h];rfl
theorem nX (out:List Bool)(o:Nat)(v:Bool):bools (out.set o v)=(bools out).set o (.bool v):=by simp [bools,List.map_set]
def dW (n:Nat)(ks:List Int):Prop:=∀ x∈ks,0<=x/\x<(n:Int)
theorem Lc (ad:Option Addr)(cap:Nat)(rs:List ER)(w:af)(hlen:rs.length<=1048576)(hs:iC w ad rs)(hl:∀ r∈rs,r.e.light)(hk:∀ r∈rs,dW rs.length r.e.kids) :
  Calls prog 196 #[.slice ad rs.length cap] w fun e w'=>e=.returned (.slice (some ⟨w.heap.size,0,none⟩) rs.length rs.length)/\Fil w w' w.heap.size rs.length (bools (dC (aj rs))):=by
 have HS:=aA hs;have HL:=aA hl;have HK:=aA hk;clear hs hl hk;obtain ⟨inf,hi,hz0,hz1,hz2⟩:=info_parts zI;go_enter func196,ntmps196;go_wp2_with (at_make;refine wpList_make_full _ rfl _ _ 275 rfl w.heap.size 4 inf (.bool false) 1 underlying275 hi hz0 hz1 .i64 .i64 _ _ rs.length rfl rfl rfl rfl (by rw [hz2];omega) (by unfold maxLen;omega) (Ue _) ?_;intro w0 hown0 VL);have HF0:Hid (Fil w w0 w.heap.size rs.length (bools (List.replicate rs.length false))):=by
  have:=CF (v:=.bool false) hown0 VL;show Fil _ _ _ _ _;simpa [bools] using this
 clear hown0 VL hi hz0 hz1 hz2;go_loopw [4] (fun i wr=>∃ (m:Nat) (out:List Bool),m<=rs.length/\i=.int .i64 ((m:Int)-1)/\out.length=rs.length/\Hid (dV (aj rs) m out=dC (aj rs))/\Hid (Fil w wr w.heap.size rs.length (bools out))) (fun i _=>(intOf i+1).toNat);case atStart=>exact ⟨rs.length,List.replicate rs.length false,Ue _,by go_num,by simp,(by show _=_;unfold dC;rw [aN]),HF0⟩
 obtain ⟨m,out,hm,rfl,hol,HN,HF⟩:=hrel;by_cases hm0:0<m
 ·obtain ⟨m,rfl⟩:∃ m',m=m'+1:=⟨m-1,by omega⟩;have hmi:(((m+1:Nat):Int)-1)=(m:Int):=by omega
  rw [hmi];have hlt:m<rs.length:=by omega
  rcases HS.out.below HF.out.below with rfl|⟨b,off,rfl,hb,hr,hok⟩
  ·simp at hlt
  obtain ⟨t0,t1,t2,t3,t4⟩:=hr m hlt;have VP:Hid (rs[m].ok _):=hok rs[m] (Ud hlt);have lg:=(HL.out rs[m] (Ud hlt)).2;have HKI:Hid (dW rs.length rs[m].e.kids):=HK.out rs[m] (Ud hlt);have hk1:=bF m;have hk2:(m:Int)<(rs.length:Int):=by omega
  have hbw:b<w.heap.size:=by
   rcases HS.out with h|⟨b',off',h1,h2,-⟩
   ·rw [h]at hlt;simp at hlt
   injection h1 with h1;injection h1 with h1;omega
  have HR:Hid (ym wr b (off+m*5) rs[m]):=hr m hlt;have HNX:Hid (dV (aj rs) m (bq m rs[m].e.kind rs[m].e.kids 0 out)=dC (aj rs)):=by
   show _=_;rw [<-HN.out,zJ _ _ _ (by rw [aN];exact hlt)];simp [aj]
  clear hr hok t0 t1 t2 t3 t4;go_wp2_with fail;go_loopw [5] (fun i w2=>∃ (j:Nat) (UR:List Bool),j<=rs[m].e.kids.length/\i=.int .i64 j/\UR.length=rs.length/\Hid (bq m rs[m].e.kind (rs[m].e.kids.drop j) j UR=bq m rs[m].e.kind rs[m].e.kids 0 out)/\Hid (Fil w w2 w.heap.size rs.length (bools UR))) (fun i _=>rs[m].e.kids.length-(intOf i).toNat);case atStart=>exact ⟨0,out,Ui _,rfl,hol,rfl,HF⟩
  obtain ⟨j,UR,hj,rfl,ho2,HJ,VV⟩:=hrel;have hE2:iC wr _ rs:=HS.out.below VV.out.below;have ht:ym wr b (off+m*5) rs[m]:=by
   rcases hE2 with h|⟨b',off',h1,h2,h3,-⟩
   ·exact absurd hlt (by rw [h];simp)
   injection h1 with h1;injection h1 with h1 h1';subst h1;subst h1';exact h3 m hlt
  obtain ⟨t0,t1,t2,t3,t4⟩:=ht;by_cases hjl:j<rs[m].e.kids.length
  ·have hK2:p8 wr rs[m].adK rs[m].e.kids:=(hE2.mem (Ud hlt)).2;rcases hK2 with hnil|⟨ba,WH,Vi,WA,hra⟩
   ·rw [hnil]at hjl;simp at hjl
   rw [Vi]at t4;have q0:=hra j hjl;have hj1:=bF j;have hj2:(j:Int)<(rs[m].e.kids.length:Int):=by omega
   obtain ⟨x0,x1⟩:=HKI.out _ (Ud hjl);obtain ⟨x,hx⟩:∃ x:Nat,rs[m].e.kids[j]=(x:Int):=⟨rs[m].e.kids[j].toNat,by omega⟩;rw [hx]at q0 x0 x1;have c0:=VV.out.done m (by simp [bools];omega);have fz:=VV.out.free;obtain ⟨v0,u0⟩:=Option.isSome_iff_exists.mp (VV.out.there x (by omega));have hbr:b<wr.heap.size:=Uc hbw VV.out.below.size;obtain ⟨bo,hbo⟩:∃ bo,bo=(bools UR)[m]'(by simp [bools];omega):=⟨_,rfl⟩;rw [<-hbo]at c0;clear hra Vi hE2 t1 t2 t3;have hm2:m<UR.length:=by omega
   have Zu:bo=.bool UR[m]:=by rw [hbo];simp [bools]
   have Zv:UR[m]?.getD false=UR[m]:=by simp [hm2]
   rw [Zu]at c0;clear hbo Zu;have HJ3:Hid (∀ bv,(UR[m] || (rs[m].e.kind==6&&j==1))=bv->bq m rs[m].e.kind (rs[m].e.kids.drop (j+1)) (j+1) (UR.set x bv)=bq m rs[m].e.kind rs[m].e.kids 0 out):=by
    rintro _ rfl;rw [<-HJ.out,jF _ _ _ _ _ hjl,hx];simp [Zv]
   have WK:Hid (∀ bv d os,Fil w ((grow (redrawn wr d) os).setCell ⟨w.heap.size,x,none⟩ (.bool bv)) w.heap.size rs.length (bools (UR.set x bv))):=by
    intro bv d os;rw [nX];exact (VV.out.later (below_regrown wr d os)).set _ (by simp [bools];omega) (by omega)
   go_wp2_with fail;replace fz:=fun d os=>(VV.out.later (below_regrown wr d os)).free;replace t0:=cell_regrown t0;replace t4:=cell_regrown t4;replace q0:=cell_regrown q0;replace c0:=cell_regrown c0;replace u0:=cell_regrown u0;clear Zv;cases hb0:UR[m] <;> cases hkb:(rs[m].e.kind==6) <;> cases hjb:((j:Int)==1)
   all_goals
    have hjn:(j==1)=_:=(by rw [Bool.eq_iff_iff];simp;omega:(j==1)=((j:Int)==1)).trans hjb;rw [hb0]at c0;have HJ4:=qc (HJ3.out _ (by rw [hb0,hkb,hjn]));refine pY 26 1 (by kernel_rfl) (by rfl) (by kernel_rfl) ?_;simp only [List.take_succ_cons,List.take_zero]
    repeat (go_big_quiet_step (fail))
    refine wpQuiet_nil ?_;rintro _ ⟨⟨dq,osq⟩,rfl⟩;refine wpOp_step rfl (fun K hK=>?_);replace hK:=qc hK;go_simp;refine hK.out _ _ ?_;clear hK;unfold nJ;go_wp2;go_roundw;case rel=>exact ⟨j+1,_,by omega,by go_num,by simp [ho2],HJ4,WK.out _ _ _⟩
    simp [intOf] <;> omega
  have XM:Hid (dV (aj rs) m UR=dC (aj rs)):=by
   show _=_;rw [<-HNX.out,<-HJ.out,List.drop_of_length_le (by omega)];rfl
  go_wp2;go_roundw;case rel=>exact ⟨m,UR,by omega,by go_num,ho2,XM,VV⟩
  simp [intOf] <;> omega
 obtain rfl:m=0:=by omega
 have WZ:Hid (Fil w wr w.heap.size rs.length (bools (dC (aj rs)))):=by
  show Fil _ _ _ _ _;rw [<-HN.out];exact HF.out
 go_wp2;go_ret;exact ⟨rfl,WZ.out⟩
end Go.Proofs.YtajkkeikihhejaaGreat
