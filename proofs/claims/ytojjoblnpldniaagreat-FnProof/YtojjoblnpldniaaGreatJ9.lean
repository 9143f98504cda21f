/- Contracts of the program's functions on whether what a schema names is there. -/
import Derived.Test.YtojjoblnpldniaaGreatSq
import Derived.Test.YtojjoblnpldniaaGreatJ6
open Go.Proofs.Tryz
set_option maxHeartbeats 80000000
set_option linter.defProp false
namespace Go.Proofs.YtojjoblnpldniaaGreat
open ChangeShapes WideShapes ChangeAt RowKit Maps
open Pl
def Ct(t:TR)(g:Nat)(nm:dw)(w:ag)(hg:cW g w)(hc:w.cell? (am g)=some (.string nm)):
  Calls prog 296 #[.agg #[.string t.name,.slice t.ad t.rows.length t.cap],.pointer<|some<|am g] w (a8 w<|.bool<|t.name.toList==nm.toList):=by
 go_enter func296,ntmps296;go_wp2;go_ret;exact⟨rfl,(XL _ _).alloc (XK _) _⟩
def Fj(rs:Q06)(k:Nat)(h:k<rs.length)(nm:dw):mE (ai<|rs.drop k) nm=((rs[k].name.toList==nm.toList) || mE (ai<|rs.drop<|k+1) nm):=by
 rw[oW _ _ h];rfl
def Cu(ad:Q02)(cap:Nat)(rs:Q06)(g:Nat)(nm:dw)(w:ag)(hlen:a7 rs)(hs:kI w ad rs)(hg:cW g w)(hc:w.cell? (am g)=some (.string nm)):
  Calls prog 323 #[.slice ad rs.length cap,.func (Fn.func 296) #[] #[.pointer (some<|am g)]] w fun e w'=>(∃r:Int,e=.returned (.int .i64 r)/\decide (0<=r)=mE (ai rs) nm)/\ae w w':=by
 have HS:=aK hs;have HC:O (ab w g<|.string nm):=hc;clear hs hc;go_enter func323,ntmps323;go_wp2_with fail;go_loopw[8] (fun i wr=>∃k:Nat,k<=rs.length/\i=.int .i64 k/\O (mE (ai<|rs.drop k) nm=mE (ai rs) nm)/\O (ae w wr)) (fun i _=>rs.length-(intOf i).toNat);case atStart=>exact⟨0,XP _,rfl,rfl,XL _ _⟩
 obtain⟨k,hk,rfl,HP,HB⟩:=hrel;by_cases hlt:k<rs.length
 ·rcases HS.out.below HB.out with rfl|⟨b,off,rfl,hb,hr,-⟩
  ·simp at hlt
  obtain⟨t0,t1⟩:=hr k hlt;have hk1:=bG k;have hk2:(k:Int)<(rs.length:Int):=cq;have HCW:O (ab wr g<|.string nm):=aM HB hg HC;have HGW:O (g<wr.heap.size):=XJ hg HB.size;clear hr;cases he:(rs[k].name.toList==nm.toList);case true=>
   have HN:O (mE (ai rs) nm=true):=by show _=_;rw[<-HP,Fj _ _ hlt,he];rfl
   go_wp2_with(go_at_call 296;refine(Ct rs[k] g nm _ HGW HCW).mono ?_;rintro e w' ⟨he2,hbx⟩;rw[he]at he2;subst he2);go_ret;exact⟨⟨k,rfl,by rw[HN];simp⟩,HB.trans<|hbx.mono HB.size⟩
  have Zc:O (mE (ai<|rs.drop<|k+1) nm=mE (ai rs) nm):=by show _=_;rw[<-HP,Fj _ _ hlt,he];rfl
  go_wp2_with(go_at_call 296;refine(Ct rs[k] g nm _ HGW HCW).mono ?_;rintro e w' ⟨he2,hbx⟩;rw[he]at he2;subst he2);go_roundw;case rel=>exact⟨k+1,cq,cx,Zc,HB.trans<|hbx.mono HB.size⟩
  simp[intOf]<;>omega
 have HN:O (mE (ai rs) nm=false):=by show _=_;rw[<-HP,Ya cq];rfl
 go_wp2;go_ret;exact⟨⟨-1,rfl,by rw[HN];simp⟩,HB⟩
def xw(ad:Q02)(cap:Nat)(rs:Q06)(g:Nat)(nm:dw)(w:ag)(hlen:a7 rs)(hs:kI w ad rs)(hg:cW g w)(hc:w.cell? (am g)=some (.string nm)):
  Calls prog 295 #[.slice ad rs.length cap,.func (Fn.func 296) #[] #[.pointer (some<|am g)]] w (a8 w<|.bool<|mE (ai rs) nm):=by
 go_enter func295,ntmps295;go_wp2_with fail;refine(Cu ad cap rs g nm _ hlen hs hg hc).mono ?_;rintro e w' ⟨⟨r,rfl,hr⟩,hbx⟩;have HR:O (decide (0<=r)=mE (ai rs) nm):=hr;clear hr hs hc;go_wp2;go_ret;exact⟨by rw[<-HR];rfl,hbx⟩
set_option maxRecDepth 100000 in
def Cv(ad adA:Q02)(cap capA:Nat)(rs:Q06)(b n:Nat)(M:ByteArray×ByteArray->Option Value)(xs:Q0a)(w:ag)(hlen:a7 rs)(hs:kI w ad rs)(hV:aL eD prog 146 w b n M)(hT:Tab rs M)(hla:a7 xs)(hsa:mJ w adA xs)(hfa:∀a∈xs,a.fits):
  Calls prog 258 #[.slice ad rs.length cap,.map<|some b,.slice adA xs.length capA] w (a8 w<|.bool<|p8 (ai rs) xs):=by
 have HS:=aK hs;have HV:O (aL eD prog 146 w b n M):=hV;have HT:=aK hT;have HA:=aK hsa;have HFA:=aK hfa;clear hs hV hT hsa hfa;go_enter func258,ntmps258;go_wp2_with fail;go_loopw[11] (fun i wr=>∃k:Nat,k<=xs.length/\i=.int .i64 k/\O (o6 (ai rs) xs k=true)/\O (ae w wr)) (fun i _=>xs.length-(intOf i).toNat);case atStart=>exact⟨0,XP _,rfl,Bb _ _,XL _ _⟩
 obtain⟨k,hk,rfl,HP,HB⟩:=hrel;by_cases hlt:k<xs.length
 ·rcases HA.out.below HB.out with rfl|⟨ba,offa,rfl,hba,hra⟩
  ·simp at hlt
  obtain⟨t0,t1⟩:=hra k hlt;have hk1:=bG k;have hk2:(k:Int)<(xs.length:Int):=cq;have zA:=HFA _<|XI hlt;have z1:xs[k].t.size<=maxLen:=zA.1;have z2:xs[k].s.size<=maxLen:=zA.2;have HI:O ((M (xs[k].t,xs[k].s)).isSome=!(aH (ai rs) xs[k].t xs[k].s).isEmpty):=HT.some_iff (xs[k].t,xs[k].s);obtain⟨W1,hW1⟩:=eQx<|wr.alloc<|.cells #[.string xs[k].t,.string xs[k].s] 216;have hal:ae wr W1:=by rw[hW1];exact(XL _ _).alloc (XK _) _
  have Y9:=jr HB hal;have g0:W1.cell? (aE wr)=some (.string xs[k].t):=by rw[hW1];simp
  have g1:W1.cell? (a6 wr 1)=some (.string xs[k].s):=by rw[hW1];simp
  have hgl:wr.heap.size<W1.heap.size:=by rw[hW1];simp
  clear hra hal zA;go_wp2_with fail;rw[<-hW1];clear hW1 t0 t1;refine(xw ad cap rs wr.heap.size xs[k].t _ hlen (HS.below Y9) hgl g0).mono ?_;rintro e w2 ⟨rfl,hb2⟩;have HB2:=jr Y9 hb2;replace g0:=aM hb2 hgl g0;replace g1:=aM hb2 hgl g1;have HV2:=aK<|HV.below HB2;clear hb2 hgl;cases ht:mE (ai rs) xs[k].t;case false=>
   have HN:O (p8 (ai rs) xs=false):=wB _ _ k hlt (by simp[qX,ht]);go_wp2;go_ret;exact⟨by rw[HN];rfl,HB2⟩
  cases he:xs[k].s.toList.isEmpty;case true=>
   have Zc:O (o6 (ai rs) xs (k+1)=true):=by show _=_;rw[p9 _ _ _ hlt,HP];simp[qX,ht,he]
   go_wp2;go_roundw;case rel=>exact⟨k+1,cq,cx,Zc,HB2⟩
   simp[intOf]<;>omega
  cases hz:(M (xs[k].t,xs[k].s)).isSome;case false=>
   have HN:O (p8 (ai rs) xs=false):=wB _ _ k hlt (by have:=HI.out;rw[hz]at this;simp[qX,ht,he];simpa using this.symm);go_wp2_with(go_at_call 94;refine(AP b n M xs[k].t xs[k].s _ z1 z2 HV2).mono ?_;rintro e w' ⟨he2,rfl⟩;rw[hz]at he2;subst he2);go_ret;exact⟨by rw[HN];rfl,HB2⟩
  have Zc:O (o6 (ai rs) xs (k+1)=true):=by show _=_;rw[p9 _ _ _ hlt,HP];have:=HI.out;rw[hz]at this;simp[qX,ht,he];simpa using this.symm
  go_wp2_with(go_at_call 94;refine(AP b n M xs[k].t xs[k].s _ z1 z2 HV2).mono ?_;rintro e w' ⟨he2,rfl⟩;rw[hz]at he2;subst he2);go_roundw;case rel=>exact⟨k+1,cq,cx,Zc,HB2⟩
  simp[intOf]<;>omega
 have HN:O (p8 (ai rs) xs=true):=by
  have:=HP.out;obtain rfl:k=xs.length:=cq;unfold o6 at this;rw[X8]at this;exact this
 go_wp2;go_ret;exact⟨by rw[HN];rfl,HB⟩
def vS{e:Ex}(h:aD e=true)(h1:e.kind≠1):e.allow=[]:=by
 unfold aD at h;rw[if_neg h1]at h;split at h
 ·simp only[XN,XU]at h;exact X0.1 h.1.1.2
 split at h
 ·simp only[XN,XU]at h;exact X0.1 h.1.2
 split at h
 ·simp only[XN,XU]at h;exact X0.1 h.1.1.2
 split at h
 ·simp only[XN,XU]at h;exact X0.1 h.1.1.2
 cases h
def LB(ts:Q0b)(typ:dw)(rows:Q08)(k:Nat)(h:k<rows.length):bi ts typ (au<|rows.drop k)=if p8 ts rows[k].e.allow&&mF ts typ rows[k].e then bi ts typ (au<|rows.drop<|k+1) else false:=by
 rw[il _ _ h];rfl
def Jg(ts:Q0b)(typ:dw)(e:Ex)(h:e.kind=3):mF ts typ e=!(ic ts typ e.over e.name).isEmpty:=by
 unfold mF ic;rw[if_neg cq,if_pos h];cases bQ (aH ts typ e.over)<;>simp
set_option maxRecDepth 100000 in
def Cw(ad YY:Q02)(cap capE:Nat)(rs:Q06)(b n:Nat)(M:ByteArray×ByteArray->Option Value)(typ:dw)(rows:Q08)(w:ag)(hlen:a7 rs)(hs:kI w ad rs)(hl:∀r∈rs,r.light)(hf:∀r∈rs,r.fits)(hV:aL eD prog 146 w b n M)(hT:Tab rs M)(ht:typ.size<=maxLen)(hle:a7 rows)(hse:iE w YY rows)(hlE:∀q∈rows,q.e.light)(hfE:∀q∈rows,q.e.fits)(hnb:∀q∈rows,aD q.e=true):
  Calls prog 185 #[.slice ad rs.length cap,.map<|some b,.string typ,.slice YY rows.length capE] w (a8 w<|.bool<|bi (ai rs) typ<|au rows):=by
 have HS:=aK hs;have HL:=aK hl;have Zd:=aK hf;have HV:O (aL eD prog 146 w b n M):=hV;have HT:=aK hT;have HE:=aK hse;have ZH:=aK hlE;have HFE:=aK hfE;have HNB:O (∀q∈rows,aD q.e=true):=hnb;clear hs hl hf hV hT hse hlE hfE hnb;go_enter func185,ntmps185;go_wp2_with fail;go_loopw[13] (fun i wr=>∃k:Nat,k<=rows.length/\i=.int .i64 k/\O (bi (ai rs) typ (au<|rows.drop k)=bi (ai rs) typ (au rows))/\O (ae w wr)) (fun i _=>rows.length-(intOf i).toNat);case atStart=>exact⟨0,XP _,rfl,rfl,XL _ _⟩
 obtain⟨k,hk,rfl,HP,HB⟩:=hrel;by_cases hlt:k<rows.length
 ·rcases HE.out.below HB.out with rfl|⟨bE,offE,rfl,hbE,hrE,hokE⟩
  ·simp at hlt
  obtain⟨t0,t1,t2,t3,t4⟩:=hrE k hlt;have HOKW:O (rows[k].ok w):=HE.mem<|XI hlt;have hk1:=bG k;have hk2:(k:Int)<(rows.length:Int):=cq;have lgA:a7 rows[k].e.allow:=(ZH _<|XI hlt).1;have HFK:O (rows[k].e.fits):=HFE _<|XI hlt;have HNK:O (aD rows[k].e=true):=HNB _<|XI hlt;have HDR:=LB (ai rs) typ rows k hlt;have HD:O (bi (ai rs) typ (au rows)=if p8 (ai rs) rows[k].e.allow&&mF (ai rs) typ rows[k].e then bi (ai rs) typ (au<|rows.drop<|k+1) else false):=by show _=_;rw[<-HP];exact HDR
  obtain⟨W1,hW1⟩:=eQx<|wr.alloc<|.cells (cU rows[k]) 43;have hal:ae wr W1:=by rw[hW1];exact(XL _ _).alloc (XK _) _
  have Y9:=jr HB hal;have HVW:=aK<|HV.below Y9;have zO:rows[k].e.over.size<=maxLen:=HFK.2.1;have zN:rows[k].e.name.size<=maxLen:=HFK.2.2.1;clear hrE hokE hal HDR;by_cases h1:rows[k].e.kind=1
  ·have HRN:O (mF (ai rs) typ rows[k].e=true):=by show _=_;unfold mF;rw[if_neg cq,if_neg cq]
   have hq1:(rows[k].e.kind==1)=true:=by simpa using h1
   replace h1:O (rows[k].e.kind=1):=h1;go_wp2_with fail;rw[<-hW1];refine(Cv ad rows[k].adA cap rows[k].capA rs b n M rows[k].e.allow _ hlen (HS.below Y9) HVW HT lgA (HOKW.1.below Y9) HFK.1).mono ?_;rintro e w2 ⟨rfl,hb2⟩;have HB2:=jr Y9 hb2;clear hb2 hW1 t0 t1 t2 t3 t4;cases hz:p8 (ai rs) rows[k].e.allow;case false=>
    have HN:O (bi (ai rs) typ (au rows)=false):=by show _=_;rw[HD,hz];rfl
    go_wp2;go_ret;exact⟨by rw[HN];rfl,HB2⟩
   have Zc:O (bi (ai rs) typ (au<|rows.drop<|k+1)=bi (ai rs) typ (au rows)):=by show _=_;rw[HD,hz,HRN];rfl
   go_wp2;go_roundw;case rel=>exact⟨k+1,cq,cx,Zc,HB2⟩
   simp[intOf]<;>omega
  have hq1:(rows[k].e.kind==1)=false:=by simpa using h1
  have HRA:O (p8 (ai rs) rows[k].e.allow=true):=by show _=_;rw[vS HNK h1];rfl
  by_cases h2:rows[k].e.kind=2
  ·have hq2:(rows[k].e.kind==2)=true:=by simpa using h2
   have HI:=HT.some_iff (typ,rows[k].e.name);have HRN:O (mF (ai rs) typ rows[k].e=(M (typ,rows[k].e.name)).isSome):=by show _=_;unfold mF;rw[if_pos h2,HI]
   clear HI;replace h2:O (rows[k].e.kind=2):=h2;go_wp2_with fail;rw[<-hW1];refine(AP b n M typ rows[k].e.name _ ht zN HVW).mono ?_;rintro e w2 ⟨rfl,hw2⟩;rw[hw2];clear hw2 w2 hW1 t0 t1 t2 t3 t4;cases hz:(M (typ,rows[k].e.name)).isSome;case false=>
    have HN:O (bi (ai rs) typ (au rows)=false):=by show _=_;rw[HD,HRN,hz,HRA];rfl
    go_wp2;go_ret;exact⟨by rw[HN];rfl,Y9⟩
   have Zc:O (bi (ai rs) typ (au<|rows.drop<|k+1)=bi (ai rs) typ (au rows)):=by show _=_;rw[HD,HRN,hz,HRA];rfl
   go_wp2;go_roundw;case rel=>exact⟨k+1,cq,cx,Zc,Y9⟩
   simp[intOf]<;>omega
  have hq2:(rows[k].e.kind==2)=false:=by simpa using h2
  by_cases h3:rows[k].e.kind=3
  ·have hq3:(rows[k].e.kind==3)=true:=by simpa using h3
   have HRN:O (mF (ai rs) typ rows[k].e=!(ic (ai rs) typ rows[k].e.over rows[k].e.name).isEmpty):=Jg _ _ _ h3;replace h3:O (rows[k].e.kind=3):=h3;go_wp2_with fail;rw[<-hW1];refine(zD b n rs ad M typ rows[k] _ HVW HT (HS.below Y9) HL Zd ht zO zN).mono ?_;rintro e w2 ⟨⟨Y8,cap',rfl,-,-⟩,hb2⟩;have HB2:=jr Y9 hb2;clear hb2 hW1 t0 t1 t2 t3 t4;generalize ic (ai rs) typ rows[k].e.over rows[k].e.name=gs at HRN⊢;cases gs with
   | nil =>
    have HN:O (bi (ai rs) typ (au rows)=false):=by show _=_;rw[HD,HRN,HRA];rfl
    go_wp2;go_ret;exact⟨by rw[HN];rfl,HB2⟩
   | cons g gs =>
    have Zc:O (bi (ai rs) typ (au<|rows.drop<|k+1)=bi (ai rs) typ (au rows)):=by show _=_;rw[HD,HRN,HRA];rfl
    have hlz:(((g::gs).length:Int)==0)=false:=by
     have:¬(((g::gs).length:Int)=0):=by simp;omega
     simpa using this
    obtain⟨ln,hln⟩:=eQx<|(g::gs).length;rw[<-hln]at hlz ⊢;clear hln;go_wp2;go_roundw;case rel=>exact⟨k+1,cq,cx,Zc,HB2⟩
    simp[intOf]<;>omega
  have hq3:(rows[k].e.kind==3)=false:=by simpa using h3
  have HRN:O (mF (ai rs) typ rows[k].e=true):=by show _=_;unfold mF;rw[if_neg h2,if_neg h3]
  have Zc:O (bi (ai rs) typ (au<|rows.drop<|k+1)=bi (ai rs) typ (au rows)):=by show _=_;rw[HD,HRN,HRA];rfl
  have Zv:O (ae w<|wr.alloc<|.cells (cU rows[k]) 43):=by rw[<-hW1];exact Y9
  clear hW1;go_wp2;go_roundw;case rel=>exact⟨k+1,cq,cx,Zc,Zv⟩
  simp[intOf]<;>omega
 have HN:O (bi (ai rs) typ (au rows)=true):=by show _=_;rw[<-HP,Ya cq];rfl
 go_wp2;go_ret;exact⟨by rw[HN];rfl,HB⟩
def Al.cells(a:Al):List Value:=[.string a.t,.string a.s]
def iX:List Al->List Value
 | []=>[]
 | a::xs=>a.cells++iX xs
def GQ(xs ys:Q0a):iX (xs++ys)=iX xs++iX ys:=by
 induction xs with
 | nil=>rfl
 | cons d ds ih=>simp[iX,ih]
def Cx(xs:Q0a)(d:Al):iX (xs++[d])=iX xs++d.cells:=by rw[GQ];simp[iX]
def Fp(xs:Q0a)(i:Nat)(h:i<xs.length)(o:Nat)(ho:o<2):(iX xs)[i*2+o]?=(xs[i].cells)[o]?:=by
 induction xs generalizing i with
 | nil=>simp at h
 | cons s xs ih =>
  cases i with
  | zero =>
   simp only[iX,Nat.zero_mul,Yg,List.getElem_cons_zero];rw[YK (by simp[Al.cells];omega)]
  | succ i =>
   simp only[iX,List.getElem_cons_succ];rw[YA (by simp[Al.cells];omega)];have e:(i+1)*2+o-s.cells.length=i*2+o:=by simp[Al.cells];omega
   rw[e];exact ih i (by simpa using h)
def Rm{w:ag}{base:Nat}{v:Value}{xs:Q0a}(h:w.ownsRow base 146 2 v xs.length<|iX xs):∃ad cp,v=.slice ad xs.length cp/\mJ w ad xs/\∀p,ad=some p->base<=p.block:=by
 have h2:=h;rcases h.2 with⟨rfl,h0⟩|⟨g,cp,cur,rfl,hbg,hg,hnc,-⟩
 ·exact⟨none,0,by rw[h0],.inl<|X0.1 h0,fun p hp=>by cases hp⟩
 have hlt:=h2.lt g rfl;refine⟨_,cp,rfl,.inr ⟨g,0,rfl,hlt.2,fun i hi=>?_⟩,fun p hp=>by injection hp with hp;rw[<-hp];exact hlt.1⟩;have h3:∀(o:Nat) (u:Value),(iX xs)[i*2+o]?=some u->ac w g (0+i*2+o) u:=fun o u hu=>by
  have:=h2.cells (g:=g) rfl (i*2+o) u hu;rw[IV]at this;rw[Yg];exact this
 exact⟨h3 0 _ (by have:=Fp xs i hi 0 cq;simpa[Al.cells] using this),h3 1 _ (by have:=Fp xs i hi 1 cq;simpa[Al.cells] using this)⟩
def dV:List Al->List Al
 | []=>[]
 | a::xs=>if a.s.toList.isEmpty then dV xs else a::dV xs
def xx(xs ys:Q0a):dV (xs++ys)=dV xs++dV ys:=by
 induction xs with
 | nil=>rfl
 | cons a xs ih=>simp only[Yz,dV,ih];split<;>simp
def Rn(xs:Q0a)(k:Nat)(h:k<xs.length)(he:xs[k].s.toList.isEmpty=true):dV (xs.take<|k+1)=dV (xs.take k):=by
 rw[XM h,xx];simp[dV]at he ⊢;simp[he]
def OC(xs:Q0a)(k:Nat)(h:k<xs.length)(he:xs[k].s.toList.isEmpty=false):dV (xs.take<|k+1)=dV (xs.take k)++[xs[k]]:=by
 rw[XM h,xx];simp[dV,he]
def Fq(xs:Q0a):(dV xs).length<=xs.length:=by
 induction xs with
 | nil=>simp[dV]
 | cons a xs ih=>simp only[dV];split<;>simp<;>omega
def jR(ts:Q0b)(typ:ByteArray)(e:Ex):List Al :=
 if e.kind=1 then dV e.allow else if e.kind=2 then [⟨typ,e.name⟩] else if e.kind=3 then (ic ts typ e.over e.name).map fun g=>⟨g,e.name⟩ else []
def Ro:(prog.info? 146).map (fun i=>(i.zero,i.size,i.bytes))=some (some<|.agg aw,2,32):=cw
def GR(rs:Q06)(hl:∀r∈rs,r.light)(typ over rel:dw):(ic (ai rs) typ over rel).length<=1048576:=by
 unfold ic;split
 ·exact zB rs hl typ over rel
 simp
def yR(w:ag)(o o':Obj):((w.alloc o).alloc o').heap[w.heap.size+1]?=some o':=by
 have:=heap_alloc_new (w.alloc o) o';simpa using this
set_option maxRecDepth 100000 in
def Jh(b n:Nat)(rs:Q06)(ad:Q02)(M:ByteArray×ByteArray->Option Value)(typ:dw)(x:ER)(w:ag)(hV:aL eD prog 146 w b n M)(hT:Tab rs M)(hs:kI w ad rs)(hl:∀r∈rs,r.light)(hf:∀r∈rs,r.fits)(ht:typ.size<=maxLen)(hxf:x.e.fits)(hxl:x.e.light)(hxo:x.ok w):
  Calls prog 261 #[.map (some b),.string typ,x.val] w fun e w'=>(∃(Y8:Q02) (cap':Nat),e=.returned (.slice Y8 (jR (ai rs) typ x.e).length cap')/\mJ w' Y8 (jR (ai rs) typ x.e)/\∀p,Y8=some p->w.heap.size<=p.block)/\ae w w':=by
 have HV:O (aL eD prog 146 w b n M):=hV;have HT:=aK hT;have HS:=aK hs;have HL:=aK hl;have Zd:=aK hf;have HXF:=aK hxf;have HXO:=aK hxo;have lgA:a7 x.e.allow:=hxl.1;clear hV hT hs hl hf hxf hxo hxl;obtain⟨i0,hi,hz0,hz1,hz2⟩:=info_parts Ro;obtain⟨W0,hW0⟩:=eQx<|w.alloc<|.cells (cU x) 43;have hal:ae w W0:=by rw[hW0];exact(XL _ _).alloc (XK _) _
 have HB0:=aK hal;have hg0:w.heap.size<W0.heap.size:=by rw[hW0];simp
 have c0:W0.cell? (aE w)=some (.int .i64 x.e.kind):=by rw[hW0];simp
 have c1:W0.cell? (a6 w 1)=some (.slice x.adA x.e.allow.length x.capA):=by rw[hW0];simp
 have c2:W0.cell? (a6 w 2)=some (.string x.e.over):=by rw[hW0];simp
 have c3:W0.cell? (a6 w 3)=some (.string x.e.name):=by rw[hW0];simp
 have c4:W0.cell? (a6 w 4)=some (.slice x.adK x.e.kids.length x.capK):=by rw[hW0];simp
 clear hal;unfold ER.val;by_cases h1:x.e.kind=1
 ·have HLI:O (jR (ai rs) typ x.e=dV x.e.allow):=by show _=_;unfold jR;rw[if_pos h1]
  have hq1:(x.e.kind==1)=true:=by simpa using h1
  replace h1:O (x.e.kind=1):=h1;go_enter func261,ntmps261;go_wp2_with fail;rw[<-hW0];clear hW0;go_loopw[7,19] (fun v i wr=>∃k:Nat,k<=x.e.allow.length/\i=.int .i64 k/\O (bj w wr 146 2 v (dV<|x.e.allow.take k).length<|iX<|dV<|x.e.allow.take k)/\O (ae w wr)) (fun _ i _=>x.e.allow.length-(intOf i).toNat);case atStart=>exact⟨0,XP _,rfl,World.ownsRow_nil _ _ _ _,HB0⟩
  clear HB0 c0 c1 c2 c3 c4 hg0;obtain⟨k,hk,rfl,HOW,HB⟩:=hrel;by_cases hlt:k<x.e.allow.length
  ·rcases (HXO.out.1).below HB.out with hnil|⟨ba,offa,had,hba,hra⟩
   ·rw[hnil]at hlt;simp at hlt
   obtain⟨t0,t1⟩:=hra k hlt;have hk1:=bG k;have hk2:(k:Int)<(x.e.allow.length:Int):=cq;obtain⟨W1,hW1⟩:=eQx<|wr.alloc<|.cells #[.string x.e.allow[k].t,.string x.e.allow[k].s] 216;have hal:ae wr W1:=by rw[hW1];exact(XL _ _).alloc (XK _) _
   have Y9:=jr HB hal;have HOW1:O (bj w W1 146 2 u7 (dV<|x.e.allow.take k).length<|iX<|dV<|x.e.allow.take k):=own_below HOW hal;have g0:W1.cell? (aE wr)=some (.string x.e.allow[k].t):=by rw[hW1];simp
   have g1:W1.cell? (a6 wr 1)=some (.string x.e.allow[k].s):=by rw[hW1];simp
   have hgl1:wr.heap.size<W1.heap.size:=by rw[hW1];simp
   have hgl:=Fq<|x.e.allow.take k;rw[Yc]at hgl;have hwsz:cY w W1:=Y9.size;rw[had];clear hra hal HOW;cases he:x.e.allow[k].s.toList.isEmpty;case true=>
    have HE:O (dV (x.e.allow.take<|k+1)=dV (x.e.allow.take k)):=Rn _ _ hlt he;have Zv:O (ae w<|wr.alloc<|.cells #[.string x.e.allow[k].t,.string x.e.allow[k].s] 216):=by rw[<-hW1];exact Y9
    have HOX:O ((wr.alloc<|.cells #[.string x.e.allow[k].t,.string x.e.allow[k].s] 216).ownsRow w.heap.size 146 2 u7 (dV<|x.e.allow.take<|k+1).length<|iX<|dV<|x.e.allow.take<|k+1):=by rw[<-hW1,HE];exact HOW1
    clear hW1 g0 g1;go_wp2;go_roundw;case rel=>exact⟨k+1,cq,cx,HOX,Zv⟩
    simp[intOf]<;>omega
   have HX:O (dV (x.e.allow.take<|k+1)=dV (x.e.allow.take k)++[x.e.allow[k]]):=OC _ _ hlt he;have HOX:O ((wr.alloc<|.cells #[.string x.e.allow[k].t,.string x.e.allow[k].s] 216).ownsRow w.heap.size 146 2 u7 (dV<|x.e.allow.take k).length<|iX<|dV<|x.e.allow.take k):=by rw[<-hW1];exact HOW1
   have Zv:O (ae w<|wr.alloc<|.cells #[.string x.e.allow[k].t,.string x.e.allow[k].s] 216):=by rw[<-hW1];exact Y9
   have hws:cY w wr:=HB.size;clear hW1 HOW1 Y9 g0 g1 hgl1 hwsz W1;go_wp2_with(at_builtin;refine wpList_append_own_at _ rfl _ _ 340 rfl w.heap.size 146 i0 _ 2 32 underlying340 hi hz0 hz1 hz2 rfl cv _ _ _ rfl (HOX.alloc _) ⟨wr.heap.size+1,0,none⟩ 1 1 [.string x.e.allow[k].t,.string x.e.allow[k].s] rfl rfl (World.news_of_block (cs:=#[.string x.e.allow[k].t,.string x.e.allow[k].s]) (t:=146) (fr:=(0,0))<|yR wr _ _) (by simp[Value.oneCell']) cy cq (by simp;omega) ?_);intro v' w3 hown3 hgrow _ hloc;have HB3:O (ae w w3):=(Zv.alloc Zv.size _).grown hgrow (by simp;omega) (fun i hi=>(HOX.lt i hi).1);have Zq:O (bj w w3 146 2 v' (dV<|x.e.allow.take<|k+1).length<|iX<|dV<|x.e.allow.take<|k+1):=by
    show World.ownsRow _ _ _ _ _ _ _;rw[HX,Cx,XT];exact hown3
   clear hown3 hgrow hloc HOX Zv;go_wp2;go_roundw;case rel=>exact⟨k+1,cq,cx,Zq,HB3⟩
   simp[intOf]<;>omega
  obtain rfl:k=x.e.allow.length:=cq;have hown:=HOW.out;rw[X8]at hown;obtain⟨Y8,cp,rfl,hS',hN'⟩:=Rm hown;have HS2:=aK hS';have HN2:O (∀p,Y8=some p->w.heap.size<=p.block):=hN';clear hown HOW hS' hN';go_wp2;go_ret;exact⟨⟨Y8,cp,by rw[HLI];rfl,by rw[HLI];exact HS2,HN2⟩,HB⟩
 have hq1:(x.e.kind==1)=false:=by simpa using h1
 by_cases h2:x.e.kind=2
 ·have HLI:O (jR (ai rs) typ x.e=[⟨typ,x.e.name⟩]):=by show _=_;unfold jR;rw[if_neg h1,if_pos h2]
  have hq2:(x.e.kind==2)=true:=by simpa using h2
  replace h2:O (x.e.kind=2):=h2;have HOX:O ((w.alloc<|.cells (cU x) 43).ownsRow w.heap.size 146 2 (.slice none 0 0) 0 []):=World.ownsRow_nil _ _ _ _;have Zv:O (ae w<|w.alloc<|.cells (cU x) 43):=by rw[<-hW0];exact HB0
  clear hW0 HB0 c0 c1 c2 c3 c4 hg0 W0;go_enter func261,ntmps261;go_wp2_with(at_builtin;refine wpList_append_own_at _ rfl _ _ 340 rfl w.heap.size 146 i0 _ 2 32 underlying340 hi hz0 hz1 hz2 rfl cv _ _ _ rfl (HOX.alloc _) ⟨w.heap.size+1,0,none⟩ 1 1 [.string typ,.string x.e.name] rfl rfl (World.news_of_block (cs:=#[.string typ,.string x.e.name]) (t:=146) (fr:=(0,0))<|yR w _ _) (by simp[Value.oneCell']) cy cq (by simp;omega) ?_);intro v' w3 hown3 hgrow _ hloc;have HB3:O (ae w w3):=(Zv.alloc Zv.size _).grown hgrow (by simp;omega) (fun i hi=>(HOX.lt i hi).1);have ZJ:bj w w3 146 2 v' ([⟨typ,x.e.name⟩]:Q0a).length (iX [⟨typ,x.e.name⟩]):=hown3;obtain⟨Y8,cp,rfl,hS',hN'⟩:=Rm ZJ;have HS2:=aK hS';have HN2:O (∀p,Y8=some p->w.heap.size<=p.block):=hN';clear hown3 ZJ hgrow hloc HOX Zv hS' hN';go_wp2;go_ret;exact⟨⟨Y8,cp,by rw[HLI];rfl,by rw[HLI];exact HS2,HN2⟩,HB3⟩
 have hq2:(x.e.kind==2)=false:=by simpa using h2
 by_cases h3:x.e.kind=3
 ·have HLI:O (jR (ai rs) typ x.e=(ic (ai rs) typ x.e.over x.e.name).map fun g=>(⟨g,x.e.name⟩:Al)):=by show _=_;unfold jR;rw[if_neg h1,if_neg h2,if_pos h3]
  have hq3:(x.e.kind==3)=true:=by simpa using h3
  replace h3:O (x.e.kind=3):=h3;have HGL:(ic (ai rs) typ x.e.over x.e.name).length<=1048576:=GR rs HL _ _ _;have HV0:=aK<|HV.below HB0;go_enter func261,ntmps261;go_wp2_with fail;rw[<-hW0];refine(zD b n rs ad M typ x _ HV0 HT (HS.below HB0) HL Zd ht HXF.2.1 HXF.2.2.1).mono ?_;rintro e w1 ⟨⟨adG,cpG,rfl,hSG,hNG⟩,hb1⟩;generalize ic (ai rs) typ x.e.over x.e.name=gs at *
  have HB1:=jr HB0 hb1;have HSG:=aK hSG;have HNG:O (∀p,adG=some p->W0.heap.size<=p.block):=hNG;have HC1:O (ac w1 w.heap.size 3 (.string x.e.name)/\w.heap.size<w1.heap.size):=⟨aM hb1 hg0 c3,XJ hg0 hb1.size⟩;clear hW0 hSG hNG hb1 c0 c1 c2 c3 c4 HB0 HV0 hg0 HNG;go_wp2_with fail;go_loopw[7,51] (fun v i wr=>∃m:Nat,m<=gs.length/\i=.int .i64 m/\O (bj w wr 146 2 v m<|iX<|(gs.take m).map fun g=>(⟨g,x.e.name⟩:Al))/\O (ae w wr)/\O (Aside w1 (.slice none 0 0) wr v)) (fun _ i _=>gs.length-(intOf i).toNat);case atStart=>exact⟨0,XP _,rfl,World.ownsRow_nil _ _ _ _,HB1,Aside.refl _ _⟩
  clear HB1;obtain⟨m,hm,rfl,HO,HB,HA⟩:=hrel;have x3:=rW HA HC1.2 (by simp[Value.ownBlock]) HC1.1;by_cases ZA:m<gs.length
  ·rcases HSG.out with rfl|⟨bg,offg,rfl,hbg,hrg⟩
   ·simp at ZA
   have q0:=rW HA hbg (by simp[Value.ownBlock]) (hrg m ZA);have hm1:=bG m;have hm2:(m:Int)<(gs.length:Int):=cq
   have hws:cY w wr:=HB.size;have HFX:O (iX ((gs.take<|m+1).map fun g=>(⟨g,x.e.name⟩:Al))=iX ((gs.take m).map fun g=>(⟨g,x.e.name⟩:Al))++[.string gs[m],.string x.e.name]):=by
    show _=_;rw[XM ZA,YF,List.map_singleton,Cx];rfl
   clear hrg;go_wp2_with(at_builtin;refine wpList_append_own_at _ rfl _ _ 340 rfl w.heap.size 146 i0 _ 2 32 underlying340 hi hz0 hz1 hz2 rfl cv _ _ _ rfl (HO.alloc _) ⟨wr.heap.size,0,none⟩ 1 1 [.string gs[m],.string x.e.name] rfl rfl (World.news_of_block (cs:=#[.string gs[m],.string x.e.name]) (t:=146) (fr:=(0,0))<|heap_alloc_new wr _) (by simp[Value.oneCell']) cy cq (by simp;omega) ?_);intro v' w3 hown3 hgrow _ hloc;have HB3:O (ae w w3):=(HB.alloc HB.size _).grown hgrow (by simp;omega) (fun i hi=>(HO.lt i hi).1);have Zq:O (bj w w3 146 2 v' (m+1)<|iX<|(gs.take<|m+1).map fun g=>(⟨g,x.e.name⟩:Al)):=by
    show World.ownsRow _ _ _ _ _ _ _;rw[HFX];simpa[List.map_take] using hown3
   have HA3:O (Aside w1 (.slice none 0 0) w3 v'):=HA.trans ((Aside.below<|(XL _ _).alloc (XK _) _).trans<|Aside.app hgrow<|by simpa using hloc);clear hown3 hgrow hloc HO HA;go_wp2;go_roundw;case rel=>exact⟨m+1,cq,cx,Zq,HB3,HA3⟩
   simp[intOf]<;>omega
  obtain rfl:m=gs.length:=cq;have hown:=HO.out;rw[X8]at hown;have e:gs.length=(gs.map fun g=>(⟨g,x.e.name⟩:Al)).length:=ct
  rw[e]at hown;obtain⟨Y8,cp,rfl,hS',hN'⟩:=Rm hown;have HS2:O (mJ wr Y8<|gs.map fun g=>(⟨g,x.e.name⟩:Al)):=hS';have HN2:O (∀p,Y8=some p->w.heap.size<=p.block):=hN';obtain⟨ln,hln⟩:=eQx<|(gs.map fun g=>(⟨g,x.e.name⟩:Al)).length;rw[<-hln];have HLN:O (ln=(gs.map fun g=>(⟨g,x.e.name⟩:Al)).length):=hln;clear hown HO hS' hN' e HA x3 hln;go_wp2;go_ret;exact⟨⟨Y8,cp,by rw[HLI,<-HLN];rfl,by rw[HLI];exact HS2,HN2⟩,HB⟩
 have HLI:O (jR (ai rs) typ x.e=[]):=by show _=_;unfold jR;rw[if_neg h1,if_neg h2,if_neg h3]
 have hq3:(x.e.kind==3)=false:=by simpa using h3
 have Zv:O (ae w<|w.alloc<|.cells (cU x) 43):=by rw[<-hW0];exact HB0
 clear hW0 HB0 c0 c1 c2 c3 c4 hg0;go_enter func261,ntmps261;go_wp2;go_ret;exact⟨⟨none,0,by rw[HLI];rfl,by rw[HLI];exact .inl rfl,fun p hp=>by cases hp⟩,Zv⟩
abbrev Ky:=ByteArray×ByteArray
def lookL(E:List<|Ky×St)(k:Ky):List St:=E.filterMap fun p=>if p.1=k then some p.2 else none
def lookL_append(E F:List<|Ky×St)(k:Ky):lookL (E++F) k=lookL E k++lookL F k:=by unfold lookL;rw[List.filterMap_append]
def vz(E:List<|Ky×St)(k:Ky)(s:St):lookL (E++[(k,s)]) k=lookL E k++[s]:=by rw[lookL_append];simp[lookL]
def rH(E:List<|Ky×St){k y:Ky}(s:St)(h:k≠y):lookL (E++[(y,s)]) k=lookL E k:=by rw[lookL_append];simp[lookL,Ne.symm h]
def mem_lookL{E:List<|Ky×St}{k:Ky}{s:St}:s∈lookL E k↔(k,s)∈E:=by
 unfold lookL;rw[List.mem_filterMap];constructor
 ·rintro⟨⟨a,b⟩,h1,h2⟩;simp only at h2;split at h2
  ·rename_i e;injection h2 with h2;rw[<-e,<-h2];exact h1
  cases h2
 intro h;exact⟨(k,s),h,ct⟩
def FreeB(M:Ky->Option Value)(g:Nat):Prop:=∀k v,M k=some v->v.ownBlock≠some g
structure Grp(w:World)(bL n:Nat)(M:Ky->Option Value)(E:List<|Ky×St):Prop where
 map:aL eD prog 146 w bL n M
 row:∀k,(M k=none/\lookL E k=[]) \/ ∃v,M k=some v/\w.ownsRow (bL+1) 337 3 v (lookL E k).length (jh<|lookL E k)
 apart:∀k k' v v',k≠k'->M k=some v->M k'=some v'->∀g,v.ownBlock=some g->v'.ownBlock≠some g
def Grp.lt{w:ag}{bL n:Nat}{M:Ky->Option Value}{E:List<|Ky×St}(h:Grp w bL n M E){k:Ky}{v:Value}(hk:M k=some v){g:Nat}(hg:v.ownBlock=some g):bL<g/\g<w.heap.size:=by
 rcases h.row k with⟨e,-⟩|⟨v',e,ho⟩
 ·rw[e]at hk;cases hk
 rw[e]at hk;injection hk with hk;subst hk;have:=ho.lt g hg;exact⟨cq,this.2⟩
def Grp.fresh{w:ag}{bL n:Nat}{M:Ky->Option Value}{E:List<|Ky×St}(h:Grp w bL n M E){g:Nat}(hg:w.heap.size<=g):FreeB M g:=fun k v hk e=>by
 have:=(h.lt hk e).2;omega
def Grp.mono{w:ag}{bL n n':Nat}{M:Ky->Option Value}{E:List<|Ky×St}(h:Grp w bL n M E)(hn:n<=n'):Grp w bL n' M E:=⟨h.map.mono hn,h.row,h.apart⟩
def Grp.below{w w':ag}{bL n:Nat}{M:Ky->Option Value}{E:List<|Ky×St}(h:Grp w bL n M E)(hB:ae w w'):Grp w' bL n M E where
 map:=h.map.below hB
 row k:=by
  rcases h.row k with e|⟨v,e,ho⟩
  ·exact .inl e
  exact .inr ⟨v,e,own_below ho hB⟩
 apart:=h.apart
def grp_made(w:ag):Grp (w.alloc<|.map #[] 0) w.heap.size 0 (fun _=>none) [] where
 map:=jL _ _ _ w
 row k:=.inl ⟨rfl,rfl⟩
 apart k k' v v' _ h:=by cases h
structure Stl(W:World)(M:Ky->Option Value)(w2:World)(M2:Ky->Option Value)(bL:Nat):Prop where
 size:W.heap.size<=w2.heap.size
 block:∀g,g<W.heap.size->g≠bL->FreeB M g->w2.heap[g]?=W.heap[g]?
 free:∀g,g<W.heap.size->FreeB M g->FreeB M2 g
def Stl.refl(W:ag)(M:Ky->Option Value)(bL:Nat):Stl W M W M bL:=⟨XK _,fun _ _ _ _=>rfl,fun _ _ h=>h⟩
def Stl.trans{W w2 w3:ag}{M M2 M3:Ky->Option Value}{bL:Nat}(h:Stl W M w2 M2 bL)(h2:Stl w2 M2 w3 M3 bL):Stl W M w3 M3 bL where
 size:=XR h.size h2.size
 block g hg hb hf:=(h2.block g (XJ hg h.size) hb<|h.free g hg hf).trans<|h.block g hg hb hf
 free g hg hf:=h2.free g (XJ hg h.size)<|h.free g hg hf
def Stl.below{W w2:ag}{M:Ky->Option Value}{bL:Nat}(hB:ae W w2):Stl W M w2 M bL:=⟨hB.size,fun g hg _ _=>hB.block g hg,fun _ _ h=>h⟩
structure Cel(w:World)(M:Ky->Option Value)(bL g o:Nat)(u:Value):Prop where
 cell:w.cell? ⟨g,o,none⟩=some u
 lt:g<w.heap.size
 free:FreeB M g
 ne:g≠bL
def Cel.stl{w w2:ag}{M M2:Ky->Option Value}{bL g o:Nat}{u:Value}(h:Cel w M bL g o u)(hS:Stl w M w2 M2 bL):Cel w2 M2 bL g o u where
 cell:=(Yf (w:=w)<|hS.block g h.lt h.ne h.free).trans h.cell
 lt:=XJ h.lt hS.size
 free:=hS.free g h.lt h.free
 ne:=h.ne
def Grp.step{W0 w1 w2 w3:ag}{bL n:Nat}{M:Ky->Option Value}{E:List<|Ky×St}{y:Ky}{v':Value}{s:St}(h:Grp W0 bL n M E)(hg1:W0.grownBy w1<|some bL)(hown:w2.ownsRow (bL+1) 337 3 v' ((lookL E y).length+1)<|jh (lookL E y)++s.cells)
  (hg2:w1.grownBy w2 ((M y).getD<|.slice none 0 0).ownBlock) (hloc:v'.ownBlock=((M y).getD<|.slice none 0 0).ownBlock\/v'.ownBlock=some w1.heap.size) (hg3:w2.grownBy w3<|some bL) (hM:aL eD prog 146 w3 bL (n+1)<|iw M y<|some v') :
  Grp w3 bL (n+1) (iw M y<|some v') (E++[(y,s)])/\Stl W0 M w3 (iw M y<|some v') bL:=by
 have hrow0:∀k v,M k=some v->∃xs m,W0.ownsRow (bL+1) 337 3 v m xs:=fun k v hk=>by
  rcases h.row k with⟨e,-⟩|⟨v1,e,ho⟩
  ·rw[e]at hk;cases hk
  rw[e]at hk;injection hk with hk;subst hk;exact⟨_,_,ho⟩
 have hne2:∀k v,k≠y->M k=some v->v.ownBlock=none\/v.ownBlock≠((M y).getD<|.slice none 0 0).ownBlock:=fun k v hky hk=>by
  cases e:v.ownBlock with
  | none=>exact .inl rfl
  | some g =>
   right;cases ey:M y with
   | none=>simp[Value.ownBlock]
   | some vy=>intro e2;exact h.apart k y v vy hky hk ey g e (by simpa using e2.symm)
 have hnb:∀v,(∃k,M k=some v)->v.ownBlock=none\/v.ownBlock≠some bL:=fun v ⟨k,hk⟩=>by
  cases e:v.ownBlock with
  | none=>exact .inl rfl
  | some g=>right;have:=(h.lt hk e).1;intro e2;injection e2 with e2;omega
 have hnew:∀g,v'.ownBlock=some g->bL<g:=fun g e=>by have:=(hown.lt g e).1;omega
 have hv'b:v'.ownBlock=none\/v'.ownBlock≠some bL:=by
  cases e:v'.ownBlock with
  | none=>exact .inl rfl
  | some g=>right;have:=hnew g e;intro e2;injection e2 with e2;omega
 constructor
 ·refine⟨hM,fun k=>?_,fun k k' v u hkk hk hk' g e=>?_⟩
  ·by_cases ek:k=y
   ·subst ek;rw[dH,vz];refine .inr ⟨v',rfl,?_⟩;rw[Ce,XT];exact hown.kept hg3 hv'b
   rw[bP ek,rH _ _ ek];rcases h.row k with e|⟨v,e,ho⟩
   ·exact .inl e
   exact .inr ⟨v,e,((ho.kept hg1<|hnb v ⟨k,e⟩).kept hg2<|hne2 k v ek e).kept hg3<|hnb v ⟨k,e⟩⟩
  by_cases ek:k=y
  ·subst ek;rw[dH]at hk;injection hk with hk;subst hk;rw[bP (Ne.symm hkk)]at hk';intro e2;rcases hloc with el|el
   ·rw[e]at el;cases ey:M k with
    | none=>rw[ey]at el;simp[Value.ownBlock]at el
    | some vy=>rw[ey]at el;exact h.apart k k' vy u hkk ey hk' g (by simpa using el.symm) e2
   rw[e]at el;injection el with el;have:=(h.lt hk' e2).2;have:=hg1.size;omega
  rw[bP ek]at hk;by_cases ek':k'=y
  ·subst ek';rw[dH]at hk';injection hk' with hk';subst hk';intro e2;rcases hloc with el|el
   ·rw[e2]at el;cases ey:M k' with
    | none=>rw[ey]at el;simp[Value.ownBlock]at el
    | some vy=>rw[ey]at el;exact h.apart k k' v vy hkk hk ey g e (by simpa using el.symm)
   rw[e2]at el;injection el with el;have:=(h.lt hk e).2;have:=hg1.size;omega
  rw[bP ek']at hk';exact h.apart k k' v u hkk hk hk' g e
 refine⟨XR hg1.size<|XR hg2.size hg3.size,fun g hg hb hf=>?_,fun g hg hf k v hk=>?_⟩
 ·have h1:=hg1.block g hg (fun e=>hb<|by injection e);have h2:=hg2.block g (XJ hg hg1.size) (fun e=>by
   cases ey:M y with
   | none=>rw[ey]at e;simp[Value.ownBlock]at e
   | some vy=>rw[ey]at e;exact hf y vy ey<|by simpa using e.symm)
  have h3:=hg3.block g (XJ hg<|XR hg1.size hg2.size) (fun e=>hb<|by injection e);rw[h3,h2,h1]
 by_cases ek:k=y
 ·subst ek;rw[dH]at hk;injection hk with hk;subst hk;intro e2;rcases hloc with el|el
  ·rw[e2]at el;cases ey:M k with
   | none=>rw[ey]at el;simp[Value.ownBlock]at el
   | some vy=>rw[ey]at el;exact hf k vy ey (by simpa using el.symm)
  rw[e2]at el;injection el with el;have:=hg1.size;omega
 rw[bP ek]at hk;exact hf k v hk
def zI(b:Bool):Int:=if b then 1 else 0
def Cy(ts:Q0b)(t r:ByteArray)(ng:Bool)(e:Ex):List (Ky×St):=(jR ts t e).map fun a=>((a.t,a.s),⟨t,r,zI ng⟩)
def relE(ts:Q0b)(t r:ByteArray)(es:Q09):Nat->List (Ky×St)
 | 0=>[]
 | i+1=>relE ts t r es i++(match es[i]? with|none=>[]|some e=>Cy ts t r ((dK es).getD i false) e)
def jS(ts:Q0b)(t:ByteArray)(qs:Q07):List (Ky×St):=qs.flatMap fun q=>relE ts t q.name (au q.rows) q.rows.length
def jT(ts:Q0b)(rs:Q06):List (Ky×St):=rs.flatMap fun t=>jS ts t.name t.rows
def LC(ts:Q0b)(t:dw)(qs:Q07)(j:Nat)(h:j<qs.length):jS ts t (qs.take<|j+1)=jS ts t (qs.take j)++relE ts t qs[j].name (au qs[j].rows) qs[j].rows.length:=by
 unfold jS;rw[XM h,YE,List.flatMap_singleton]
def LD(ts:Q0b)(rs:Q06)(k:Nat)(h:k<rs.length):jT ts (rs.take<|k+1)=jT ts (rs.take k)++jS ts rs[k].name rs[k].rows:=by
 unfold jT;rw[XM h,YE,List.flatMap_singleton]
def Fs(ts:Q0b)(t r:dw)(rows:Q08)(i:Nat)(h:i<rows.length)(ng:Bool)(hn:ng=(dK<|au rows).getD i false):relE ts t r (au rows) (i+1)=relE ts t r (au rows) i++Cy ts t r ng rows[i].e:=by
 have e:(au rows)[i]?=some rows[i].e:=by simp[au,h]
 simp only[relE,e,hn]
def Fu(rs:Q06)(hl:∀r∈rs,∀q∈r.rows,∀e∈q.rows,e.e.allow.length<=6)(typ:dw)(e:Ex)(he:e.allow.length<=6):(jR (ai rs) typ e).length<=6:=by
 unfold jR;split
 ·exact XR (Fq _) he
 split
 ·simp
 split
 ·rw[Yp];unfold ic;split
  ·refine XR (Ch _ _ _ _) ?_;unfold aH;cases h:fI (ai rs) typ e.over with
   | none=>simp[bn]
   | some es =>
    obtain⟨t,ht,q,hq,-,-,rfl⟩:=rX h;have h1:=hl t ht q hq;have:∀(xs:Q08),(∀q∈xs,q.e.allow.length<=6)->(bn<|au xs).length<=6:=by
     intro xs
     induction xs with
     | nil=>intro _;simp[au,bn]
     | cons x xs ih =>
      intro h;have e4:au (x::xs)=x.e::au xs:=rfl;rw[e4];simp only[bn];split
      ·exact h x ct
      exact ih (fun q hq=>h q<|by simp[hq])
    exact this q.rows h1
  simp
 simp
def LF(rs:Q06)(hf:∀r∈rs,r.fits)(typ:dw)(ht:typ.size<=maxLen)(e:Ex)(he:e.fits):∀a∈jR (ai rs) typ e,a.t.size<=maxLen/\a.s.size<=maxLen:=by
 have hA:∀(xs:Q0a),(∀a∈xs,a.fits)->∀a∈dV xs,a.t.size<=maxLen/\a.s.size<=maxLen:=by
  intro xs
  induction xs with
  | nil=>intro _ a ha;cases ha
  | cons b xs ih =>
   intro h a ha;simp only[dV]at ha;split at ha
   ·exact ih (fun q hq=>h q<|by simp[hq]) a ha
   rcases X7.1 ha with rfl|ha
   ·exact h a ct
   exact ih (fun q hq=>h q<|by simp[hq]) a ha
 have hG:∀(xs:Q0a) (rel:ByteArray),(∀a∈xs,a.fits)->∀g∈gl (ai rs) rel xs,g.size<=maxLen:=by
  intro xs rel
  induction xs with
  | nil=>intro _ a ha;cases ha
  | cons b xs ih =>
   intro h a ha;simp only[gl]at ha;split at ha
   ·exact ih (fun q hq=>h q<|by simp[hq]) a ha
   rcases X7.1 ha with rfl|ha
   ·exact(h b ct).1
   exact ih (fun q hq=>h q<|by simp[hq]) a ha
 unfold jR;split
 ·exact hA _ he.1
 split
 ·intro a ha;simp at ha;subst ha;exact⟨ht,he.2.2.1⟩
 split
 ·intro a ha;obtain⟨g,hg,rfl⟩:=XW.1 ha;refine⟨?_,he.2.2.1⟩;unfold ic at hg;split at hg
  ·unfold iL at hg;refine hG _ _ ?_ g hg;unfold aH;cases e3:fI (ai rs) typ e.over with
   | none=>intro a ha;simp[bn]at ha
   | some es =>
    obtain⟨t,ht',q,hq,-,-,rfl⟩:=rX e3;have hq2:=((hf t ht').2.2 q hq).2.2;intro a ha;have:∀(xs:Q08),(∀q∈xs,q.e.fits)->∀a∈bn (au xs),a.fits:=by
     intro xs
     induction xs with
     | nil=>intro _ a ha;simp[au,bn]at ha
     | cons x xs ih =>
      intro h a ha;have e4:au (x::xs)=x.e::au xs:=rfl;rw[e4]at ha;simp only[bn]at ha;split at ha
      ·exact(h x ct).1 a ha
      exact ih (fun q hq=>h q<|by simp[hq]) a ha
    exact this q.rows hq2 a ha
  cases hg
 intro a ha;cases ha
def Um:(prog.info? 337).map (fun i=>(i.zero,i.size,i.bytes))=some (some<|.agg #[.string ⟨#[]⟩,.string ⟨#[]⟩,.int .i64 0],3,40):=cw
def LG(u:ag):(zeroValue 335).run prog u=.ok (.slice none 0 0) u:=cw
def xy{w:ag}{bL n:Nat}{M:Ky->Option Value}{E:List<|Ky×St}(h:Grp w bL n M E)(y:Ky):w.ownsRow (bL+1) 337 3 ((M y).getD<|.slice none 0 0) (lookL E y).length (jh<|lookL E y):=by
 rcases h.row y with⟨e,e2⟩|⟨v,e,ho⟩
 ·rw[e,e2];exact World.ownsRow_nil _ _ _ _
 rw[e];exact ho
def Rp{w:ag}{bL n:Nat}{M:Ky->Option Value}{E:List<|Ky×St}(h:Grp w bL n M E)(y:Ky):some bL≠((M y).getD<|.slice none 0 0).ownBlock:=by
 cases e:M y with
 | none=>simp[Value.ownBlock]
 | some v=>intro e2;have:=(h.lt e (g:=bL)<|by simpa using e2.symm).1;omega
def Fv(E:List<|Ky×St)(y:Ky):(lookL E y).length<=E.length:=YM _ _
set_option maxRecDepth 100000 in
def Ea(ad:Q02)(cap:Nat)(rs:Q06)(bT nT:Nat)(T:Ky->Option Value)(w:ag)(hlen:rs.length<=6)(hs:kI w ad rs)(hl:∀r∈rs,r.light)(hf:∀r∈rs,r.fits)(hrl:∀r∈rs,r.rows.length<=6)(hel:∀r∈rs,∀q∈r.rows,q.rows.length<=15/\∀e∈q.rows,fE q.rows.length e.e.kids)(hal6:∀r∈rs,∀q∈r.rows,∀e∈q.rows,e.e.allow.length<=6)(hV:aL eD prog 146 w bT nT T)(hT:Tab rs T):
  Calls prog 187 #[.slice ad rs.length cap,.map<|some bT] w fun e w'=>e=.returned (.map<|some w.heap.size)/\(∃n M,Grp w' w.heap.size n M<|jT (ai rs) rs)/\ae w w':=by
 have HS:=aK hs;have HL:=aK hl;have Zd:=aK hf;have HRL:O (∀r∈rs,r.rows.length<=6):=hrl;have HEL:O (∀r∈rs,∀q∈r.rows,q.rows.length<=15/\∀e∈q.rows,fE q.rows.length e.e.kids):=hel;have HV:O (aL eD prog 146 w bT nT T):=hV;have HT:=aK hT;have HA6:O (∀r∈rs,∀q∈r.rows,∀e∈q.rows,e.e.allow.length<=6):=hal6;clear hs hl hf hrl hel hV hT hal6;obtain⟨i0,hi,hz0,hz1,hz2⟩:=info_parts Um;have HG0:O (Grp (w.alloc<|.map #[] 0) w.heap.size 0 (fun _=>none) []):=grp_made w;have HB0:O (ae w<|w.alloc<|.map #[] 0):=(XL _ _).alloc (XK _) _;have hmm:=@run_makeMap prog;go_enter func187,ntmps187;go_wp2_with fail;go_loopw[19] (fun i wr=>∃k:Nat,k<=rs.length/\i=.int .i64 k/\O (∃n M,Grp wr w.heap.size n M (jT (ai rs)<|rs.take k)/\n<=k*540/\(jT (ai rs)<|rs.take k).length<=k*540)/\O (ae w wr)) (fun i _=>rs.length-(intOf i).toNat);case atStart=>exact⟨0,XP _,rfl,⟨0,_,HG0,cq,by simp[jT]⟩,HB0⟩
 clear HG0 HB0 hmm;obtain⟨k,hk,rfl,HG,HB⟩:=hrel;by_cases hlt:k<rs.length
 ·rcases HS.out.below HB.out with rfl|⟨b,off,rfl,hb,hr,-⟩
  ·simp at hlt
  obtain⟨t0,t1⟩:=hr k hlt;have hk1:=bG k;have hk2:(k:Int)<(rs.length:Int):=cq;have h6:rs[k].rows.length<=6:=HRL _<|XI hlt;have z0:rs[k].name.size<=maxLen:=(Zd _<|XI hlt).1;have HFR:O (∀q∈rs[k].rows,q.fits):=(Zd _<|XI hlt).2.2;have HLR:O (∀q∈rs[k].rows,q.light):=(HL _<|XI hlt).2;have HER:O (∀q∈rs[k].rows,q.rows.length<=15/\∀e∈q.rows,fE q.rows.length e.e.kids):=HEL _<|XI hlt;obtain⟨n1,M1,hG1,hn1,hE1⟩:=HG.out;obtain⟨E1,hE1d⟩:=eQx<|jT (ai rs)<|rs.take k;rw[<-hE1d]at hG1 hE1;have HE1D:O (E1=jT (ai rs) (rs.take k)):=hE1d;obtain⟨W1,hW1⟩:=eQx<|wr.alloc<|.cells #[.string rs[k].name,.slice rs[k].ad rs[k].rows.length rs[k].cap] 36;have hal:ae wr W1:=by rw[hW1];exact(XL _ _).alloc (XK _) _
  have hbn:w.heap.size<wr.heap.size:=hG1.map.lt;have HC7:O (Cel W1 M1 w.heap.size wr.heap.size 0<|.string rs[k].name):=⟨by rw[hW1];simp,by rw[hW1];simp,hG1.fresh<|XK _,cq⟩;have HG1:=aK<|hG1.below hal;have HB1:=jr HB hal;clear hr hal hG1 HG hE1d;go_wp2_with fail;rw[<-hW1];clear hW1 t0 t1 HB;obtain⟨g7,hg7⟩:=eQx wr.heap.size;rw[<-hg7]at HC7 hbn ⊢;clear hg7;go_loopw[26] (fun i w2=>∃j:Nat,j<=rs[k].rows.length/\i=.int .i64 j/\O (∃n M,Grp w2 w.heap.size n M (E1++jS (ai rs) rs[k].name (rs[k].rows.take j))/\n<=k*540+j*90/\(E1++jS (ai rs) rs[k].name (rs[k].rows.take j)).length<=k*540+j*90/\Cel w2 M w.heap.size g7 0 (.string rs[k].name))/\O (ae w w2)) (fun i _=>rs[k].rows.length-(intOf i).toNat);case atStart=>exact⟨0,XP _,rfl,⟨n1,M1,by simpa[jS] using HG1.out,cq,by have e:jS (ai rs) rs[k].name (rs[k].rows.take 0)=[]:=rfl;rw[e,YB];omega,HC7⟩,HB1⟩
  clear HG1 HB1 HC7;obtain⟨j,hj,rfl,HG,HB⟩:=hrel;by_cases hjl:j<rs[k].rows.length
  ·rcases HS.out.below HB.out with hnil|⟨b',off',he,hb2,hr,hok⟩
   ·rw[hnil]at hlt;simp at hlt
   injection he with he;injection he with he1 he2;subst he1;subst he2;have ok:=hok rs[k]<|XI hlt;rcases ok with hnil|⟨b2,ZR,had,hbb,hr2,-⟩
   ·rw[hnil]at hjl;simp at hjl
   obtain⟨q0,q1⟩:=hr2 j hjl;have z1:rs[k].rows[j].name.size<=maxLen:=(HFR _<|XI hjl).1;have HFE:O (∀q∈rs[k].rows[j].rows,q.e.fits):=(HFR _<|XI hjl).2.2;have ZH:O (∀q∈rs[k].rows[j].rows,q.e.light):=(HLR _<|XI hjl).2;have h15:rs[k].rows[j].rows.length<=15:=(HER _<|XI hjl).1;have HKR:O (∀e∈rs[k].rows[j].rows,fE rs[k].rows[j].rows.length e.e.kids):=(HER _<|XI hjl).2;have HOE:O (iE w rs[k].rows[j].ad rs[k].rows[j].rows):=Qb.mem (HS.mem<|XI hlt)<|XI hjl;have hj1:=bG j;have hj2:(j:Int)<(rs[k].rows.length:Int):=cq;obtain⟨n2,M2,hG2,hn2,hE2,hC7⟩:=HG.out;obtain⟨E2,hE2d⟩:=eQx<|E1++jS (ai rs) rs[k].name (rs[k].rows.take j);rw[<-hE2d]at hG2 hE2;have HE2D:O (E2=E1++jS (ai rs) rs[k].name (rs[k].rows.take j)):=hE2d;obtain⟨W2,hW2⟩:=eQx<|wr.alloc<|.cells #[.string rs[k].rows[j].name,.slice rs[k].rows[j].ad rs[k].rows[j].rows.length rs[k].rows[j].cap] 39;have hal:ae wr W2:=by rw[hW2];exact(XL _ _).alloc (XK _) _
   have hbn2:w.heap.size<wr.heap.size:=hG2.map.lt;have hC9:Cel W2 M2 w.heap.size wr.heap.size 0 (.string rs[k].rows[j].name):=⟨by rw[hW2];simp,by rw[hW2];simp,hG2.fresh<|XK _,cq⟩;have hC9b:Cel W2 M2 w.heap.size wr.heap.size 1 (.slice rs[k].rows[j].ad rs[k].rows[j].rows.length rs[k].rows[j].cap):=⟨by rw[hW2];simp,by rw[hW2];simp,hG2.fresh<|XK _,cq⟩;have HC7:O (Cel W2 M2 w.heap.size g7 0<|.string rs[k].name):=hC7.stl<|Stl.below hal;have HC9:O (Cel W2 M2 w.heap.size wr.heap.size 0<|.string rs[k].rows[j].name):=hC9;have HC9b:=aK hC9b;have HG2:=aK<|hG2.below hal;have HB2:=jr HB hal;rw[had];clear hr hok hr2 hG2 hC7 hC9 hC9b hal HG HB hE2d;go_wp2_with fail;rw[<-hW2];clear hW2 q0 q1;refine(DV rs[k].rows[j].ad rs[k].rows[j].cap rs[k].rows[j].rows _ cq (HOE.below HB2) ZH HKR).mono ?_;rintro e w3 ⟨rfl,hF3⟩;obtain⟨g9,hg9⟩:=eQx wr.heap.size;rw[<-hg9]at HC9 HC9b hbn2 ⊢;have HB3:O (ae w w3):=HB2.trans<|hF3.below.mono HB2.size;have HG3:=aK<|HG2.below hF3.below;have HCC:O (Cel w3 M2 w.heap.size g7 0 (.string rs[k].name)/\Cel w3 M2 w.heap.size g9 0 (.string rs[k].rows[j].name)/\∀(i:Nat) (h:i<rs[k].rows[j].rows.length),Cel w3 M2 w.heap.size W2.heap.size i<|.bool<|(dK<|au rs[k].rows[j].rows).getD i false):=by
    refine⟨HC7.stl<|Stl.below hF3.below,HC9.stl<|Stl.below hF3.below,fun i hi=>⟨?_,hF3.lt,HG2.fresh<|XK _,?_⟩⟩
    ·have hn:i<(dK<|au rs[k].rows[j].rows).length:=by rw[IJ,aX];exact hi
     rw[hF3.done i (by simpa[bools] using hn)];simp[bools,hn]
    have:=HG2.map.lt;omega
   have c9:=(HC9b.stl<|Stl.below (bL:=w.heap.size) (M:=M2) hF3.below).cell;obtain⟨gA,hgA⟩:=eQx W2.heap.size;rw[<-hgA]at HCC ⊢;clear hF3 HC7 HC9 HC9b HG2 HB2 hg9 hgA;go_wp2_with fail;clear c9;go_loopw[36] (fun i w4=>∃m:Nat,m<=rs[k].rows[j].rows.length/\i=.int .i64 m/\O (∃n M,Grp w4 w.heap.size n M (E2++relE (ai rs) rs[k].name rs[k].rows[j].name (au rs[k].rows[j].rows) m)/\n<=k*540+j*90+m*6/\(E2++relE (ai rs) rs[k].name rs[k].rows[j].name (au rs[k].rows[j].rows) m).length<=k*540+j*90+m*6/\(Cel w4 M w.heap.size g7 0 (.string rs[k].name)/\Cel w4 M w.heap.size g9 0 (.string rs[k].rows[j].name)/\∀(i:Nat) (h:i<rs[k].rows[j].rows.length),Cel w4 M w.heap.size gA i<|.bool<|(dK<|au rs[k].rows[j].rows).getD i false))/\O (ae w w4)) (fun i _=>rs[k].rows[j].rows.length-(intOf i).toNat);case atStart=>exact⟨0,XP _,rfl,⟨n2,M2,by simpa[relE] using HG3.out,cq,by have e:relE (ai rs) rs[k].name rs[k].rows[j].name (au rs[k].rows[j].rows) 0=[]:=rfl;rw[e,YB];omega,HCC⟩,HB3⟩
   clear HG3 HB3 HCC;obtain⟨m,hm,rfl,HG,HB⟩:=hrel;by_cases ZA:m<rs[k].rows[j].rows.length
   ·rcases HOE.out.below HB.out with hnil|⟨bE,offE,hadE,hbE,hrE,hok⟩
    ·rw[hnil]at ZA;simp at ZA
    obtain⟨t0,t1,t2,t3,t4⟩:=hrE m ZA;have hm1:=bG m;have hm2:(m:Int)<(rs[k].rows[j].rows.length:Int):=cq;have HXF:O (rs[k].rows[j].rows[m].e.fits):=HFE _<|XI ZA;have HXL:O (rs[k].rows[j].rows[m].e.light):=ZH _<|XI ZA;obtain⟨n3,M3,hG3,hn3,hE3,hC7,hC9,hCA⟩:=HG.out;obtain⟨E3,hE3d⟩:=eQx<|E2++relE (ai rs) rs[k].name rs[k].rows[j].name (au rs[k].rows[j].rows) m;rw[<-hE3d]at hG3 hE3;have HE3D:O (E3=E2++relE (ai rs) rs[k].name rs[k].rows[j].name (au rs[k].rows[j].rows) m):=hE3d;have hbn3:w.heap.size<wr.heap.size:=hG3.map.lt;obtain⟨ng,hng⟩:=eQx<|(dK<|au rs[k].rows[j].rows).getD m false;have HNG:O (ng=(dK<|au rs[k].rows[j].rows).getD m false):=hng;rw[hadE];clear hng hE3d hrE;cases ng
    case' true =>
     obtain⟨W3,hW3⟩:=eQx<|((wr.alloc<|.cells #[.int .i64 rs[k].rows[j].rows[m].e.kind,.slice rs[k].rows[j].rows[m].adA rs[k].rows[j].rows[m].e.allow.length rs[k].rows[j].rows[m].capA,.string rs[k].rows[j].rows[m].e.over,.string rs[k].rows[j].rows[m].e.name,.slice rs[k].rows[j].rows[m].adK rs[k].rows[j].rows[m].e.kids.length rs[k].rows[j].rows[m].capK] 43).alloc<|.cells #[.string rs[k].name,.string rs[k].rows[j].name,.int .i64 1] 337);have hal:ae wr W3:=by
      rw[hW3]
      repeat(first|exact XL _ _|refine Below.setCell ?_ (by first|(simp;done)|(simp;omega)) _|refine Below.alloc ?_ (by first|(simp;done)|(simp;omega)) _)
     have hsz3:W3.heap.size=wr.heap.size+2:=by rw[hW3];simp
     have HB3:=jr HB hal;have HG3:=aK<|hG3.below hal;have HC13:O (Cel W3 M3 w.heap.size (wr.heap.size+1) 0 (.string rs[k].name)/\Cel W3 M3 w.heap.size (wr.heap.size+1) 1 (.string rs[k].rows[j].name)/\Cel W3 M3 w.heap.size (wr.heap.size+1) 2 (.int .i64 1)):=by
      have hfr:FreeB M3 (wr.heap.size+1):=hG3.fresh cq;refine⟨⟨?_,cq,hfr,cq⟩,⟨?_,cq,hfr,cq⟩,⟨?_,cq,hfr,cq⟩⟩
      all_goals(rw[hW3];simp)
     obtain⟨dv,hdv⟩:∃dv:Int,dv=1:=⟨_,rfl⟩;rw[<-hdv]at HC13;have HDE:O (dv=1):=hdv;clear hdv;have HCC:O (Cel W3 M3 w.heap.size g7 0 (.string rs[k].name)/\Cel W3 M3 w.heap.size g9 0 (.string rs[k].rows[j].name)/\∀(i:Nat) (h:i<rs[k].rows[j].rows.length),Cel W3 M3 w.heap.size gA i<|.bool<|(dK<|au rs[k].rows[j].rows).getD i false):=⟨hC7.stl<|Stl.below hal,hC9.stl<|Stl.below hal,fun i h=>(hCA i h).stl<|Stl.below hal⟩;have HXO:O (rs[k].rows[j].rows[m].ok W3):=(hok rs[k].rows[j].rows[m]<|XI ZA).below hal;have hc7:=hC7.cell;have hc9:=hC9.cell;have hl7:=hC7.lt;have hl9:=hC9.lt;have hcA:=(hCA m ZA).cell;have hlA:=(hCA m ZA).lt;rw[<-HNG]at hcA;clear hG3 hal hC7 hC9 hCA hok HG;go_wp2_with fail;rw[<-hW3];clear hW3 t0 t1 t2 t3 t4 hc7 hc9 hl7 hl9 hcA hlA
    case' false =>
     obtain⟨W3,hW3⟩:=eQx<|((wr.alloc<|.cells #[.int .i64 rs[k].rows[j].rows[m].e.kind,.slice rs[k].rows[j].rows[m].adA rs[k].rows[j].rows[m].e.allow.length rs[k].rows[j].rows[m].capA,.string rs[k].rows[j].rows[m].e.over,.string rs[k].rows[j].rows[m].e.name,.slice rs[k].rows[j].rows[m].adK rs[k].rows[j].rows[m].e.kids.length rs[k].rows[j].rows[m].capK] 43).alloc<|.cells #[.string rs[k].name,.string rs[k].rows[j].name,.int .i64 0] 337);have hal:ae wr W3:=by
      rw[hW3]
      repeat(first|exact XL _ _|refine Below.setCell ?_ (by first|(simp;done)|(simp;omega)) _|refine Below.alloc ?_ (by first|(simp;done)|(simp;omega)) _)
     have hsz3:W3.heap.size=wr.heap.size+2:=by rw[hW3];simp
     have HB3:=jr HB hal;have HG3:=aK<|hG3.below hal;have HC13:O (Cel W3 M3 w.heap.size (wr.heap.size+1) 0 (.string rs[k].name)/\Cel W3 M3 w.heap.size (wr.heap.size+1) 1 (.string rs[k].rows[j].name)/\Cel W3 M3 w.heap.size (wr.heap.size+1) 2 (.int .i64 0)):=by
      have hfr:FreeB M3 (wr.heap.size+1):=hG3.fresh cq;refine⟨⟨?_,cq,hfr,cq⟩,⟨?_,cq,hfr,cq⟩,⟨?_,cq,hfr,cq⟩⟩
      all_goals(rw[hW3];simp)
     obtain⟨dv,hdv⟩:∃dv:Int,dv=0:=⟨_,rfl⟩;rw[<-hdv]at HC13;have HDE:O (dv=0):=hdv;clear hdv;have HCC:O (Cel W3 M3 w.heap.size g7 0 (.string rs[k].name)/\Cel W3 M3 w.heap.size g9 0 (.string rs[k].rows[j].name)/\∀(i:Nat) (h:i<rs[k].rows[j].rows.length),Cel W3 M3 w.heap.size gA i<|.bool<|(dK<|au rs[k].rows[j].rows).getD i false):=⟨hC7.stl<|Stl.below hal,hC9.stl<|Stl.below hal,fun i h=>(hCA i h).stl<|Stl.below hal⟩;have HXO:O (rs[k].rows[j].rows[m].ok W3):=(hok rs[k].rows[j].rows[m]<|XI ZA).below hal;have hc7:=hC7.cell;have hc9:=hC9.cell;have hl7:=hC7.lt;have hl9:=hC9.lt;have hcA:=(hCA m ZA).cell;have hlA:=(hCA m ZA).lt;rw[<-HNG]at hcA;clear hG3 hal hC7 hC9 hCA hok HG;go_wp2_with fail;rw[<-hW3];clear hW3 t0 t1 t2 t3 t4 hc7 hc9 hl7 hl9 hcA hlA
    all_goals
     refine(Jh bT nT rs (some ⟨b,off,none⟩) T rs[k].name rs[k].rows[j].rows[m] _ (HV.below HB3) HT (HS.below HB3) HL Zd z0 HXF HXL HXO).mono ?_;rintro e w5 ⟨⟨adO,cpO,rfl,hSO,hNO⟩,hb5⟩;obtain⟨ks,hks⟩:=eQx<|jR (ai rs) rs[k].name rs[k].rows[j].rows[m].e;rw[<-hks]at hSO ⊢;have HKS:O (ks=jR (ai rs) rs[k].name rs[k].rows[j].rows[m].e):=hks;have hkl6:ks.length<=6:=by rw[hks];exact Fu rs HA6 _ _<|HA6 _ (XI hlt) _ (XI hjl) _<|XI ZA
     have HKF:O (∀a∈ks,a.t.size<=maxLen/\a.s.size<=maxLen):=by show ∀_,_;rw[hks];exact LF rs Zd _ z0 _ HXF
     obtain⟨g13,hg13⟩:=eQx<|wr.heap.size+1;have HB5:=jr HB3 hb5;have HG5:=aK<|HG3.below hb5;have hS5:Stl W3 M3 w5 M3 w.heap.size:=Stl.below hb5;have HC5:O (Cel w5 M3 w.heap.size g7 0 (.string rs[k].name)/\Cel w5 M3 w.heap.size g9 0 (.string rs[k].rows[j].name)/\∀(i:Nat) (h:i<rs[k].rows[j].rows.length),Cel w5 M3 w.heap.size gA i<|.bool<|(dK<|au rs[k].rows[j].rows).getD i false):=⟨HCC.1.stl hS5,HCC.2.1.stl hS5,fun i h=>(HCC.2.2 i h).stl hS5⟩;have HD5:O (Cel w5 M3 w.heap.size g13 0 (.string rs[k].name)/\Cel w5 M3 w.heap.size g13 1 (.string rs[k].rows[j].name)/\Cel w5 M3 w.heap.size g13 2 (.int .i64 dv)):=by rw[hg13];exact⟨HC13.1.stl hS5,HC13.2.1.stl hS5,HC13.2.2.stl hS5⟩
     have Ze:O (ks=[] \/ ∃gO ZU,adO=some ⟨gO,ZU,none⟩/\∀(i:Nat) (h:i<ks.length),Cel w5 M3 w.heap.size gO (ZU+i*2) (.string ks[i].t)/\Cel w5 M3 w.heap.size gO (ZU+i*2+1) (.string ks[i].s)):=by
      rcases hSO with e|⟨gO,ZU,e,hgO,hcO⟩
      ·exact .inl e
      have hN:=hNO _ e;have hbl3:=HG3.map.lt;have hfr:FreeB M3 gO:=HG3.fresh hN;refine .inr ⟨gO,ZU,e,fun i hi=>⟨⟨(hcO i hi).1,hgO,hfr,?_⟩,⟨(hcO i hi).2,hgO,hfr,?_⟩⟩⟩
      all_goals(simp only at hN;omega)
     rw[<-hg13];clear hb5 hSO hNO hks hS5 HC13 HCC HG3 HB3 HXO hg13;go_wp2_with fail;go_loopw[58] (fun i w6=>∃q:Nat,q<=ks.length/\i=.int .i64 q/\O (∃n M,Grp w6 w.heap.size n M (E3++(ks.take q).map (fun a:Al=>(((a.t,a.s),⟨rs[k].name,rs[k].rows[j].name,dv⟩):Ky×St)))/\n<=k*540+j*90+m*6+q/\(E3++(ks.take q).map (fun a:Al=>(((a.t,a.s),⟨rs[k].name,rs[k].rows[j].name,dv⟩):Ky×St))).length<=k*540+j*90+m*6+q/\(Cel w6 M w.heap.size g7 0 (.string rs[k].name)/\Cel w6 M w.heap.size g9 0 (.string rs[k].rows[j].name)/\∀(i:Nat) (h:i<rs[k].rows[j].rows.length),Cel w6 M w.heap.size gA i<|.bool<|(dK<|au rs[k].rows[j].rows).getD i false)/\(Cel w6 M w.heap.size g13 0 (.string rs[k].name)/\Cel w6 M w.heap.size g13 1 (.string rs[k].rows[j].name)/\Cel w6 M w.heap.size g13 2 (.int .i64 dv))/\(ks=[] \/ ∃gO ZU,adO=some ⟨gO,ZU,none⟩/\∀(i:Nat) (h:i<ks.length),Cel w6 M w.heap.size gO (ZU+i*2) (.string ks[i].t)/\Cel w6 M w.heap.size gO (ZU+i*2+1) (.string ks[i].s)))/\O (ae w w6)) (fun i _=>ks.length-(intOf i).toNat);case atStart=>exact⟨0,XP _,rfl,⟨n3,M3,by simpa using HG5.out,cq,by simpa using hE3,HC5,HD5,Ze⟩,HB5⟩
     clear HG5 HB5 HC5 HD5 Ze HB;obtain⟨q,hq,rfl,HG,HB⟩:=hrel;by_cases hql:q<ks.length
     ·obtain⟨n6,M6,hG6,hn6,hE6,hC6,hD6,hO6⟩:=HG.out;rcases hO6 with hnil|⟨gO,ZU,hadO,hcO⟩
      ·rw[hnil]at hql;simp at hql
      have x0:=(hcO q hql).1.cell;have x1:=(hcO q hql).2.cell;have y0:=hD6.1.cell;have y1:=hD6.2.1.cell;have y2:=hD6.2.2.cell;have yl:=hD6.1.lt;have hq1:=bG q;have hq2:(q:Int)<(ks.length:Int):=cq;obtain⟨E6,hE6d⟩:=eQx<|E3++(ks.take q).map (fun a:Al=>(((a.t,a.s),⟨rs[k].name,rs[k].rows[j].name,dv⟩):Ky×St));rw[<-hE6d]at hG6 hE6;have HE6D:O (E6=E3++(ks.take q).map (fun a:Al=>(((a.t,a.s),⟨rs[k].name,rs[k].rows[j].name,dv⟩):Ky×St))):=hE6d;obtain⟨W6,hW6⟩:=eQx<|((wr.alloc<|.cells #[.string ks[q].t,.string ks[q].s] 146).alloc<|.cells #[.string rs[k].name,.string rs[k].rows[j].name,.int .i64 dv] 337);have hal:ae wr W6:=by
       rw[hW6]
       repeat(first|exact XL _ _|refine Below.alloc ?_ (by first|(simp;done)|(simp;omega)) _)
      have hsz6:W6.heap.size=wr.heap.size+2:=by rw[hW6];simp
      have HB6:=jr HB hal;have HG6:=aK<|hG6.below hal;have HNB:O (W6.heap[wr.heap.size+1]?=some (.cells #[.string rs[k].name,.string rs[k].rows[j].name,.int .i64 dv] 337)):=by show _=_;rw[hW6];exact yR wr _ _
      have hbn6:w.heap.size<wr.heap.size:=hG6.map.lt;have HS6:O (Stl wr M6 W6 M6 w.heap.size):=Stl.below hal;have HCK:O ((Cel wr M6 w.heap.size g7 0 (.string rs[k].name)/\Cel wr M6 w.heap.size g9 0 (.string rs[k].rows[j].name)/\∀(i:Nat) (h:i<rs[k].rows[j].rows.length),Cel wr M6 w.heap.size gA i<|.bool<|(dK<|au rs[k].rows[j].rows).getD i false)/\(Cel wr M6 w.heap.size g13 0 (.string rs[k].name)/\Cel wr M6 w.heap.size g13 1 (.string rs[k].rows[j].name)/\Cel wr M6 w.heap.size g13 2 (.int .i64 dv))/\(ks=[] \/ ∃gO ZU,adO=some ⟨gO,ZU,none⟩/\∀(i:Nat) (h:i<ks.length),Cel wr M6 w.heap.size gO (ZU+i*2) (.string ks[i].t)/\Cel wr M6 w.heap.size gO (ZU+i*2+1) (.string ks[i].s))):=⟨hC6,hD6,.inr ⟨gO,ZU,hadO,hcO⟩⟩;have hzz:=HKF _<|XI hql;obtain⟨kl,hkl⟩:=j5 (ks[q].t,ks[q].s) hzz.1 hzz.2;have ZY:O (keyOf prog 146 (eD (ks[q].t,ks[q].s))=some kl):=hkl;have hLL:=Fv E6 (ks[q].t,ks[q].s);have hn6b:n6<100000:=cq;have hLb:(lookL E6 (ks[q].t,ks[q].s)).length<100000:=cq;have HSZ:O (W6.heap.size=wr.heap.size+2):=hsz6;rw[hadO];clear hal hG6 hC6 hD6 hcO hkl HG hE6d hzz hLL hsz6
      go_wp2_with (first
       | (at_builtin;refine wpList_append_own_at _ rfl _ _ 335 rfl (w.heap.size+1) 337 i0 _ 3 40 underlying335 hi hz0 hz1 hz2 rfl cv _ _ _ rfl ((xy HG6 (ks[q].t,ks[q].s)).kept hg7<|.inr<|Ne.symm<|Rp HG6 (ks[q].t,ks[q].s)) ⟨wr.heap.size+1,0,none⟩ 1 1 [.string rs[k].name,.string rs[k].rows[j].name,.int .i64 dv] rfl rfl (World.news_of_block (cs:=#[.string rs[k].name,.string rs[k].rows[j].name,.int .i64 dv]) (t:=337) (fr:=(0,0))<|(hg7.block (wr.heap.size+1) (by rw[HSZ];omega) (by simp;omega)).trans HNB) (by simp[Value.oneCell']) cy cq (by have h1:=hg7.size;rw[HSZ]at h1;omega) ?_;intro v' w8 Zy hgrow8 hnil8 hloc8)
       | (rw[<-hW6];refine DR _ rfl _ _ 261 rfl 146 335 MW wE underlying261 LG w.heap.size n6 M6 rfl HG6.map cy (ks[q].t,ks[q].s) kl rfl ZY ?_;intro st7 w7 hg7 hback;clear hW6 x0 x1 y0 y1 y2)
       | (refine vw _ rfl _ _ _ 261 rfl w.heap.size st7 rfl rfl v' rfl 146 (n6+1) (iw M6 (ks[q].t,ks[q].s)<|some v') (hback w8 v'<|hgrow8.block w.heap.size (by have h1:=hg7.size;rw[HSZ]at h1;omega) (Rp HG6 (ks[q].t,ks[q].s))) ?_;intro w9 hM9 hg9))
      have hst:=HG6.step (s:=(⟨rs[k].name,rs[k].rows[j].name,dv⟩:St)) hg7 Zy hgrow8 hloc8 hg9 hM9;have HBN:O (ae w w9):=by
       have hs1:=HB6.size;have b7:ae w w7:=HB6.grown hg7 hs1 (fun i hi=>by injection hi with hi;omega);have b8:ae w w8:=b7.grown hgrow8 b7.size (fun i hi=>by have:=((xy HG6 (ks[q].t,ks[q].s)).lt i hi).1;omega);exact b8.grown hg9 b8.size (fun i hi=>by injection hi with hi;omega)
      have HGN:O (∃n M,Grp w9 w.heap.size n M (E3++(ks.take<|q+1).map (fun a:Al=>(((a.t,a.s),⟨rs[k].name,rs[k].rows[j].name,dv⟩):Ky×St)))/\n<=k*540+j*90+m*6+(q+1)/\(E3++(ks.take<|q+1).map (fun a:Al=>(((a.t,a.s),⟨rs[k].name,rs[k].rows[j].name,dv⟩):Ky×St))).length<=k*540+j*90+m*6+(q+1)/\(Cel w9 M w.heap.size g7 0 (.string rs[k].name)/\Cel w9 M w.heap.size g9 0 (.string rs[k].rows[j].name)/\∀(i:Nat) (h:i<rs[k].rows[j].rows.length),Cel w9 M w.heap.size gA i<|.bool<|(dK<|au rs[k].rows[j].rows).getD i false)/\(Cel w9 M w.heap.size g13 0 (.string rs[k].name)/\Cel w9 M w.heap.size g13 1 (.string rs[k].rows[j].name)/\Cel w9 M w.heap.size g13 2 (.int .i64 dv))/\(ks=[] \/ ∃gO ZU,adO=some ⟨gO,ZU,none⟩/\∀(i:Nat) (h:i<ks.length),Cel w9 M w.heap.size gO (ZU+i*2) (.string ks[i].t)/\Cel w9 M w.heap.size gO (ZU+i*2+1) (.string ks[i].s))):=by
       have hS9:=HS6.trans hst.2;have e:E3++(ks.take<|q+1).map (fun a:Al=>(((a.t,a.s),⟨rs[k].name,rs[k].rows[j].name,dv⟩):Ky×St))=E6++[((ks[q].t,ks[q].s),(⟨rs[k].name,rs[k].rows[j].name,dv⟩:St))]:=by
        rw[XM hql,YF,<-Ye,<-HE6D];rfl
       obtain⟨k1,k2,k3⟩:=HCK.out;refine⟨n6+1,_,by rw[e];exact hst.1,cq,by rw[e,XT];simp;omega,⟨k1.1.stl hS9,k1.2.1.stl hS9,fun i h=>(k1.2.2 i h).stl hS9⟩,⟨k2.1.stl hS9,k2.2.1.stl hS9,k2.2.2.stl hS9⟩,?_⟩;rcases k3 with hnil|⟨gO',offO',e1,hc⟩
       ·exact .inl hnil
       exact .inr ⟨gO',offO',e1,fun i h=>⟨(hc i h).1.stl hS9,(hc i h).2.stl hS9⟩⟩
      clear hst hg7 hback Zy hgrow8 hnil8 hloc8 hg9 hM9;go_wp2;go_roundw;case rel=>exact⟨q+1,cq,cx,(by rw[hadO]at HGN;exact HGN),HBN⟩
      simp[intOf]<;>omega
     obtain rfl:q=ks.length:=cq;have HGN:O (∃n M,Grp wr w.heap.size n M (E2++relE (ai rs) rs[k].name rs[k].rows[j].name (au rs[k].rows[j].rows) (m+1))/\n<=k*540+j*90+(m+1)*6/\(E2++relE (ai rs) rs[k].name rs[k].rows[j].name (au rs[k].rows[j].rows) (m+1)).length<=k*540+j*90+(m+1)*6/\(Cel wr M w.heap.size g7 0 (.string rs[k].name)/\Cel wr M w.heap.size g9 0 (.string rs[k].rows[j].name)/\∀(i:Nat) (h:i<rs[k].rows[j].rows.length),Cel wr M w.heap.size gA i<|.bool<|(dK<|au rs[k].rows[j].rows).getD i false)):=by
      obtain⟨n,M,h1,hn,h2,h3,-,-⟩:=HG.out;rw[X8]at h1 h2;have e:E2++relE (ai rs) rs[k].name rs[k].rows[j].name (au rs[k].rows[j].rows) (m+1)=E3++ks.map (fun a:Al=>(((a.t,a.s),⟨rs[k].name,rs[k].rows[j].name,dv⟩):Ky×St)):=by
       rw[Fs _ _ _ _ _ ZA _ HNG,<-Ye,<-HE3D,HKS,HDE];rfl
      refine⟨n,M,by rw[e];exact h1,cq,by rw[e];omega,h3⟩
     clear HG;go_wp2;go_roundw;case rel=>exact⟨m+1,cq,cx,HGN,HB⟩
     simp[intOf]<;>omega
   obtain rfl:m=rs[k].rows[j].rows.length:=cq;have HGN:O (∃n M,Grp wr w.heap.size n M (E1++jS (ai rs) rs[k].name (rs[k].rows.take<|j+1))/\n<=k*540+(j+1)*90/\(E1++jS (ai rs) rs[k].name (rs[k].rows.take<|j+1)).length<=k*540+(j+1)*90/\Cel wr M w.heap.size g7 0 (.string rs[k].name)):=by
    obtain⟨n,M,h1,hn,h2,h3⟩:=HG.out;have e:E1++jS (ai rs) rs[k].name (rs[k].rows.take<|j+1)=E2++relE (ai rs) rs[k].name rs[k].rows[j].name (au rs[k].rows[j].rows) rs[k].rows[j].rows.length:=by
     rw[LC _ _ _ _ hjl,<-Ye,<-HE2D]
    refine⟨n,M,?_,cq,?_,h3.1⟩
    ·rw[e];exact h1
    rw[e];omega
   go_wp2;go_roundw;case rel=>exact⟨j+1,cq,cx,HGN,HB⟩
   simp[intOf]<;>omega
  obtain rfl:j=rs[k].rows.length:=cq;have HGN:O (∃n M,Grp wr w.heap.size n M (jT (ai rs)<|rs.take<|k+1)/\n<=(k+1)*540/\(jT (ai rs)<|rs.take<|k+1).length<=(k+1)*540):=by
   obtain⟨n,M,h1,hn,h2,h3⟩:=HG.out;rw[X8]at h1 h2;have e:jT (ai rs) (rs.take<|k+1)=E1++jS (ai rs) rs[k].name rs[k].rows:=by rw[LD _ _ _ hlt,<-HE1D]
   refine⟨n,M,?_,cq,?_⟩
   ·rw[e];exact h1
   rw[e];omega
  go_wp2;go_roundw;case rel=>exact⟨k+1,cq,cx,HGN,HB⟩
  simp[intOf]<;>omega
 obtain rfl:k=rs.length:=cq;have HGN:O (∃n M,Grp wr w.heap.size n M<|jT (ai rs) rs):=by
  obtain⟨n,M,h1,-⟩:=HG.out;rw[X8]at h1;exact⟨n,M,h1⟩
 go_wp2;go_ret;exact⟨rfl,HGN,HB⟩
def Edge(ts:Q0b)(E:List<|Ky×St):Prop:=∀on t r s,(on,⟨t,r,s⟩)∈E↔(t,r)∈ay ts/\∃d∈iP ts (t,r),(d.typ,d.rel)=on/\stepOf d=s
def yS:Option Int->Int
 | none=>0
 | some x=>x+1
def pQ(N:Nat)(σ:Ky->Option Int):List Ky->Int
 | []=>0
 | k::ks=>((N:Int)-yS (σ k))+pQ N σ ks
structure Rz(ts:Q0b)(N:Nat)(σ:Ky->Option Int):Prop where
 there:∀k x,σ k=some x->k∈ay ts/\0<=x/\x<N/\rR ts k x
def J9(σ:Ky->Option Int)(k:Ky)(x:Int):Ky->Option Int:=fun y=>if y=k then some x else σ y
def pR(σ:Ky->Option Int)(k:Ky)(x:Int):J9 σ k x k=some x:=by simp[J9]
def tY{σ:Ky->Option Int}{k y:Ky}{x:Int}(h:y≠k):J9 σ k x y=σ y:=by simp[J9,h]
def Rz.val{ts:Q0b}{N:Nat}{σ:Ky->Option Int}(h:Rz ts N σ)(k:Ky):0<=yS (σ k)/\yS (σ k)<=N:=by
 cases e:σ k with
 | none=>simp[yS]
 | some x=>have:=h.there k x e;simp only[yS];omega
def Rz.mu_pos{ts:Q0b}{N:Nat}{σ:Ky->Option Int}(h:Rz ts N σ)(ks:List Ky):0<=pQ N σ ks:=by
 induction ks with
 | nil=>simp[pQ]
 | cons k ks ih=>have:=h.val k;simp only[pQ];omega
def Rz.set{ts:Q0b}{N:Nat}{σ:Ky->Option Int}(h:Rz ts N σ){k:Ky}{x:Int}(hk:k∈ay ts)(h0:0<=x)(hN:x<N)(hl:rR ts k x):Rz ts N (J9 σ k x):=⟨fun y z hz=>by
 by_cases e:y=k
 ·subst e;rw[pR]at hz;injection hz with hz;subst hz;exact⟨hk,h0,hN,hl⟩
 rw[tY e]at hz;exact h.there y z hz⟩
def xz(σ σ':Ky->Option Int):Prop:=∀k x,σ k=some x->∃y,σ' k=some y/\x<=y
def xz.refl(σ:Ky->Option Int):xz σ σ:=fun _ x h=>⟨x,h,Int.le_refl _⟩
def xz.trans{a b c:Ky->Option Int}(h:xz a b)(h2:xz b c):xz a c:=fun k x hx=>by
 obtain⟨y,hy,h3⟩:=h k x hx;obtain⟨z,hz,h4⟩:=h2 k y hy;exact⟨z,hz,cq⟩
def xz.val{σ σ':Ky->Option Int}{ts:Q0b}{N:Nat}(h:xz σ σ')(hR:Rz ts N σ')(k:Ky):yS (σ k)<=yS (σ' k):=by
 cases e:σ k with
 | none=>exact(hR.val k).1
 | some x=>obtain⟨y,hy,h2⟩:=h k x e;rw[hy];simp only[yS];omega
def xz.mu{σ σ':Ky->Option Int}{ts:Q0b}{N:Nat}(h:xz σ σ')(hR:Rz ts N σ')(ks:List Ky):pQ N σ' ks<=pQ N σ ks:=by
 induction ks with
 | nil=>exact Int.le_refl _
 | cons k ks ih=>have:=h.val hR k;simp only[pQ];omega
def AQ{σ:Ky->Option Int}{k:Ky}{x:Int}(h:∀y,σ k=some y->y<x):xz σ (J9 σ k x):=fun y z hz=>by
 by_cases e:y=k
 ·subst e;exact⟨x,pR _ _ _,by have:=h z hz;omega⟩
 exact⟨z,by rw[tY e];exact hz,Int.le_refl _⟩
def Xe{σ:Ky->Option Int}{ts:Q0b}{N:Nat}{k:Ky}{x:Int}(hR:Rz ts N<|J9 σ k x)(h:∀y,σ k=some y->y<x)(h0:0<=x)(ks:List Ky)(hk:k∈ks):pQ N (J9 σ k x) ks+1<=pQ N σ ks:=by
 induction ks with
 | nil=>cases hk
 | cons y ks ih =>
  simp only[pQ];have hm:=(AQ h).mu hR ks;have hv:=(AQ h).val hR y;rcases X7.1 hk with rfl|hk
  ·have:yS (σ k)+1<=yS (J9 σ k x k):=by
    rw[pR];cases e:σ k with
    | none=>simp only[yS];omega
    | some z=>have:=h z e;simp only[yS];omega
   omega
  have:=ih hk;omega
def tZ(E:List<|Ky×St)(σ:Ky->Option Int)(k:Ky):Prop:=∀x,σ k=some x->∀s∈lookL E k,∃y,σ s.key=some y/\x+s.n<=y
structure Raised(E:List<|Ky×St)(σ σ':Ky->Option Int):Prop where
 mono:xz σ σ'
 done:∀k,(tZ E σ k\/σ' k≠σ k)->tZ E σ' k
def Raised.refl(E:List<|Ky×St)(σ:Ky->Option Int):Raised E σ σ:=⟨xz.refl _,fun _ h=>h.elim id fun e=>absurd rfl e⟩
def Raised.trans{E:List<|Ky×St}{a b c:Ky->Option Int}(h:Raised E a b)(h2:Raised E b c):Raised E a c:=⟨h.mono.trans h2.mono,fun k hk=>by
 by_cases e:c k=b k
 ·by_cases e2:b k=a k
  ·rcases hk with hk|hk
   ·exact h2.done k<|.inl<|h.done k<|.inl hk
   exact absurd (e.trans e2) hk
  exact h2.done k<|.inl<|h.done k<|.inr e2
 exact h2.done k<|.inr e⟩
structure Half(E:List<|Ky×St)(σ:Ky->Option Int)(key:Ky)(x:Int)(j:Nat)(σ':Ky->Option Int):Prop where
 mono:xz σ σ'
 done:∀k,k≠key->(tZ E σ k\/σ' k≠σ k)->tZ E σ' k
 own:tZ E σ' key\/(σ' key=some x/\∀s∈(lookL E key).take j,∃y,σ' s.key=some y/\x+s.n<=y)
 at':∃y,σ' key=some y/\x<=y
def Half.start{E:List<|Ky×St}{σ:Ky->Option Int}{key:Ky}{x:Int}(h:∀y,σ key=some y->y<x):Half E σ key x 0 (J9 σ key x) where
 mono:=AQ h
 done k hk hs:=by
  have e:J9 σ key x k=σ k:=tY hk;rcases hs with hs|hs
  ·intro z hz s hm;rw[e]at hz;obtain⟨y,hy,hle⟩:=hs z hz s hm;obtain⟨y',hy',h2⟩:=AQ h _ y hy;exact⟨y',hy',cq⟩
  exact absurd e hs
 own:=.inr ⟨pR _ _ _,fun s hs=>by simp at hs⟩
 at':=⟨x,pR _ _ _,Int.le_refl _⟩
def Half.step{E:List<|Ky×St}{σ σ1 σ2:Ky->Option Int}{key:Ky}{x:Int}{j:Nat}(h:Half E σ key x j σ1)(hj:j<(lookL E key).length)(hR:Raised E σ1 σ2)(hy:∃y,σ2 (lookL E key)[j].key=some y/\x+(lookL E key)[j].n<=y):Half E σ key x (j+1) σ2 where
 mono:=h.mono.trans hR.mono
 done k hk hs:=by
  by_cases e:σ2 k=σ1 k
  ·by_cases e2:σ1 k=σ k
   ·rcases hs with hs|hs
    ·exact hR.done k<|.inl<|h.done k hk<|.inl hs
    exact absurd (e.trans e2) hs
   exact hR.done k<|.inl<|h.done k hk<|.inr e2
  exact hR.done k<|.inr e
 own:=by
  rcases h.own with ho|⟨h1,h2⟩
  ·exact .inl<|hR.done key<|.inl ho
  by_cases e:σ2 key=σ1 key
  ·refine .inr ⟨e.trans h1,fun s hs=>?_⟩;rw[XM hj]at hs;rcases XV.1 hs with hs|hs
   ·obtain⟨y,hy1,hy2⟩:=h2 s hs;obtain⟨z,hz,h3⟩:=hR.mono _ y hy1;exact⟨z,hz,cq⟩
   simp at hs;subst hs;exact hy
  exact .inl<|hR.done key<|.inr e
 at':=by
  obtain⟨y,hy,h1⟩:=h.at';obtain⟨z,hz,h2⟩:=hR.mono key y hy;exact⟨z,hz,cq⟩
def Half.full{E:List<|Ky×St}{σ σ':Ky->Option Int}{key:Ky}{x:Int}{j:Nat}(h:Half E σ key x j σ')(hj:(lookL E key).length<=j):Raised E σ σ' where
 mono:=h.mono
 done k hk:=by
  by_cases e:k=key
  ·subst e;rcases h.own with ho|⟨h1,h2⟩
   ·exact ho
   intro z hz s hs;rw[h1]at hz;injection hz with hz;subst hz;exact h2 s (by rw[Yj hj];exact hs)
  exact h.done k e hk
def GU{ts:Q0b}{N:Nat}{E:List<|Ky×St}{σ:Ky->Option Int}(hE:Edge ts E)(hF:Found ts)(hR:Rz ts N σ)(hall:∀k∈ay ts,∃x,σ k=some x)(hs:∀k,tZ E σ k):Least ts (fun k=>(σ k).getD 0) where
 sol:=⟨fun k=>by
   cases e:σ k with
   | none=>exact Int.le_refl _
   | some x=>exact(hR.there k x e).2.1,fun k hk d hd=>by
   obtain⟨x,hx⟩:=hall _<|hF k hk d hd;have hm:(⟨k.1,k.2,stepOf d⟩:St)∈lookL E (d.typ,d.rel):=mem_lookL.2<|(hE _ _ _ _).2 ⟨hk,d,hd,rfl,rfl⟩;obtain⟨y,hy,h2⟩:=hs _ x hx _ hm;have hy':σ k=some y:=hy;simp only[hx,hy',Yv];exact h2⟩
 low k hk:=by
  obtain⟨x,hx⟩:=hall k hk;simp only[hx,Yv];exact(hR.there k x hx).2.2.2
def Edge.low{ts:Q0b}{E:List<|Ky×St}(hE:Edge ts E){k:Ky}{x:Int}(hl:rR ts k x){s:St}(hs:s∈lookL E k):s.key∈ay ts/\rR ts s.key (x+s.n)/\0<=s.n/\s.n<=1:=by
 obtain⟨h1,d,hd,e1,e2⟩:=(hE k s.typ s.rel s.n).1<|mem_lookL.1 hs;have:=Cg d;refine⟨h1,?_,cq,cq⟩;rw[<-e2];exact rR.step h1 hd (by rw[e1];exact hl)
def jD(σ:Ky->Option Int):Ky->Option Value:=fun k=>(σ k).map fun x=>Value.int .i64 x
def Un(σ:Ky->Option Int)(k:Ky)(x:Int):iw (jD σ) k (some<|.int .i64 x)=jD (J9 σ k x):=by
 funext y
 unfold jD;by_cases e:y=k
 ·subst e;rw[dH,pR];rfl
 rw[bP e,tY e]
def xA(u:ag):(zeroValue 2).run prog u=.ok (.int .i64 0) u:=cw
def GV(gS gC gL gR:Nat):Value:=.func (Fn.func 259) #[] #[.pointer (some ⟨gS,0,none⟩),.pointer<|some ⟨gC,0,none⟩,.pointer<|some ⟨gL,0,none⟩,.pointer<|some ⟨gR,0,none⟩]
structure Rw(w:World)(gS gC gL gR bS bL N n nL:Nat)(ML:Ky->Option Value)(E:List<|Ky×St)(σ:Ky->Option Int):Prop where
 cS:w.cell? ⟨gS,0,none⟩=some (.map<|some bS)
 cC:w.cell? ⟨gC,0,none⟩=some (.int .i64 N)
 cL:w.cell? ⟨gL,0,none⟩=some (.map<|some bL)
 cR:w.cell? ⟨gR,0,none⟩=some (GV gS gC gL gR)
 lS:gS<w.heap.size/\gS≠bS
 lC:gC<w.heap.size/\gC≠bS
 lL:gL<w.heap.size/\gL≠bS
 lR:gR<w.heap.size/\gR≠bS
 map:aL eD prog 146 w bS n (jD σ)
 lean:Grp w bL nL ML E
 bne:bL≠bS
 free:FreeB ML bS
def kM{w w':ag}{b g:Nat}(hg:w.grownBy w'<|some b)(hl:g<w.heap.size/\g≠b)(o:Nat):w'.cell? (ap g o)=w.cell? (ap g o):=Yf (w:=w) (hg.block g hl.1 fun e=>hl.2<|by injection e)
def Grp.kept{w w':ag}{bL n b:Nat}{M:Ky->Option Value}{E:List<|Ky×St}(h:Grp w bL n M E)(hg:w.grownBy w'<|some b)(hb:bL≠b)(hf:FreeB M b):Grp w' bL n M E where
 map:=h.map.kept hg (by intro e;injection e with e;exact hb e)
 row k:=by
  rcases h.row k with e|⟨v,e,ho⟩
  ·exact .inl e
  exact .inr ⟨v,e,ho.kept hg<|.inr<|hf k v e⟩
 apart:=h.apart
def Rw.kept{w w':ag}{gS gC gL gR bS bL N n n' nL:Nat}{ML:Ky->Option Value}{E:List<|Ky×St}{σ σ':Ky->Option Int}(h:Rw w gS gC gL gR bS bL N n nL ML E σ)(hg:w.grownBy w'<|some bS)(hM:aL eD prog 146 w' bS n'<|jD σ'):Rw w' gS gC gL gR bS bL N n' nL ML E σ' where
 cS:=(kM hg h.lS 0).trans h.cS
 cC:=(kM hg h.lC 0).trans h.cC
 cL:=(kM hg h.lL 0).trans h.cL
 cR:=(kM hg h.lR 0).trans h.cR
 lS:=⟨XJ h.lS.1 hg.size,h.lS.2⟩
 lC:=⟨XJ h.lC.1 hg.size,h.lC.2⟩
 lL:=⟨XJ h.lL.1 hg.size,h.lL.2⟩
 lR:=⟨XJ h.lR.1 hg.size,h.lR.2⟩
 map:=hM
 lean:=h.lean.kept hg h.bne h.free
 bne:=h.bne
 free:=h.free
def jU{w w':ag}{b:Nat}(h:ae w w'):w.grownBy w' (some b):=⟨h.os,h.tape,h.output,h.size,fun k hk _=>h.block k hk⟩
def Rw.below{w w':ag}{gS gC gL gR bS bL N n nL:Nat}{ML:Ky->Option Value}{E:List<|Ky×St}{σ:Ky->Option Int}(h:Rw w gS gC gL gR bS bL N n nL ML E σ)(hB:ae w w'):Rw w' gS gC gL gR bS bL N n nL ML E σ:=h.kept (jU hB)<|h.map.below hB
def oD{a b c:ag}{r:Option Nat}(h:a.grownBy b r)(h2:b.grownBy c r):a.grownBy c r:=⟨h2.os.trans h.os,h2.tape.trans h.tape,h2.output.trans h.output,XR h.size h2.size,fun k hk hr=>(h2.block k (XJ hk h.size) hr).trans<|h.block k hk hr⟩
def LH(ts:Q0b)(w:World)(gS gC gL gR bS bL N n nL:Nat)(ML:Ky->Option Value)(E:List<|Ky×St)(σ:Ky->Option Int)(key:Ky)(lv:Int)(e:Ending)(w':World):Prop :=
 ∃(ok:Bool) (σ':Ky->Option Int) (n':Nat),e=.returned (.bool ok)/\w.grownBy w' (some bS)/\Rw w' gS gC gL gR bS bL N n' nL ML E σ'/\Rz ts N σ'/\(n':Int)+pQ N σ' (ay ts)<=n+pQ N σ (ay ts)/\pQ N σ' (ay ts)<=pQ N σ (ay ts) /\
  (ok=false->¬ ∃f,Sol ts f)/\(ok=true->Raised E σ σ'/\∃x,σ' key=some x/\lv<=x)
set_option maxRecDepth 100000 in
def OD(ts:Q0b)(gS gC gL gR bS bL N nL:Nat)(ML:Ky->Option Value)(E:List<|Ky×St)(hE:Edge ts E)(hF:Found ts)(hN:N=(ay ts).length)(hN36:N<=36)(hsz:∀k∈ay ts,k.1.size<=maxLen/\k.2.size<=maxLen)(hEl:E.length<=100000)(f:Nat):
  ∀(w:World) (σ:Ky->Option Int) (n:Nat) (key:Ky) (lv:Int),Rw w gS gC gL gR bS bL N n nL ML E σ->Rz ts N σ->pQ N σ (ay ts)<=f->(n:Int)+pQ N σ (ay ts)<=100000->key∈ay ts->0<=lv->lv<=100->rR ts key lv ->
  Calls prog 259 #[.agg #[.string key.1,.string key.2],.int .i64 lv,.pointer<|some<|am gS,.pointer<|some<|am gC,.pointer<|some<|am gL,.pointer<|some<|am gR] w (LH ts w gS gC gL gR bS bL N n nL ML E σ key lv):=by
 have HE:=aK hE;have HF:=aK hF;have HSZ:O (∀k∈ay ts,k.1.size<=maxLen/\k.2.size<=maxLen):=hsz;have HNN:O (N=(ay ts).length):=hN;clear hE hF hsz hN
 induction f using Nat.strongRecOn with
 | _ f ih =>
 intro w σ n key lv hR hZ hmu hnm hk h0 h1 hl;have HIH:O (∀m<f,_):=ih;clear ih;obtain⟨hz1,hz2⟩:=HSZ key hk;obtain⟨kl,hkl⟩:=j5 key hz1 hz2;have ZY:O (keyOf prog 146 (eD key)=some kl):=hkl;have HR:=aK hR;have HZ:=aK hZ;have HLK:=aK hl;have HKM:=aK hk;have hmp:=hZ.mu_pos<|ay ts;have cS:=hR.cS;have cC:=hR.cC;have cL:=hR.cL;have lS:=hR.lS.1;have lC:=hR.lC.1;have lL:=hR.lL.1;have hbS:=hR.map.lt;have hal:ae w (w.alloc<|.cells #[.string key.1,.string key.2] 146):=(XL _ _).alloc (XK _) _;have Zl:=aK hal;have HM1:O (aL eD prog 146 (w.alloc<|.cells #[.string key.1,.string key.2] 146) bS n<|jD σ):=hR.map.below hal;have HR1:=aK<|hR.below hal;clear hR hZ hl hkl hal hk;by_cases hd:∃x,σ key=some x/\lv<=x
 ·obtain⟨x,hx,hle⟩:=hd;obtain⟨-,hx0,hxN,-⟩:=HZ.there key x hx;have hlk:jD σ key=some (.int .i64 x):=by unfold jD;rw[hx];rfl
  have HX:O (σ key=some x):=hx;clear hx;go_enter func259,ntmps259;go_wp2_with(at_lookup;refine dm _ rfl _ _ 169 rfl 146 2 ji underlying169 (xA _) bS n (jD σ) rfl HM1 key kl rfl ZY ?_;simp only[hlk,Yv,Option.isSome_some]);go_ret;exact⟨true,σ,n,rfl,jU Zl,HR1,HZ,Int.le_refl _,Int.le_refl _,ct,fun _=>⟨Raised.refl _ _,x,HX,hle⟩⟩
 have HLT:O (∀y,σ key=some y->y<lv):=fun y hy=>by
  by_cases h:lv<=y
  ·exact absurd ⟨y,hy,h⟩ hd
  omega
 clear hd;by_cases hNt:(N:Int)<=lv
 ·have ZQ:O (¬ ∃f,Sol ts f):=QN HF HKM HLK (by have:=HNN.out;omega);cases hs:σ key with
  | none =>
   have hlk:jD σ key=none:=by unfold jD;rw[hs];rfl
   clear hs;go_enter func259,ntmps259;go_wp2_with(at_lookup;refine dm _ rfl _ _ 169 rfl 146 2 ji underlying169 (xA _) bS n (jD σ) rfl HM1 key kl rfl ZY ?_;simp only[hlk,Option.getD_none,Option.isSome_none]);go_ret;exact⟨false,σ,n,rfl,jU Zl,HR1,HZ,Int.le_refl _,Int.le_refl _,fun _=>ZQ,ct⟩
  | some x =>
   have hxt:x<lv:=HLT x hs;obtain⟨-,hx0,hxN,-⟩:=HZ.there key x hs;have hlk:jD σ key=some (.int .i64 x):=by unfold jD;rw[hs];rfl
   clear hs;go_enter func259,ntmps259;go_wp2_with(at_lookup;refine dm _ rfl _ _ 169 rfl 146 2 ji underlying169 (xA _) bS n (jD σ) rfl HM1 key kl rfl ZY ?_;simp only[hlk,Yv,Option.isSome_some]);go_ret;exact⟨false,σ,n,rfl,jU Zl,HR1,HZ,Int.le_refl _,Int.le_refl _,fun _=>ZQ,ct⟩
 have hNt':lv<(N:Int):=cq;have HZ2:O (Rz ts N<|J9 σ key lv):=HZ.set HKM h0 hNt' HLK;have HMU:O (pQ N (J9 σ key lv) (ay ts)+1<=pQ N σ (ay ts)):=Xe HZ2 HLT h0 _ HKM;obtain⟨Zo,cpL,hvl,hrow⟩:=Ub<|xy HR.lean key;have HVL:O ((ML key).getD (.slice none 0 0)=.slice Zo (lookL E key).length cpL):=hvl;have hll:(lookL E key).length<=100000:=XR (Fv _ _) hEl;clear hvl hrow;cases hs:σ key
 case' none =>
  have hlk:jD σ key=none:=by unfold jD;rw[hs];rfl
  clear hs;go_enter func259,ntmps259
  go_wp2_with (first
   | (at_lookup;refine dm _ rfl _ _ 169 rfl 146 2 ji underlying169 (xA _) bS n (jD σ) rfl HM1 key kl rfl ZY ?_;simp only[hlk,Option.getD_none,Option.isSome_none])
   | (at_mapUpdate;refine jw _ rfl _ _ _ 169 rfl 146 2 ji wE underlying169 bS n (jD σ) rfl HM1 cy key kl rfl ZY (.int .i64 lv) rfl ?_;intro w2 hV2 hg2;have cL2:ab w2 gL (.map<|some bL):=(kM hg2 HR1.lL 0).trans HR1.cL;have k0:ab w2 w.heap.size (.string key.1):=(kM hg2 ⟨ct,cq⟩ 0).trans ct;have k1:ac w2 w.heap.size 1 (.string key.2):=(kM hg2 ⟨ct,cq⟩ 1).trans ct)
   | (at_lookup;refine jZ _ rfl _ _ 261 rfl 146 335 ji underlying261 (LG _) bL nL ML rfl ((HR1.lean.kept hg2 HR1.bne HR1.free).map) key kl rfl ZY ?_;rw[HVL]))
 case' some x =>
  have hxt:x<lv:=HLT x hs;obtain⟨-,hx0,hxN,-⟩:=HZ.there key x hs;have hlk:jD σ key=some (.int .i64 x):=by unfold jD;rw[hs];rfl
  clear hs;go_enter func259,ntmps259
  go_wp2_with (first
   | (at_lookup;refine dm _ rfl _ _ 169 rfl 146 2 ji underlying169 (xA _) bS n (jD σ) rfl HM1 key kl rfl ZY ?_;simp only[hlk,Yv,Option.isSome_some])
   | (at_mapUpdate;refine jw _ rfl _ _ _ 169 rfl 146 2 ji wE underlying169 bS n (jD σ) rfl HM1 cy key kl rfl ZY (.int .i64 lv) rfl ?_;intro w2 hV2 hg2;have cL2:ab w2 gL (.map<|some bL):=(kM hg2 HR1.lL 0).trans HR1.cL;have k0:ab w2 w.heap.size (.string key.1):=(kM hg2 ⟨ct,cq⟩ 0).trans ct;have k1:ac w2 w.heap.size 1 (.string key.2):=(kM hg2 ⟨ct,cq⟩ 1).trans ct)
   | (at_lookup;refine jZ _ rfl _ _ 261 rfl 146 335 ji underlying261 (LG _) bL nL ML rfl ((HR1.lean.kept hg2 HR1.bne HR1.free).map) key kl rfl ZY ?_;rw[HVL]))
 all_goals
  have HR2:O (Rw w2 gS gC gL gR bS bL N (n+1) nL ML E<|J9 σ key lv):=HR1.kept hg2 (by rw[<-Un];exact hV2);have HG2:O (w.grownBy w2<|some bS):=oD (jU Zl) hg2;clear hV2 hg2 cL2 k0 k1;go_loopw[35] (fun i w3=>∃j:Nat,j<=(lookL E key).length/\i=.int .i64 j/\O (∃(σ3:Ky->Option Int) (n3:Nat),Half E σ key lv j σ3/\Rw w3 gS gC gL gR bS bL N n3 nL ML E σ3/\Rz ts N σ3/\(n3:Int)+pQ N σ3 (ay ts)<=n+pQ N σ (ay ts)/\pQ N σ3 (ay ts)+1<=pQ N σ (ay ts)/\w.grownBy w3 (some bS))) (fun i _=>(lookL E key).length-(intOf i).toNat);case atStart=>exact⟨0,XP _,rfl,⟨J9 σ key lv,n+1,Half.start HLT,HR2,HZ2,by have:=HMU.out;push_cast;omega,HMU,HG2⟩⟩
  clear HR2 HG2 HZ2 HMU;obtain⟨j,hj,rfl,HI⟩:=hrel;by_cases hjl:j<(lookL E key).length
  ·obtain⟨σ3,n3,hH3,hR3,hZ3,hn3,hm3,hg3⟩:=HI.out;obtain⟨Y8,cp',hv',hrow'⟩:=Ub<|xy hR3.lean key;rw[HVL]at hv';injection hv' with e1 e2 e3;subst e1;rcases hrow' with h|⟨gr,YW,hgr1,ZP,hcr⟩
   ·omega
   obtain⟨st,hst⟩:=eQx<|(lookL E key)[j];have r0:ac wr gr (j*3) (.string st.typ):=hcr _ _ (by have:=mM (lookL E key) j hjl 0 cq;rw[hst];simpa[St.cells] using this);have r1:ac wr gr (j*3+1) (.string st.rel):=hcr _ _ (by have:=mM (lookL E key) j hjl 1 cq;rw[hst];simpa[St.cells] using this);have r2:ac wr gr (j*3+2) (.int .i64 st.n):=hcr _ _ (by have:=mM (lookL E key) j hjl 2 cq;rw[hst];simpa[St.cells] using this);have HST:O (st=(lookL E key)[j]):=hst;obtain⟨hsk,hsl,hsn0,hsn1⟩:=HE.low HLK (s:=st) (by rw[hst];exact XI hjl);have HSK:=aK hsk;have HSL:=aK hsl;have hj1:=bG j;have hj2:(j:Int)<((lookL E key).length:Int):=cq
   have cR3:=hR3.cR;unfold GV at cR3;have lR3:=hR3.lR.1;obtain⟨W3,hW3⟩:=eQx<|wr.alloc<|.cells #[.string st.typ,.string st.rel,.int .i64 st.n] 337;have hal3:ae wr W3:=by rw[hW3];exact(XL _ _).alloc (XK _) _
   have HR3:=aK<|hR3.below hal3;have HG3:O (w.grownBy W3<|some bS):=oD hg3<|jU hal3;have HH3:=aK hH3;have HZ3:=aK hZ3;have hm3p:=hZ3.mu_pos<|ay ts;have HNM:O ((n3:Int)+pQ N σ3 (ay ts)<=n+pQ N σ (ay ts)/\pQ N σ3 (ay ts)+1<=pQ N σ (ay ts)):=⟨hn3,hm3⟩;rw[YW];clear hcr hgr1 ZP hsk hsl hst hR3 hal3 hH3 hZ3 hg3 HI e2 e3;go_wp2_with fail;rw[<-hW3];clear hW3 r0 r1 r2 cR3;refine(HIH (pQ N σ3<|ay ts).toNat cq _ σ3 n3 st.key (lv+st.n) HR3 HZ3 cq cq HSK cq cq HSL).mono ?_;rintro e w5 ⟨ok,σ5,n5,rfl,hg5,ZB,hZ5,hn5,hm5,hf5,ht5⟩;cases ok;case false=>
    have HP:O (LH ts w gS gC gL gR bS bL N n nL ML E σ key lv (.returned<|.bool false) w5):=by
     have h:=HNM.out;exact⟨false,σ5,n5,rfl,oD HG3 hg5,ZB,hZ5,cq,cq,fun _=>hf5 rfl,ct⟩
    clear hg5 ZB hZ5 hn5 hm5 hf5 ht5;go_wp2;go_ret;exact HP
   have HI2:O (∃(σ3:Ky->Option Int) (n3:Nat),Half E σ key lv (j+1) σ3/\Rw w5 gS gC gL gR bS bL N n3 nL ML E σ3/\Rz ts N σ3/\(n3:Int)+pQ N σ3 (ay ts)<=n+pQ N σ (ay ts)/\pQ N σ3 (ay ts)+1<=pQ N σ (ay ts)/\w.grownBy w5 (some bS)):=by
    have h:=HNM.out;obtain⟨hRa,y,hy,hle⟩:=ht5 rfl;refine⟨σ5,n5,HH3.step hjl hRa ⟨y,?_,?_⟩,ZB,hZ5,cq,cq,oD HG3 hg5⟩
    ·rw[<-HST];exact hy
    rw[<-HST];exact hle
   clear hg5 ZB hZ5 hn5 hm5 hf5 ht5;go_wp2;go_roundw;case rel=>exact⟨j+1,cq,cx,HI2⟩
   simp[intOf]<;>omega
  obtain rfl:j=(lookL E key).length:=cq;have HP:O (LH ts w gS gC gL gR bS bL N n nL ML E σ key lv (.returned<|.bool true) wr):=by
   obtain⟨σ3,n3,hH3,hR3,hZ3,hn3,hm3,hg3⟩:=HI.out;exact⟨true,σ3,n3,rfl,hg3,hR3,hZ3,hn3,cq,ct,fun _=>⟨hH3.full<|XK _,hH3.at'⟩⟩
  clear HI;go_wp2;go_ret;exact HP
end Go.Proofs.YtojjoblnpldniaaGreat
