/- Contracts of the document's functions that write an expression's text. -/
import Derived.Test.YtojjoblnpldniaaGreatSq
import Derived.Test.YtojjoblnpldniaaGreatJ6
import Derived.Test.YtojjoblnpldniaaGreatJ8
import Derived.Test.YtojjoblnpldniaaGreatJ11
import Derived.Test.YtojjoblnpldniaaGreatJ10
open Go.Proofs.Tryz
set_option maxHeartbeats 80000000
set_option linter.defProp false
namespace Go.Proofs.YtojjoblnpldniaaGreat
open ChangeShapes WideShapes ChangeAt RowKit
open Pl
def rZ{a b:ByteArray}(h:a=b):Ending.returned (.string a)=.returned (.string b):=by rw[h]
def tJ(a:bN):(⟨#[]⟩:ByteArray)++a=a:=by apply jd;simp[ByteArray.data_append]
def zy(a:Al)(w:af)(h1:a.t.size<=12)(h2:a.s.size<=12):
  Calls prog 293 #[.agg #[.string a.t,.string a.s]] w (bj w<|.string<|bR a):=by
 have hB:=(WL w.heap.size w).alloc (WK _)<|.cells #[.string a.t,.string a.s] 216;cases he:a.s.toList.isEmpty;case true=>
  go_enter func293,ntmps293;go_wp2;go_ret;exact⟨rZ<|by simp[bR,he],hB⟩
 go_enter func293,ntmps293;go_wp2;go_ret;exact⟨rZ<|by simp[bR,he],hB⟩
def nD(k:Int)(w:af):
  Calls prog 294 #[.int .i64 k] w (bx w<|.string<|eG k):=by
 by_cases h4:k=4
 ·subst h4;go_enter func294,ntmps294;go_wp2;go_ret;exact⟨rfl,rfl⟩
 by_cases h5:k=5
 ·subst h5;go_enter func294,ntmps294;go_wp2;go_ret;exact⟨rfl,rfl⟩
 have HS:O (eG k=⟨#[32,45,32]⟩):=by show _=_;simp[eG,h4,h5]
 go_enter func294,ntmps294;go_wp2;go_ret;exact⟨by rw[HS];rfl,rfl⟩
def Gn{α:Type}{xs:List α}{k:Nat}(h:k<=xs.length):xs.take k=[]↔k=0:=by
 constructor
 ·intro e;have:=congrArg List.length e;rw[XC,XQ]at this;omega
 rintro rfl;simp
def oh(sep:bN)(xs:List ByteArray):dW sep (xs.take 0)=⟨#[]⟩:=by simp[DX]
def Cg(sep:bN)(xs:List ByteArray)(h:0<xs.length):dW sep (xs.take 1)=⟨#[]⟩++xs[0]:=by
 rw[show(1:Nat)=0+1 from rfl,WN h,p8,if_pos ct,tJ]
def zz(sep:bN)(xs:List ByteArray)(k:Nat)(h:k<xs.length)(hk:0<k):dW sep (xs.take<|k+1)=dW sep (xs.take k)++sep++xs[k]:=by
 rw[WN h,p8,if_neg];rw[Gn cq];omega
def zB(sep:bN)(xs:List ByteArray)(b k:Nat)(hx:∀x∈xs,x.size<=b):(dW sep<|xs.take k).size<=k*(b+sep.size):=by
 have h1:=mJ sep b _ (xs.take k) rfl (fun x h=>hx x<|List.mem_of_mem_take h);have h2:(xs.take k).length*(b+sep.size)<=k*(b+sep.size):=Nat.mul_le_mul_right _ (by simp;omega);omega
def tK{es:Q09}(hes:UJ es)(n:Nat)(hn:n<es.length)(i:Bool):(gQ es n i).size<=20000000000000 :=
 WR (Ka hes n hn i) (WR (DY (by have:=hes.1;omega)) Te)
set_option maxRecDepth 4000 in
def LB(b off cap:Nat)(rs:Q08)(hes:UJ<|ai rs)(hl:∀r∈rs,r.e.light)(n:Nat):∀(inside:Bool) (w:af),n<rs.length->b<w.heap.size->(∀(i:Nat) (h:i<rs.length),vP w b (off+i*5) rs[i])->(∀r∈rs,r.ok w) ->
  Calls prog 255 #[.slice (some<|aq b off) rs.length cap,.int .i64 (n:Int),.bool inside] w (bj w<|.string<|gQ (ai rs) n inside):=by
 have HES:=aB hes;have HL:=aB hl;have h15:rs.length<=15:=by have:=hes.1;rw[au]at this;exact this
 clear hes hl
 induction n using Nat.strongRecOn with
 | ind n ih =>
  intro inside w hn hb hr hok
  have IH:O (∀ m,m<n->∀ (inside:Bool) (w:World),m<rs.length->b<w.heap.size->(∀ (i:Nat) (h:i<rs.length),vP w b (off+i*5) rs[i])->(∀ r∈rs,r.ok w) ->
   Calls prog 255 #[.slice (some<|aq b off) rs.length cap,.int .i64 (m:Int),.bool inside] w (bj w<|.string<|gQ (ai rs) m inside)):=ih
  have HR:O (∀(i:Nat) (h:i<rs.length),vP w b (off+i*5) rs[i]):=hr;have HO:=aB hok;obtain⟨t0,t1,t2,t3,t4⟩:=hr n hn;have hnE:n<(ai rs).length:=by rw[au];exact hn
  have heE:(ai rs)[n]=rs[n].e:=by simp[ai]
  have X0:ax rs[n].e=true:=by rw[<-heE];exact HES.2.1 n hnE
  have hkl:=sN HES hnE;rw[heE]at hkl;obtain⟨hk5,hkind⟩:=kZ X0;have HT:O (gQ (ai rs) n inside=inT rs[n].e inside (jr (iP (ai rs) n) rs[n].e)):=by show _=_;unfold gQ;rw[sM hnE,heE]
  have HN:O (ax rs[n].e=true):=X0;have YU:O (∀k∈rs[n].e.kids,0<=k/\k.toNat<n):=hkl;have hn1:=bY n;have hn2:(n:Int)<(rs.length:Int):=cq;clear ih hr hok X0 hkl heE;by_cases k1:rs[n].e.kind=1
  ·skip
   obtain⟨W,hW⟩:=eQx<|w.alloc<|.cells #[.int .i64 1,.slice rs[n].adA rs[n].e.allow.length rs[n].capA,.string rs[n].e.over,.string rs[n].e.name,.slice rs[n].adK rs[n].e.kids.length rs[n].capK] 43;have hB0:ag w W:=by rw[hW];exact(WL _ _).alloc (WK _) _
   have hgl:w.heap.size<W.heap.size:=by rw[hW];simp
   have g0:W.cell? (a7 w)=some (.int .i64 1):=by rw[hW];simp
   have g1:W.cell? (a8 w 1)=some (.slice rs[n].adA rs[n].e.allow.length rs[n].capA):=by rw[hW];simp
   have g2:W.cell? (a8 w 2)=some (.string rs[n].e.over):=by rw[hW];simp
   have g3:W.cell? (a8 w 3)=some (.string rs[n].e.name):=by rw[hW];simp
   have g4:W.cell? (a8 w 4)=some (.slice rs[n].adK rs[n].e.kids.length rs[n].capK):=by rw[hW];simp
   have HB0:=aB hB0;clear hB0;have hal:dF rs[n].e.allow=true:=by
    have:=HN.out;unfold ax at this;rw[if_pos k1]at this;simp only[WM]at this;exact this.1.1.1
   have hts:=jv hal;have Yq:O (dF rs[n].e.allow=true):=hal;have HT1:O (gQ (ai rs) n inside=mM rs[n].e.allow):=by show _=_;rw[HT];simp[inT,jr,k1]
   have hl6:rs[n].e.allow.length<=6:=by unfold dF at hal;simp at hal;exact hal.1.2
   have HAS:O (∀x∈rs[n].e.allow.map bR,x.size<=25):=fun x hx=>by
    obtain⟨a,ha,rfl⟩:=WV.1 hx;obtain⟨i,hi,rfl⟩:=Xt ha;unfold dF at hal;simp only[WM]at hal;exact nR<|wm hal.2 i hi hi
   clear hal HT;go_enter func255,ntmps255;go_wp2_with fail;rw[<-hW];clear hW t0 t1 t2 t3 t4;go_loopw[8,9] (fun s i wr=>∃k:Nat,k<=rs[n].e.allow.length/\i=.int .i64 k/\s=.string (dW ⟨#[44]⟩<|(rs[n].e.allow.map bR).take k)/\ag W wr) (fun _ i _=>rs[n].e.allow.length-(intOf i).toNat);case atStart=>exact⟨0,WO _,rfl,by rw[oh],WL _ _⟩
   obtain⟨k,hk,rfl,rfl,hB⟩:=hrel;have hBw:ag w wr:=HB0.trans<|hB.mono HB0.size;have a1:=kept hB hgl g1;have hsj:(dW ⟨#[44]⟩<|(rs[n].e.allow.map bR).take k).size<=200:=by
    have h:=zB ⟨#[44]⟩ (rs[n].e.allow.map bR) 25 k HAS;have e1:(⟨#[44]⟩:ByteArray).size=1:=rfl;rw[e1]at h;omega
   by_cases hlt:k<rs[n].e.allow.length
   ·rcases (HO.out rs[n]<|WH hn).1.below hBw with hnil|⟨ba,ZQ,ZR,hba,hra⟩
    ·rw[hnil]at hlt;simp at hlt
    rw[ZR]at a1;obtain⟨q0,q1⟩:=hra k hlt;have hab:FJ rs[n].e.allow[k]=true:=by
     have:=Yq.out;unfold dF at this;simp only[WM]at this;exact wm this.2 k hlt hlt
    have z2:=nR hab;unfold FJ at hab;rw[WM]at hab;have z0:=aV hab.1;have z1:=uL hab.2;have hk1:=bY k;have hk2:(k:Int)<(rs[n].e.allow.length:Int):=cq;clear hra ZR hab;by_cases hk0:0<k
    ·have hk3:(0:Int)<(k:Int):=cq;have HJ:O (dW ⟨#[44]⟩ ((rs[n].e.allow.map bR).take<|k+1)=dW ⟨#[44]⟩ ((rs[n].e.allow.map bR).take k)++⟨#[44]⟩++bR rs[n].e.allow[k]):=by show _=_;rw[zz _ _ _ (by simpa using hlt) hk0,List.getElem_map]
     go_wp2_with fail;refine(zy rs[n].e.allow[k] _ z0 z1).mono ?_;rintro e w1 ⟨rfl,hb1⟩;have hB1:ag W w1:=hB.trans<|hb1.mono hB.size;clear hb1;go_wp2;go_roundw;case rel=>exact⟨k+1,cq,cx,by rw[HJ],hB1⟩
     simp[intOf]<;>omega
    skip
    have hk3:¬(0:Int)<(k:Int):=cq;have HJ:O (dW ⟨#[44]⟩ ((rs[n].e.allow.map bR).take<|k+1)=dW ⟨#[44]⟩ ((rs[n].e.allow.map bR).take k)++bR rs[n].e.allow[k]):=by
     show _=_;obtain rfl:k=0:=cq;rw[oh,Cg _ _<|by simpa using hlt,List.getElem_map]
    go_wp2_with fail;refine(zy rs[n].e.allow[k] _ z0 z1).mono ?_;rintro e w1 ⟨rfl,hb1⟩;have hB1:ag W w1:=hB.trans<|hb1.mono hB.size;clear hb1;go_wp2;go_roundw;case rel=>exact⟨k+1,cq,cx,by rw[HJ],hB1⟩
    simp[intOf]<;>omega
   obtain rfl:k=rs[n].e.allow.length:=cq;have HE:O ((rs[n].e.allow.map bR).take rs[n].e.allow.length=rs[n].e.allow.map bR):=by show _=_;rw[Xn ct]
   go_wp2;go_ret;exact⟨by rw[HT1];exact rZ<|by rw[HE];rfl,hBw⟩
  by_cases k2:rs[n].e.kind=2
  ·have HT1:O (gQ (ai rs) n inside=rs[n].e.name):=by show _=_;rw[HT];simp[inT,jr,k2]
   clear HT;go_enter func255,ntmps255;go_wp2;go_ret;exact⟨by rw[HT1];rfl,(WL _ _).alloc (WK _) _⟩
  by_cases k3:rs[n].e.kind=3
  ·have HT1:O (gQ (ai rs) n inside=rs[n].e.over++⟨#[45,62]⟩++rs[n].e.name):=by show _=_;rw[HT];simp[inT,jr,k3]
   have hsz:rs[n].e.over.size<=12/\rs[n].e.name.size<=12:=by
    have:=HN.out;unfold ax at this;rw[if_neg k1,if_neg k2,if_pos k3]at this;simp only[WM]at this;exact⟨aV this.1.1.1,aV this.1.1.2⟩
   obtain⟨z0,z1⟩:=hsz;clear HT;go_enter func255,ntmps255;go_wp2;go_ret;exact⟨by rw[HT1];rfl,(WL _ _).alloc (WK _) _⟩
  skip
  obtain⟨W,hW⟩:=eQx<|w.alloc<|.cells (ce rs[n]) 43;have hB0:ag w W:=by rw[hW];exact(WL _ _).alloc (WK _) _
  have hgl:w.heap.size<W.heap.size:=by rw[hW];simp
  have g0:W.cell? (a7 w)=some (.int .i64 rs[n].e.kind):=by rw[hW];simp
  have g1:W.cell? (a8 w 1)=some (.slice rs[n].adA rs[n].e.allow.length rs[n].capA):=by rw[hW];simp
  have g2:W.cell? (a8 w 2)=some (.string rs[n].e.over):=by rw[hW];simp
  have g3:W.cell? (a8 w 3)=some (.string rs[n].e.name):=by rw[hW];simp
  have g4:W.cell? (a8 w 4)=some (.slice rs[n].adK rs[n].e.kids.length rs[n].capK):=by rw[hW];simp
  have HB0:=aB hB0;clear hB0;have HT1:O (gQ (ai rs) n inside=if inside then ⟨#[40]⟩++dW (eG rs[n].e.kind) (rs[n].e.kids.map<|iP (ai rs) n)++⟨#[41]⟩ else dW (eG rs[n].e.kind) (rs[n].e.kids.map<|iP (ai rs) n)):=by
   show _=_;rw[HT];simp[inT,jr,k1,k2,k3]
  have HTS:O (∀x∈rs[n].e.kids.map (iP (ai rs) n),x.size<=20000000000000):=fun x hx=>by
   obtain⟨k,hk,rfl⟩:=WV.1 hx;have hlt:=YU k hk;unfold iP;rw[if_pos hlt.2,xV];exact tK HES _ (by rw[au];omega) true
  have kb1:(rs[n].e.kind==1)=false:=by simpa using k1
  have kb2:(rs[n].e.kind==2)=false:=by simpa using k2
  have kb3:(rs[n].e.kind==3)=false:=by simpa using k3
  clear HT hkind;go_enter func255,ntmps255;go_wp2_with fail;rw[<-hW];clear hW t0 t1 t2 t3 t4;go_loopw[8,10] (fun s i wr=>∃k:Nat,k<=rs[n].e.kids.length/\i=.int .i64 k/\s=.string (dW (eG rs[n].e.kind)<|(rs[n].e.kids.map<|iP (ai rs) n).take k)/\ag W wr) (fun _ i _=>rs[n].e.kids.length-(intOf i).toNat);case atStart=>exact⟨0,WO _,rfl,by rw[oh],WL _ _⟩
  obtain⟨k,hk,rfl,rfl,hB⟩:=hrel;have hBw:ag w wr:=HB0.trans<|hB.mono HB0.size;have hbw:cU b wr:=WJ hb hBw.size;have a0:=kept hB hgl g0;have a4:=kept hB hgl g4;have hsg:=kK rs[n].e.kind;have hsj:(dW (eG rs[n].e.kind)<|(rs[n].e.kids.map<|iP (ai rs) n).take k).size<=100000000000100:=by
   have h:=zB (eG rs[n].e.kind) (rs[n].e.kids.map<|iP (ai rs) n) 20000000000000 k HTS;rw[hsg]at h;omega
  by_cases hlt:k<rs[n].e.kids.length
  ·rcases (HO.out rs[n]<|WH hn).2.below hBw with hnil|⟨bk,offk,Ze,hbk,hrk⟩
   ·rw[hnil]at hlt;simp at hlt
   rw[Ze]at a4;have q0:=hrk k hlt;obtain⟨hz0,hz1⟩:=YU rs[n].e.kids[k]<|WH hlt;obtain⟨m,hm⟩:∃m:Nat,rs[n].e.kids[k]=(m:Int):=⟨rs[n].e.kids[k].toNat,cq⟩;rw[hm]at q0 hz1;have hmn:m<n:=by simpa using hz1
   have hmr:m<rs.length:=cq;have HFm:O (iP (ai rs) n rs[n].e.kids[k]=gQ (ai rs) m true):=by show _=_;rw[hm];unfold iP;rw[if_pos (by simpa using hmn),xV];simp
   have hsm:=tK HES m (by rw[au];exact hmr) true;have hk1:=bY k;have hk2:(k:Int)<(rs[n].e.kids.length:Int):=cq
   clear hrk Ze hz0 hz1 hm;by_cases hk0:0<k
   ·have hk3:(0:Int)<(k:Int):=cq;have HJ:O (dW (eG rs[n].e.kind) ((rs[n].e.kids.map<|iP (ai rs) n).take<|k+1)=dW (eG rs[n].e.kind) ((rs[n].e.kids.map<|iP (ai rs) n).take k)++eG rs[n].e.kind++gQ (ai rs) m true):=by show _=_;rw[zz _ _ _ (by simpa using hlt) hk0,List.getElem_map,HFm]
    go_wp2_with fail;refine(nD _ _).mono ?_;rintro e w' ⟨rfl,rfl⟩;go_wp2_with fail;refine(IH m hmn true _ hmr hbw (fun i hi=>(HR i hi).later hb hBw) (fun r hr=>(HO r hr).below hBw)).mono ?_;rintro e w1 ⟨rfl,hb1⟩;have hB1:ag W w1:=hB.trans<|hb1.mono hB.size;clear hb1;go_wp2;go_roundw;case rel=>exact⟨k+1,cq,cx,by rw[HJ],hB1⟩
    simp[intOf]<;>omega
   skip
   have hk3:¬(0:Int)<(k:Int):=cq;have HJ:O (dW (eG rs[n].e.kind) ((rs[n].e.kids.map<|iP (ai rs) n).take<|k+1)=dW (eG rs[n].e.kind) ((rs[n].e.kids.map<|iP (ai rs) n).take k)++gQ (ai rs) m true):=by
    have h0:=HFm.out;show _=_;obtain rfl:k=0:=cq;rw[oh,Cg _ _<|by simpa using hlt,List.getElem_map,h0]
   go_wp2_with fail;refine(IH m hmn true _ hmr hbw (fun i hi=>(HR i hi).later hb hBw) (fun r hr=>(HO r hr).below hBw)).mono ?_;rintro e w1 ⟨rfl,hb1⟩;have hB1:ag W w1:=hB.trans<|hb1.mono hB.size;clear hb1;go_wp2;go_roundw;case rel=>exact⟨k+1,cq,cx,by rw[HJ],hB1⟩
   simp[intOf]<;>omega
  obtain rfl:k=rs[n].e.kids.length:=cq;have HE:O ((rs[n].e.kids.map<|iP (ai rs) n).take rs[n].e.kids.length=rs[n].e.kids.map (iP (ai rs) n)):=by show _=_;rw[Xn ct]
  cases inside;case true=>
   go_wp2;go_ret;exact⟨by rw[HT1];exact rZ<|by rw[HE];rfl,hBw⟩
  go_wp2;go_ret;exact⟨by rw[HT1];exact rZ<|by rw[HE];rfl,hBw⟩
def dS(es:Q09):ByteArray:=if aK es then gQ es (es.length-1) false else ⟨#[]⟩
def yF{es:Q09}(h:aK es=false):dS es=⟨#[]⟩:=by simp[dS,h]
def vz{es:Q09}(h:aK es=true):dS es=gQ es (es.length-1) false:=by simp[dS,h]
def kN(ad:Q02)(cap:Nat)(rs:Q08)(w:af)(hlen:bh rs)(hl:∀r∈rs,r.e.light)(hf:∀r∈rs,r.e.fits)(hs:iw w ad rs):
  Calls prog 180 #[.slice ad rs.length cap] w (bj w<|.string<|dS<|ai rs):=by
 have HS:=aB hs;have HL:=aB hl;have HF:=aB hf;clear hs hl hf;go_enter func180,ntmps180;go_wp2_with fail;refine(ni ad cap rs _ hlen HL HF HS).mono ?_;rintro e w1 ⟨he,hb1⟩;have HB1:=aB hb1;clear hb1;cases hE:aK (ai rs);case false=>
  rw[hE]at he;subst he;have HX:O (dS (ai rs)=⟨#[]⟩):=yF hE;go_wp2;go_ret;exact⟨by rw[HX];rfl,HB1⟩
 rw[hE]at he;subst he;have h1:1<=rs.length:=by
  have:=hE;unfold aK at this;simp only[WM,WW,au]at this;exact this.1.1.1.1.1
 rcases HS.out.below HB1.out with rfl|⟨b,off,rfl,hb,hr,hok⟩
 ·simp at h1
 have HR:O (∀(i:Nat) (h:i<rs.length),vP w1 b (off+i*5) rs[i]):=hr;have HO:=aB hok;have Yn:O (UJ<|ai rs):=J9 hE;have HX:O (dS (ai rs)=gQ (ai rs) (rs.length-1) false):=by show _=_;rw[vz hE,au]
 have HCA:O (((rs.length:Int)-1)=((rs.length-1:Nat):Int)):=by show _=_;omega
 clear hr hok;go_wp2_with fail;rw[HCA];refine(LB b off cap rs Yn HL (rs.length-1) false _ cq hb HR HO).mono ?_;rintro e w2 ⟨rfl,hb2⟩;have HB2:=iD HB1 hb2;clear hb2;go_wp2;go_ret;exact⟨by rw[HX];rfl,HB2⟩
set_option maxRecDepth 100000
def xx(k:Int):eG k=aY k:=by
 unfold eG aY;rfl
def iB(s:ByteArray)(p:Nat)(j:Nat):Int :=
 if 4<j/\eZ s (aY 4) p=true then 4 else if 5<j/\eZ s (aY 5) p=true then 5 else if 6<j/\eZ s (aY 6) p=true then 6 else 0
def Rp(s:bN)(p:Nat):iB s p 4=0:=by simp[iB]
def Rq(s:bN)(p:Nat):iB s p 7=dM s p:=by simp[iB,dM]
def I7{s:ByteArray}{p j:Nat}(h4:4<=j)(h7:j<7)(h:iB s p j≠0):iB s p (j+1)=iB s p j:=by
 have hj:j=4\/j=5\/j=6:=cq;unfold iB at h⊢;rcases hj with rfl|rfl|rfl<;>cases h1:eZ s (aY 4) p<;>cases h2:eZ s (aY 5) p<;>cases h3:eZ s (aY 6) p<;>simp_all
def EU{s:ByteArray}{p j:Nat}(h4:4<=j)(h7:j<7)(h:iB s p j=0)(hl:eZ s (aY j) p=false):iB s p (j+1)=0:=by
 have hj:j=4\/j=5\/j=6:=cq;unfold iB at h⊢;rcases hj with rfl|rfl|rfl<;>cases h1:eZ s (aY 4) p<;>cases h2:eZ s (aY 5) p<;>cases h3:eZ s (aY 6) p<;>simp_all
def LC{s:ByteArray}{p j:Nat}(h4:4<=j)(h7:j<7)(h:iB s p j=0)(hl:eZ s (aY j) p=true):iB s p (j+1)=(j:Int):=by
 have hj:j=4\/j=5\/j=6:=cq;unfold iB at h⊢;rcases hj with rfl|rfl|rfl<;>cases h1:eZ s (aY 4) p<;>cases h2:eZ s (aY 5) p<;>cases h3:eZ s (aY 6) p<;>simp_all
def nE(k:Int):(aY k).size=3:=by
 unfold aY;split
 ·rfl
 split<;>rfl
def Ch{s:ByteArray}{p:Nat}(k:Int)(h:p+3<=s.size):eZ s (aY k) p=((s.extract p<|p+3).toList==(eG k).toList):=by
 unfold eZ;rw[nE,xx];simp[h]
def OC{s:ByteArray}{p:Nat}(k:Int)(h:¬p+3<=s.size):eZ s (aY k) p=false:=by
 unfold eZ;rw[nE];simp[h]
def rowP(s:ByteArray)(it:RS->Int×RS)(x:Int×RS):Int×RS :=
 if dM s x.2.p=0\/x.2.bad=true then x
 else (((iU s it (dM s x.2.p) (s.size+1) [x.1] x.2).2.out.length:Int),ug ⟨dM s x.2.p,[],⟨#[]⟩,⟨#[]⟩,(iU s it (dM s x.2.p) (s.size+1) [x.1] x.2).1⟩ (iU s it (dM s x.2.p) (s.size+1) [x.1] x.2).2)
def Ci{s:ByteArray}{it:RS->Int×RS}{x:Int×RS}(h:dM s x.2.p=0\/x.2.bad=true):rowP s it x=x:=if_pos h
def OD{s:ByteArray}{it:RS->Int×RS}{x:Int×RS}(h:¬(dM s x.2.p=0\/x.2.bad=true)){zs:List Int}{st:RS}(hk:iU s it (dM s x.2.p) (s.size+1) [x.1] x.2=(zs,st)):rowP s it x=((st.out.length:Int),ug ⟨dM s x.2.p,[],⟨#[]⟩,⟨#[]⟩,zs⟩ st):=by
 unfold rowP;rw[if_neg h,hk]
def Rs{s:ByteArray}{it:RS->Int×RS}{k:Int}{n:Nat}{zs:List Int}{st:RS}(h:nZ s (aY k) st.p st.bad=false):iU s it k n zs st=(zs,st):=by
 have e:mg s (aY k) st=false:=h;cases n with
 | zero=>rfl
 | succ n=>unfold iU;rw[e];rfl
def OE{s:ByteArray}{it:RS->Int×RS}{k:Int}{n:Nat}{zs:List Int}{st:RS}(h:nZ s (aY k) st.p st.bad=true):iU s it k (n+1) zs st=iU s it k n (zs++[(it<|lc (aY k) st).1]) (it<|lc (aY k) st).2:=by
 have e:mg s (aY k) st=true:=h
 conv=>lhs;unfold iU
 rw[e];rfl
def RdC.heap{w w':af}{R:Nat}{s:ByteArray}{p:Nat}{bad:Bool}{v:Value}(h:RdC w R s p bad v)(hs:cV w w')(hh:w'.heap[R]?=w.heap[R]?):RdC w' R s p bad v :=
 ⟨WJ h.lt hs,(WX (w:=w) (a:=⟨R,0,none⟩) hh).trans h.c0,(WX (w:=w) (a:=⟨R,1,none⟩) hh).trans h.c1,(WX (w:=w) (a:=⟨R,2,none⟩) hh).trans h.c2,(WX (w:=w) (a:=⟨R,3,none⟩) hh).trans h.c3,cz h.fr hh⟩
theorem RdF.heap{w w':af}{R:Nat}{s:ByteArray}{st:RS}{base:Nat}{v:Value}{qs:Q08}(h:RdF w R s st base v qs)(hs:w.heap.size<=w'.heap.size)(h1:w'.heap[R]?=w.heap[R]?)(h2:∀g,v.ownBlock=some g->w'.heap[g]?=w.heap[g]?)(h3:∀q∈qs,∀g,mr q g->w'.heap[g]?=w.heap[g]?):RdF w' R s st base v qs where
 rd:=h.rd.heap hs h1
 own:=dJ h.own h2
 out:=h.out
 zA:=h.zA
 zK:=h.zK
 ok q hq:=qw (h.ok q hq) hs (h.zA q hq) (h.zK q hq)<|h3 q hq
 lie q hq g hg:=by
  obtain⟨a1,a2,a3,a4⟩:=h.lie q hq g hg;exact⟨a1,WJ a2 hs,cz a3<|h3 q hq g hg,a4⟩
 one:=h.one
 two:=h.two
 cA:=h.cA
 cK q hq:=(h.cK q hq).heap (h.zK q hq)<|h3 q hq
structure KLr(w wr:World)(R:Nat)(s:ByteArray)(st:RS)(base:Nat)(v v':Value)(qs ns:Q08)(zs:List Int)(vK:Value):Prop where
 rd:RdF wr R s st base v' (qs++ns)
 went:Went R v w v' wr
 new:∀q∈ns,∀g,mr q g->w.heap.size<=g
 own:wr.ownsRow w.heap.size 2 1 vK zs.length (ints zs)
 far:∀g,vK.ownBlock=some g->v'.ownBlock≠some g/\∀q∈qs++ns,¬mr q g
 ne:zs≠[]
def KLr.is{w wr w':af}{R:Nat}{s:ByteArray}{st st':RS}{base:Nat}{v v':Value}{qs ns:Q08}{zs:List Int}{vK:Value}(h:KLr w wr R s st base v v' qs ns zs vK)(hR:cU R w)(hg:wr.grownBy w'<|some R)(hF:RdF w' R s st' base v'<|qs++ns):KLr w w' R s st' base v v' qs ns zs vK :=
 ⟨hF,h.went.trans<|(Onl.of_grown hg).any v',h.new,h.own.kept hg<|.inr (fun e=>by have:=(h.own.lt R e).1;omega),h.far,h.ne⟩
def KLr.more{w wr w':af}{R:Nat}{s:ByteArray}{st st':RS}{base:Nat}{v v' v2:Value}{qs ns ms:Q08}{zs:List Int}{vK:Value}(h:KLr w wr R s st base v v' qs ns zs vK)(hR:cU R w)(hF:RdF w' R s st' base v2<|(qs++ns)++ms)(hW:Went R v' wr v2 w')(hm:∀q∈ms,∀g,mr q g->wr.heap.size<=g):KLr w w' R s st' base v v2 qs (ns++ms) zs vK:=by
 have hl:∀g,vK.ownBlock=some g->w.heap.size<=g/\g<wr.heap.size:=fun g hg=>h.own.lt g hg;refine⟨by rw[<-Xg];exact hF,h.went.trans hW,fun q hq g hg=>?_,dJ h.own fun g hg=>hW.onl.block g (hl g hg).2 (by have:=(hl g hg).1;omega) (h.far g hg).1,fun g hg=>⟨hW.apart (hl g hg).2 (h.far g hg).1,fun q hq hi=>?_⟩,h.ne⟩
 ·rcases WU.1 hq with h1|h1
  ·exact h.new q h1 g hg
  exact WR h.went.onl.size<|hm q h1 g hg
 rw[<-Xg]at hq;rcases WU.1 hq with h1|h1
 ·exact(h.far g hg).2 q h1 hi
 have:=hm q h1 g hi;have:=(hl g hg).2;omega
def Rt(zs:List Int)(z:Int):ints (zs++[z])=ints zs++[.int .i64 z]:=by simp[ints]
def KLr.app{w wr w':af}{R:Nat}{s:ByteArray}{st:RS}{base:Nat}{v v':Value}{qs ns:Q08}{zs:List Int}{vK vN:Value}(h:KLr w wr R s st base v v' qs ns zs vK)(hR:cU R w)(z:Int)(o:Obj)(hown:cD w w' 2 1 vN (zs.length+1)<|ints zs++[.int .i64 z])(hg:(wr.alloc o).grownBy w' vK.ownBlock)(hat:vN.ownBlock=vK.ownBlock\/vN.ownBlock=some (wr.alloc o).heap.size):KLr w w' R s st base v v' qs ns (zs++[z]) vN:=by
 have hg0:=World.grownBy_alloc wr o none;have keep:∀k,k<wr.heap.size->vK.ownBlock≠some k->w'.heap[k]?=wr.heap[k]?:=fun k hk hne=>(hg.block k (WJ hk hg0.size)<|Ne.symm hne).trans<|hg0.block k hk ct;have hl:∀g,vK.ownBlock=some g->w.heap.size<=g/\g<wr.heap.size:=fun g hg=>h.own.lt g hg;have hs:cV wr w':=WR hg0.size hg.size;refine⟨h.rd.heap hs (keep R h.rd.rd.lt (fun e=>by have:=(hl R e).1;omega)) (fun g hg=>keep g (h.rd.own.lt g hg).2 fun e=>(h.far g e).1 hg) (fun q hq g hi=>keep g (h.rd.lie q hq g hi).2.1 fun e=>(h.far g e).2 q hq hi),?_,h.new,by rw[Rt,WP,Xi];exact hown,fun g hgn=>?_,ct⟩
 ·refine⟨⟨hg.os.trans<|hg0.os.trans h.went.onl.os,hg.tape.trans<|hg0.tape.trans h.went.onl.tape,hg.output.trans<|hg0.output.trans h.went.onl.output,WR h.went.onl.size hs,fun k hk h1 h2=>(keep k (WJ hk h.went.onl.size) (fun e=>by have:=(hl k e).1;omega)).trans (h.went.onl.block k hk h1 h2)⟩,h.went.own⟩
 rcases hat with e|e
 ·exact h.far g (by rw[<-e];exact hgn)
 rw[e]at hgn;injection hgn with hgn;have hsz:wr.heap.size<=g:=by rw[<-hgn];exact hg0.size
 exact⟨fun e2=>by have:=(h.rd.own.lt g e2).2;omega,fun q hq hi=>by have:=(h.rd.lie q hq g hi).2.1;omega⟩
def KLr.node{w wr:af}{R:Nat}{s:ByteArray}{st:RS}{base:Nat}{v v':Value}{qs ns:Q08}{zs:List Int}{vK:Value}(h:KLr w wr R s st base v v' qs ns zs vK)(hb:cd base w)(k:Int):∃ad cap,vK=.slice ad zs.length cap/\NewQ base wr ⟨⟨k,[],⟨#[]⟩,⟨#[]⟩,zs⟩,none,0,ad,cap⟩/\∀g,mr ⟨⟨k,[],⟨#[]⟩,⟨#[]⟩,zs⟩,none,0,ad,cap⟩ g->w.heap.size<=g/\v'.ownBlock≠some g/\∀q∈qs++ns,¬mr q g:=by
 obtain⟨ad,cap,e,h2,h3,h4⟩:=Ij h.own rfl;have hA:∀g,¬bA ⟨⟨k,[],⟨#[]⟩,⟨#[]⟩,zs⟩,none,0,ad,cap⟩ g:=fun g hg=>hg.1 rfl;have hK:∀g,mr ⟨⟨k,[],⟨#[]⟩,⟨#[]⟩,zs⟩,none,0,ad,cap⟩ g->(w.heap.size<=g/\g<wr.heap.size/\jV wr g)/\vK.ownBlock=some g:=by
  rintro g (hg|hg)
  ·exact absurd hg<|hA g
  exact⟨h4 g hg.1 hg.2,by rw[e,show ad=some (am g) from hg.2];rfl⟩
 refine⟨ad,cap,e,⟨fun h=>absurd rfl h,h3,⟨.inl rfl,h2⟩,fun g hg=>⟨WR hb (hK g hg).1.1,(hK g hg).1.2⟩,fun g hg=>absurd hg<|hA g,WO _⟩,fun g hg=>⟨(hK g hg).1.1,h.far g (hK g hg).2⟩⟩
def KLr.kid{w wr:af}{R:Nat}{s:ByteArray}{st:RS}{base:Nat}{v v':Value}{qs ns:Q08}{zs:List Int}{ad:Q02}{cap:Nat}(h:KLr w wr R s st base v v' qs ns zs<|.slice ad zs.length cap)(hb:cd base w)(k:Int):Dr wr base ⟨⟨k,[],⟨#[]⟩,⟨#[]⟩,zs⟩,none,0,ad,cap⟩:=Dr.mono (base:=w.heap.size) (.inr ⟨h.ne,h.own⟩) hb
def Rv(w:af)(z:Int)(g:Nat)(hg:w.heap.size=g):∀j u,[Value.int .i64 z][j]?=some u->(w.alloc<|.cells #[.int .i64 z] 2).cell? ((⟨g,0,none⟩:Addr).add j)=some u:=by
 intro j u hu;subst hg;rw[show(⟨w.heap.size,0,none⟩:Addr).add j=⟨w.heap.size,0+j,none⟩ by simp[Addr.add];omega,Xl];have:=World.cell?_alloc_mark w #[.int .i64 z] 2 (0,0) j;rw[this];simpa using hu
def TL(R:Nat)(s:bN)(st:RS)(base:Nat)(v:Value)(qs:Q08)(w:af)(h:RdF w R s st base v qs)(hR:R<base)(hB:cd base w)(hs:s.size<=1000)(x:Int×RS)(hx:x.2.p<=s.size)
  (hfirst:Calls prog 324 #[.pointer (some<|am R)] w<|wQ R s base v qs w x)
  (it:RS->Int×RS) (hlen:x.2.out.length+(s.size-x.2.p)<=5001)
  (hit:∀(st':RS) (v':Value) (Zy:Q08) (w':World),RdF w' R s st' base v' Zy->base<=w'.heap.size->x.2.p+3<=st'.p->st'.p<=s.size->st'.out.length+(s.size-st'.p)<=5000->Calls prog 324 #[.pointer (some<|am R)] w' (wQ R s base v' Zy w'<|it st'))
  (hmono:∀st':RS,x.2.p+3<=st'.p->st'.p<=s.size->st'.p<=(it st').2.p/\(it st').2.p<=s.size/\(it st').2.out.length+st'.p<=st'.out.length+1+(it st').2.p) :
  Calls prog 297 #[.pointer (some<|am R)] w (wQ R s base v qs w<|rowP s it x):=by
 obtain⟨iI,hiI,zI0,zI1,zI2⟩:=info_parts (P:=prog) (e:=2) (z:=.int .i64 0) (size:=1) (bytes:=8) cw;have Zw:O (prog.info? 2=some iI/\iI.zero=some (.int .i64 0)/\iI.size=1/\iI.bytes=8):=⟨hiI,zI0,zI1,zI2⟩;have HLEN:=ak hlen;have HITM:=ak hit;have HMONO:=ak hmono;clear hiI zI0 zI1 zI2 hlen hit hmono;have H:=ak h;have HX:=ak hx;have HIT:=ak hfirst;clear h hx hfirst;go_enter func297,ntmps297;go_wp2_with fail;refine HIT.mono ?_;rintro e w1 ⟨v1,ns,rfl,hF1,hW1,hns⟩;have Zf:=ak hF1;have HW1:=ak hW1;have HNS:=ak hns;clear hF1 hW1 hns HIT;go_wp2_with fail;go_loopw[4,5] (fun kd k wr=>∃(j nn:Nat),4<=j/\j<=7/\k=.int .i64 j/\kd=.int .i64 (iB s x.2.p j)/\O (wr=w1.drewN nn)) (fun _ k _=>7-(intOf k).toNat);case atStart=>exact⟨4,0,cq,cq,rfl,by rw[Rp],rfl⟩
 obtain⟨j,nn,hj4,hj7,rfl,rfl,HWR⟩:=hrel;have hrd:RdC wr R s x.2.p x.2.bad v1:=by rw[HWR];exact Zf.rd.drewN nn
 have HRD:=ak hrd;have c0:=HRD.c0;have c1:=HRD.c1;have c2:=HRD.c2;clear hrd;by_cases hlt:j<7
 ·have hle:decide ((j:Int)<=6)=true:=by simp;omega
  have hle2:(j:Int)<=6:=cq;have hwr:IntKind.i64.wrap ((x.2.p:Int)+3)=(x.2.p:Int)+3:=by have:=HX.out;simp[IntKind.wrap,IntKind.bits,IntKind.signed];omega
  by_cases hK:iB s x.2.p j=0
  ·have hK0:(iB s x.2.p j==0)=true:=by simp[hK]
   by_cases hfar:x.2.p+3<=s.size
   ·have hd:decide ((x.2.p:Int)+3<=(s.size:Int))=true:=by simp;omega
    have hd2:(x.2.p:Int)+3<=(s.size:Int):=cq;have hnn:(0:Int)<=(x.2.p:Int):=cq;have hp1:(x.2.p:Int)<=(x.2.p:Int)+3:=cq;rw[hK];cases he:(s.extract x.2.p<|x.2.p+3).toList==(eG j).toList
    case' true =>
     have EQ:=ak (LC hj4 hlt hK<|by rw[Ch _ hfar];exact he)
    case' false =>
     have EQ:=ak (EU hj4 hlt hK<|by rw[Ch _ hfar];exact he)
    all_goals
     clear hK hK0;go_wp2_with fail;go_quiet ((go_at_call 294;exact Calls.quiet_of_same<|nD _ _));go_wp2;go_roundw;case rel=>exact⟨j+1,nn+nq,cq,cq,cx,by rw[EQ],by show _=_;rw[HWR,World.drewN_drewN]⟩
     simp[intOf]<;>omega
   have hd:decide ((x.2.p:Int)+3<=(s.size:Int))=false:=by simp;omega
   have EQ:=ak<|EU hj4 hlt hK<|OC _ hfar;rw[hK];clear hK hK0;go_wp2_with fail;go_quiet ((go_at_call 294;exact Calls.quiet_of_same<|nD _ _));go_wp2;go_roundw;case rel=>exact⟨j+1,nn+nq,cq,cq,cx,by rw[EQ],by show _=_;rw[HWR,World.drewN_drewN]⟩
   simp[intOf]<;>omega
  have hK0:(iB s x.2.p j==0)=false:=by simp[hK]
  have EQ:=ak<|I7 hj4 hlt hK;clear hK;go_wp2_with fail;go_quiet ((go_at_call 294;exact Calls.quiet_of_same<|nD _ _));go_wp2;go_roundw;case rel=>exact⟨j+1,nn+nq,cq,cq,cx,by rw[EQ],by show _=_;rw[HWR,World.drewN_drewN]⟩
  simp[intOf]<;>omega
 obtain rfl:j=7:=cq;rw[Rq,show((7:Nat):Int)=(7:Int) from rfl];have hle:decide ((7:Int)<=6)=false:=cv;obtain⟨kd,hkd⟩:=eQx<|dM s x.2.p;have HKD:=ak hkd;rw[<-hkd];clear hkd;by_cases hk:kd=0
 ·have hk0:(kd==0)=true:=by simp[hk]
  have EQ:=ak<|Ci (it:=it)<|.inl<|HKD.symm.trans hk;subst hk;have HF:=ak (Zf.heap (w':=wr) (by rw[HWR];exact WK _) (by rw[HWR];rfl) (fun g _=>by rw[HWR];rfl) (fun q _ g _=>by rw[HWR];rfl));have HW:O (Went R v w v1 wr):=by rw[HWR];exact⟨⟨HW1.onl.os,HW1.onl.tape,HW1.onl.output,HW1.onl.size,HW1.onl.block⟩,HW1.own⟩
  go_wp2;exact bodyPost_ret (v:=.int .i64 x.1) (by simp[results,Tryz.results297,go_sem]) rfl (by rw[EQ];exact⟨v1,ns,rfl,HF,HW,HNS⟩)
 have hk0:(kd==0)=false:=by simp[hk]
 cases hb:x.2.bad;case true=>
  have EQ:=ak<|Ci (it:=it) (x:=x) (s:=s)<|.inr hb;rw[hb]at c2;have HF:=ak (Zf.heap (w':=wr) (by rw[HWR];exact WK _) (by rw[HWR];rfl) (fun g _=>by rw[HWR];rfl) (fun q _ g _=>by rw[HWR];rfl));have HW:O (Went R v w v1 wr):=by rw[HWR];exact⟨⟨HW1.onl.os,HW1.onl.tape,HW1.onl.output,HW1.onl.size,HW1.onl.block⟩,HW1.own⟩
  go_wp2;exact bodyPost_ret (v:=.int .i64 x.1) (by simp[results,Tryz.results297,go_sem]) rfl (by rw[EQ];exact⟨v1,ns,rfl,HF,HW,HNS⟩)
 rw[hb]at c2;have ZE:O (¬(dM s x.2.p=0\/x.2.bad=true)):=by
  rintro(e|e)
  ·exact hk<|HKD.trans e
  rw[hb]at e;cases e
 have HF:=ak (Zf.heap (w':=wr) (by rw[HWR];exact WK _) (by rw[HWR];rfl) (fun g _=>by rw[HWR];rfl) (fun q _ g _=>by rw[HWR];rfl));have HW:O (Went R v w v1 wr):=by rw[HWR];exact⟨⟨HW1.onl.os,HW1.onl.tape,HW1.onl.output,HW1.onl.size,HW1.onl.block⟩,HW1.own⟩
 have HWB:O (R<w.heap.size):=H.rd.lt;have HKL0:O (KLr w (wr.alloc<|.cells #[.int .i64 x.1] 2) R s x.2 base v v1 qs ns [x.1]<|.slice (some<|a7 wr) 1 1):=by
  have hg0:=World.grownBy_alloc wr (.cells #[.int .i64 x.1] 2) none;refine⟨HF.heap hg0.size (hg0.block R HF.rd.lt ct) (fun g hg=>hg0.block g (HF.own.lt g hg).2 ct) (fun q hq g hi=>hg0.block g (HF.lie q hq g hi).2.1 ct),HW.trans<|(Onl.of_below<|(WL _ _).alloc (WK _) _).any v1,HNS,World.ownsRow_lit wr #[.int .i64 x.1] 1 HW.onl.size cy ct,fun g hg=>?_,ct⟩;simp[Value.ownBlock]at hg;subst hg;exact⟨fun e=>by have:=(HF.own.lt _ e).2;omega,fun q hq hi=>by have:=(HF.lie q hq _ hi).2.1;omega⟩
 clear HF HW HRD HWR Zf HW1 HNS;go_wp2_with fail;clear c0 c1 c2;go_loopw[6] (fun vK wq=>∃(n:Nat) (zs:List Int) (st':RS) (v':Value) (ms:Q08),O (st'.p<=s.size/\x.2.p<=st'.p/\s.size-st'.p<n/\zs.length<=st'.p+1/\st'.out.length+(s.size-st'.p)<=5001)/\O (iU s it kd n zs st'=iU s it kd (s.size+1) [x.1] x.2)/\O (KLr w wq R s st' base v v' qs ms zs vK)) (fun _ wq=>s.size-wat R wq);case atStart=>exact⟨s.size+1,[x.1],x.2,v1,ns,⟨HX,WK _,cq,ct,HLEN⟩,rfl,HKL0⟩
 obtain⟨n,zs,st',v',ms,HB,HQ,YU⟩:=hrel;clear HKL0;go_wp2_with fail;refine(nD _ _).mono ?_;rintro e w' ⟨rfl,rfl⟩;go_wp2_with fail;refine(nk R s (eG kd) st'.p st'.bad v' _ YU.rd.rd hs HB.1<|by simp[kK]).mono ?_;rintro e w5 ⟨rfl,hr5,hg5⟩;cases hc:nZ s (eG kd) st'.p st'.bad;case false=>
  have HK5:=ak<|YU.is HWB hg5<|YU.rd.is_no hR hc hr5 hg5;rw[xx]at hc;have EQ:=ak (OD (zs:=zs) (st:=st') ZE<|by rw[<-HKD];exact HQ.symm.trans<|Rs hc);obtain⟨ad,cap,rfl,hnq,hin⟩:=HK5.node hB kd;have HNQ:=ak hnq;have HIN:=ak hin;have hql:(qs++ms).length<=100000:=by have h1:=HK5.rd.out;have h2:=congrArg List.length h1;simp only[ai,Xv]at h2;have:=HB.2.2.2.2;omega
  clear hr5 hg5 hc hnq hin YU;go_wp2_with fail;refine(N7 R s st' base v' (qs++ms) ⟨⟨kd,[],⟨#[]⟩,⟨#[]⟩,zs⟩,none,0,ad,cap⟩ w5 HK5.rd hR (WR hB HK5.went.onl.size) hql HNQ (HK5.kid hB kd) fun g hg=>(HIN g hg).2).mono ?_;rintro e w6 ⟨v6,rfl,hF6,Zo⟩;have HF6:=ak hF6;have HW6:=ak<|HK5.went.trans Zo;clear hF6 Zo;have HNEW:O (∀q∈ms++[(⟨⟨kd,[],⟨#[]⟩,⟨#[]⟩,zs⟩,none,0,ad,cap⟩:ER)],∀g,mr q g->w.heap.size<=g):=by
   intro q hq g hg;rcases WU.1 hq with h1|h1
   ·exact HK5.new q h1 g hg
   rw[WZ]at h1;subst h1;exact(HIN g hg).1
  replace HF6:O (RdF w6 R s (ug ⟨kd,[],⟨#[]⟩,⟨#[]⟩,zs⟩ st') base v6<|qs++(ms++[(⟨⟨kd,[],⟨#[]⟩,⟨#[]⟩,zs⟩,none,0,ad,cap⟩:ER)])):=by rw[<-Xg];exact HF6
  go_wp2;exact bodyPost_ret (v:=.int .i64 (st'.out.length:Int)) (by simp[results,Tryz.results297,go_sem]) rfl (by rw[EQ,<-HKD];exact⟨v6,_,rfl,HF6,HW6,HNEW⟩)
 have hk5:=YU.is HWB hg5<|YU.rd.is_yes hR hc hr5 hg5;rw[xx]at hk5;have HK5:=ak hk5;have ZP:O (st'.p+3<=s.size):=by have:=BM hc;rw[kK]at this;exact this
 have HPL:=ak YU.rd.rd.place;obtain⟨m,hm⟩:∃m,n=m+1:=⟨n-1,by have:=HB.2.2.1;omega⟩;subst hm;rw[xx]at hc;have EQ:=ak<|(OE (it:=it) (n:=m) (zs:=zs) hc).symm.trans HQ;have eP:(lc (aY kd) st').p=st'.p+3:=by unfold lc;rw[nE]
 have eO:(lc (aY kd) st').out=st'.out:=rfl;have a1:x.2.p+3<=(lc (aY kd) st').p:=by rw[eP];have:=HB.2.1;omega
 have a2:(lc (aY kd) st').p<=s.size:=by rw[eP];exact ZP
 have a3:(lc (aY kd) st').out.length+(s.size-(lc (aY kd) st').p)<=5000:=by rw[eP,eO];have:=HB.2.2.2.2;have:=ZP.out;omega
 have hmo:=HMONO (lc (aY kd) st') a1 a2;rw[eP,eO]at hmo;have hcall:=HITM (lc (aY kd) st') v' (qs++ms) w5 HK5.rd (WR hB HK5.went.onl.size) a1 a2 a3;obtain⟨y,hy⟩:=eQx<|it<|lc (aY kd) st';rw[<-hy]at hmo hcall EQ;have HMO:=ak hmo;have Zc:=ak hcall;clear hr5 hg5 hk5 hc YU eP eO a1 a2 a3 hmo hcall hy;go_wp2_with fail;refine Zc.mono ?_;rintro e w6 ⟨v6,ns6,rfl,hF6,Zo,hn6⟩;have HK6:=ak<|HK5.more HWB hF6 Zo hn6;clear hF6 Zo hn6 Zc HK5;obtain⟨W7,hW7⟩:=eQx<|w6.alloc<|.cells #[.int .i64 y.1] 2;have HO7:O (cD w W7 2 1 u6 zs.length<|ints zs):=by rw[hW7];exact HK6.own.alloc _
 have HN7:O (∀j u,[Value.int .i64 y.1][j]?=some u->W7.cell? ((⟨w6.heap.size,0,none⟩:Addr).add j)=some u):=by rw[hW7];exact Rv w6 _ _ rfl
 have HS7:O (w.heap.size<=W7.heap.size):=by show _<=_;rw[hW7];exact WR HK6.went.onl.size (World.grownBy_alloc w6 _ none).size
 have HW7:=ak hW7;have hzl:zs.length<=1001:=by have:=HB.2.2.2.1;have:=HB.1;omega
 go_wp2_with(at_builtin;rw[<-hW7];clear hW7;refine wpList_append_own_at _ rfl _ _ 41 rfl w.heap.size 2 iI (.int .i64 0) 1 8 underlying41 Zw.1 Zw.2.1 Zw.2.2.1 Zw.2.2.2 rfl cv u6 zs.length (ints zs) rfl HO7 ⟨w6.heap.size,0,none⟩ 1 1 [Value.int .i64 y.1] rfl rfl HN7 (by intro u hu;simp at hu;subst hu;rfl) cy cq HS7 ?_);intro vN w8 Zr hgr8 _ hat8;have HK8:O (KLr w w8 R s y.2 base v v6 qs (ms++ns6) (zs++[y.1]) vN):=by
  rw[HW7]at hgr8 hat8;exact HK6.app HWB y.1 _ Zr hgr8 hat8
 have HM:O (s.size-wat R w8<s.size-wat R w'):=by
  show _<_;rw[HK8.rd.rd.place,HPL];have:=HMO.1;have:=HMO.2.1;have:=ZP.out;omega
 clear Zr hgr8 hat8 HO7 HN7 HS7 HW7 HK6;go_wp2;go_roundw;case rel=>exact⟨m,zs++[y.1],y.2,v6,ms++ns6,⟨HMO.2.1,by have:=HMO.1;have:=HB.2.1;omega,by have:=HB.2.2.1;have:=HMO.1;have:=HMO.2.1;omega,by have:=HB.2.2.2.1;have:=HMO.1;rw[WP,Xi];omega,by have:=HB.2.2.2.2;have:=HMO.out;omega⟩,EQ,HK8⟩
 exact HM
def EW{s:ByteArray}{st:RS}(h:st.p<=s.size):st.p<=(bI s st).p/\(bI s st).p<=s.size:=⟨Nat.le_add_right _ _,lh s st.p h⟩
def Gp{s:ByteArray}{st:RS}(h:st.p<=s.size):st.p<=(aX s st).p/\(aX s st).p<=s.size/\(aX s st).out=st.out:=by
 unfold aX;cases e:mg s wu st;case false=>exact⟨WK _,h,rfl⟩
 have h1:st.p+1<=s.size:=lJ e;have:=lh s (st.p+1) h1;exact⟨by show st.p<=st.p+1+az s (st.p+1);omega,this,rfl⟩
def EX{s:ByteArray}:∀(n:Nat) (xs:Q0a) (st:RS),st.p<=s.size->st.p<=(dL s n xs st).2.p/\(dL s n xs st).2.p<=s.size/\(dL s n xs st).2.out=st.out:=by
 intro n
 induction n with
 | zero=>intro xs st h;exact⟨WK _,h,rfl⟩
 | succ n ih =>
  intro xs st h;have h1:=EW h;have h2:=Gp h1.2;have h3:(aX s<|bI s st).out=st.out:=h2.2.2;unfold dL;by_cases hb:st.bad=true
  ·rw[if_pos hb];exact⟨WK _,h,rfl⟩
  rw[if_neg hb];by_cases hc:mg s fT (aX s<|bI s st)=true
  ·rw[if_pos hc];have h4:(aX s<|bI s st).p+1<=s.size:=lJ hc;exact⟨by show st.p<=(aX s<|bI s st).p+1;omega,h4,h3⟩
  rw[if_neg hc];by_cases hm:mg s mP (aX s<|bI s st)=true
  ·rw[if_pos hm];have h4:(aX s<|bI s st).p+1<=s.size:=lJ hm;obtain⟨a,b,c⟩:=ih (xs++[⟨aC s st.p,zI s<|bI s st⟩]) (lc mP<|aX s<|bI s st) h4;have a':(aX s<|bI s st).p+1<=_:=a;exact⟨cq,b,c.trans h3⟩
  rw[if_neg hm];obtain⟨a,b,c⟩:=ih (xs++[⟨aC s st.p,zI s<|bI s st⟩]) (ww<|aX s<|bI s st) h2.2.1;have a':(aX s<|bI s st).p<=_:=a;exact⟨cq,b,c.trans h3⟩
def Cj(s:ByteArray)(k:Nat)(st st':RS):Prop:=st.p<=st'.p/\st'.p<=s.size/\st'.out.length+st.p<=st.out.length+k+st'.p
def OG{s:ByteArray}{st:RS}(h:mg s gG st=true):Cj s 1 st (rV s st).2:=by
 have h1:(lc gG st).p<=s.size:=lJ h;obtain⟨a,b,c⟩:=EX (s:=s) (s.size+1) [] (lc gG st) h1;have a':st.p+5<=_:=a;have c':_=st.out:=c;unfold rV Cj;cases e:dL s (s.size+1) [] (lc gG st) with
 | mk o st' =>
  rw[e]at a' b c';replace a':st.p+5<=st'.p:=a';replace b:st'.p<=s.size:=b;replace c':st'.out=st.out:=c';cases o with
  | none=>exact⟨by show st.p<=st'.p;omega,b,by show st'.out.length+_<=_+_+st'.p;rw[c'];omega⟩
  | some xs=>exact⟨by show st.p<=st'.p;omega,b,by show(st'.out++_).length+_<=_+_+st'.p;rw[c',WP,Xi];omega⟩
def Rx{s:ByteArray}{st:RS}(h:st.p<=s.size):Cj s 1 st (ug (fM s st)<|judged (fM s st)<|aL s st):=by
 have h1:=EW h;have key:st.p<=(aL s st).p/\(aL s st).p<=s.size/\(aL s st).out=st.out:=by
  unfold aL;cases e:mg s p9 (bI s st);case false=>exact⟨h1.1,h1.2,rfl⟩
  have h2:st.p+az s st.p+2<=s.size:=lJ e;have:=lh s _ h2;exact⟨by show st.p<=st.p+az s st.p+2+az s (st.p+az s st.p+2);omega,this,rfl⟩
 have key2:(judged (fM s st)<|aL s st).p=(aL s st).p/\(judged (fM s st)<|aL s st).out=st.out:=by
  unfold judged;split
  ·exact⟨rfl,key.2.2⟩
  exact⟨rfl,key.2.2⟩
 refine⟨?_,?_,?_⟩
 ·show st.p<=(judged (fM s st)<|aL s st).p;rw[key2.1];exact key.1
 ·show(judged (fM s st)<|aL s st).p<=_;rw[key2.1];exact key.2.1
 show((judged (fM s st)<|aL s st).out++_).length+_<=_+1+(judged (fM s st)<|aL s st).p;rw[key2.1,key2.2,WP,Xi];have:=key.1;omega
def OH{s:ByteArray}{st:RS}{x:Int×RS}(h:Cj s 1 (lc j5 st) x.2):Cj s 1 st (uZ s x).2:=by
 obtain⟨a,b,c⟩:=h;replace a:st.p+1<=x.2.p:=a;replace c:x.2.out.length+(st.p+1)<=st.out.length+1+x.2.p:=c;unfold uZ;cases e:mg s fT x.2;case false=>exact⟨by show st.p<=x.2.p;omega,b,by show x.2.out.length+st.p<=_+1+x.2.p;omega⟩
 have h2:x.2.p+1<=s.size:=lJ e;exact⟨by show st.p<=x.2.p+1;omega,h2,by show x.2.out.length+st.p<=_+1+(x.2.p+1);omega⟩
def OI{s:ByteArray}{it:RS->Int×RS}{k:Int}(hit:∀st,st.p<=s.size->Cj s 1 st (it st).2):∀(n:Nat) (zs:List Int) (st:RS),st.p<=s.size->Cj s 0 st (iU s it k n zs st).2/\(0<n->mg s (aY k) st=true->(iU s it k n zs st).2.out.length+st.p+2<=st.out.length+(iU s it k n zs st).2.p):=by
 intro n
 induction n with
 | zero=>intro zs st h;exact⟨⟨WK _,h,WK _⟩,fun h=>absurd h cq⟩
 | succ n ih =>
  intro zs st h;unfold iU;cases e:mg s (aY k) st;case false=>exact⟨⟨WK _,h,WK _⟩,fun _ h=>by cases h⟩
  have h1:st.p+3<=s.size:=by have:=lJ e;rw[nE]at this;exact this
  have eP:(lc (aY k) st).p=st.p+3:=by unfold lc;rw[nE]
  have eO:(lc (aY k) st).out=st.out:=rfl;obtain⟨a,b,c⟩:=hit (lc (aY k) st) (by rw[eP];exact h1);rw[eP]at a c;rw[eO]at c;obtain⟨⟨a2,b2,c2⟩,-⟩:=ih (zs++[(it<|lc (aY k) st).1]) (it<|lc (aY k) st).2 b;simp only[if_true];exact⟨⟨cq,b2,cq⟩,fun _ _=>cq⟩
def LD{s:ByteArray}{p:Nat}(h:dM s p≠0):eZ s (aY<|dM s p) p=true:=by
 unfold dM at h⊢;cases h1:eZ s (aY 4) p;case true=>simpa using h1
 cases h2:eZ s (aY 5) p;case true=>simpa[h1] using h2
 cases h3:eZ s (aY 6) p;case true=>simpa[h1,h2] using h3
 simp[h1,h2,h3]at h
def TM{s:ByteArray}{it:RS->Int×RS}(hit:∀st,st.p<=s.size->Cj s 1 st (it st).2){st:RS}{x:Int×RS}(h:Cj s 1 st x.2):Cj s 1 st (rowP s it x).2:=by
 unfold rowP;by_cases hc:dM s x.2.p=0\/x.2.bad=true
 ·rw[if_pos hc];exact h
 rw[if_neg hc];have hsg:dM s x.2.p≠0:=fun e=>hc<|.inl e
 have hbd:x.2.bad=false:=by cases e:x.2.bad with
  | false=>rfl
  | true=>exact absurd (.inr e) hc
 have hyes:mg s (aY<|dM s x.2.p) x.2=true:=by unfold mg;rw[hbd,LD hsg];rfl
 obtain⟨⟨a,b,c⟩,d⟩:=OI hit (k:=dM s x.2.p) (s.size+1) [x.1] x.2 h.2.1;have d:=d cq hyes;obtain⟨a1,b1,c1⟩:=h;refine⟨?_,b,?_⟩
 ·show st.p<=(iU s it (dM s x.2.p) (s.size+1) [x.1] x.2).2.p;omega
 show((iU s it (dM s x.2.p) (s.size+1) [x.1] x.2).2.out++_).length+_<=_+1+(iU s it (dM s x.2.p) (s.size+1) [x.1] x.2).2.p;rw[WP,Xi];omega
def Ck{s:ByteArray}{n:Nat}{st:RS}(h:mg s gG st=true):AQ s (n+1) false st=rV s st:=by
 unfold AQ rV;rw[if_pos h]
 try(rcases dL s (s.size+1) [] (lc gG st) with⟨_|_,st'⟩<;>rfl)
def Cm{s:ByteArray}{n:Nat}{st:RS}(h:mg s gG st=false)(h2:mg s j5 st=true):AQ s (n+1) false st=uZ s (AQ s n true<|lc j5 st):=by
 conv=>lhs;unfold AQ
 rw[if_neg (by rw[h];decide),if_pos h2];rfl
def Cn{s:ByteArray}{n:Nat}{st:RS}(h:mg s gG st=false)(h2:mg s j5 st=false):AQ s (n+1) false st=((st.out.length:Int),ug (fM s st)<|judged (fM s st)<|aL s st):=by
 unfold AQ;rw[if_neg (by rw[h];decide),if_neg<|by rw[h2];decide]
def Gq{s:ByteArray}{n:Nat}{st:RS}:AQ s (n+1) true st=rowP s (AQ s n false) (AQ s n false st):=by
 conv=>lhs;unfold AQ
 rfl
def tL{s:ByteArray}:∀(n:Nat) (b:Bool) (st:RS),st.p<=s.size->Cj s 1 st (AQ s n b st).2:=by
 intro n
 induction n with
 | zero=>intro b st h;cases b<;>exact⟨WK _,h,by show st.out.length+st.p<=st.out.length+1+st.p;omega⟩
 | succ n ih =>
  intro b st h;cases b;case true=>rw[Gq];exact TM (fun st' h'=>ih false st' h') (ih false st h)
  cases h1:mg s gG st;case true=>rw[Ck h1];exact OG h1
  cases h2:mg s j5 st;case true=>rw[Cm h1 h2];exact OH<|ih true (lc j5 st)<|lJ h2
  rw[Cn h1 h2];exact Rx h
theorem Ry(R:Nat)(s:bN)(base:Nat)(hR:R<base)(hs:s.size<=1000):∀n:Nat,
  (∀ (st:RS) (v:Value) (qs:Q08) (w:World),RdF w R s st base v qs->base<=w.heap.size->st.p<=s.size->st.out.length+(s.size-st.p)<=5000->2*(s.size-st.p)<n ->
   Calls prog 324 #[.pointer (some ⟨R,0,none⟩)] w (wQ R s base v qs w<|AQ s n false st)) /\
  (∀ (st:RS) (v:Value) (qs:Q08) (w:World),RdF w R s st base v qs->base<=w.heap.size->st.p<=s.size->st.out.length+(s.size-st.p)<=5000->2*(s.size-st.p)+1<n ->
   Calls prog 297 #[.pointer (some ⟨R,0,none⟩)] w (wQ R s base v qs w<|AQ s n true st)):=by
 intro n
 induction n with
 | zero=>exact⟨fun _ _ _ _ _ _ _ _ h=>absurd h cq,fun _ _ _ _ _ _ _ _ h=>absurd h cq⟩
 | succ n ih =>
  refine⟨fun st v qs w h hB hp hb hn=>?_,fun st v qs w h hB hp hb hn=>?_⟩
  ·have hlen:qs.length=st.out.length:=by rw[<-h.out];simp[ai]
   cases h1:mg s gG st;case true=>rw[Ck h1];exact Og R s st base v qs w h hR hB hs hp cq h1
   cases h2:mg s j5 st;case true=>
    rw[Cm h1 h2];have h3:st.p+1<=s.size:=lJ h2;have h4:(lc j5 st).p=st.p+1:=rfl;exact QX R s st base v qs w h hR hs hp h1 h2 _ (tL n true (lc j5 st) h3).2.1 fun w1 hw1 hsz=>ih.2 (lc j5 st) v qs w1 hw1 (WR hB hsz) h3 (by rw[h4];show st.out.length+_<=_;omega) (by rw[h4];omega)
   rw[Cn h1 h2];exact Oa R s st base v qs w h hR hB hs hp cq h1 h2
  rw[Gq];obtain⟨a,b,c⟩:=tL (s:=s) n false st hp;refine TL R s st base v qs w h hR hB hs _ b (ih.1 st v qs w h hB hp hb cq) _ cq (fun st' v' Zy w' h' hB' h1 h2 h3=>ih.1 st' v' Zy w' h' hB' h2 h3 cq) (fun st' h1 h2=>?_);obtain⟨a2,b2,c2⟩:=tL (s:=s) n false st' h2;exact⟨a2,b2,c2⟩
def Wd(s:ByteArray)(a:Al):Prop:=a.t.size<=s.size/\a.s.size<=s.size
def JV(s:ByteArray)(e:Ex):Prop:=e.allow.length<=s.size+1/\(∀a∈e.allow,Wd s a)/\e.over.size<=s.size/\e.name.size<=s.size/\e.kids.length<=s.size+2
def r9(s:bN)(p:Nat):(aC s p).size<=s.size:=by
 unfold aC;rw[ByteArray.size_extract];omega
def TN(s:bN)(st:RS):(zI s st).size<=s.size:=by
 unfold zI;split
 ·exact r9 s _
 exact WO _
def OJ{s:ByteArray}:∀(n:Nat) (xs:Q0a) (st:RS) (ys:Q0a),(∀a∈xs,Wd s a)->(dL s n xs st).1=some ys->ys.length<=xs.length+n/\∀a∈ys,Wd s a:=by
 intro n
 induction n with
 | zero=>intro xs st ys _ h;cases h
 | succ n ih =>
  intro xs st ys hx h;have hx2:∀a∈xs++[(⟨aC s st.p,zI s<|bI s st⟩:Al)],Wd s a:=by
   intro a ha;rcases WU.1 ha with h1|h1
   ·exact hx a h1
   rw[WZ]at h1;subst h1;exact⟨r9 s _,TN s _⟩
  unfold dL at h;by_cases hb:st.bad=true
  ·rw[if_pos hb]at h;cases h
  rw[if_neg hb]at h;by_cases hc:mg s fT (aX s<|bI s st)=true
  ·rw[if_pos hc]at h;injection h with h;subst h;exact⟨by rw[WP,Xi];omega,hx2⟩
  rw[if_neg hc]at h;have fin:∀st',(dL s n (xs++[⟨aC s st.p,zI s<|bI s st⟩]) st').1=some ys->ys.length<=xs.length+(n+1)/\∀a∈ys,Wd s a:=fun st' h'=>by
   obtain⟨a,b⟩:=ih _ st' ys hx2 h';rw[WP,Xi]at a;exact⟨cq,b⟩
  by_cases hm:mg s mP (aX s<|bI s st)=true
  ·rw[if_pos hm]at h;exact fin _ h
  rw[if_neg hm]at h;exact fin _ h
def Gr{s:ByteArray}{x:Ex}{st:RS}(h:∀e∈st.out,JV s e)(hx:JV s x):∀e∈(ug x st).out,JV s e:=by
 intro e he;rcases WU.1 he with h1|h1
 ·exact h e h1
 rw[WZ]at h1;subst h1;exact hx
def RA{s:ByteArray}{st:RS}(hp:st.p+5<=s.size)(h:∀e∈st.out,JV s e):∀e∈(rV s st).2.out,JV s e:=by
 have hc:=(EX (s:=s) (s.size+1) [] (lc gG st) hp).2.2;have hs:=OJ (s:=s) (s.size+1) []<|lc gG st;unfold rV;cases e:dL s (s.size+1) [] (lc gG st) with
 | mk o st' =>
  rw[e]at hc hs;have hc':st'.out=st.out:=hc;cases o with
  | none=>show ∀e∈st'.out,JV s e;rw[hc'];exact h
  | some xs =>
   obtain⟨a,b⟩:=hs xs (fun a ha=>by cases ha) rfl;exact Gr (by rw[hc'];exact h) ⟨by simpa using a,b,WO _,WO _,WO _⟩
def TP{s:ByteArray}{st:RS}(h:∀e∈st.out,JV s e):∀e∈(ug (fM s st)<|judged (fM s st)<|aL s st).out,JV s e:=by
 have h1:(judged (fM s st)<|aL s st).out=st.out:=by
  have h2:(aL s st).out=st.out:=by unfold aL;split<;>rfl
  unfold judged;split<;>exact h2
 refine Gr (by rw[h1];exact h) ?_;unfold fM;split
 ·exact⟨WO _,fun a ha=>(by cases ha),r9 s _,r9 s _,WO _⟩
 exact⟨WO _,fun a ha=>(by cases ha),WO _,r9 s _,WO _⟩
def RB{s:ByteArray}{it:RS->Int×RS}{k:Int}(hit:∀st,(∀e∈st.out,JV s e)->st.p<=s.size->(∀e∈(it st).2.out,JV s e)/\(it st).2.p<=s.size):∀(n:Nat) (zs:List Int) (st:RS),(∀e∈st.out,JV s e)->st.p<=s.size->(∀e∈(iU s it k n zs st).2.out,JV s e)/\(iU s it k n zs st).1.length<=zs.length+n:=by
 intro n
 induction n with
 | zero=>intro zs st h _;exact⟨h,WK _⟩
 | succ n ih =>
  intro zs st h hp;unfold iU;cases e:mg s (aY k) st;case false=>exact⟨h,Nat.le_add_right _ _⟩
  have h1:(lc (aY k) st).p<=s.size:=lJ e;obtain⟨a,b⟩:=hit (lc (aY k) st) h h1;obtain⟨a2,b2⟩:=ih (zs++[(it<|lc (aY k) st).1]) _ a b;rw[WP,Xi]at b2;exact⟨a2,by simp only[if_true];omega⟩
def RD{s:ByteArray}:∀(n:Nat) (b:Bool) (st:RS),st.p<=s.size->(∀e∈st.out,JV s e)->∀e∈(AQ s n b st).2.out,JV s e:=by
 intro n
 induction n with
 | zero=>intro b st _ h;cases b<;>exact h
 | succ n ih =>
  intro b st hp h;cases b;case true=>
   rw[Gq];unfold rowP;have hx:=ih false st hp h;have hxp:=(tL (s:=s) n false st hp).2.1;split
   ·exact hx
   obtain⟨a,b⟩:=RB (s:=s) (it:=AQ s n false) (k:=dM s (AQ s n false st).2.p) (fun st' h1 h2=>⟨ih false st' h2 h1,(tL (s:=s) n false st' h2).2.1⟩) (s.size+1) [(AQ s n false st).1] (AQ s n false st).2 hx hxp;exact Gr a ⟨WO _,fun a ha=>(by cases ha),WO _,WO _,WR b<|by simp only[Xi];omega⟩
  cases h1:mg s gG st;case true=>rw[Ck h1];exact RA (lJ h1) h
  cases h2:mg s j5 st;case true=>
   rw[Cm h1 h2];have hx:=ih true (lc j5 st) (lJ h2) h;unfold uZ;split
   ·exact hx
   exact hx
  rw[Cn h1 h2];exact TP h
def JV.light{s:ByteArray}{e:Ex}(h:JV s e)(hs:s.size<=1000):e.light/\e.fits:=by
 obtain⟨h1,h2,h3,h4,h5⟩:=h;refine⟨⟨cq,cq⟩,⟨fun a ha=>⟨?_,?_⟩,?_,?_,?_,?_⟩⟩<;>unfold maxLen
 ·have:=(h2 a ha).1;omega
 ·have:=(h2 a ha).2;omega
 all_goals omega
def lw(s:ByteArray):RS:=(AQ s (2*s.size+2) true ⟨0,false,[]⟩).2
def nG(s:ByteArray):Bool:=decide (s.size<=1000) && !(lw s).bad && !decide ((lw s).p<s.size)&&aK (lw s).out&&((dS (lw s).out).toList==s.toList)
def We(s:ByteArray)(w:World)(e:Ending)(w':World):Prop :=
 ag w w'/\((nG s=false/\e=.returned (.tuple #[.slice none 0 0,.bool false]))\/(nG s=true/\∃(v:Value) (R:Nat) (qs:Q08),e=.returned (.tuple #[v,.bool true])/\RdF w' R s (lw s) (w.heap.size+1) v qs))
def RG(w:af)(s:bN):RdF (w.alloc<|.cells #[.string s,.int .i64 0,.bool false,.slice none 0 0] 372) w.heap.size s ⟨0,false,[]⟩ (w.heap.size+1) (.slice none 0 0) []:=by
 refine⟨⟨ct,ct,ct,ct,ct,fun j=>ct⟩,World.ownsRow_nil _ _ _ _,rfl,?_,?_,?_,?_,?_,?_,?_,?_⟩
 ·intro q hq;cases hq
 ·intro q hq;cases hq
 ·intro q hq;cases hq
 ·intro q hq;cases hq
 ·intro q hq;cases hq
 ·intro x y hx;exact absurd hx ct
 ·intro q hq;cases hq
 intro q hq;cases hq
def RdF.slE{w:af}{R:Nat}{s:ByteArray}{st:RS}{base:Nat}{v:Value}{qs:Q08}(h:RdF w R s st base v qs):∃ad cap,v=.slice ad qs.length cap/\iw w ad qs:=Eu h.own rfl h.ok
def RdF.later{w w':af}{R:Nat}{s:ByteArray}{st:RS}{base:Nat}{v:Value}{qs:Q08}(h:RdF w R s st base v qs)(hb:ag w w'):RdF w' R s st base v qs :=
 h.heap hb.size (hb.block R h.rd.lt) (fun g hg=>hb.block g (h.own.lt g hg).2) (fun q hq g hi=>hb.block g (h.lie q hq g hi).2.1)
theorem yG(s:bN)(w:af):Calls prog 263 #[.string s] w (We s w):=by
 by_cases hs:s.size<=1000
 ·have hd0:decide ((1000:Int)<(s.size:Int))=false:=by simp;omega
  have HRD:=ak<|RG w s;have Zc:=ak ((Ry w.heap.size s (w.heap.size+1) cq hs<|2*s.size+2).2 ⟨0,false,[]⟩ (.slice none 0 0) [] _ HRD.out ct (WO _) (by simp;omega) ct);have HSM:O (∀e∈(lw s).out,e.light/\e.fits):=fun e he=>(RD (s:=s) _ true ⟨0,false,[]⟩ (WO _) (fun e he=>by cases he) e he).light hs;have HFEW:=ak<|tL (s:=s) (2*s.size+2) true ⟨0,false,[]⟩<|WO _;go_enter func263,ntmps263;go_wp2_with fail;refine Zc.out.mono ?_;rintro e w1 ⟨v1,qs,rfl,hF1,hW1,-⟩;replace hF1:RdF w1 w.heap.size s (lw s) (w.heap.size+1) v1 qs:=hF1;have Zf:=ak hF1;have HB1:O (ag w w1):=⟨hW1.onl.os,hW1.onl.tape,hW1.onl.output,by have:=hW1.onl.size;simp at this;omega,fun k hk=>(hW1.onl.block k (by simp;omega) cq (by simp[Value.ownBlock])).trans ((World.grownBy_alloc w _ none).block k hk ct)⟩;obtain⟨ad,cap,rfl,hsl⟩:=hF1.slE;have HSL:=ak hsl;have HOUT:=ak hF1.out;have hql:qs.length<=1048576:=by
   have h2:=congrArg List.length hF1.out;simp only[ai,Xv]at h2;have h3:(lw s).out.length+0<=0+1+(lw s).p:=HFEW.out.2.2;have h4:(lw s).p<=s.size:=HFEW.out.2.1;omega
  have HL:O (∀r∈qs,r.e.light):=fun r hr=>(HSM.out r.e<|by rw[<-HOUT.out];exact WV.2 ⟨r,hr,rfl⟩).1;have HF:O (∀r∈qs,r.e.fits):=fun r hr=>(HSM.out r.e<|by rw[<-HOUT.out];exact WV.2 ⟨r,hr,rfl⟩).2;have HRB:O (nG s=(!(lw s).bad && !decide ((lw s).p<s.size)&&aK (lw s).out&&((dS (lw s).out).toList==s.toList))):=by show _=_;unfold nG;simp[hs]
  have c1:=hF1.rd.c1;have c2:=hF1.rd.c2;have c3:=hF1.rd.c3;clear hF1 hW1 hsl Zc HRD HSM HFEW;cases hb:(lw s).bad;case true=>
   rw[hb]at c2;have EQ:O (nG s=false):=by show _=_;rw[HRB.out,hb];rfl
   go_wp2;exact bodyPost_ret (v:=.tuple #[.slice none 0 0,.bool false]) (by simp[results,Tryz.results263,go_sem]) rfl ⟨HB1.out,.inl ⟨EQ.out,rfl⟩⟩
  rw[hb]at c2;by_cases hlt:(lw s).p<s.size
  ·have hd1:decide (((lw s).p:Int)<(s.size:Int))=true:=by simp;omega
   have EQ:O (nG s=false):=by show _=_;rw[HRB.out,hb,decide_eq_true hlt];rfl
   go_wp2;exact bodyPost_ret (v:=.tuple #[.slice none 0 0,.bool false]) (by simp[results,Tryz.results263,go_sem]) rfl ⟨HB1.out,.inl ⟨EQ.out,rfl⟩⟩
  have hd1:decide (((lw s).p:Int)<(s.size:Int))=false:=by simp;omega
  go_wp2_with fail;refine(ni ad cap qs w1 hql HL.out HF.out HSL.out).mono ?_;rintro e w2 ⟨rfl,hB2⟩;have Y3:=ak<|Zf.out.later hB2;have HB2:=ak<|HB1.out.trans<|hB2.mono HB1.out.size;have HSL2:=ak<|HSL.out.below hB2;have k3:=Y3.out.rd.c3;rw[HOUT.out];clear hB2;cases he:aK (lw s).out;case false=>
   have EQ:O (nG s=false):=by show _=_;rw[HRB.out,hb,decide_eq_false hlt,he];rfl
   go_wp2;exact bodyPost_ret (v:=.tuple #[.slice none 0 0,.bool false]) (by simp[results,Tryz.results263,go_sem]) rfl ⟨HB2.out,.inl ⟨EQ.out,rfl⟩⟩
  go_wp2_with fail;refine(kN ad cap qs w2 hql HL.out HF.out HSL2.out).mono ?_;rintro e w3 ⟨rfl,hB3⟩;have HF3:=ak<|Y3.out.later hB3;have HB3:=ak<|HB2.out.trans<|hB3.mono HB2.out.size;have q3:=HF3.out.rd.c3;rw[HOUT.out];clear hB3;cases ht:(dS (lw s).out).toList==s.toList;case false=>
   have ht2:(!(dS (lw s).out).toList==s.toList)=true:=by rw[ht];rfl
   have EQ:O (nG s=false):=by show _=_;rw[HRB.out,ht,Bool.and_false]
   go_wp2;exact bodyPost_ret (v:=.tuple #[.slice none 0 0,.bool false]) (by simp[results,Tryz.results263,go_sem]) rfl ⟨HB3.out,.inl ⟨EQ.out,rfl⟩⟩
  have ht2:(!(dS (lw s).out).toList==s.toList)=false:=by rw[ht];rfl
  have EQ:O (nG s=true):=by show _=_;rw[HRB.out,hb,decide_eq_false hlt,he,ht];rfl
  go_wp2;exact bodyPost_ret (v:=.tuple #[.slice ad qs.length cap,.bool true]) (by simp[results,Tryz.results263,go_sem]) rfl ⟨HB3.out,.inr ⟨EQ.out,_,_,qs,rfl,HF3.out⟩⟩
 have hd0:decide ((1000:Int)<(s.size:Int))=true:=by simp;omega
 have EQ:O (nG s=false):=by show _=_;unfold nG;rw[decide_eq_false hs];rfl
 go_enter func263,ntmps263;go_wp2;exact bodyPost_ret (v:=.tuple #[.slice none 0 0,.bool false]) (by simp[results,Tryz.results263,go_sem]) rfl ⟨WL _ _,.inl ⟨EQ.out,rfl⟩⟩
def RdF.nod{w:af}{R:Nat}{s:ByteArray}{st:RS}{base:Nat}{v:Value}{qs:Q08}(h:RdF w R s st base v qs):NodM w base v qs:=⟨h.own,h.zA,h.zK,h.ok,h.lie,h.one,h.two,h.cA⟩
def sm:List Nat->Nat
 | []=>0
 | x::xs=>x+sm xs
def EY:∀xs ys:List Nat,sm (xs++ys)=sm xs+sm ys
 | [],ys=>by simp[sm]
 | x::xs,ys=>by rw[XB];simp only[sm];rw[EY xs ys];omega
def OL(sep:bN)(xs:List ByteArray):(dW sep xs).size<=sm (xs.map fun x=>x.size+sep.size):=by
 suffices h:∀ys:List ByteArray,(dW sep ys.reverse).size<=sm (ys.reverse.map fun x=>x.size+sep.size) by
  have:=h xs.reverse;rwa [List.reverse_reverse]at this
 intro ys
 induction ys with
 | nil=>exact WK _
 | cons y ys ih =>
  rw[List.reverse_cons,p8,Xy,EY];simp only[XN,List.map_nil,sm];split
  ·omega
  simp only[WY];omega
def lY(f:Int->Int):List Int->Int
 | []=>0
 | k::ks=>(k-f k+1)+lY f ks
def xy(f:Int->Int):∀xs ys:List Int,lY f (xs++ys)=lY f xs+lY f ys
 | [],ys=>by simp[lY]
 | x::xs,ys=>by rw[XB];simp only[lY];rw[xy f xs ys];omega
def uz(f:Int->Int):∀xs:List Int,lY f xs.reverse=lY f xs
 | []=>rfl
 | x::xs=>by rw[List.reverse_cons,xy,uz f xs];simp only[lY];omega
def zC{f:Int->Int}:∀(ks:List Int) (a:Int),0<=bG f ks a->lY f ks=a+1-bG f ks a
 | [],a,_=>by simp[lY,bG]
 | k::ks,a,h=>by
  unfold bG at h⊢;split at h
  ·omega
  rename_i h1;rw[if_neg h1];split at h
  ·omega
  rename_i h2;rw[if_neg h2];have hk:k=a:=Decidable.byContradiction fun e=>h1<|.inr e;subst hk;simp only[lY];rw[zC ks _ h];omega
def TQ{es:Q09}(hes:UJ es)(ht:∀j,j<es.length->0<=av es j)(n:Nat):n<es.length->∀i,((gQ es n i).size:Int)<=250*((n:Int)-av es n+1):=by
 induction n using Nat.strongRecOn with
 | ind n ih =>
  intro hn i;have hle:=iq es n;have h1:=Ha (FL es n) i<|jr (iP es n)<|FL es n;unfold gQ
  suffices h:((jr (iP es n)<|FL es n).size:Int)<=250*((n:Int)-av es n+1)-10 by omega
  have X0:=hes.2.1 n hn;obtain⟨hk5,-⟩:=kZ X0;rw[sM hn];unfold jr;unfold ax at X0;split
  ·rename_i k;rw[if_pos k]at X0;simp only[WM]at X0;have:=jv X0.1.1.1;omega
  rename_i k1;rw[if_neg k1]at X0;split
  ·rename_i k2;rw[if_pos k2]at X0;simp only[WM]at X0;have:=aV X0.1.1.1;omega
  rename_i k2;rw[if_neg k2]at X0;split
  ·rename_i k3;rw[if_pos k3]at X0;simp only[WM]at X0;have h1:=aV X0.1.1.1;have h2:=aV X0.1.1.2;have e1:(⟨#[45,62]⟩:ByteArray).size=2:=rfl;simp only[WY];omega
  have hj:=OL (eG es[n].kind)<|es[n].kids.map<|iP es n;rw[kK,List.map_map]at hj;have hspan:lY (cO es n) es[n].kids=(n:Int)-av es n:=by
   have h0:=ht n hn;rw[jc]at h0;have h2:=zC _ _ h0;rw[uz,<-jc]at h2;have e:dD es n=es[n].kids:=by simp[dD,hn]
   rw[e]at h2;omega
  have hsum:∀ks:List Int,(∀k∈ks,0<=k/\k.toNat<n)->(sm (ks.map<|(fun x:ByteArray=>x.size+3) ∘ iP es n):Int)<=250*lY (cO es n) ks+3*(ks.length:Int):=by
   intro ks
   induction ks with
   | nil=>intro _;simp[sm,lY]
   | cons k ks ih2 =>
    intro hks;obtain⟨hk0,hk1⟩:=hks k<|XH ..;have h3:=ih2 fun x hx=>hks x<|Xu _ hx;have h4:=ih k.toNat hk1 cq true;have e1:iP es n k=gQ es k.toNat true:=by unfold iP;rw[if_pos hk1,xV]
    have e2:cO es n k=av es k.toNat:=by unfold cO;rw[if_pos ⟨hk0,hk1⟩]
    have e3:((k.toNat:Nat):Int)=k:=cq;simp only[XN,sm,lY,Function.comp_apply,Xq];rw[e1,e2];rw[e3]at h4;omega
  have h5:=hsum es[n].kids<|sN hes hn;rw[hspan]at h5;have:(es[n].kids.length:Int)<=5:=cq;omega
def RH{es:Q09}(h:aK es=true):∀j,j<es.length->0<=av es j:=by
 rw[oU]at h;unfold kG at h;simp only[WM,WW]at h;have h1:=h.2.1;unfold jq at h1;rw[WT]at h1;intro j hj;simpa using h1 j (by simpa using hj)
def qF(es:Q09):(dS es).size<=3750:=by
 by_cases h:aK es=true
 ·have ht:=RH h;have hf:=kL h;have h1:=TQ (J9 h) ht (es.length-1) cq false;have h2:=ht (es.length-1) cq;rw[vz h];omega
 rw[yF (by simpa using h)];show 0<=3750;omega
def Co(r:Rl):ByteArray:=((r.name++⟨#[32,61,32]⟩)++dS r.expr)++⟨#[10]⟩
def di:List Rl->ByteArray
 | []=>⟨#[]⟩
 | r::rs=>Co r++di rs
def gZ(n:ByteArray):ByteArray:=(⟨#[116,121,112,101,32]⟩++n)++⟨#[10]⟩
def bP:List Ty->ByteArray
 | []=>⟨#[]⟩
 | t::ts=>(gZ t.name++di t.rels)++bP ts
def jb(ts:Q0b):ByteArray:=if aG ts then bP ts else ⟨#[]⟩
def qG(a:bN):a++(⟨#[]⟩:ByteArray)=a:=by apply jd;simp[ByteArray.data_append]
def lF:∀(xs:List Rl) (r:Rl),di (xs++[r])=di xs++Co r
 | [],r=>by simp only[XR,di,qG,tJ]
 | x::xs,r=>by rw[XB];simp only[di];rw[lF xs r,<-Xo]
def jK:∀(xs:Q0b) (t:Ty),bP (xs++[t])=bP xs++(gZ t.name++di t.rels)
 | [],t=>by simp only[XR,bP,qG,tJ]
 | x::xs,t=>by rw[XB];simp only[bP];rw[jK xs t,<-Xo]
def yH(rs:Q07)(k:Nat)(h:k<rs.length):df (rs.take<|k+1)=df (rs.take k)++[⟨rs[k].name,ai rs[k].rows⟩]:=by
 rw[WN h];unfold df;rw[Xy];rfl
def yI(rs:Q06)(k:Nat)(h:k<rs.length):ae (rs.take<|k+1)=ae (rs.take k)++[⟨rs[k].name,df rs[k].rows⟩]:=by
 rw[WN h];unfold ae;rw[Xy];rfl
def lG(n:bN):(gZ n).size=n.size+6:=by
 have e1:(⟨#[116,121,112,101,32]⟩:ByteArray).size=5:=rfl;have e2:(⟨#[10]⟩:ByteArray).size=1:=rfl;unfold gZ;simp only[WY];omega
def RI:ByteArray:=⟨#[116,121,112,101,32]⟩
def Wh:ByteArray:=⟨#[61,32]⟩
def Wi:ByteArray:=⟨#[10]⟩
def Cq(l:ByteArray):Bool:=decide (5<l.size)&&(l.extract 0 5).toList==RI.toList
def zD(t:ByteArray):Bool:=decide (2<=t.size)&&(t.extract 0 2).toList==Wh.toList
def EZ(l:ByteArray):ByteArray:=(jo 32 l).extract 2 (jo 32 l).size
def Gt(acc:Q0b)(r:Rl):List Ty:=match acc.getLast? with
 | none=>[]
 | some t=>acc.dropLast++[⟨t.name,t.rels++[r]⟩]
def si(xs:Q0b)(t:Ty)(r:Rl):Gt (xs++[t]) r=xs++[⟨t.name,t.rels++[r]⟩]:=by
 unfold Gt;simp
def ol(acc:Q0b)(l:ByteArray):Option (List Ty) :=
 if Cq l then some (acc++[⟨l.extract 5 l.size,[]⟩])
 else if !acc.isEmpty&&zD (jo 32 l)&&nG (EZ l) then some (Gt acc ⟨lm 32 l,(lw<|EZ l).out⟩) else none
def eu:Nat->ByteArray->List Ty->Option (List Ty)
 | 0,_,acc=>some acc
 | n+1,rest,acc =>
  if rest.toList.isEmpty then some acc
  else if qi 10 rest then
   match ol acc (lm 10 rest) with
   | none=>none
   | some a=>eu n (jo 10 rest) a
  else none
def nH(b:bN):b.toList=b.data.toList:=Go.ByteArray.toList_eq b
def OM(c:UInt8)(l:List UInt8)(h:(jA c l).2.2=true):l=(jA c l).1++c::(jA c l).2.1:=by
 induction l with
 | nil=>simp[jA]at h
 | cons b l ih =>
  unfold jA at h⊢;split
  ·rename_i e;simp[e]
  rename_i e;rw[if_neg e]at h;simp only[XB,List.cons.injEq,true_and];exact ih h
def Cr{c:UInt8}{s:ByteArray}(h:qi c s=true):s=(lm c s++⟨#[c]⟩)++jo c s:=by
 apply jd;have:=OM c s.data.toList h;simpa[lm,jo,ByteArray.data_append] using this
def I8{c:UInt8}{s:ByteArray}(h:qi c s=true):(jo c s).size<s.size:=by
 have:=congrArg ByteArray.size<|Cr h;have e1:(⟨#[c]⟩:ByteArray).size=1:=rfl;simp only[WY,e1]at this;omega
def I9(l:bN)(k:Nat)(hk:k<=l.size):l=l.extract 0 k++l.extract k l.size:=by
 apply jd;rw[XI,ByteArray.data_extract,ByteArray.data_extract];have hk':k<=l.data.size:=hk;have h2:l.size=l.data.size:=rfl;rw[h2];simp;rw[show max k l.size=l.data.toList.length by simp[Nat.max_def];omega,Xa]
def toList_inj{a b:ByteArray}(h:a.toList=b.toList):a=b:=by
 rw[nH,nH]at h;exact jd h
def RJ{l:ByteArray}(h:Cq l=true):l=RI++l.extract 5 l.size:=by
 unfold Cq at h;simp only[WM,WW,beq_iff_eq]at h;have e:=toList_inj h.2
 conv=>lhs;rw[I9 l 5 cq,e]
def RL{l:ByteArray}(h:zD (jo 32 l)=true):l=((lm 32 l++⟨#[32,61,32]⟩)++EZ l):=by
 unfold zD at h;simp only[WM,WW,beq_iff_eq]at h;have hf:qi 32 l=true:=by
  cases e:qi 32 l;case true=>rfl
  rw[Qn e]at h;exact absurd h.1 cv
 have e:=toList_inj h.2;have e2:jo 32 l=Wh++EZ l:=by
  conv=>lhs;rw[I9 (jo 32 l) 2 h.1,e]
  rfl
 have e3:(⟨#[32,61,32]⟩:ByteArray)=⟨#[32]⟩++Wh:=by apply jd;simp[ByteArray.data_append,Wh]
 conv=>lhs;rw[Cr hf,e2]
 rw[e3];simp only[Xo]
def Cs{s:ByteArray}(h:nG s=true):dS (lw s).out=s/\s.size<=1000/\aK (lw s).out=true:=by
 unfold nG at h;simp only[WM,WW,beq_iff_eq]at h;exact⟨toList_inj h.2,h.1.1.1.1,h.1.2⟩
def OO{acc acc':Q0b}{l:ByteArray}(h:ol acc l=some acc'):bP acc'=bP acc++(l++Wi):=by
 unfold ol at h;split at h
 ·rename_i ht;injection h with h;subst h;rw[jK]
  conv=>rhs;rw[RJ ht]
  simp only[gZ,di,qG];rfl
 split at h
 ·rename_i h2;injection h with h;subst h;simp only[WM,Bool.not_eq_true']at h2;obtain⟨⟨h3,h4⟩,h5⟩:=h2;have hne:acc≠[]:=fun e=>by rw[e]at h3;simp at h3
  have e1:=List.dropLast_concat_getLast hne;rw[<-e1,si,jK,jK,lF]
  conv=>rhs;rw[RL h4]
  have e2:=(Cs h5).1;simp only[Co,e2,Xo];rfl
 cases h
def UW(T:Q0b):Prop:=∀t∈T,∀r∈t.rels,r.expr.length<=15/\∀e∈r.expr,e.light/\e.fits
def TS{acc acc':Q0b}{l:ByteArray}(h:ol acc l=some acc')(hk:UW acc):UW acc':=by
 unfold ol at h;split at h
 ·injection h with h;subst h;intro t ht r hr;rcases WU.1 ht with ht|ht
  ·exact hk t ht r hr
  rw[WZ]at ht;subst ht;cases hr
 split at h
 ·rename_i h2;injection h with h;subst h;simp only[WM,Bool.not_eq_true']at h2;obtain⟨⟨h3,h4⟩,h5⟩:=h2;have hne:acc≠[]:=fun e=>by rw[e]at h3;simp at h3
  have e1:=List.dropLast_concat_getLast hne;obtain⟨-,hs,hsp⟩:=Cs h5;intro t ht r hr;rw[<-e1,si]at ht;rcases WU.1 ht with ht|ht
  ·exact hk t (by rw[<-e1];exact XK _ ht) r hr
  rw[WZ]at ht;subst ht;rcases WU.1 hr with hr|hr
  ·exact hk (acc.getLast hne) (List.getLast_mem hne) r hr
  rw[WZ]at hr;subst hr;refine⟨(kL hsp).2,fun e he=>?_⟩;exact(RD (s:=EZ l) _ true ⟨0,false,[]⟩ (WO _) (fun e he=>by cases he) e he).light hs
 cases h
def zF:∀(rs:List Rl),rs.length*4<=(di rs).size/\∀r∈rs,r.name.size+4<=(di rs).size
 | []=>⟨ct,fun r hr=>by cases hr⟩
 | r::rs=>by
  obtain⟨h1,h2⟩:=zF rs;have e1:(⟨#[32,61,32]⟩:ByteArray).size=3:=rfl;have e2:(⟨#[10]⟩:ByteArray).size=1:=rfl;have h3:(di (r::rs)).size=r.name.size+3+(dS r.expr).size+1+(di rs).size:=by simp only[di,Co,WY,e1,e2]
  refine⟨by rw[h3,Xq];omega,fun q hq=>?_⟩;rcases Xc.1 hq with rfl|hq
  ·omega
  have:=h2 q hq;omega
def Ct:∀(T:Q0b),T.length*6<=(bP T).size/\∀t∈T,t.name.size+6+(di t.rels).size<=(bP T).size
 | []=>⟨ct,fun r hr=>by cases hr⟩
 | t::ts=>by
  obtain⟨h1,h2⟩:=Ct ts;have h3:(bP (t::ts)).size=t.name.size+6+(di t.rels).size+(bP ts).size:=by simp only[bP,WY,lG]
  refine⟨by rw[h3,Xq];omega,fun q hq=>?_⟩;rcases Xc.1 hq with rfl|hq
  ·omega
  have:=h2 q hq;omega
def rows_ok{rs:Q06}(hk:UW<|ae rs)(hz:(bP<|ae rs).size<=3000):rs.length<=500/\(∀r∈rs,r.rows.length<=750/\r.name.size<=3000/\∀q∈r.rows,q.name.size<=3000)/\(∀r∈rs,r.light)/\∀r∈rs,r.fits:=by
 obtain⟨h1,h2⟩:=Ct<|ae rs;rw[bz]at h1;have key:∀r∈rs,r.rows.length<=750/\r.name.size<=3000/\∀q∈r.rows,q.name.size<=3000:=fun r hr=>by
  have h3:=h2 r.p<|WV.2 ⟨r,hr,rfl⟩;obtain⟨h4,h5⟩:=zF<|df r.rows;rw[dP]at h4;have h6:r.name.size+6+(di<|df r.rows).size<=(bP<|ae rs).size:=h3;refine⟨cq,cq,fun q hq=>?_⟩;have:=h5 q.p<|WV.2 ⟨q,hq,rfl⟩;have h7:q.name.size+4<=(di<|df r.rows).size:=this;omega
 have kex:∀r∈rs,∀q∈r.rows,q.rows.length<=15/\∀x∈q.rows,x.e.light/\x.e.fits:=fun r hr q hq=>by
  have:=hk r.p (WV.2 ⟨r,hr,rfl⟩) q.p (WV.2 ⟨q,hq,rfl⟩);exact⟨by rw[<-au];exact this.1,fun x hx=>this.2 x.e<|WV.2 ⟨x,hx,rfl⟩⟩
 refine⟨cq,key,fun r hr=>⟨by have:=(key r hr).1;omega,fun q hq=>⟨by have:=(kex r hr q hq).1;omega,fun x hx=>((kex r hr q hq).2 x hx).1⟩⟩,fun r hr=>⟨by have:=(key r hr).2.1;unfold maxLen;omega,by have:=(key r hr).1;unfold maxLen;omega,fun q hq=>⟨by have:=(key r hr).2.2 q hq;unfold maxLen;omega,by have:=(kex r hr q hq).1;unfold maxLen;omega,fun x hx=>((kex r hr q hq).2 x hx).2⟩⟩⟩
open Maps
set_option linter.unusedVariables false
def iK(fs:Q04):List Value:=fs.flatMap Fc.row
def yJ:∀fs:List Fc,(iK fs).length=fs.length*5
 | []=>rfl
 | f::fs=>by have:=yJ fs;simp only[iK,Xr,WP,Xq,Fc.row,XQ]at this ⊢;omega
def LF(fs:Q04)(f:Fc):iK (fs++[f])=iK fs++f.row:=by simp[iK]
def xz:∀(fs:Q04) (i:Nat) (h:i<fs.length) (c:Nat),c<5->(iK fs)[i*5+c]?=fs[i].row[c]?
 | [],i,h,_,_=>by simp at h
 | f::fs,0,_,c,hc=>by
  simp only[iK,Xr,Nat.zero_mul,Xl,List.getElem_cons_zero];rw[XD (by simp[Fc.row];omega)]
 | f::fs,i+1,h,c,hc=>by
  have ih:=xz fs i (by simpa using h) c hc;simp only[iK,Xr,List.getElem_cons_succ]at ih ⊢;rw[Xx (by simp[Fc.row];omega)];have:(i+1)*5+c-f.row.length=i*5+c:=by simp[Fc.row];omega
  rw[this];exact ih
def Cu{w:af}{base:Nat}{v:Value}{fs:Q04}(h:w.ownsRow base 52 5 v fs.length<|iK fs):∃ad cap,v=.slice ad fs.length cap/\Ao w ad fs:=by
 rcases h.2 with⟨rfl,h0⟩|⟨g,cap,cur,rfl,hbg,hg,hnc,-⟩
 ·exact⟨none,0,by rw[h0],.inl<|Xb.1 h0⟩
 refine⟨_,cap,rfl,.inr ⟨g,0,rfl,(h.lt g rfl).2,fun i hi=>?_⟩⟩;have hl:=yJ fs;have hc:∀c,c<5->w.cell? (aq g<|0+i*5+c)=fs[i].row[c]?:=fun c hc=>by
  rw[h.cellAt (0+i*5+c) cq,Xl];exact xz fs i hi c hc
 exact⟨hc 0 cq,hc 1 cq,hc 2 cq,hc 3 cq,hc 4 cq⟩
def TT:∃i,prog.info? 52=some i/\i.zero=some (.agg aw)/\i.size=5/\i.bytes=80 :=
 info_parts (P:=prog) (e:=52) (z:=.agg aw) (size:=5) (bytes:=80) cw
def Wj(w:af)(f:Fc):∀j u,f.row[j]?=some u->(w.alloc<|.cells (cf f) 52).cell? ((⟨w.heap.size,0,none⟩:Addr).add j)=some u:=fun j u hu=>by
 match j,hu with
 | 0,hu=>simp[Fc.row]at hu;subst hu;simp[Addr.add]
 | 1,hu=>simp[Fc.row]at hu;subst hu;simp[Addr.add]
 | 2,hu=>simp[Fc.row]at hu;subst hu;simp[Addr.add]
 | 3,hu=>simp[Fc.row]at hu;subst hu;simp[Addr.add]
 | 4,hu=>simp[Fc.row]at hu;subst hu;simp[Addr.add]
structure OutI(w W wr:World)(v:Value)(out:Q04):Prop where
 row:wr.ownsRow w.heap.size 52 5 v out.length (iK out)
 keep:∀g o x,W.cell? ⟨g,o,none⟩=some x->wr.cell? ⟨g,o,none⟩=some x
 size:W.heap.size<=wr.heap.size
 bel:ag w wr
 free:∀g,v.ownBlock=some g->∀o,W.cell? ⟨g,o,none⟩=none
def bQ{w:af}{g o:Nat}{x:Value}(h:w.cell? (aq g o)=some x):g<w.heap.size:=by
 unfold World.cell? at h;cases ho:w.heap[g]? with
 | none=>simp[ho]at h
 | some o=>exact(WQ.1 ho).1
def OutI.below{w W wr w':af}{v:Value}{out:Q04}(h:OutI w W wr v out)(hb:ag wr w'):OutI w W w' v out where
 row:=gy h.row hb
 keep g o x hx:=(hb.cell (p:=⟨g,o,none⟩)<|bQ<|h.keep g o x hx).trans<|h.keep g o x hx
 size:=WR h.size hb.size
 bel:=h.bel.trans<|hb.mono h.bel.size
 free:=h.free
def Wl:Value->Nat
 | .slice _ n _=>n
 | _=>0
def Vp(ts:Q0b)(w:World)(e:Ending)(w':World):Prop :=
 ((∃(b n:Nat) (σ:Ky->Option Int),e=.returned (.tuple #[.map (some b),.bool true])/\bZ ts/\aN dE prog 146 w' b n (jD σ)/\Least ts (fun k=>(σ k).getD 0)/\∀k,(∃x,σ k=some x)↔k∈ay ts)\/(e=.returned (.tuple #[.map none,.bool false])/\¬bZ ts))/\ag w w'
def tN:∀ts:List Tp,(fP ts).length<=2*ts.length:=by
 have key:∀(ts:Q05) (xs:Q0a),(ts.foldl jf xs).length<=xs.length+2*ts.length:=by
  intro ts
  induction ts with
  | nil=>intro xs;simp
  | cons t ts ih =>
   intro xs;have h1:=ih<|jf xs t;have h2:=IL xs t;simp only[List.foldl_cons,Xq];omega
 intro ts;have:=key ts [];simpa[fP] using this
def qH:∀ts:List Tp,(dC ts).length<=ts.length:=by
 have key:∀(ts:Q05) (xs:Q0a),(ts.foldl fH xs).length<=xs.length+ts.length:=by
  intro ts
  induction ts with
  | nil=>intro xs;simp
  | cons t ts ih =>
   intro xs;have h1:=ih<|fH xs t;have h2:=IM xs t;simp only[List.foldl_cons,Xq];omega
 intro ts;have:=key ts [];simpa[dC] using this
def dm(fit:Tp->Bool)(rs:Q06)(ts:Q05):Bool:=aG (ae rs)&&dX ts&&ts.all fit
def fK(f:Q00)(rs:Q06):List (KL×RR):=rs.flatMap fun t=>t.rows.map fun r=>((t.name,f (t.name,r.name)),r)
def kw(E:List<|KL×RR):Int:=E.foldl (fun m x=>max m<|x.1.2+1) 0
def Wm(fit:Tp->Bool)(rs:Q06)(ts:Q05)(w:World)(e:Ending)(w':World):Prop :=
 ag w w'/\((dm fit rs ts=false/\e=.returned (.tuple #[.pointer none,.bool false])) \/
  (dm fit rs ts=true/\∃ (D br bp bt nr np:Nat) (Mr:KL->Option Value) (Mp:K3->Option Value) (vo vu:Value) (f:Q00),e=.returned (.tuple #[.pointer (some ⟨D,0,none⟩),.bool true])/\w.heap.size<=bt/\Least (ae rs) f /\
   DatA w' rs D br bp bt (kw<|fK f rs) nr Mr (fK f rs) (dY ts) (fP ts) (dC ts) np Mp vo vu))
def RN{w:af}{rs:Q06}{bt:Nat}(ht:aN dE prog 146 w bt 36<|lN rs)(hl:cU bt w):
  DatA (((w.alloc<|.map #[] 0).alloc<|.map #[] 0).alloc<|.cells #[.map (some bt),.int .i64 0,.map<|some w.heap.size,.map<|some<|w.heap.size+1,.slice none 0 0,.slice none 0 0] 194) rs (w.heap.size+2) w.heap.size (w.heap.size+1) bt 0 0 (fun _=>none) [] [] [] [] 0 (fun _=>none) (.slice none 0 0) (.slice none 0 0):=by
 obtain⟨w1,h1⟩:=eQx<|w.alloc<|.map #[] 0;obtain⟨w2,h2⟩:=eQx<|w1.alloc<|.map #[] 0;have s1:w1.heap.size=w.heap.size+1:=by rw[h1];simp
 have s2:w2.heap.size=w.heap.size+2:=by rw[h2];simp;omega
 rw[<-h1,<-h2];have b1:ag w w1:=by rw[h1];exact(WL _ _).alloc (WK _) _
 have b2:ag w1 w2:=by rw[h2];exact(WL _ _).alloc (WK _) _
 have b3:∀o,ag w2 (w2.alloc o):=fun o=>(WL _ _).alloc (WK _) _;have g1:Gj w1 w.heap.size 0 (fun _=>none) []:=by rw[h1];exact G.grp_made w
 have g2:G.Grp rG prog 273 29 6 Tp.row w2 (w.heap.size+1) 0 (fun _=>none) []:=by
  have:=G.grp_made (enc:=rG) (P:=prog) (kt:=273) (et:=29) (sz:=6) (cl:=Tp.row) w1;rw[s1]at this;rw[h2];exact this
 rw[<-s2];refine⟨⟨cq,ct,⟨_,heap_alloc_new w2 _⟩,ct,ct,ct,ct,ct,ct,g2.below<|b3 _,World.ownsRow_nil _ _ _ _,World.ownsRow_nil _ _ _ _,fun g e=>by simp[Value.ownBlock]at e⟩,((ht.below b1).below b2).below<|b3 _,(g1.below b2).below<|b3 _,hl,cq⟩
def RO{p:Tp->Bool}{ts:Q05}{k:Nat}(h:k<ts.length):(ts.take<|k+1).all p=((ts.take k).all p&&p ts[k]):=by
 rw[WN h,XU];simp
def TU{p:Tp->Bool}{ts:Q05}{k:Nat}(h:k<ts.length)(hp:p ts[k]=false):ts.all p=false:=by
 rw[List.all_eq_false];exact⟨_,WH h,by rw[hp];decide⟩
def Gu{rs:Q06}(h6:rs.length<=6)(hr:∀r∈rs,r.rows.length<=6):(ay<|ae rs).length<=36:=by
 have key:∀l:List TR,(∀r∈l,r.rows.length<=6)->(ay<|ae l).length<=6*l.length:=by
  intro l
  induction l with
  | nil=>intro _;simp[ay,ae]
  | cons r l ih =>
   intro h;have h1:=ih fun q hq=>h q<|Xu _ hq;have h2:=h r ct;have e:ay (ae (r::l))=kH r.p++ay (ae l):=by simp[ay,ae]
   have e2:(kH r.p).length=r.rows.length:=by unfold kH;rw[Xv];exact dP _
   rw[e,WP,e2,Xq];omega
 have:=key rs hr;omega
def RP{rs:Q06}{σ:Ky->Option Int}(hS:bZ<|ae rs)(h6:rs.length<=6)(hr:∀r∈rs,r.rows.length<=6)(hL:Least (ae rs) fun k=>(σ k).getD 0)(hk:∀k,(∃x,σ k=some x)↔k∈ay (ae rs))(y:Ky):0<=(σ y).getD 0/\(σ y).getD 0<=36:=by
 refine⟨hL.sol.pos y,?_⟩;cases e:σ y with
 | none=>simp
 | some x =>
  have hy:y∈ay (ae rs):=(hk y).1 ⟨x,e⟩;obtain⟨g,hg,hb⟩:=hL.sol.few<|mU hS.2.1;have h1:=hL.low y hy g hg;have h2:=hb y hy;have h3:=Gu h6 hr;simp only[e]at h1;omega
def yK(f:Ky->Int)(n:ByteArray)(r:RR):KL×RR:=((n,f (n,r.name)),r)
def OP(f:Ky->Int){rs:Q06}{k:Nat}(h:k<rs.length):fK f (rs.take<|k+1)=fK f (rs.take k)++rs[k].rows.map (yK f rs[k].name):=by
 unfold fK;rw[WN h,XP];simp[yK]
def Ja(E:List<|KL×RR)(x:KL×RR):kw (E++[x])=max (kw E) (x.1.2+1):=by simp[kw]
def RQ:∃i,prog.info? 39=some i/\i.zero=some (.agg #[.string ⟨#[]⟩,.slice none 0 0])/\i.size=2/\i.bytes=40 :=
 info_parts (P:=prog) (e:=39) (z:=.agg #[.string ⟨#[]⟩,.slice none 0 0]) (size:=2) (bytes:=40) cw
def RU(u:af):(zeroValue 34).run prog u=.ok (.slice none 0 0) u:=cw
def TV(u:af):(zeroValue 2).run prog u=.ok (.int .i64 0) u:=cw
def E5{w:af}{br nr:Nat}{Mr:KL->Option Value}{E:List<|KL×RR}(h:Gj w br nr Mr E)(k:KL):w.ownsRow (br+1) 39 2 ((Mr k).getD<|.slice none 0 0) (G.lookL E k).length (G.flatG IQ<|G.lookL E k):=by
 rcases h.row k with⟨e,e2⟩|⟨v,e,ho⟩
 ·rw[e,e2];exact World.ownsRow_nil _ _ _ _
 rw[e];exact ho
def RV{w W w':af}{D g:Nat}{y x0 x1 x2 x3 x4 x5:Value}(h:W.cell? (am D)=some y/\W.cell? (am g)=some x0/\W.cell? (aq g 1)=some x1/\W.cell? (aq g 2)=some x2/\W.cell? (aq g 3)=some x3/\W.cell? (aq g 4)=some x4/\W.cell? (aq g 5)=some x5/\D<W.heap.size/\g<W.heap.size/\ag w W)(hb:ag W w'):w'.cell? (am D)=some y/\w'.cell? (am g)=some x0/\w'.cell? (aq g 1)=some x1/\w'.cell? (aq g 2)=some x2/\w'.cell? (aq g 3)=some x3/\w'.cell? (aq g 4)=some x4/\w'.cell? (aq g 5)=some x5/\D<w'.heap.size/\g<w'.heap.size/\ag w w':=by
 obtain⟨h0,g0,g1,g2,g3,g4,g5,hn,hm,hB⟩:=h;have hc:∀o,w'.cell? (aq D o)=W.cell? (aq D o):=fun o=>hb.cell (p:=⟨D,o,none⟩) hn;have hd:∀o,w'.cell? (aq g o)=W.cell? (aq g o):=fun o=>hb.cell (p:=⟨g,o,none⟩) hm;exact⟨(hc _).trans h0,(hd _).trans g0,(hd _).trans g1,(hd _).trans g2,(hd _).trans g3,(hd _).trans g4,(hd _).trans g5,WJ hn hb.size,WJ hm hb.size,hB.trans<|hb.mono hB.size⟩
def LG(fit:Tp->Bool)(ad:Q02)(cap:Nat)(rs:Q06)(Yh:Q02)(cap':Nat)(ts:Q05)(w:af)(hlen:rs.length<=1048576)(hs:jX w ad rs)(hl:∀r∈rs,r.light)(hfr:∀r∈rs,r.fits)(hC:Calls prog 112 #[.slice ad rs.length cap] w<|Vp (ae rs) w)(hfb:aG (ae rs)=true->∀t:Tp,t.ok=true->nA (ae rs) t.a t.r ⟨t.c,t.s⟩=fit t)(hlt:ts.length<=1048576)(hst:Sl w Yh ts)(hft:∀x∈ts,x.fits):
  Calls prog 55 #[.slice ad rs.length cap,.slice Yh ts.length cap'] w (Wm fit rs ts w):=by
 have HS:=aZ hs;have HL:=aZ hl;have ZJ:=aZ hfr;have HST:=aZ hst;have Yc:=aZ hft;have HC:=aZ hC;have HFB:=aZ hfb;obtain⟨iR,i0,i1,i2,i3⟩:=RQ;have HIR:=aZ<|And.intro i0<|And.intro i1<|And.intro i2 i3;clear i0 i1 i2 i3;have Yv:ts.length<=maxLen:=cy;clear hs hl hfr hC hfb hst hft;go_enter func55,ntmps55;go_wp2_with fail;refine HC.mono ?_;rintro e w1 ⟨hL,hb1⟩;have HB1:=aZ hb1;clear HC hb1;rcases hL with⟨bS,nS,σ,rfl,hS,hM,hLe,hk⟩|⟨rfl,hno⟩
 ·have HSD:O (aG (ae rs)=true):=aM.2 hS;have HM:=aZ hM;have Zp:=aZ hLe;have HKE:=aZ hk;have hSP:=hS;obtain⟨h6,YN,-⟩:=aW hSP.1;have HTAB:=aZ<|rM hSP.1;have Za:=aZ YN;clear hM hLe hk hS hSP YN;go_wp2_with fail;refine(pG Yh cap' ts _ Yv (HST.below HB1) Yc).mono ?_;rintro e w2 ⟨he,hb2⟩;have HB2:=aZ<|HB1.trans<|hb2.mono HB1.size;have YQ:=aZ<|HM.below hb2;clear hb2 HM;cases h2:dX ts;case false=>
   rw[h2]at he;subst he;have HN:O (dm fit rs ts=false):=by show _=_;unfold dm;rw[h2];simp
   clear h2;go_wp2;exact bodyPost_ret (v:=.tuple #[.pointer none,.bool false]) (by simp[results,Tryz.results55,go_sem]) rfl ⟨HB2,.inl ⟨HN,rfl⟩⟩
  rw[h2]at he;subst he;have HTU:=aZ<|Q7 h2;have HRB:O (dm fit rs ts=ts.all (fit)):=by show _=_;unfold dm;rw[h2,HSD];simp
  have h40:ts.length<=40:=HTU.2.2;have HTBL:=aZ<|lq ad cap rs w2 h6 (HS.below HB2) Za ZJ;clear h2;go_wp2_with fail;refine HTBL.mono ?_;rintro e w3 ⟨rfl,hV3,hb3⟩;have HB3:=aZ<|HB2.trans<|hb3.mono HB2.size;have hbt:w2.heap.size<w3.heap.size:=hV3.lt;have hw2:w.heap.size<=w2.heap.size:=HB2.size;have HM3:=aZ<|YQ.below hb3;have HDN:=aZ<|RN hV3 hbt;obtain⟨bt,hbte⟩:∃b,b=w2.heap.size:=⟨_,rfl⟩;obtain⟨br,hbre⟩:∃b,b=w3.heap.size:=⟨_,rfl⟩;rw[<-hbte]at HDN hbt hw2 ⊢;obtain⟨W,hW⟩:=eQx<|((w3.alloc<|.map #[] 0).alloc<|.map #[] 0).alloc<|.cells #[.map (some bt),.int .i64 0,.map<|some w3.heap.size,.map<|some<|w3.heap.size+1,.slice none 0 0,.slice none 0 0] 194;rw[<-hW]at HDN;have hmm:=@run_makeMap prog;have HBW0:O (ag w3 W):=by
   show Below _ _ _;rw[hW];exact(((WL _ _).alloc (WK _) _).alloc ct _).alloc (by simp;omega) _
  have HMW:=aZ<|HM3.below HBW0;have Yg:=aZ<|HB3.trans<|HBW0.mono HB3.size;have hbS:bS<br:=by rw[hbre];exact HM3.lt
  clear hb3 hV3 HTBL hbte;obtain⟨D,hDe⟩:∃b,b=br+2:=⟨_,rfl⟩;obtain⟨bp,hbpe⟩:∃b,b=br+1:=⟨_,rfl⟩;rw[<-hbre]at HDN;rw[<-hDe,<-hbpe]at HDN;have hDW:D<W.heap.size:=HDN.dat.lt;go_wp2_with fail;rw[<-hW,show w3.heap.size+1+1=D by omega,show w3.heap.size+1=bp by omega,<-hbre];have hwbr:w.heap.size<=br:=by rw[hbre];exact HB3.size
  have hbtr:bt<br:=by rw[hbre];exact hbt
  clear hbt;clear hbre hDe hbpe hW hmm HBW0;go_loopw[37] (fun i wr=>∃k:Nat,k<=ts.length/\i=.int .i64 (k:Int)/\O ((ts.take k).all (fit)=true)/\O (∃Mp vo vu,DatA wr rs D br bp bt 0 0 (fun _=>none) [] (dY<|ts.take k) (fP<|ts.take k) (dC<|ts.take k) k Mp vo vu)/\O (Below br W wr)) (fun i _=>ts.length-(intOf i).toNat);case atStart=>exact⟨0,WO _,rfl,rfl,⟨_,_,_,by simpa[dY,fP,dC] using HDN.out⟩,WL _ _⟩
  obtain⟨k,hk,rfl,Yq,HDA,HB⟩:=hrel;have HBwr:O (ag w wr):=Yg.trans<|HB.mono hwbr;by_cases hkl:k<ts.length
  ·rcases HST.out.below HBwr.out with hnil|⟨b,off,rfl,hb,hr⟩
   ·rw[hnil]at hkl;simp at hkl
   obtain⟨t0,t1,t2,t3,t4,t5⟩:=hr k hkl;have hk1:=bY k;have hk2:(k:Int)<(ts.length:Int):=cq;have HAT:=aZ<|RO (p:=fit) hkl;have HAH:=aZ<|TU (p:=fit) hkl;have HXF:=aZ<|Yc _<|WH hkl;have HXO:=aZ<|HTU.2.1 _<|WH hkl;have HTK:O (ts.take (k+1)=ts.take k++[ts[k]]):=WN hkl;obtain⟨x,hx⟩:=eQx<|ts[k];rw[<-hx]at t0 t1 t2 t3 t4 t5 HAT HAH HXF HXO HTK;obtain⟨W4,YR⟩:=eQx<|wr.alloc<|.cells #[.string x.a,.string x.b,.string x.r,.string x.c,.string x.d,.string x.s] 29;have hb4:ag wr W4:=by rw[YR];exact(WL _ _).alloc (WK _) _
   have hx4:wZ W4 wr.heap.size x:=by rw[YR];exact Am wr x _
   obtain⟨Mp,vo,vu,ZG⟩:=HDA.out;have HD4:=aZ<|ZG.below hb4;have HX4:=aZ hx4;have HBw4:=aZ<|HBwr.trans<|hb4.mono HBwr.size;have HBW4:=aZ (HB.trans<|hb4.mono (by have:=HB.size;have:=HDN.ord;have:=HDN.dat.gt;omega));have HLF:O (∀W',(fun w'=>w'.cell? ⟨D,0,none⟩=some (.map<|some bt)/\w'.cell? ⟨wr.heap.size,0,none⟩=some (.string x.a)/\w'.cell? ⟨wr.heap.size,1,none⟩=some (.string x.b)/\w'.cell? ⟨wr.heap.size,2,none⟩=some (.string x.r)/\w'.cell? ⟨wr.heap.size,3,none⟩=some (.string x.c)/\w'.cell? ⟨wr.heap.size,4,none⟩=some (.string x.d)/\w'.cell? ⟨wr.heap.size,5,none⟩=some (.string x.s)/\D<w'.heap.size/\wr.heap.size<w'.heap.size/\ag W4 w') W'->Calls prog 64 #[.map (some bt),.agg #[.string x.a,.string x.b,.string x.r,.string x.c,.string x.d,.string x.s]] W' fun e w'=>e=.returned (.bool<|fit x)/\ag W' w'):=fun W' hS'=>by
    have hb':=hS'.2.2.2.2.2.2.2.2.2;refine(Ce bt 36 rs ad (lN rs) x.a x.b x.r x.c x.d x.s W' ((HD4.tab).below hb') HTAB (HS.below<|HBw4.trans<|hb'.mono HBw4.size) HL HXF.1 HXF.2.2.1).mono ?_;rintro e w6 ⟨rfl,hb6⟩;exact⟨by rw[HFB HSD x HXO],hb6⟩
   have H0:O ((fun w'=>w'.cell? ⟨D,0,none⟩=some (.map<|some bt)/\w'.cell? ⟨wr.heap.size,0,none⟩=some (.string x.a)/\w'.cell? ⟨wr.heap.size,1,none⟩=some (.string x.b)/\w'.cell? ⟨wr.heap.size,2,none⟩=some (.string x.r)/\w'.cell? ⟨wr.heap.size,3,none⟩=some (.string x.c)/\w'.cell? ⟨wr.heap.size,4,none⟩=some (.string x.d)/\w'.cell? ⟨wr.heap.size,5,none⟩=some (.string x.s)/\D<w'.heap.size/\wr.heap.size<w'.heap.size/\ag W4 w') W4.drew):=⟨HD4.dat.c0,hx4.1,hx4.2.1,hx4.2.2.1,hx4.2.2.2.1,hx4.2.2.2.2.1,hx4.2.2.2.2.2.1,HD4.dat.lt,hx4.2.2.2.2.2.2,(WL _ _).drew⟩;have ho40:=tN<|ts.take k;have hu40:=qH<|ts.take k;have hte:(dY<|ts.take k).length<=40:=by unfold dY;simp;omega
   have htl:(ts.take k).length<=40:=by rw[XC];omega
   have HALK:=Yq;clear hr hx hx4 ZG hb4 HDA HB Yq;cases hfx:fit x;case false=>
    rw[hfx]at HLF;go_wp2_with fail;rw[<-YR];clear YR
    go_region_held3 (fun w'=>w'.cell? ⟨D,0,none⟩=some (.map<|some bt)/\w'.cell? ⟨wr.heap.size,0,none⟩=some (.string x.a)/\w'.cell? ⟨wr.heap.size,1,none⟩=some (.string x.b)/\w'.cell? ⟨wr.heap.size,2,none⟩=some (.string x.r)/\w'.cell? ⟨wr.heap.size,3,none⟩=some (.string x.c)/\w'.cell? ⟨wr.heap.size,4,none⟩=some (.string x.d)/\w'.cell? ⟨wr.heap.size,5,none⟩=some (.string x.s)/\D<w'.heap.size/\wr.heap.size<w'.heap.size/\ag W4 w')
     (first|assumption|exact RV cE hbx|exact H0)
     (first|(go_at_call 64;refine(HLF _ cE).mono ?_;rintro e w' ⟨rfl,hbx⟩))
    rename_i hH;have HBE:O (ag w _):=HBw4.trans<|hH.2.2.2.2.2.2.2.2.2.mono HBw4.size;have HN:O (dm fit rs ts=false):=HRB.trans<|HAH hfx;clear hH;go_wp2;exact bodyPost_ret (v:=.tuple #[.pointer none,.bool false]) (by simp[results,Tryz.results55,go_sem]) rfl ⟨HBE,.inl ⟨HN,rfl⟩⟩
   rw[hfx]at HLF;go_wp2_with fail;rw[<-YR];clear YR
   go_region_held3 (fun w'=>w'.cell? ⟨D,0,none⟩=some (.map<|some bt)/\w'.cell? ⟨wr.heap.size,0,none⟩=some (.string x.a)/\w'.cell? ⟨wr.heap.size,1,none⟩=some (.string x.b)/\w'.cell? ⟨wr.heap.size,2,none⟩=some (.string x.r)/\w'.cell? ⟨wr.heap.size,3,none⟩=some (.string x.c)/\w'.cell? ⟨wr.heap.size,4,none⟩=some (.string x.d)/\w'.cell? ⟨wr.heap.size,5,none⟩=some (.string x.s)/\D<w'.heap.size/\wr.heap.size<w'.heap.size/\ag W4 w')
    (first|assumption|exact RV cE hbx|exact H0)
    (first|(go_at_call 64;refine(HLF _ cE).mono ?_;rintro e w' ⟨rfl,hbx⟩))
   rename_i hH;obtain⟨-,y0,y1,y2,y3,y4,y5,-,yl,hbH⟩:=hH;rename_i w5;have HD5:=aZ<|HD4.below hbH;have HBw5:=aZ<|HBw4.trans<|hbH.mono HBw4.size;have HBW5:=aZ (HBW4.trans<|hbH.mono (by have:=HD4.ord;have:=HD4.dat.gt;have:=HD4.dat.lt;omega));have HALN:O ((ts.take<|k+1).all fit=true):=by show _=_;rw[HAT,HALK,hfx];rfl
   clear hbH;go_wp2_with fail;refine(Ri D br bp _ 0 _ _ _ k Mp vo vu x _ HD5.dat cq cq cq cq HXF).mono ?_;rintro e w6 ⟨rfl,⟨Mp',vo',vu',hd6⟩,hb6⟩;have HDN6:O (∃Mp vo vu,DatA w6 rs D br bp bt 0 0 (fun _=>none) [] (dY<|ts.take<|k+1) (fP<|ts.take<|k+1) (dC<|ts.take<|k+1) (k+1) Mp vo vu):=by
    rw[HTK,Lp,Lm,IK];exact⟨Mp',vo',vu',HD5.tell hd6 hb6⟩
   have HBW6:O (Below br W w6):=HBW5.trans (hb6.mono (by have:=HD4.ord;omega));clear hd6 hb6;go_wp2;go_roundw;case rel=>exact⟨k+1,cq,cx,HALN,HDN6,HBW6⟩
   simp[intOf]<;>omega
  obtain rfl:k=ts.length:=cq;rw[Xa]at Yq HDA;have HRT:O (dm fit rs ts=true):=HRB.trans Yq;obtain⟨Mp,vo,vu,ZG⟩:=HDA.out;have HD0:=aZ ZG;obtain⟨f,hf⟩:∃f:Ky->Int,f=fun k=>(σ k).getD 0:=⟨_,rfl⟩;have HF:=aZ hf;have HLS:O (Least (ae rs) f):=by rw[hf];exact Zp
  have HF36:O (∀y,0<=f y/\f y<=36):=by rw[hf];exact RP (aM.1 HSD) h6 Za Zp HKE
  obtain⟨wz,hwz⟩:=eQx wr;subst hwz;have hkk:decide ((ts.length:Int)<(ts.length:Int))=false:=ct;clear ZG HDA Yq hf Zp HTU HRB;go_wp2_with fail;go_loopw[54] (fun i wr=>∃k:Nat,k<=rs.length/\i=.int .i64 (k:Int)/\O ((fK f<|rs.take k).length<=6*k)/\O (∃nr Mr,nr<=6*k/\DatA wr rs D br bp bt (kw<|fK f<|rs.take k) nr Mr (fK f<|rs.take k) (dY ts) (fP ts) (dC ts) ts.length Mp vo vu)/\O (Below br W wr)) (fun i _=>rs.length-(intOf i).toNat);case atStart=>exact⟨0,WO _,rfl,WO _,⟨0,_,WO _,HD0⟩,HB⟩
  clear HD0 HB HBwr;obtain⟨k,hk,rfl,ZC,HDA,HB⟩:=hrel;have HBwr:O (ag w wr):=Yg.trans<|HB.mono hwbr;by_cases hkl:k<rs.length
  ·rcases HS.out.below HBwr.out with hnil|⟨b,off,rfl,hb,hr,hok⟩
   ·rw[hnil]at hkl;simp at hkl
   obtain⟨t0,t1⟩:=hr k hkl;have hk1:=bY k;have hk2:(k:Int)<(rs.length:Int):=cq;have h6k:rs[k].rows.length<=6:=Za _<|WH hkl;have z0:rs[k].name.size<=maxLen:=(ZJ _<|WH hkl).1;have HFRk:O (∀q∈rs[k].rows,q.fits):=(ZJ _<|WH hkl).2.2;have HSU:=aZ<|OP f hkl;obtain⟨W1,hW1⟩:=eQx<|wr.alloc<|.cells #[.string rs[k].name,.slice rs[k].ad rs[k].rows.length rs[k].cap] 36;have hal:ag wr W1:=by rw[hW1];exact(WL _ _).alloc (WK _) _
   obtain⟨nr,Mr,hnr,ZG⟩:=HDA.out;have HD1:=aZ<|ZG.below hal;have hbrz:br<wr.heap.size:=by have:=ZG.ord;have:=ZG.dat.gt;have:=ZG.dat.lt;omega
   have HB1:O (Below br W W1):=HB.trans<|hal.mono cq;have HT1:O (W1.heap[wr.heap.size]?=some (.cells #[.string rs[k].name,.slice rs[k].ad rs[k].rows.length rs[k].cap] 36 (0,0))):=by rw[hW1];exact heap_alloc_new wr _
   have a1:W1.cell? ⟨wr.heap.size,1,none⟩=some (.slice rs[k].ad rs[k].rows.length rs[k].cap):=by rw[hW1];simp
   clear hr hok hal ZG HDA;go_wp2_with fail;rw[<-hW1];clear hW1 t0 t1 a1 HB;obtain⟨wo,hwo⟩:=eQx wr;subst hwo;go_loopw[61] (fun i w2=>∃j:Nat,j<=rs[k].rows.length/\i=.int .i64 (j:Int)/\O (∃nr Mr,nr<=6*k+j/\DatA w2 rs D br bp bt (kw<|fK f (rs.take k)++(rs[k].rows.take j).map (yK f rs[k].name)) nr Mr (fK f (rs.take k)++(rs[k].rows.take j).map (yK f rs[k].name)) (dY ts) (fP ts) (dC ts) ts.length Mp vo vu)/\O (w2.heap[wo.heap.size]?=some (.cells #[.string rs[k].name,.slice rs[k].ad rs[k].rows.length rs[k].cap] 36 (0,0)))/\O (Below br W w2)) (fun i _=>rs[k].rows.length-(intOf i).toNat);case atStart=>exact⟨0,WO _,rfl,⟨nr,Mr,cq,by simpa using HD1.out⟩,HT1,HB1⟩
   clear HD1 HT1 HB1 HBwr;obtain⟨j,hj,rfl,HDA,HT,HB⟩:=hrel;have HBwr:O (ag w wr):=Yg.trans<|HB.mono hwbr;by_cases hjl:j<rs[k].rows.length
   ·rcases HS.out.below HBwr.out with hnil|⟨b',off',he,hb2,hr,hok⟩
    ·rw[hnil]at hkl;simp at hkl
    injection he with he;injection he with he1 he2;subst he1;subst he2;have ok:=hok rs[k]<|WH hkl;rcases ok with hnil|⟨b2,X7,had,hbb,hr2,-⟩
    ·rw[hnil]at hjl;simp at hjl
    obtain⟨q0,q1⟩:=hr2 j hjl;have z1:rs[k].rows[j].name.size<=maxLen:=(HFRk _<|WH hjl).1;have hj1:=bY j;have hj2:(j:Int)<(rs[k].rows.length:Int):=cq;obtain⟨kl,hkl'⟩:=j3 (rs[k].name,rs[k].rows[j].name) z0 z1;have YU:=aZ hkl';obtain⟨nr,Mr,hnr,ZG⟩:=HDA.out;have HTKE:O ((rs[k].rows.take<|j+1).map (yK f rs[k].name)=(rs[k].rows.take j).map (yK f rs[k].name)++[yK f rs[k].name rs[k].rows[j]]):=by show _=_;rw[WN hjl,Xy];rfl
    have hEl:((rs[k].rows.take j).map<|yK f rs[k].name).length=j:=by rw[Xv,XC];omega
    obtain⟨E0,hE0⟩:=eQx<|fK f (rs.take k)++(rs[k].rows.take j).map (yK f rs[k].name);have hE0l:E0.length<=36:=by rw[hE0,WP,hEl];have:=ZC.out;omega
    rw[<-hE0]at ZG;have HE0:=aZ hE0;obtain⟨fv,hfv⟩:=eQx<|f (rs[k].name,rs[k].rows[j].name);have hfv36:=HF36 (rs[k].name,rs[k].rows[j].name);rw[<-hfv]at hfv36;obtain⟨hfv0,hfv1⟩:=hfv36;have HFV:=aZ hfv;have HLK:O ((jD σ (rs[k].name,rs[k].rows[j].name)).getD (.int .i64 0)=.int .i64 fv):=by
     show _=_;rw[hfv,HF];unfold jD;cases h:σ (rs[k].name,rs[k].rows[j].name)<;>simp[h]
    obtain⟨W2,hW2⟩:=eQx<|wr.alloc<|.cells #[.string rs[k].rows[j].name,.slice rs[k].rows[j].ad rs[k].rows[j].rows.length rs[k].rows[j].cap] 39;obtain⟨W3,hW3⟩:=eQx<|W2.alloc<|.cells #[.string rs[k].name,.int .i64 fv] 197;have hs2:W2.heap.size=wr.heap.size+1:=by rw[hW2];simp
    have hs3:W3.heap.size=wr.heap.size+2:=by rw[hW3];simp;omega
    have hal2:ag wr W2:=by rw[hW2];exact(WL _ _).alloc (WK _) _
    have hal3:ag W2 W3:=by rw[hW3];exact(WL _ _).alloc (WK _) _
    have hwol:wo.heap.size<wr.heap.size:=by
     rcases Nat.lt_or_ge wo.heap.size wr.heap.size with h|h
     ·exact h
     have:=HT.out;rw[Array.getElem?_eq_none h]at this;cases this
    have HFRB:O (G.FreeB Mr wr.heap.size):=ZG.rel.fresh<|WK _;have YQ:O (aN dE prog 146 W2 bS nS<|jD σ):=HMW.of_block (by rw[hal2.block bS cq,HB.block bS hbS]);have HD3:=aZ<|(ZG.below hal2).below hal3;have HB3':O (Below br W W3):=(HB.trans<|hal2.mono cq).trans<|hal3.mono cq;have HT3:O (W3.heap[wo.heap.size]?=some (.cells #[.string rs[k].name,.slice rs[k].ad rs[k].rows.length rs[k].cap] 36 (0,0))):=by show _=_;rw[hal3.block _ cq,hal2.block _ cq];exact HT
    have c0:wr.cell? ⟨wo.heap.size,0,none⟩=some (.string rs[k].name):=by simp[World.cell?,HT.out]
    have c0b:W2.cell? ⟨wo.heap.size,0,none⟩=some (.string rs[k].name):=(hal2.cell (p:=⟨wo.heap.size,0,none⟩)<|by show wo.heap.size<_;omega).trans c0;have g0:W2.cell? ⟨wr.heap.size,0,none⟩=some (.string rs[k].rows[j].name):=by rw[hW2];simp
    have HR2:O (W3.cell? ⟨wr.heap.size,0,none⟩=some (.string rs[k].rows[j].name)/\W3.cell? ⟨wr.heap.size,1,none⟩=some (.slice rs[k].rows[j].ad rs[k].rows[j].rows.length rs[k].rows[j].cap)/\W3.cell? ⟨wr.heap.size+1,0,none⟩=some (.string rs[k].name)/\W3.cell? ⟨wr.heap.size+1,1,none⟩=some (.int .i64 fv)):=by
     show _/\_;rw[hW3,hW2];refine⟨?_,?_,?_,?_⟩<;>simp
    rw[had];clear hr hok hr2 hkl' ZG HDA hal2 hal3 HT HB hE0 hfv hEl;go_wp2_with(first|(at_lookup;rw[<-hW2];refine jZ _ rfl _ _ 169 rfl 146 2 jl underlying169 (TV _) bS nS (jD σ) rfl YQ (rs[k].name,rs[k].rows[j].name) kl rfl YU ?_;rw[HLK]));rw[<-hW2,<-hW3];clear hW2 hW3 g0 c0b c0 q0 q1 HLK YQ;obtain⟨row0,hr0⟩:∃r,r=(Mr (rs[k].name,fv)).getD (.slice none 0 0):=⟨_,rfl⟩;obtain⟨nn,hnn⟩:∃n,n=(G.lookL E0 (rs[k].name,fv)).length:=⟨_,rfl⟩;obtain⟨xs,hxs⟩:∃x,x=G.flatG IQ (G.lookL E0 (rs[k].name,fv)):=⟨_,rfl⟩;have Y7:=aZ hr0;have HNN:=aZ hnn;have ZO:=aZ hxs;have hnl:nn<=36:=by rw[hnn];exact WR (XV _ _) hE0l
    have Y8:O (∀W0:World,ag W3 W0->W0.ownsRow (br+1) 39 2 row0 nn xs):=fun W0 hb=>by rw[hr0,hnn,hxs];exact E5 (HD3.rel.below hb) _
    have HKEY:O (∃kl,keyOf prog 197 (Hw (rs[k].name,fv))=some kl):=MJ _ z0 hfv0 (by show fv<=1000000;omega);have hDl:D<W3.heap.size:=HD3.dat.lt;have hbrD:br<D:=by have:=HD3.ord;have:=HD3.dat.gt;omega
    clear hr0 hnn hxs;obtain⟨C2,hC2⟩:∃C:Nat->Value,C=fun n=>(Value.pointer (some ⟨D,0,none⟩)::.pointer (some ⟨D,0,none⟩)::.pointer (some ⟨D,2,none⟩)::.map (some br)::.agg #[.string rs[k].name,.int .i64 fv]::.agg #[.string rs[k].rows[j].name,.slice rs[k].rows[j].ad rs[k].rows[j].rows.length rs[k].rows[j].cap]::[]).getD n undef:=⟨_,rfl⟩;have Yr:O (C2 0=Value.pointer (some ⟨D,0,none⟩)/\C2 1=Value.pointer (some ⟨D,0,none⟩)/\C2 2=Value.pointer (some ⟨D,2,none⟩)/\C2 3=Value.map (some br)/\C2 4=Value.agg #[.string rs[k].name,.int .i64 fv]/\C2 5=Value.agg #[.string rs[k].rows[j].name,.slice rs[k].rows[j].ad rs[k].rows[j].rows.length rs[k].rows[j].cap]):=by show _/\_;rw[hC2];exact⟨rfl,rfl,rfl,rfl,rfl,rfl⟩
    clear hC2;refine qU 11 _ _ (G.EI C2 #[.string rs[k].rows[j].name,.slice rs[k].rows[j].ad rs[k].rows[j].rows.length rs[k].rows[j].cap] 39 2 W3 br row0 nn xs<|G.Back Hw prog 197 190 br nr Mr (rs[k].name,fv)) cw rfl cw cw (vQ [(76,[0,1,2,3,4,8,5,6,7,9,10])]) (G.ei_start W3) ?stepA ?finA<;>dsimp only[uI];case stepA =>
     rintro i hi o ho l fq w' Yx hI hpre;have HI:=aB hI;have XZ:O (∀e∈o.after,Region.binds .any e=true->l e.on=true):=hpre;clear hI hpre;have hc:=GY (i:=i) cq;clear hi
     repeat' rcases hc with rfl|hc
     ·cases ho;have hA:=HI.early (i:=0) cq Yx;clear XZ HI;refine aa rfl fun K HK=>?_;go_simp;exact HK _ _ ⟨Value.pointer<|some ⟨D,0,none⟩,by simp[upd, *],hA.put cq Yr.1.symm⟩
     ·cases ho;have hA:=HI.early (i:=1) cq Yx;have e0:=(hA.val 0 cq<|XZ ⟨0,.data⟩ ct rfl).trans Yr.1;clear XZ HI;refine aa rfl fun K HK=>?_;simp only[e0];go_simp;exact HK _ _ ⟨Value.pointer<|some ⟨D,0,none⟩,by simp[upd, *],hA.put cq Yr.2.1.symm⟩
     ·cases ho;have hA:=HI.early (i:=2) cq Yx;have e1:=(hA.val 1 cq<|XZ ⟨1,.data⟩ ct rfl).trans Yr.2.1;clear XZ HI;refine aa rfl fun K HK=>?_;simp only[e1];go_simp;exact HK _ _ ⟨Value.pointer<|some ⟨D,2,none⟩,by simp[upd, *],hA.put cq Yr.2.2.1.symm⟩
     ·cases ho;have hA:=HI.early (i:=3) cq Yx;have e2:=(hA.val 2 cq<|XZ ⟨2,.data⟩ ct rfl).trans Yr.2.2.1;have hb':=hA.bel;have d2:=(hb'.cell (p:=⟨D,2,none⟩) hDl).trans HD3.dat.c2;clear XZ HI;refine aa rfl fun K HK=>?_;simp only[e2];go_simp;exact HK _ _ ⟨Value.map<|some br,by simp[upd, *],hA.put cq Yr.2.2.2.1.symm⟩
     ·cases ho;have hA:=HI.early (i:=4) cq Yx;have hb':=hA.bel;have k0:=(hb'.cell (p:=⟨wr.heap.size+1,0,none⟩)<|by show wr.heap.size+1<_;omega).trans HR2.2.2.1;have k1:=(hb'.cell (p:=⟨wr.heap.size+1,1,none⟩)<|by show wr.heap.size+1<_;omega).trans HR2.2.2.2;clear XZ HI;refine aa rfl fun K HK=>?_;go_simp;exact HK _ _ ⟨Value.agg #[.string rs[k].name,.int .i64 fv],by simp[upd, *],hA.put cq Yr.2.2.2.2.1.symm⟩
     ·cases ho;have hA:=HI.early (i:=5) cq Yx;have hb':=hA.bel;have k0:=(hb'.cell (p:=⟨wr.heap.size,0,none⟩)<|by show wr.heap.size<_;omega).trans HR2.1;have k1:=(hb'.cell (p:=⟨wr.heap.size,1,none⟩)<|by show wr.heap.size<_;omega).trans HR2.2.1;clear XZ HI;refine aa rfl fun K HK=>?_;go_simp;exact HK _ _ ⟨Value.agg #[.string rs[k].rows[j].name,.slice rs[k].rows[j].ad rs[k].rows[j].rows.length rs[k].rows[j].cap],by simp[upd, *],hA.put cq Yr.2.2.2.2.2.symm⟩
     ·cases ho;have hA:=HI.early (i:=6) cq Yx;have e5:=(hA.val 5 cq<|XZ ⟨5,.data⟩ ct rfl).trans Yr.2.2.2.2.2;clear XZ HI;refine aa rfl fun K HK=>?_;simp only[e5];go_simp;exact HK _ _ ⟨_,by simp[upd,e5],hA.lay⟩
     ·cases ho;have hA:=HI.early (i:=7) cq Yx;have e3:=(hA.val 3 cq<|XZ ⟨3,.data⟩ ct rfl).trans Yr.2.2.2.1;have e4:=(hA.val 4 cq<|XZ ⟨4,.data⟩ ct rfl).trans Yr.2.2.2.2.1;have hall:∀k,k<=6->l k=true:=fun k hk=>by
       have hc:=VP (i:=k) cq
       repeat' rcases hc with rfl|hc
       ·exact XZ ⟨0,.phase⟩ ct rfl
       ·exact XZ ⟨1,.phase⟩ ct rfl
       ·exact XZ ⟨2,.phase⟩ ct rfl
       ·exact XZ ⟨3,.phase⟩ ct rfl
       ·exact XZ ⟨4,.phase⟩ ct rfl
       ·exact XZ ⟨5,.phase⟩ ct rfl
       exact XZ ⟨6,.phase⟩ ct rfl
      have hD':=HD3.below hA.bel;obtain⟨kl2,hkl2⟩:=HKEY.out;obtain⟨st,w1',hrun,hg,hback⟩:=hD'.rel.map.entry Qy Qx underlying190 RU cy hkl2;rw[<-Y7]at hrun;have hrun':(Instr.mapEntry 190 (.map<|some br)<|Value.agg #[.string rs[k].name,.int .i64 fv]).run prog w'=.ok (.tuple #[row0,goInt st]) w1':=hrun;clear XZ HI;refine aa rfl fun K HK=>?_;simp only[e3,e4];go_simp;exact HK _ _ ⟨_,by simp[upd,e3,e4,goInt],hA.took hall hg hback⟩
     ·cases ho;have h7:=XZ ⟨7,.data⟩ ct rfl;have hB:=HI.midB h7 (i:=8) cq Yx;obtain⟨st,e7⟩:=HI.seven h7;clear XZ HI;refine aa rfl fun K HK=>?_;simp only[e7];go_simp;exact HK _ _ ⟨_,by simp[upd,e7,goInt],hB.first⟩
     ·cases ho;have h7:=XZ ⟨7,.chain⟩ ct rfl;have h8:=XZ ⟨8,.data⟩ ct rfl;have hB:=HI.midB h7 (i:=9) cq Yx;obtain ⟨W0,st,g,hm1,hm2,hm3,hm4,hm5,e7,hm7,hm8,hm9⟩:=hB.mid;have e8:=hm8 h8;have hown:=(Y8 W0 hm1).kept hm5 (by
       rcases h:row0.ownBlock with _|g'
       ·exact .inl rfl
       right;intro e;injection e with e;have:=((Y8 W0 hm1).lt g' h).1;omega)
      have hnew:w'.heap[g]?=some (.cells #[.string rs[k].rows[j].name,.slice rs[k].rows[j].ad rs[k].rows[j].rows.length rs[k].rows[j].cap] 39 (0,0)):=by
       have hgl:g<W0.heap.size:=by
        rcases Nat.lt_or_ge g W0.heap.size with h|h
        ·exact h
        rw[Array.getElem?_eq_none h]at hm4;cases hm4
       rw[hm5.block g hgl (fun e=>by injection e with e;omega)];exact hm4
      clear XZ HI;refine ib w' rfl rfl _ _ 34 rfl (br+1) 39 iR _ 2 40 underlying34 HIR.1 HIR.2.1 HIR.2.2.1 HIR.2.2.2 rfl cv row0 nn xs (by simp[Act.eval,e8]) hown ⟨g,0,none⟩ 1 1 [Value.string rs[k].rows[j].name,.slice rs[k].rows[j].ad rs[k].rows[j].rows.length rs[k].rows[j].cap] (by simp[Act.eval,hm2]) rfl (fun j u hu=>news_of_block hnew j u hu) (by simp[Value.oneCell']) cy cq (by have:=hm5.size;have:=hm1.size;omega) ?_;intro v' w2' hown2 Yl Z8;exact⟨v',by simp[upd,Act.put],hB.app h8 Yl hown2 Z8⟩
     cases ho;have h7:=XZ ⟨7,.data⟩ ct rfl;obtain⟨st,e7⟩:=HI.seven h7;have HI2:=HI.second h7 e7;clear XZ HI;refine aa rfl fun K HK=>?_;simp only[e7];go_simp;exact HK _ _ ⟨_,by simp[upd,e7,goInt],HI2⟩
    case finA =>
     rintro o ho l fq w' hall hI;obtain rfl:=Option.some.inj ho;have hC:=hI.last hall;obtain⟨W0,w1',st,hm1,hm2,hm3,hm4,hm5,hm6,-,hm8⟩:=hC.mid;have e10:=hm8<|hall 10 cq;have e3:=(hC.val 3 cq).trans Yr.2.2.2.1;obtain⟨w7,hrun,hM3,hg3⟩:=hm6 w' (fq 9) (hm3.block br (by have:=hm2.size;have:=hm1.size;omega) (fun e=>by have:=(Y8 W0 hm1).lt br e.symm;omega));have hst:=(HD3.rel.below hm1).step (y:=(rs[k].name,fv)) (s:=rs[k].rows[j]) hm2 (by rw[<-HNN,<-ZO];exact hm4) (by rw[<-Y7];exact hm3) (by rw[<-Y7];exact hm5) hg3 hM3;have HD7:=aZ<|(HD3.below hm1).list hst.1 hst.2;have HB7:O (Below br W w7):=by
      have b0:Below br W W0:=HB3'.trans<|hm1.mono cq;have b1:Below br W w1':=b0.grown hm2 (by have:=hm1.size;omega) (fun i hi=>by injection hi with hi;omega);have b2:Below br W w':=b1.grown hm3 (by have:=hm2.size;have:=hm1.size;omega) (fun i hi=>by have:=((Y8 W0 hm1).lt i hi).1;omega);exact b2.grown hg3 (by have:=hm3.size;have:=hm2.size;have:=hm1.size;omega) (fun i hi=>by injection hi with hi;omega)
     have HT7:O (w7.heap[wo.heap.size]?=some (.cells #[.string rs[k].name,.slice rs[k].ad rs[k].rows.length rs[k].cap] 36 (0,0))):=by
      show _=_;have h0:W0.heap[wo.heap.size]?=_:=(hm1.block wo.heap.size cq).trans HT3;rw[hst.2.block wo.heap.size (by have:=hm1.size;omega) cq (tH (HD3.rel.below hm1) h0 cv)];exact h0
     have Zq:(Instr.entryStore 190 (.map<|some br) (.int .i64 st)<|fq 9).run prog w'=.ok () w7:=hrun;obtain⟨Mn,hMn⟩:∃M,M=l6 Mr (rs[k].name,fv) (some<|fq 9):=⟨_,rfl⟩;rw[<-hMn]at HD7;refine aa rfl fun K HK=>?_;simp only[e3,e10];go_simp;refine HK _ _ ?_;obtain⟨n0,hn0⟩:∃n,n=kw E0:=⟨_,rfl⟩;have HN0:=aZ hn0;rw[<-hn0]at HD7;have d1:=HD7.dat.c1;have fz:=fun o=>lV HD7.dat.kind.choose_spec o;have hDw:=HD7.dat.lt;clear hst hrun Zq hM3 hg3 hm1 hm2 hm3 hm4 hm5 hm6 hm8 hC hI hall ho HK K e3 e10 HD3 HT3 HB3' Y8 Yr HKEY hMn Y7 HNN ZO HR2 HFRB hn0 hDl hbrD;obtain⟨w8,hw8⟩:∃x,x=w7.setCell ⟨D,1,none⟩ (Value.int .i64<|max n0<|fv+1):=⟨_,rfl⟩;have HEQ:O (fK f (rs.take k)++(rs[k].rows.take<|j+1).map (yK f rs[k].name)=E0++[((rs[k].name,fv),rs[k].rows[j])]):=by show _=_;rw[HTKE,<-Xg,<-HE0];unfold yK;rw[<-HFV]
     have HD8:O (∃nr Mr,nr<=6*k+(j+1)/\DatA w8 rs D br bp bt (kw<|fK f (rs.take k)++(rs[k].rows.take<|j+1).map (yK f rs[k].name)) nr Mr (fK f (rs.take k)++(rs[k].rows.take<|j+1).map (yK f rs[k].name)) (dY ts) (fP ts) (dC ts) ts.length Mp vo vu):=by
      rw[HEQ,Ja,<-HN0,hw8];exact⟨nr+1,Mn,cq,HD7.count<|max n0<|fv+1⟩
     have HT8:O (w8.heap[wo.heap.size]?=some (.cells #[.string rs[k].name,.slice rs[k].ad rs[k].rows.length rs[k].cap] 36 (0,0))):=by
      show _=_;rw [hw8,heap_setCell_other w7 ⟨D,1,none⟩ wo.heap.size _ (fun e=>by
       have e':wo.heap.size=D:=e;have h1:=HT7.out;obtain⟨cur,h2⟩:=HD7.dat.kind;rw[e',h2]at h1;injection h1 with h1;injection h1 with _ h3;exact absurd h3 cv)]
      exact HT7
     have HB8:O (Below br W w8):=by show Below _ _ _;rw[hw8];exact HB7.setCell (by show br<=D;have:=HD7.ord;have:=HD7.dat.gt;omega) _
     rw[had]at HT8;clear HD7 HT7 HB7;go_wp2;rw[<-hw8];go_roundw;case rel=>exact⟨j+1,cq,cx,HD8,HT8,HB8⟩
     simp[intOf]<;>omega
   obtain rfl:j=rs[k].rows.length:=cq;have HDN2:O (∃nr Mr,nr<=6*(k+1)/\DatA wr rs D br bp bt (kw<|fK f<|rs.take<|k+1) nr Mr (fK f<|rs.take<|k+1) (dY ts) (fP ts) (dC ts) ts.length Mp vo vu):=by
    obtain⟨nr,Mr,hnr,ZG⟩:=HDA.out;rw[Xa]at ZG;rw[HSU];exact⟨nr,Mr,cq,ZG⟩
   have HEL2:O ((fK f<|rs.take<|k+1).length<=6*(k+1)):=by
    show _<=_;rw[HSU,WP,Xv];have:=ZC.out;omega
   clear HDA HT;go_wp2;go_roundw;case rel=>exact⟨k+1,cq,cx,HEL2,HDN2,HB⟩
   simp[intOf]<;>omega
  obtain rfl:k=rs.length:=cq;rw[Xa]at HDA;obtain⟨nr,Mr,-,ZG⟩:=HDA.out;have HDE:=aZ ZG;clear ZG HDA;go_wp2;exact bodyPost_ret (v:=.tuple #[.pointer (some ⟨D,0,none⟩),.bool true]) (by simp[results,Tryz.results55,go_sem]) rfl ⟨HBwr,.inr ⟨HRT,D,br,bp,bt,nr,ts.length,Mr,Mp,vo,vu,f,rfl,hw2,HLS,HDE⟩⟩
 have HN:O (dm fit rs ts=false):=by
  show _=_;unfold dm;cases hh:aG (ae rs);case false=>simp
  exact absurd (aM.1 hh) hno
 clear hno;go_wp2;exact bodyPost_ret (v:=.tuple #[.pointer none,.bool false]) (by simp[results,Tryz.results55,go_sem]) rfl ⟨HB1,.inl ⟨HN,rfl⟩⟩
def om(known:Q04)(f:Fc)(t:Tp):Bool:=if t.s.toList.isEmpty then t.c.toList==f.c.toList&&t.d.toList==f.d.toList else gJ known ⟨t.c,t.d,t.s,f.c,f.d⟩
def xA(known:Q04)(name:ByteArray)(f:Fc)(t:Tp):Bool:=gJ known ⟨t.c,t.d,name,f.c,f.d⟩
def Jb(l:Q05)(k:K3)(p:Tp->Bool):(G.lookL (dY l) k).any p=l.any fun t=>(t.a.toList==k.1.toList&&t.b.toList==k.2.1.toList&&t.r.toList==k.2.2.toList)&&p t:=by
 induction l with
 | nil=>rfl
 | cons t l ih =>
  have e:dY (t::l)=[(Ox t,t)]++dY l:=rfl;rw[e,G.lookL_append,List.any_append,ih,XY];congr 1;unfold G.lookL Ox;by_cases h:(t.a,t.b,t.r)=k
  ·subst h;simp
  have h2:(t.a.toList==k.1.toList&&t.b.toList==k.2.1.toList&&t.r.toList==k.2.2.toList)=false:=by
   cases hb:(t.a.toList==k.1.toList&&t.b.toList==k.2.1.toList&&t.r.toList==k.2.2.toList);case false=>rfl
   rw[WM,WM,gu,gu,gu]at hb;exact absurd (Prod.ext hb.1.1<|Prod.ext hb.1.2 hb.2) h
  simp[h,h2]
def LH(l:Q05)(known:Q04)(f:Fc):pJ l known f=(G.lookL (dY l) (f.a,f.b,f.r)).any (om known f):=by rw[Jb];rfl
def LJ(l:Q05)(known:Q04)(over name:bN)(f:Fc):ny l known over name f=(G.lookL (dY l) (f.a,f.b,over)).any (xA known name f):=by rw[Jb];rfl
def OQ(st:Q00)(n:Int)(o:Al)(tn:bN)(rows:Q07):((rows.map fun r=>(tn,r.name)).filter fun k=>k.1.toList==o.t.toList&&decide (st k=n))=(G.lookL (rows.map fun r=>((tn,st (tn,r.name)),r)) (o.t,n)).map fun r=>(o.t,r.name):=by
 induction rows with
 | nil=>rfl
 | cons r rows ih =>
  have e:((r::rows).map fun r=>((tn,st (tn,r.name)),r))=[((tn,st (tn,r.name)),r)]++rows.map fun r=>((tn,st (tn,r.name)),r):=rfl;rw[e,G.lookL_append,Xy,<-ih,XN,XX];unfold G.lookL;by_cases h:tn=o.t/\st (tn,r.name)=n
  ·obtain⟨rfl,rfl⟩:=h;simp
  have h1:(tn.toList==o.t.toList&&decide (st (tn,r.name)=n))=false:=by
   cases hb:(tn.toList==o.t.toList&&decide (st (tn,r.name)=n));case false=>rfl
   rw[WM,gu,WW]at hb;exact absurd hb h
  have h2:¬((tn,st (tn,r.name))=(o.t,n)):=fun e=>h ⟨congrArg Prod.fst e,congrArg Prod.snd e⟩;simp[h1,h2]
def Jc(st:Q00)(n:Int)(o:Al)(rs:Q06):Gh (ae rs) st n o=(G.lookL (fK st rs) (o.t,n)).map fun r=>(o.t,r.name):=by
 unfold Gh
 induction rs with
 | nil=>rfl
 | cons t rs ih =>
  have e1:ay (ae (t::rs))=(t.rows.map fun r=>(t.name,r.name))++ay (ae rs):=by
   have:kH t.p=t.rows.map fun r=>(t.name,r.name):=by unfold kH;show List.map _ (df t.rows)=_;unfold df;rw[List.map_map];rfl
   simp[ay,ae,this]
  have e2:fK st (t::rs)=(t.rows.map fun r=>((t.name,st (t.name,r.name)),r))++fK st rs:=rfl;rw[e1,e2,G.lookL_append,List.filter_append,Xy,ih,OQ]
def Jd{α:Type}[DecidableEq α]:∀{a b:List α},a.Nodup->(∀x∈a,x∈b)->a.length<=b.length
 | [],_,_,_=>WO _
 | x::a,b,hd,hs=>by
  obtain⟨h1,h2⟩:=List.nodup_cons.1 hd;have hx:=hs x ct;have:=Jd (a:=a) (b:=b.erase x) h2 fun y hy=>(List.mem_erase_of_ne (fun e:y=x=>h1<|by rw[<-e];exact hy)).2 (hs y<|by simp[hy]);rw[List.length_erase_of_mem hx]at this;have hp:0<b.length:=List.length_pos_of_mem hx;simp only[Xq];omega
def LM(ts:Q0b)(xo xu:Q0a):List Fc:=xo.flatMap fun o=>(ay ts).flatMap fun k=>ui o k.2 xu
def OT{ts:Q0b}{st:Q00}{xo xu:Q0a}{n:Int}{f:Fc}(h:f∈cu ts st xo xu n):f∈LM ts xo xu:=by
 unfold cu yE at h;obtain⟨o,ho,h⟩:=Xd.1 h;obtain⟨k,hk,h⟩:=Xd.1 h;exact Xd.2 ⟨o,ho,Xd.2 ⟨k,(XM.1 hk).1,h⟩⟩
def Cv{α β:Type}(f:α->List β)(m:Nat)(hf:∀a,(f a).length<=m):∀l:List α,(l.flatMap f).length<=l.length*m
 | []=>ct
 | a::l=>by
  have h1:=Cv f m hf l;have h2:=hf a;simp only[Xr,WP,Xq,Nat.add_mul];omega
def RX(ts:Q0b)(xo xu:Q0a):(LM ts xo xu).length<=xo.length*((ay ts).length*xu.length) :=
 Cv _ _ (fun o=>Cv _ _ (fun k=>by unfold ui;rw[Xv];exact WK _) _) _
structure GoodO(ts:Q0b)(xo xu:Q0a)(out:Q04):Prop where
 once:out.Nodup
 sub:∀g∈out,g∈LM ts xo xu
def VN(us:Q0a):List (ByteArray×ByteArray):=us.map fun u=>(u.t,u.s)
def VO(us:Q0a)(x:Q01):Bool:=us.any fun u=>u.t.toList==x.1.toList&&u.s.toList==x.2.toList
def Ap{us:Q0a}{x:Q01}:VO us x=true↔x∈VN us:=by
 unfold VO VN;rw[Xj,WV];constructor
 ·rintro⟨u,hu,h⟩;rw[WM,gu,gu]at h;exact⟨u,hu,Prod.ext h.1 h.2⟩
 rintro⟨u,hu,rfl⟩;exact⟨u,hu,ct⟩
def fQ(us:Q0a)(new:Q04):List Al:=us.filter fun u=>new.any fun g=>g.c.toList==u.t.toList&&g.d.toList==u.s.toList
def E8{us:Q0a}{new:Q04}{x:Q01}:x∈VN (fQ us new)↔x∈VN us/\∃g∈new,g.u=x:=by
 unfold VN fQ;constructor
 ·intro h;obtain⟨u,hu,rfl⟩:=WV.1 h;obtain⟨h1,h2⟩:=XM.1 hu;obtain⟨g,hg,h3⟩:=Xj.1 h2;rw[WM,gu,gu]at h3;exact⟨Xk (f:=fun u:Al=>(u.t,u.s)) h1,g,hg,Prod.ext h3.1 h3.2⟩
 rintro⟨h,g,hg,hx⟩;obtain⟨u,hu,rfl⟩:=WV.1 h;refine WV.2 ⟨u,XM.2 ⟨hu,Xj.2 ⟨g,hg,?_⟩⟩,rfl⟩;rw[WM,gu,gu];exact⟨congrArg Prod.fst hx,congrArg Prod.snd hx⟩
def LP(us:Q0a):fQ us []=[]:=by unfold fQ;rw[List.filter_eq_nil_iff];simp
def LQ{ts:Q0b}{xo xu:Q0a}{n:Int}{st st':Q00}(h:∀k∈ay ts,st k=st' k):cu ts st xo xu n=cu ts st' xo xu n:=by
 unfold cu yE;congr 1
 funext o
 have:Gh ts st n o=Gh ts st' n o:=List.filter_congr fun k hk=>by rw[h k hk]
 rw[this]
set_option linter.unusedSectionVars false
section
variable  [DecidableEq Fc]
def GoodO.run{ts:Q0b}{xo xu:Q0a}{out:Q04}(h:GoodO ts xo xu out){H:List Fc->Fc->Bool}{qs:Q04}(hq:∀g∈qs,g∈LM ts xo xu):GoodO ts xo xu (dU H qs out):=by
 refine⟨yf qs h.once,fun g hg=>?_⟩;obtain⟨n,e,hn⟩:=mV (H:=H) qs out;rw[e]at hg;rcases WU.1 hg with hg|hg
 ·exact h.sub g hg
 exact hq g (hn g hg).1
def GoodO.len{ts:Q0b}{xo xu:Q0a}{out:Q04}(h:GoodO ts xo xu out)(h1:xo.length<=80)(h2:(ay ts).length<=36)(h3:xu.length<=40):out.length<=115200:=by
 have a1:=Jd h.once h.sub;have a2:=RX ts xo xu;have a3:(ay ts).length*xu.length<=36*40:=Nat.mul_le_mul h2 h3;have a4:xo.length*((ay ts).length*xu.length)<=80*(36*40):=Nat.mul_le_mul h1 a3;omega
structure FewA(ts:Q0b)(l:Q05)(st:Q00)(xo xu:Q0a)(n:Int)(us:Q0a)(out:Q04):Prop where
 sub:us=xu.filter fun u:Al=>VO us (u.t,u.s)
 few:Few Fc.u (eH ts l) (cu ts st xo xu n) (VN us) out
variable  {ts:Q0b}{l:Q05}{st:Q00}{xo xu:Q0a}{n:Int}
def FewA.start(out:Q04):FewA ts l st xo xu n xu out:=by
 refine⟨(List.filter_eq_self.2 fun u hu=>Ap.2<|Xk (f:=fun u:Al=>(u.t,u.s)) hu).symm,Few.start fun f hf=>Li hf⟩
def LU{φ υ:Type}[DecidableEq φ]{us:φ->υ}{H:List φ->φ->Bool}(hL:Loc us H){qs:List φ}{users:List υ}{out:List φ}(h:Few us H qs users out)(P:υ->Bool)(hP:∀u,P u=true↔u∈users):dU H (qs.filter fun f=>P<|us f) out=dU H qs out :=
 (nY hL P qs out fun f hf hp=>h.set f hf fun hm=>by rw[(hP _).2 hm]at hp;cases hp).symm
def FewA.round{us:Q0a}{out:Q04}(h:FewA ts l st xo xu n us out):dU (eH ts l) (cu ts st xo us n) out=dU (eH ts l) (cu ts st xo xu n) out:=by
 have h2:=II ts st xo xu n<|VO us;rw[<-h.sub]at h2;rw[<-h2];exact LU (EN ts l) h.few (VO us) fun u=>Ap
def FewA.next{us:Q0a}{out new:Q04}(h:FewA ts l st xo xu n us out)(hn:dU (eH ts l) (cu ts st xo us n) out=out++new):FewA ts l st xo xu n (fQ us new) (out++new):=by
 refine⟨?_,h.few.next (EN ts l) (h.round.symm.trans hn) fun u=>E8⟩;have h1:fQ us new=(xu.filter fun u:Al=>VO us (u.t,u.s)).filter fun u=>new.any fun g=>g.c.toList==u.t.toList&&g.d.toList==u.s.toList:=by rw[<-h.sub];rfl
 rw[List.filter_filter]at h1;refine h1.trans<|List.filter_congr fun u hu=>?_;rw[Xe,Ap,E8,WM,Ap,Xj,and_comm];refine and_congr Iff.rfl ⟨fun⟨g,hg,h3⟩=>⟨g,hg,?_⟩,fun⟨g,hg,h3⟩=>⟨g,hg,?_⟩⟩
 ·rw[WM,gu,gu]at h3;exact Prod.ext h3.1 h3.2
 rw[WM,gu,gu];exact⟨congrArg Prod.fst h3,congrArg Prod.snd h3⟩
def FewA.done{out:Q04}(h:FewA ts l st xo xu n [] out):mX (eH ts l) (cu ts st xo xu n) out=out:=h.few.done
def E9{st st':Q00}(h:∀k∈ay ts,st k=st' k):∀N,ja ts l st xo xu N=ja ts l st' xo xu N
 | 0=>rfl
 | N+1=>by rw[jU,jU,E9 h N,LQ h]
end
def De(out:Q04)(f:Fc):Option Value:=if gJ out f then some (.agg #[]) else none
def RY(out:Q04)(f:Fc):(De out f).isSome=gJ out f:=by unfold De;cases gJ out f<;>rfl
def TW(out:Q04)(f:Fc):∀v,De out f=some v->v=.agg #[]:=fun v h=>by
 unfold De at h;split at h
 ·injection h with h;exact h.symm
 cases h
def xB(b n:Nat)(out:Q04)(f:Fc)(w:af)(hf:f.fits)(hV:aN oH prog 52 w b n<|De out):
  Calls prog 76 #[.map (some b),.agg<|cf f] w (bj w<|.bool<|gJ out f):=by
 have h:=I6 b n (De out) f w hf hV<|TW out f;rw[RY]at h;exact h
def Je{w:af}{bp np:Nat}{Mp:K3->Option Value}{E:List<|K3×Tp}(h:G.Grp rG prog 273 29 6 Tp.row w bp np Mp E)(k:K3):∃ad cap,(Mp k).getD (.slice none 0 0)=.slice ad (G.lookL E k).length cap/\Sl w ad (G.lookL E k):=by
 obtain⟨ad,cap,e,hs,-⟩:=Ip (ts:=G.lookL E k) (ES h k) rfl;exact⟨ad,cap,e,hs⟩
def Fa(p:Tp->Bool){ts:Q05}{k:Nat}(h:k<ts.length):(ts.drop k).any p=(p ts[k] || (ts.drop<|k+1).any p):=by rw[Xw h];rfl
def Jf{ts:Q05}{k:K3}{t:Tp}(h:t∈G.lookL (dY ts) k):t∈ts:=by
 have:=G.mem_lookL.1 h;unfold dY at this;obtain⟨x,hx,e⟩:=WV.1 this;injection e with e1 e2;rw[<-e2];exact hx
def Jg(ts:Q05)(k:K3):(G.lookL (dY ts) k).length<=ts.length:=by
 unfold G.lookL dY;exact WR (XV _ _) ct
section
variable  {w:World}{rs:Q06}{D br bp bt bK nK:Nat}{n1:Int}{nr:Nat}{Mr:KL->Option Value}{Er:List (KL×RR)}{ts:Q05}{xo xu:Q0a}{np:Nat}{Mp:K3->Option Value}{vo vu:Value}{out:Q04}{f:Fc}
def Dw(hD:DatA w rs D br bp bt n1 nr Mr Er (dY ts) xo xu np Mp vo vu)(hK:aN oH prog 52 w bK nK<|De out)(hf:f.fits)(hts:∀t∈ts,t.fits)(htl:ts.length<=1000):
  Calls prog 284 #[.pointer (some<|am D),.agg<|cf f,.map<|some bK] w (bj w<|.bool<|pJ ts out f):=by
 obtain⟨kl,hkl⟩:=FT (f.a,f.b,f.r) hf.1 hf.2.1 hf.2.2.1;obtain⟨adL,capL,hgd,hsl⟩:=Je hD.dat.told (f.a,f.b,f.r);have HL:=bu<|LH ts out f;have hll:=Jg ts (f.a,f.b,f.r);have HFL:O (∀t∈G.lookL (dY ts) (f.a,f.b,f.r),t.fits):=fun t ht=>hts t<|Jf ht;obtain⟨L,hLe⟩:=eQx<|G.lookL (dY ts) (f.a,f.b,f.r);rw[<-hLe]at hgd hsl HL hll HFL;obtain⟨W0,hW0⟩:=eQx<|w.alloc<|.cells (cf f) 52;have HB0:=tZ hW0;have c0:W0.cell? (a7 w)=some (.string f.a):=by rw[hW0];simp
 have c1:W0.cell? (a8 w 1)=some (.string f.b):=by rw[hW0];simp
 have c2:W0.cell? (a8 w 2)=some (.string f.r):=by rw[hW0];simp
 have c3:W0.cell? (a8 w 3)=some (.string f.c):=by rw[hW0];simp
 have c4:W0.cell? (a8 w 4)=some (.string f.d):=by rw[hW0];simp
 have d3:=HB0.cell (p:=⟨D,3,none⟩) hD.dat.lt |>.trans hD.dat.c3;have hlk:∀m,(Instr.lookup 191 (.map<|some bp) (.agg #[.string f.a,.string f.b,.string f.r]) false).run prog (W0.drewN m)=.ok (.slice adL L.length capL) (W0.drewN m):=fun m=>by
  have h:=((hD.dat.told.map.below HB0).below<|below_drewN (WL _ _) m).look (t:=191) (e:=25) UO underlying191 (Lr _) (x:=(f.a,f.b,f.r)) hkl;rw[hgd]at h;exact h
 have HSL:=bu hsl;have HKN:=bu hK;have HF:=bu hf;have Zb:O (ac W0 w.heap.size 3 (.string f.c)/\ac W0 w.heap.size 4 (.string f.d)/\w.heap.size<W0.heap.size):=⟨c3,c4,by rw[hW0];simp⟩;clear hsl hK hf hLe hgd hkl;go_enter func284,ntmps284;go_wp2_with fail;rw[<-hW0];clear hW0;go_quiet (fail);clear c0 c1 c2 c3 c4 d3 hlk;go_wp2;go_loopw[20] (fun i wr=>∃k:Nat,k<=L.length/\i=.int .i64 k/\O ((L.drop k).any (om out f)=L.any (om out f))/\O (ag w wr)/\O (wr.cell? (a8 w 3)=some (.string f.c)/\wr.cell? (a8 w 4)=some (.string f.d)/\w.heap.size<wr.heap.size)) (fun i _=>L.length-(intOf i).toNat);case atStart=>exact⟨0,WO _,rfl,rfl,below_drewN HB0 _,Zb⟩
 clear Zb HB0;obtain⟨k,hk,rfl,HP,HB,HC⟩:=hrel;by_cases hlt:k<L.length
 ·obtain⟨bT,offT,hadT,⟨a0,a1,a2,a3,a4,a5⟩,hbT⟩:=Sl.at0 (HSL.below HB) hlt;obtain⟨c3,c4,cl⟩:=HC.out;have hi1:=bY k;have hi2:(k:Int)<(L.length:Int):=cq;have HTF:=bu<|HFL _<|WH hlt;have HD2:O (L.any (om out f)=(om out f L[k] || (L.drop<|k+1).any (om out f))):=by show _=_;rw[<-HP];exact Fa _ hlt
  obtain⟨t,ht⟩:=eQx<|L[k];rw[<-ht]at a0 a1 a2 a3 a4 a5 HTF HD2;clear ht;obtain⟨W1,hW1⟩:=eQx<|wr.alloc<|.cells (cg t) 29;have HBr:=tZ hW1;have HB1:=bu<|HB.trans<|HBr.mono HB.size;have YH:O (ac W1 w.heap.size 3 (.string f.c)/\ac W1 w.heap.size 4 (.string f.d)/\w.heap.size<W1.heap.size):=⟨mK HBr cl c3,mK HBr cl c4,WJ cl HBr.size⟩;subst hadT;cases hs:t.s.toList.isEmpty;case true=>
   have hs2:(t.s.toList==[])=true:=by rw[MX];exact hs
   have HTT:O (om out f t=V8 t.c t.d f.c f.d):=by show _=_;unfold om;rw[if_pos hs];rfl
   cases hu:V8 t.c t.d f.c f.d;case true=>
    have heq:=Cc _ _ _ _ hu;have HN:O (pJ ts out f=true):=by show _=_;rw[HL,HD2,HTT,hu];rfl
    clear hu hs;go_wp2;rw[<-hW1];go_ret;exact⟨by rw[HN];rfl,HB1⟩
   have heq:=Cc _ _ _ _ hu;have Ye:O ((L.drop<|k+1).any (om out f)=L.any (om out f)):=by show _=_;rw[HD2,HTT,hu];rfl
   clear hu hs;go_wp2;rw[<-hW1];clear hW1;go_roundw;case rel=>exact⟨k+1,cq,cx,Ye,HB1,YH⟩
   simp[intOf]<;>omega
  have hs2:(t.s.toList==[])=false:=by rw[MX];exact hs
  have HTT:O (om out f t=gJ out ⟨t.c,t.d,t.s,f.c,f.d⟩):=by show _=_;unfold om;rw[if_neg (by rw[hs];decide)]
  clear hs;go_wp2_with fail;rw[<-hW1];clear hW1;refine(xB bK nK out ⟨t.c,t.d,t.s,f.c,f.d⟩ W1 ⟨HTF.2.2.2.1,HTF.2.2.2.2.1,HTF.2.2.2.2.2,HF.2.2.2.1,HF.2.2.2.2⟩<|HKN.below HB1).mono ?_;rintro e w2 ⟨rfl,hb2⟩;have HB2:=bu<|HB1.trans<|hb2.mono HB1.size;have Yr:O (ac w2 w.heap.size 3 (.string f.c)/\ac w2 w.heap.size 4 (.string f.d)/\w.heap.size<w2.heap.size):=⟨mK hb2 YH.2.2 YH.1,mK hb2 YH.2.2 YH.2.1,WJ YH.2.2 hb2.size⟩;clear hb2;cases hh:gJ out ⟨t.c,t.d,t.s,f.c,f.d⟩;case true=>
   have HN:O (pJ ts out f=true):=by show _=_;rw[HL,HD2,HTT,hh];rfl
   go_wp2;go_ret;exact⟨by rw[HN];rfl,HB2⟩
  have Ye:O ((L.drop<|k+1).any (om out f)=L.any (om out f)):=by show _=_;rw[HD2,HTT,hh];rfl
  go_wp2;go_roundw;case rel=>exact⟨k+1,cq,cx,Ye,HB2,Yr⟩
  simp[intOf]<;>omega
 have HN:O (pJ ts out f=false):=by show _=_;rw[HL,<-HP,Xm cq];rfl
 go_wp2;go_ret;exact⟨by rw[HN];rfl,HB⟩
def Dx(hD:DatA w rs D br bp bt n1 nr Mr Er (dY ts) xo xu np Mp vo vu)(hK:aN oH prog 52 w bK nK<|De out)(x:ER)(hxf:x.e.over.size<=maxLen/\x.e.name.size<=maxLen)(hf:f.fits)(hts:∀t∈ts,t.fits)(htl:ts.length<=1000):
  Calls prog 285 #[.pointer (some<|am D),.agg<|ce x,.agg<|cf f,.map<|some bK] w (bj w<|.bool<|ny ts out x.e.over x.e.name f):=by
 obtain⟨kl,hkl⟩:=FT (f.a,f.b,x.e.over) hf.1 hf.2.1 hxf.1;obtain⟨adL,capL,hgd,hsl⟩:=Je hD.dat.told (f.a,f.b,x.e.over);have HL:=bu<|LJ ts out x.e.over x.e.name f;have hll:=Jg ts (f.a,f.b,x.e.over);have HFL:O (∀t∈G.lookL (dY ts) (f.a,f.b,x.e.over),t.fits):=fun t ht=>hts t<|Jf ht;obtain⟨L,hLe⟩:=eQx<|G.lookL (dY ts) (f.a,f.b,x.e.over);rw[<-hLe]at hgd hsl HL hll HFL;obtain⟨W0,hW0⟩:=eQx<|(w.alloc<|.cells (ce x) 43).alloc<|.cells (cf f) 52;have HB0:O (ag w W0):=by show Below _ _ _;rw[hW0];exact((WL _ _).alloc (WK _) _).alloc ct _
 have c0:W0.cell? (am<|w.heap.size+1)=some (.string f.a):=by rw[hW0];simp
 have c1:W0.cell? (aq (w.heap.size+1) 1)=some (.string f.b):=by rw[hW0];simp
 have c2:W0.cell? (aq (w.heap.size+1) 2)=some (.string f.r):=by rw[hW0];simp
 have c3:W0.cell? (aq (w.heap.size+1) 3)=some (.string f.c):=by rw[hW0];simp
 have c4:W0.cell? (aq (w.heap.size+1) 4)=some (.string f.d):=by rw[hW0];simp
 have x2:W0.cell? (a8 w 2)=some (.string x.e.over):=by rw[hW0];simp
 have x3:W0.cell? (a8 w 3)=some (.string x.e.name):=by rw[hW0];simp
 have d3:=HB0.cell (p:=⟨D,3,none⟩) hD.dat.lt |>.trans hD.dat.c3;have hlk:∀m,(Instr.lookup 191 (.map<|some bp) (.agg #[.string f.a,.string f.b,.string x.e.over]) false).run prog (W0.drewN m)=.ok (.slice adL L.length capL) (W0.drewN m):=fun m=>by
  have h:=((hD.dat.told.map.below HB0).below<|below_drewN (WL _ _) m).look (t:=191) (e:=25) UO underlying191 (Lr _) (x:=(f.a,f.b,x.e.over)) hkl;rw[hgd]at h;exact h
 have HSL:=bu hsl;have HKN:=bu hK;have HF:=bu hf;have HXF:=bu hxf;have Zb:O (ac W0 (w.heap.size+1) 3 (.string f.c)/\ac W0 (w.heap.size+1) 4 (.string f.d)/\ac W0 w.heap.size 3 (.string x.e.name)/\w.heap.size+1<W0.heap.size):=⟨c3,c4,x3,by rw[hW0];simp⟩;clear hsl hK hf hLe hgd hkl;go_enter func285,ntmps285;go_wp2_with fail;rw[<-hW0];clear hW0;go_quiet (fail);clear c0 c1 c2 c3 c4 d3 x2 x3 hlk;go_wp2;go_loopw[22] (fun i wr=>∃k:Nat,k<=L.length/\i=.int .i64 k/\O ((L.drop k).any (xA out x.e.name f)=L.any (xA out x.e.name f))/\O (ag w wr)/\O (wr.cell? (aq (w.heap.size+1) 3)=some (.string f.c)/\wr.cell? (aq (w.heap.size+1) 4)=some (.string f.d)/\wr.cell? (a8 w 3)=some (.string x.e.name)/\w.heap.size+1<wr.heap.size)) (fun i _=>L.length-(intOf i).toNat);case atStart=>exact⟨0,WO _,rfl,rfl,below_drewN HB0 _,Zb⟩
 clear Zb HB0;obtain⟨k,hk,rfl,HP,HB,HC⟩:=hrel;by_cases hlt:k<L.length
 ·obtain⟨bT,offT,hadT,⟨a0,a1,a2,a3,a4,a5⟩,hbT⟩:=Sl.at0 (HSL.below HB) hlt;obtain⟨c3,c4,x3,cl⟩:=HC.out;have cl0:cW w wr:=cq;have hi1:=bY k;have hi2:(k:Int)<(L.length:Int):=cq;have HTF:=bu<|HFL _<|WH hlt;have HD2:O (L.any (xA out x.e.name f)=(xA out x.e.name f L[k] || (L.drop<|k+1).any (xA out x.e.name f))):=by show _=_;rw[<-HP];exact Fa _ hlt
  obtain⟨t,ht⟩:=eQx<|L[k];rw[<-ht]at a0 a1 a2 a3 a4 a5 HTF HD2;clear ht;obtain⟨W1,hW1⟩:=eQx<|wr.alloc<|.cells (cg t) 29;have HBr:=tZ hW1;have HB1:=bu<|HB.trans<|HBr.mono HB.size;have YH:O (ac W1 (w.heap.size+1) 3 (.string f.c)/\ac W1 (w.heap.size+1) 4 (.string f.d)/\ac W1 w.heap.size 3 (.string x.e.name)/\w.heap.size+1<W1.heap.size):=⟨mK HBr cl c3,mK HBr cl c4,mK HBr cl0 x3,WJ cl HBr.size⟩;subst hadT;have HTT:O (xA out x.e.name f t=gJ out ⟨t.c,t.d,x.e.name,f.c,f.d⟩):=rfl;go_wp2_with fail;rw[<-hW1];clear hW1;refine(xB bK nK out ⟨t.c,t.d,x.e.name,f.c,f.d⟩ W1 ⟨HTF.2.2.2.1,HTF.2.2.2.2.1,HXF.2,HF.2.2.2.1,HF.2.2.2.2⟩<|HKN.below HB1).mono ?_;rintro e w2 ⟨rfl,hb2⟩;have HB2:=bu<|HB1.trans<|hb2.mono HB1.size;have Yr:O (ac w2 (w.heap.size+1) 3 (.string f.c)/\ac w2 (w.heap.size+1) 4 (.string f.d)/\ac w2 w.heap.size 3 (.string x.e.name)/\w.heap.size+1<w2.heap.size):=⟨mK hb2 YH.2.2.2 YH.1,mK hb2 YH.2.2.2 YH.2.1,mK hb2 (by have:=YH.2.2.2;omega) YH.2.2.1,WJ YH.2.2.2 hb2.size⟩;clear hb2;cases hh:gJ out ⟨t.c,t.d,x.e.name,f.c,f.d⟩;case true=>
   have HN:O (ny ts out x.e.over x.e.name f=true):=by show _=_;rw[HL,HD2,HTT,hh];rfl
   go_wp2;go_ret;exact⟨by rw[HN];rfl,HB2⟩
  have Ye:O ((L.drop<|k+1).any (xA out x.e.name f)=L.any (xA out x.e.name f)):=by show _=_;rw[HD2,HTT,hh];rfl
  go_wp2;go_roundw;case rel=>exact⟨k+1,cq,cx,Ye,HB2,Yr⟩
  simp[intOf]<;>omega
 have HN:O (ny ts out x.e.over x.e.name f=false):=by show _=_;rw[HL,<-HP,Xm cq];rfl
 go_wp2;go_ret;exact⟨by rw[HN];rfl,HB⟩
end
structure NodOk(rows:Q08):Prop where
 len:rows.length<=1000
 kids:∀q∈rows,q.e.kids.length<=1000
 low:jF (ai rows)
 two:∀e∈ai rows,e.kind=6->2<=e.kids.length
def NodOk.kid{rows:Q08}(h:NodOk rows){n:Nat}(hn:n<rows.length){i:Int}(hi:i∈rows[n].e.kids):0<=i/\i<(n:Int):=by
 have:=h.low n (by rw[au];exact hn) i;have e:(ai rows)[n]'(by rw[au];exact hn)=rows[n].e:=by simp[ai]
 rw[e]at this;exact this hi
def zW(B:Nat):Value:=.func (Fn.func 282) #[] #[.pointer (some ⟨B,0,none⟩),.pointer<|some ⟨B+1,0,none⟩,.pointer<|some ⟨B+1+1,0,none⟩,.pointer<|some ⟨B+1+1+1,0,none⟩]
def JW(w:World)(D:Nat)(vE:Value)(f:Fc)(bK:Nat)(x:ER):World :=
 (((((w.alloc<|.cells #[.pointer (some ⟨D,0,none⟩)] 92).alloc<|.cells #[vE] 37).alloc<|.cells #[.string f.a,.string f.b,.string f.r,.string f.c,.string f.d] 52).alloc<|.cells #[.map (some bK)] 115).alloc<|.cells #[.int .i64 x.e.kind,.slice x.adA x.e.allow.length x.capA,.string x.e.over,.string x.e.name,.slice x.adK x.e.kids.length x.capK] 43).alloc (.cells #[zW w.heap.size] 358)
structure NdB(w:World)(B D:Nat)(vE:Value)(f:Fc)(bK:Nat)(x:ER):Prop where
 lt:B+1+1+1+1+1<w.heap.size
 d:w.cell? ⟨B,0,none⟩=some (.pointer<|some ⟨D,0,none⟩)
 e:w.cell? ⟨B+1,0,none⟩=some vE
 f0:w.cell? ⟨B+1+1,0,none⟩=some (.string f.a)
 f1:w.cell? ⟨B+1+1,1,none⟩=some (.string f.b)
 f2:w.cell? ⟨B+1+1,2,none⟩=some (.string f.r)
 f3:w.cell? ⟨B+1+1,3,none⟩=some (.string f.c)
 f4:w.cell? ⟨B+1+1,4,none⟩=some (.string f.d)
 k:w.cell? ⟨B+1+1+1,0,none⟩=some (.map<|some bK)
 x0:w.cell? ⟨B+1+1+1+1,0,none⟩=some (.int .i64 x.e.kind)
 x1:w.cell? ⟨B+1+1+1+1,1,none⟩=some (.slice x.adA x.e.allow.length x.capA)
 x2:w.cell? ⟨B+1+1+1+1,2,none⟩=some (.string x.e.over)
 x3:w.cell? ⟨B+1+1+1+1,3,none⟩=some (.string x.e.name)
 x4:w.cell? ⟨B+1+1+1+1,4,none⟩=some (.slice x.adK x.e.kids.length x.capK)
 v:w.cell? ⟨B+1+1+1+1+1,0,none⟩=some (zW B)
def NdB.below{w w':af}{B D:Nat}{vE:Value}{f:Fc}{bK:Nat}{x:ER}(h:NdB w B D vE f bK x)(hB:ag w w'):NdB w' B D vE f bK x:=by
 have hl:=h.lt;have c:∀i o,i<=5->w'.cell? (aq (B+i) o)=w.cell? (aq (B+i) o):=fun i o hi=>hB.cell (p:=⟨B+i,o,none⟩) (show B+i<_ by omega);have c0:∀o,w'.cell? (aq B o)=w.cell? (aq B o):=fun o=>hB.cell (p:=⟨B,o,none⟩) (show B<_ by omega);exact⟨WJ hl hB.size,(c0 _).trans h.d,(c 1 _ cq).trans h.e,(c 2 _ cq).trans h.f0,(c 2 _ cq).trans h.f1,(c 2 _ cq).trans h.f2,(c 2 _ cq).trans h.f3,(c 2 _ cq).trans h.f4,(c 3 _ cq).trans h.k,(c 4 _ cq).trans h.x0,(c 4 _ cq).trans h.x1,(c 4 _ cq).trans h.x2,(c 4 _ cq).trans h.x3,(c 4 _ cq).trans h.x4,(c 5 _ cq).trans h.v⟩
def mD(w:af)(D:Nat)(vE:Value)(f:Fc)(bK:Nat)(x:ER):ag w (JW w D vE f bK x):=by
 unfold JW;exact((((((WL _ _).alloc (WK _) _).alloc ct _).alloc (by simp;omega) _).alloc (by simp;omega) _).alloc (by simp;omega) _).alloc (by simp;omega) _
def pK(w:af)(cs:Array Value)(T:TypeId)(o:Nat):(w.alloc<|.cells cs T).cell? (aq w.heap.size o)=cs[o]?:=World.cell?_alloc_mark w cs T (0,0) o
def mE(w:af)(D:Nat)(vE:Value)(f:Fc)(bK:Nat)(x:ER):NdB (JW w D vE f bK x) w.heap.size D vE f bK x:=by
 unfold JW;obtain⟨w1,h1⟩:∃u,u=w.alloc (.cells #[.pointer (some<|am D)] 92):=⟨_,rfl⟩;have s1:w1.heap.size=w.heap.size+1:=by rw[h1,World.size_alloc]
 have b1:ag w w1:=by rw[h1];exact(WL _ _).alloc (WK _) _
 obtain⟨w2,h2⟩:∃u,u=w1.alloc (.cells #[vE] 37):=⟨_,rfl⟩;have s2:w2.heap.size=w.heap.size+1+1:=by rw[h2,World.size_alloc,s1]
 have b2:ag w1 w2:=by rw[h2];exact(WL _ _).alloc (WK _) _
 obtain⟨w3,h3⟩:∃u,u=w2.alloc (.cells (cf f) 52):=⟨_,rfl⟩;have s3:w3.heap.size=w.heap.size+1+1+1:=by rw[h3,World.size_alloc,s2]
 have b3:ag w2 w3:=by rw[h3];exact(WL _ _).alloc (WK _) _
 obtain⟨w4,h4⟩:∃u,u=w3.alloc (.cells #[.map (some bK)] 115):=⟨_,rfl⟩;have s4:w4.heap.size=w.heap.size+1+1+1+1:=by rw[h4,World.size_alloc,s3]
 have b4:ag w3 w4:=by rw[h4];exact(WL _ _).alloc (WK _) _
 obtain⟨w5,h5⟩:∃u,u=w4.alloc (.cells (ce x) 43):=⟨_,rfl⟩;have s5:w5.heap.size=w.heap.size+1+1+1+1+1:=by rw[h5,World.size_alloc,s4]
 have b5:ag w4 w5:=by rw[h5];exact(WL _ _).alloc (WK _) _
 obtain⟨w6,h6⟩:∃u,u=w5.alloc (.cells #[zW w.heap.size] 358):=⟨_,rfl⟩;have s6:w6.heap.size=w.heap.size+1+1+1+1+1+1:=by rw[h6,World.size_alloc,s5]
 have b6:ag w5 w6:=by rw[h6];exact(WL _ _).alloc (WK _) _
 rw[<-h1,<-h2,<-h3,<-h4,<-h5,<-h6];have c0:∀o,w6.cell? (a8 w o)=(#[.pointer (some<|am D)]:Array Value)[o]?:=fun o=>by
  have e:w1.cell? (a8 w o)=(#[.pointer (some<|am D)]:Array Value)[o]?:=by rw[h1];exact pK _ _ _ o
  rw[b6.cell (p:=⟨w.heap.size,o,none⟩) (show w.heap.size<_ by omega),b5.cell (p:=⟨w.heap.size,o,none⟩) (show w.heap.size<_ by omega),b4.cell (p:=⟨w.heap.size,o,none⟩) (show w.heap.size<_ by omega),b3.cell (p:=⟨w.heap.size,o,none⟩) (show w.heap.size<_ by omega),b2.cell (p:=⟨w.heap.size,o,none⟩) (show w.heap.size<_ by omega)];exact e
 have c1:∀o,w6.cell? (aq (w.heap.size+1) o)=(#[vE]:Array Value)[o]?:=fun o=>by
  have e:w2.cell? (aq (w.heap.size+1) o)=(#[vE]:Array Value)[o]?:=by rw[h2,<-s1];exact pK _ _ _ o
  rw[b6.cell (p:=⟨w.heap.size+1,o,none⟩) (show w.heap.size+1<_ by omega),b5.cell (p:=⟨w.heap.size+1,o,none⟩) (show w.heap.size+1<_ by omega),b4.cell (p:=⟨w.heap.size+1,o,none⟩) (show w.heap.size+1<_ by omega),b3.cell (p:=⟨w.heap.size+1,o,none⟩) (show w.heap.size+1<_ by omega)];exact e
 have c2:∀o,w6.cell? (aq (w.heap.size+1+1) o)=((cf f):Array Value)[o]?:=fun o=>by
  have e:w3.cell? (aq (w.heap.size+1+1) o)=((cf f):Array Value)[o]?:=by rw[h3,<-s2];exact pK _ _ _ o
  rw[b6.cell (p:=⟨w.heap.size+1+1,o,none⟩) (show w.heap.size+1+1<_ by omega),b5.cell (p:=⟨w.heap.size+1+1,o,none⟩) (show w.heap.size+1+1<_ by omega),b4.cell (p:=⟨w.heap.size+1+1,o,none⟩) (show w.heap.size+1+1<_ by omega)];exact e
 have c3:∀o,w6.cell? (aq (w.heap.size+1+1+1) o)=(#[.map (some bK)]:Array Value)[o]?:=fun o=>by
  have e:w4.cell? (aq (w.heap.size+1+1+1) o)=(#[.map (some bK)]:Array Value)[o]?:=by rw[h4,<-s3];exact pK _ _ _ o
  rw[b6.cell (p:=⟨w.heap.size+1+1+1,o,none⟩) (show w.heap.size+1+1+1<_ by omega),b5.cell (p:=⟨w.heap.size+1+1+1,o,none⟩) (show w.heap.size+1+1+1<_ by omega)];exact e
 have c4:∀o,w6.cell? (aq (w.heap.size+1+1+1+1) o)=((ce x):Array Value)[o]?:=fun o=>by
  have e:w5.cell? (aq (w.heap.size+1+1+1+1) o)=((ce x):Array Value)[o]?:=by rw[h5,<-s4];exact pK _ _ _ o
  rw[b6.cell (p:=⟨w.heap.size+1+1+1+1,o,none⟩) (show w.heap.size+1+1+1+1<_ by omega)];exact e
 have c5:∀o,w6.cell? (aq (w.heap.size+1+1+1+1+1) o)=(#[zW w.heap.size]:Array Value)[o]?:=fun o=>by
  have e:w6.cell? (aq (w.heap.size+1+1+1+1+1) o)=(#[zW w.heap.size]:Array Value)[o]?:=by rw[h6,<-s5];exact pK _ _ _ o
  exact e
 exact⟨cq,c0 0,c1 0,c2 0,c2 1,c2 2,c2 3,c2 4,c3 0,c4 0,c4 1,c4 2,c4 3,c4 4,c5 0⟩
def LV(D:Nat)(vE:Value)(f:Fc)(bK:Nat)(w:World)(i:Int)(b:Bool):Prop:=∀w1:World,ag w w1->Calls prog 232 #[.pointer (some ⟨D,0,none⟩),vE,.int .i64 i,.agg #[.string f.a,.string f.b,.string f.r,.string f.c,.string f.d],.map<|some bK] w1 fun e w'=>e=.returned (.bool b)/\ag w1 w'
def qI{w w1:af}{B D:Nat}{vE:Value}{f:Fc}{bK:Nat}{x:ER}{i:Int}{b:Bool}(hK:LV D vE f bK w i b)(hb:ag w w1)(hB:NdB w1 B D vE f bK x):
  Calls prog 282 #[.int .i64 i,.pointer<|some<|am B,.pointer<|some<|am<|B+1,.pointer<|some<|am<|B+1+1,.pointer<|some<|am<|B+1+1+1] w1 (bj w1<|.bool b):=by
 have HC:=bu<|hK w1 hb;obtain⟨-,d,e,f0,f1,f2,f3,f4,k,-⟩:=hB;clear hK;go_enter func282,ntmps282;go_wp2_with fail;refine HC.mono ?_;rintro e w2 ⟨rfl,hb2⟩;have HB:=bu hb2;clear hb2;go_wp2;go_ret;exact⟨rfl,HB⟩
def xC{w w1:af}{B D:Nat}{vE:Value}{f:Fc}{bK:Nat}{x:ER}{i:Int}{b:Bool}(hK:LV D vE f bK w i b)(hb:ag w w1)(hB:NdB w1 B D vE f bK x):
  Calls prog 283 #[.int .i64 i,.pointer<|some<|am<|B+1+1+1+1+1] w1 (bj w1<|.bool<|!b):=by
 have HC:=bu<|qI hK hb hB;have hv:=hB.v;unfold zW at hv;clear hK hB;go_enter func283,ntmps283;go_wp2_with fail;refine HC.mono ?_;rintro e w2 ⟨rfl,hb2⟩;have HB:=bu hb2;clear hb2;go_wp2;go_ret;exact⟨rfl,HB⟩
def Vq(xs:Array Value)(u:af):(callFunc 282 xs).run prog u=.ok (.enter 282 xs) u:=cw
def Vr(xs:Array Value)(u:af):(callFunc 283 xs).run prog u=.ok (.enter 283 xs) u:=cw
def OU(p:Int->Bool){zs:List Int}{k:Nat}(h:k<zs.length):(zs.drop k).any p=(p zs[k] || (zs.drop<|k+1).any p):=by rw[Xw h];rfl
def LW(FC:Nat)(rc cp:Array Value)(p:Int->Bool)(ad:Q02)(cap:Nat)(xs:List Int)(w:af)(hlen:bh xs)(hs:sK w ad xs)
  (hrun:∀(ys:Array Value) (u:World),(callFunc FC ys).run prog u=.ok (.enter FC ys) u) (hp:∀x∈xs,∀w1:World,ag w w1->Calls prog FC (rc.push (.int .i64 x)++cp) w1 (bj w1<|.bool<|p x)) :
  Calls prog 318 #[.slice ad xs.length cap,.func (Fn.func FC) rc cp] w fun e w'=>(∃r:Int,e=.returned (.int .i64 r)/\decide (0<=r)=xs.any p)/\ag w w':=by
 have HS:=bu hs;have Z7:=bu hrun;have HP:=bu hp;clear hs hrun hp;have HD:O (∀k (h:k<xs.length),(xs.drop k).any p=(p xs[k] || (xs.drop<|k+1).any p)):=fun k h=>OU p h;go_enter func318,ntmps318;go_wp2_with fail;go_loopw[8] (fun i wr=>∃k:Nat,k<=xs.length/\i=.int .i64 k/\O ((xs.drop k).any p=xs.any p)/\O (ag w wr)) (fun i _=>xs.length-(intOf i).toNat);case atStart=>exact⟨0,WO _,rfl,rfl,WL _ _⟩
 obtain⟨k,hk,rfl,HQ,HB⟩:=hrel;by_cases hlt:k<xs.length
 ·obtain⟨b,off,Yb,t0,hbl⟩:=sK.at0 (HS.below HB) hlt;have HM:O (xs[k]∈xs):=WH hlt;have hk1:=bY k;have hk2:(k:Int)<(xs.length:Int):=cq;have HD2:=bu<|HD k hlt;subst Yb;go_wp2_with fail;rw[Z7,Oper.upon_enter];refine(HP _ HM _ HB).mono ?_;rintro e w1 ⟨rfl,hb1⟩;have HB1:=iD HB hb1;clear hb1 t0;cases he:p xs[k];case true=>
   have HN:O (xs.any p=true):=by show _=_;rw[<-HQ,HD2,he];rfl
   go_wp2;go_ret;exact⟨⟨k,rfl,by rw[HN];simp⟩,HB1⟩
  have HQ2:O ((xs.drop<|k+1).any p=xs.any p):=by show _=_;rw[<-HQ,HD2,he];rfl
  go_wp2;go_roundw;case rel=>exact⟨k+1,cq,cx,HQ2,HB1⟩
  simp[intOf]<;>omega
 have HN:O (xs.any p=false):=by show _=_;rw[<-HQ,Xm cq];rfl
 go_wp2;go_ret;exact⟨⟨-1,rfl,by rw[HN];simp⟩,HB⟩
def uA(FC:Nat)(rc cp:Array Value)(p:Int->Bool)(ad:Q02)(cap:Nat)(xs:List Int)(w:af)(hlen:bh xs)(hs:sK w ad xs)
  (hrun:∀(ys:Array Value) (u:World),(callFunc FC ys).run prog u=.ok (.enter FC ys) u) (hp:∀x∈xs,∀w1:World,ag w w1->Calls prog FC (rc.push (.int .i64 x)++cp) w1 (bj w1<|.bool<|p x)) :
  Calls prog 286 #[.slice ad xs.length cap,.func (Fn.func FC) rc cp] w (bj w<|.bool<|xs.any p):=by
 have HC:=bu<|LW FC rc cp p ad cap xs w hlen hs hrun hp;clear hs hrun hp;go_enter func286,ntmps286;go_wp2_with fail;refine HC.mono ?_;rintro e w' ⟨⟨r,rfl,hr⟩,hbx⟩;have HR:=bu hr;clear hr;go_wp2;go_ret;exact⟨by rw[<-HR];rfl,hbx⟩
set_option linter.unusedSectionVars false
def vC{e:Ex}(h:ax e=true):e.kids.length<=5/\(e.kind=6->2<=e.kids.length):=by
 unfold ax at h;by_cases k1:e.kind=1
 ·rw[if_pos k1]at h;simp only[WM,WW]at h;exact⟨cq,fun h6=>cq⟩
 by_cases k2:e.kind=2
 ·rw[if_neg k1,if_pos k2]at h;simp only[WM,WW]at h;exact⟨cq,fun h6=>cq⟩
 by_cases k3:e.kind=3
 ·rw[if_neg k1,if_neg k2,if_pos k3]at h;simp only[WM,WW]at h;exact⟨cq,fun h6=>cq⟩
 by_cases k4:e.kind=4\/e.kind=5
 ·rw[if_neg k1,if_neg k2,if_neg k3,if_pos k4]at h;simp only[WM,WW]at h;exact⟨cq,fun h6=>cq⟩
 by_cases k6:e.kind=6
 ·rw[if_neg k1,if_neg k2,if_neg k3,if_neg k4,if_pos k6]at h;simp only[WM,WW]at h;exact⟨cq,fun h6=>cq⟩
 rw[if_neg k1,if_neg k2,if_neg k3,if_neg k4,if_neg k6]at h;cases h
def TY{rows:Q08}(h:aK (ai rows)=true):NodOk rows/\1<=rows.length:=by
 have hl:1<=rows.length/\rows.length<=15:=by
  unfold aK at h;simp only[WM,WW,au]at h;exact⟨h.1.1.1.1.1,h.1.1.1.1.2⟩
 have hlow:=iY h;have hkl:∀q∈rows,q.e.kids.length<=1000:=fun q hq=>by
  have:=(vC<|dR h q.e<|WV.2 ⟨q,hq,rfl⟩).1;omega
 refine⟨⟨cq,hkl,hlow,fun e he h6=>?_⟩,hl.1⟩;exact(vC<|dR h e he).2 h6
section
variable  [DecidableEq Fc]
def yL(H:List Fc->Fc->Bool)(qs:Q04)(f:Fc)(out:Q04):dU H (qs++[f]) out=fO H (dU H qs out) f:=by rw[Ia];rfl
def Jh{H:List Fc->Fc->Bool}{out:Q04}{f:Fc}(h:gJ out f=true\/H out f=false):fO H out f=out:=by
 unfold fO;rw[if_pos];rcases h with h|h
 ·exact .inl<|bf.1 h
 exact .inr h
def OV{H:List Fc->Fc->Bool}{out:Q04}{f:Fc}(h1:gJ out f=false)(h2:H out f=true):fO H out f=out++[f]:=by
 unfold fO;rw[if_neg];rintro(h|h)
 ·rw[bf.2 h]at h1;cases h1
 rw[h2]at h;cases h
end
def TZ(u:Al)(g:Fc):Bool:=V8 g.c g.d u.t u.s
def OW(p:Fc->Bool){zs:Q04}{k:Nat}(h:k<zs.length):(zs.drop k).any p=(p zs[k] || (zs.drop<|k+1).any p):=by rw[Xw h];rfl
def Ao.at0{w:af}{ad:Q02}{fs:Q04}(h:Ao w ad fs){k:Nat}(hk:k<fs.length):∃b off,ad=some (aq b off)/\Ra w b (off+k*5) fs[k]/\b<w.heap.size:=by
 rcases h with h|⟨b',off',e,hb,hr⟩
 ·rw[h]at hk;simp at hk
 exact⟨b',off',e,hr k hk,hb⟩
def T9(g:Nat)(u:Al)(f:Fc)(w:af)(hg:cU g w)(h0:w.cell? (am g)=some (.string u.t))(h1:w.cell? (aq g 1)=some (.string u.s)):
  Calls prog 205 #[.agg (cf f),.pointer<|some<|am g] w (bj w<|.bool<|TZ u f):=by
 have HB:O (ag w<|w.alloc<|.cells (cf f) 52):=(WL _ _).alloc (WK _) _;have heq:=Cc f.c f.d u.t u.s rfl;go_enter func205,ntmps205;go_wp2;go_ret;exact⟨rfl,HB⟩
def Vs(xs:Array Value)(u:af):(callFunc 205 xs).run prog u=.ok (.enter 205 xs) u:=cw
def Ji(FC:Nat)(rc cp:Array Value)(p:Fc->Bool)(ad:Q02)(cap:Nat)(xs:Q04)(w:af)(hlen:bh xs)(hs:Ao w ad xs)
  (hrun:∀(ys:Array Value) (u:World),(callFunc FC ys).run prog u=.ok (.enter FC ys) u) (hp:∀x∈xs,∀w1:World,ag w w1->Calls prog FC (rc.push (.agg<|cf x)++cp) w1 (bj w1<|.bool<|p x)) :
  Calls prog 270 #[.slice ad xs.length cap,.func (Fn.func FC) rc cp] w fun e w'=>(∃r:Int,e=.returned (.int .i64 r)/\decide (0<=r)=xs.any p)/\ag w w':=by
 have HS:=bu hs;have Z7:=bu hrun;have HP:=bu hp;clear hs hrun hp;have HD:O (∀k (h:k<xs.length),(xs.drop k).any p=(p xs[k] || (xs.drop<|k+1).any p)):=fun k h=>OW p h;go_enter func270,ntmps270;go_wp2_with fail;go_loopw[8] (fun i wr=>∃k:Nat,k<=xs.length/\i=.int .i64 k/\O ((xs.drop k).any p=xs.any p)/\O (ag w wr)) (fun i _=>xs.length-(intOf i).toNat);case atStart=>exact⟨0,WO _,rfl,rfl,WL _ _⟩
 obtain⟨k,hk,rfl,HQ,HB⟩:=hrel;by_cases hlt:k<xs.length
 ·obtain⟨b,off,Yb,⟨t0,t1,t2,t3,t4⟩,hbl⟩:=Ao.at0 (HS.below HB) hlt;have HM:O (xs[k]∈xs):=WH hlt;have hk1:=bY k;have hk2:(k:Int)<(xs.length:Int):=cq;have HD2:=bu<|HD k hlt;subst Yb;go_wp2_with fail;rw[Z7,Oper.upon_enter];refine(HP _ HM _ HB).mono ?_;rintro e w1 ⟨rfl,hb1⟩;have HB1:=iD HB hb1;clear hb1 t0 t1 t2 t3 t4;cases he:p xs[k];case true=>
   have HN:O (xs.any p=true):=by show _=_;rw[<-HQ,HD2,he];rfl
   go_wp2;go_ret;exact⟨⟨k,rfl,by rw[HN];simp⟩,HB1⟩
  have HQ2:O ((xs.drop<|k+1).any p=xs.any p):=by show _=_;rw[<-HQ,HD2,he];rfl
  go_wp2;go_roundw;case rel=>exact⟨k+1,cq,cx,HQ2,HB1⟩
  simp[intOf]<;>omega
 have HN:O (xs.any p=false):=by show _=_;rw[<-HQ,Xm cq];rfl
 go_wp2;go_ret;exact⟨⟨-1,rfl,by rw[HN];simp⟩,HB⟩
def Cw(FC:Nat)(rc cp:Array Value)(p:Fc->Bool)(ad:Q02)(cap:Nat)(xs:Q04)(w:af)(hlen:bh xs)(hs:Ao w ad xs)
  (hrun:∀(ys:Array Value) (u:World),(callFunc FC ys).run prog u=.ok (.enter FC ys) u) (hp:∀x∈xs,∀w1:World,ag w w1->Calls prog FC (rc.push (.agg<|cf x)++cp) w1 (bj w1<|.bool<|p x)) :
  Calls prog 204 #[.slice ad xs.length cap,.func (Fn.func FC) rc cp] w (bj w<|.bool<|xs.any p):=by
 have HC:=bu<|Ji FC rc cp p ad cap xs w hlen hs hrun hp;clear hs hrun hp;go_enter func204,ntmps204;go_wp2_with fail;refine HC.mono ?_;rintro e w' ⟨⟨r,rfl,hr⟩,hbx⟩;have HR:=bu hr;clear hr;go_wp2;go_ret;exact⟨by rw[<-HR];rfl,hbx⟩
def LX{us:Q0a}{new:Q04}{k:Nat}(h:k<us.length):fQ (us.take<|k+1) new=fQ (us.take k) new++(if new.any (TZ us[k]) then [us[k]] else []):=by
 unfold fQ;rw[WN h,List.filter_append];congr 1;rw[XX];rfl
def Fb(us:Q0a)(new:Q04):(fQ us new).length<=us.length:=List.length_filter_le _ _
def sj(YT:Q02)(Yj:Nat)(us:Q0a)(adF:Q02)(YJ:Nat)(new:Q04)(w:af)(hul:us.length<=1000)(hnl:bh new)(hu:kV w YT us)(hf:Ao w adF new):
  Calls prog 136 #[.slice YT us.length Yj,.slice adF new.length YJ] w fun e w'=>(∃v,e=.returned v/\cD w w' 27 2 v (fQ us new).length (pairs<|fQ us new))/\ag w w':=by
 obtain⟨iO,h0,h1,h2,h3⟩:=IJ;have HIO:=aZ<|And.intro h0<|And.intro h1<|And.intro h2 h3;have HU:=aZ hu;have HF:=aZ hf;have ZV:O (cD w w 27 2 (.slice none 0 0) (fQ (us.take 0) new).length<|pairs<|fQ (us.take 0) new):=World.ownsRow_nil _ _ _ _;clear hu hf h0 h1 h2 h3;go_enter func136,ntmps136;go_wp2_with fail;go_loopw[5,10] (fun v i wr=>∃k:Nat,k<=us.length/\i=.int .i64 k/\O (cD w wr 27 2 v (fQ (us.take k) new).length<|pairs<|fQ (us.take k) new)/\O (ag w wr)) (fun _ i _=>us.length-(intOf i).toNat);case atStart=>exact⟨0,WO _,rfl,ZV,WL _ _⟩
 clear ZV;obtain⟨k,hk,rfl,HO,HB⟩:=hrel;by_cases hlt:k<us.length
 ·obtain⟨b,off,Yb,⟨t0,t1⟩,hbl⟩:=kV.at0 (HU.below HB) hlt;have hi1:=bY k;have hi2:(k:Int)<(us.length:Int):=cq;have HKT:=aZ<|LX (new:=new) hlt;have hkl:=Fb (us.take k) new;rw[XC]at hkl;obtain⟨u,hu⟩:=eQx<|us[k];rw[<-hu]at t0 t1 HKT;clear hu;obtain⟨W1,hW1⟩:=eQx<|wr.alloc<|.cells #[.string u.t,.string u.s] 27;have HBr:=tZ hW1;have HB1:=aZ<|HB.trans<|HBr.mono HB.size;have d0:W1.cell? (a7 wr)=some (.string u.t):=by rw[hW1];simp
  have d1:W1.cell? (a8 wr 1)=some (.string u.s):=by rw[hW1];simp
  have dl:cW wr W1:=bQ d0;have Yu:=aZ<|gy HO HBr;obtain⟨ys,hys⟩:=eQx<|fQ (us.take k) new;rw[<-hys]at Yu HKT hkl;obtain⟨adV,capV,rfl,-⟩:=uy Yu;have YO:=aZ<|Cw 205 #[] #[.pointer (some<|a7 wr)] (TZ u) adF YJ new W1 hnl (HF.below HB1) Vs fun x hx w1 hb=>T9 wr.heap.size u x w1 (WJ dl hb.size) (iH hb dl d0)<|iH hb dl d1;subst Yb;clear hys HO;go_wp2_with fail;rw[<-hW1];clear hW1 t0 t1;refine YO.mono ?_;rintro e w2 ⟨rfl,hb2⟩;have HB2:=aZ<|HB1.trans<|hb2.mono HB1.size;have Yk:=aZ<|gy Yu hb2;replace d0:=iH hb2 dl d0;replace d1:=iH hb2 dl d1;replace dl:=WJ dl hb2.size;clear hb2 YO Yu HBr;cases hh:new.any (TZ u);case false=>
   have HR:O (cD w w2 27 2 (.slice adV ys.length capV) (fQ (us.take<|k+1) new).length<|pairs<|fQ (us.take<|k+1) new):=by
    show World.ownsRow _ _ _ _ _ _ _;rw[HKT,hh];simp only[Bool.false_eq_true,if_false,XL];exact Yk
   go_wp2;go_roundw;case rel=>exact⟨k+1,cq,cx,HR,HB2⟩
   simp[intOf]<;>omega
  have HWE:O (fQ (us.take<|k+1) new=ys++[u]):=by show _=_;rw[HKT,hh];rfl
  obtain⟨W4,YR⟩:=eQx<|w2.alloc<|.cells #[.string u.t,.string u.s] 27;have YG:O (cD w W4 27 2 (.slice adV ys.length capV) ys.length<|pairs ys):=by show World.ownsRow _ _ _ _ _ _ _;rw[YR];exact Yk.alloc _
  have HN4:O (∀j x,[Value.string u.t,.string u.s][j]?=some x->W4.cell? ((⟨w2.heap.size,0,none⟩:Addr).add j)=some x):=by rw[YR];exact V9 w2 u
  have HBW4:O (ag w W4):=by show Below _ _ _;rw[YR];exact HB2.alloc HB2.size _
  have hsz4:cV w W4:=HBW4.size;clear hh;go_wp2_with(at_builtin;rw[<-YR];clear YR;refine wpList_append_own_at _ rfl _ _ 192 rfl w.heap.size 27 iO (.agg aE) 2 32 underlying192 HIO.1 HIO.2.1 HIO.2.2.1 HIO.2.2.2 rfl cv _ ys.length (pairs ys) rfl YG ⟨w2.heap.size,0,none⟩ 1 1 [.string u.t,.string u.s] rfl rfl HN4 (by simp[Value.oneCell']) cy cq hsz4 ?_);intro v' w5 hown hgr _ _;have HR:O (cD w w5 27 2 v' (fQ (us.take<|k+1) new).length<|pairs<|fQ (us.take<|k+1) new):=by
   show World.ownsRow _ _ _ _ _ _ _;rw[HWE,WP];have:pairs (ys++[u])=pairs ys++[.string u.t,.string u.s]:=by simp[pairs]
   rw[this];exact hown
  have HBR:O (ag w w5):=HBW4.grown hgr HBW4.size fun g hg=>(YG.lt g hg).1;clear hown hgr d0 d1 dl;go_wp2;go_roundw;case rel=>exact⟨k+1,cq,cx,HR,HBR⟩
  simp[intOf]<;>omega
 have HE:O (cD w wr 27 2 u5 (fQ us new).length<|pairs<|fQ us new):=by
  have h:=HO.out;rw[Xn cq]at h;exact h
 clear HO;go_wp2;go_ret;exact⟨⟨_,rfl,HE⟩,HB⟩
def Wn(K:Fc->Bool)(f:Fc)(t:Tp):Bool:=if t.s.toList.isEmpty then t.c.toList==f.c.toList&&t.d.toList==f.d.toList else K ⟨t.c,t.d,t.s,f.c,f.d⟩
abbrev Ru:=(Fc->Bool)->Bool
def Wo(l:Q05)(f:Fc):Ru:=fun K=>l.any fun t=>(t.a.toList==f.a.toList&&t.b.toList==f.b.toList&&t.r.toList==f.r.toList)&&Wn K f t
def Wp(l:Q05)(over name:ByteArray)(f:Fc):Ru:=fun K=>l.any fun t=>(t.a.toList==f.a.toList&&t.b.toList==f.b.toList&&t.r.toList==over.toList)&&K ⟨t.c,t.d,name,f.c,f.d⟩
def gN(l:Q05)(es:Q09)(truth:Q04)(f:Fc):Nat->Nat->Ru
 | 0,_=>fun _=>false
 | k+1,n=>match es[n]? with
  | none=>fun _=>false
  | some x =>
   if x.kind=1 then Wo l f
   else if x.kind=2 then fun K=>K ⟨f.a,f.b,x.name,f.c,f.d⟩
   else if x.kind=3 then Wp l x.over x.name f
   else if x.kind=4 then fun K=>x.kids.any fun i=>gN l es truth f k i.toNat K
   else if x.kind=5 then fun K=>x.kids.all fun i=>gN l es truth f k i.toNat K
   else if x.kind=6 then if aJ l es truth f k truth (x.kids.getD 1 0).toNat then fun _=>false else gN l es truth f k (x.kids.getD 0 0).toNat
   else fun _=>false
end Go.Proofs.YtojjoblnpldniaaGreat
