/- Contracts of the document's functions that write an expression's text. -/
import Derived.Test.YtajkkeikihhejaaGreatSq
import Derived.Test.YtajkkeikihhejaaGreatJ8
import Derived.Test.YtajkkeikihhejaaGreatJ21
import Derived.Test.YtajkkeikihhejaaGreatJ22
open Go.Proofs.Tryz
set_option maxHeartbeats 80000000
namespace Go.Proofs.YtajkkeikihhejaaGreat
open ChangeShapes WideShapes ChangeAt RowKit
open Pl
theorem qR{a b:ByteArray}(h:a=b):Ending.returned (.string a)=.returned (.string b):=by rw[h]
theorem rY(a:bQ):(⟨#[]⟩:ByteArray)++a=a:=by apply jl;simp[ByteArray.data_append]
theorem yz(a:Al)(w:af)(h1:a.t.size<=12)(h2:a.s.size<=12):
  Calls prog 251 #[.agg #[.string a.t,.string a.s]] w fun e w'=>e=.returned (.string (fM a))/\ae w w':=by
 have hB:=(UV w.heap.size w).alloc (UU _) (.cells #[.string a.t,.string a.s] 43);cases he:a.s.toList.isEmpty;case true=>
  go_enter func251,ntmps251;go_wp2;go_ret;exact⟨qR (by simp[fM,he]),hB⟩
 go_enter func251,ntmps251;go_wp2;go_ret;exact⟨qR (by simp[fM,he]),hB⟩
theorem mr(k:Int)(w:af):
  Calls prog 235 #[.int .i64 k] w fun e w'=>e=.returned (.string (gQ k))/\w'=w:=by
 by_cases h4:k=4
 ·subst h4;go_enter func235,ntmps235;go_wp2;go_ret;exact⟨rfl,rfl⟩
 by_cases h5:k=5
 ·subst h5;go_enter func235,ntmps235;go_wp2;go_ret;exact⟨rfl,rfl⟩
 have HS:Hid (gQ k=⟨#[32,45,32]⟩):=by show _=_;simp[gQ,h4,h5]
 go_enter func235,ntmps235;go_wp2;go_ret;exact⟨by rw[HS.out];rfl,rfl⟩
theorem Ff{α:Type}{xs:List α}{k:Nat}(h:k<=xs.length):xs.take k=[]↔k=0:=by
 constructor
 ·intro e;have:=congrArg List.length e;rw[Vy,VT]at this;omega
 rintro rfl;simp
theorem nu(sep:bQ)(xs:List ByteArray):fF sep (xs.take 0)=⟨#[]⟩:=by simp[CL]
theorem Bo(sep:bQ)(xs:List ByteArray)(h:0<xs.length):fF sep (xs.take 1)=⟨#[]⟩++xs[0]:=by
 rw[show(1:Nat)=0+1 from rfl,UX h,oG,if_pos (by simp),rY]
theorem yA(sep:bQ)(xs:List ByteArray)(k:Nat)(h:k<xs.length)(hk:0<k):fF sep (xs.take (k+1))=fF sep (xs.take k)++sep++xs[k]:=by
 rw[UX h,oG,if_neg];rw[Ff (by omega)];omega
theorem yB(sep:bQ)(xs:List ByteArray)(b k:Nat)(hx:∀x∈xs,x.size<=b):(fF sep (xs.take k)).size<=k*(b+sep.size):=by
 have h1:=oH sep b _ (xs.take k) rfl (fun x h=>hx x (List.mem_of_mem_take h));have h2:(xs.take k).length*(b+sep.size)<=k*(b+sep.size):=Nat.mul_le_mul_right _ (by simp;omega);omega
theorem DR{es:Q09}(hes:Sr es)(n:Nat)(hn:n<es.length)(i:Bool):(ja es n i).size<=20000000000000 :=
 U0 (IE hes n hn i) (U0 (CO (by have:=hes.1;omega)) Q0)
set_option maxRecDepth 4000 in
theorem JS(b off cap:Nat)(rs:Q08)(hes:Sr (ak rs))(hl:∀r∈rs,r.e.light)(n:Nat):∀(inside:Bool) (w:af),n<rs.length->b<w.heap.size->(∀(i:Nat) (h:i<rs.length),yK w b (off+i*5) rs[i])->(∀r∈rs,r.ok w) ->
  Calls prog 238 #[.slice (some ⟨b,off,none⟩) rs.length cap,.int .i64 (n:Int),.bool inside] w fun e w'=>e=.returned (.string (ja (ak rs) n inside))/\ae w w':=by
 have HES:=aC hes;have HL:=aC hl;have h15:rs.length<=15:=by have:=hes.1;rw[aQ]at this;exact this
 clear hes hl
 induction n using Nat.strongRecOn with
 | ind n ih =>
  intro inside w hn hb hr hok
  have IH:Hid (∀ m,m<n->∀ (inside:Bool) (w:World),m<rs.length->b<w.heap.size->(∀ (i:Nat) (h:i<rs.length),yK w b (off+i*5) rs[i])->(∀ r∈rs,r.ok w) ->
   Calls prog 238 #[.slice (some ⟨b,off,none⟩) rs.length cap,.int .i64 (m:Int),.bool inside] w fun e w'=>e=.returned (.string (ja (ak rs) m inside))/\ae w w'):=ih
  have HR:Hid (∀(i:Nat) (h:i<rs.length),yK w b (off+i*5) rs[i]):=hr;have HO:=aC hok;obtain⟨t0,t1,t2,t3,t4⟩:=hr n hn;have hnE:n<(ak rs).length:=by rw[aQ];exact hn
  have heE:(ak rs)[n]=rs[n].e:=by simp[ak]
  have V4:ax rs[n].e=true:=by rw[<-heE];exact HES.out.2.1 n hnE
  have hkl:=uO HES.out hnE;rw[heE]at hkl;obtain⟨hk5,hkind⟩:=qo V4;have HT:Hid (ja (ak rs) n inside=inT rs[n].e inside (lY (jF (ak rs) n) rs[n].e)):=by show _=_;unfold ja;rw[Es hnE,heE]
  have HN:Hid (ax rs[n].e=true):=V4;have Xh:Hid (∀k∈rs[n].e.kids,0<=k/\k.toNat<n):=hkl;have hn1:=bG n;have hn2:(n:Int)<(rs.length:Int):=by omega
  clear ih hr hok V4 hkl heE;by_cases k1:rs[n].e.kind=1
  ·skip
   obtain⟨W,hW⟩:∃W,W=w.alloc (.cells #[.int .i64 1,.slice rs[n].adA rs[n].e.allow.length rs[n].capA,.string rs[n].e.over,.string rs[n].e.name,.slice rs[n].adK rs[n].e.kids.length rs[n].capK] 39):=⟨_,rfl⟩;have hB0:ae w W:=by rw[hW];exact(UV _ _).alloc (UU _) _
   have hgl:w.heap.size<W.heap.size:=by rw[hW];simp
   have g0:W.cell? ⟨w.heap.size,0,none⟩=some (.int .i64 1):=by rw[hW];simp
   have g1:W.cell? ⟨w.heap.size,1,none⟩=some (.slice rs[n].adA rs[n].e.allow.length rs[n].capA):=by rw[hW];simp
   have g2:W.cell? ⟨w.heap.size,2,none⟩=some (.string rs[n].e.over):=by rw[hW];simp
   have g3:W.cell? ⟨w.heap.size,3,none⟩=some (.string rs[n].e.name):=by rw[hW];simp
   have g4:W.cell? ⟨w.heap.size,4,none⟩=some (.slice rs[n].adK rs[n].e.kids.length rs[n].capK):=by rw[hW];simp
   have HB0:=aC hB0;clear hB0;have hal:eD rs[n].e.allow=true:=by
    have:=HN.out;unfold ax at this;rw[if_pos k1]at this;simp only[UW]at this;exact this.1.1.1
   have hts:=kv hal;have Ws:Hid (eD rs[n].e.allow=true):=hal;have HT1:Hid (ja (ak rs) n inside=uN rs[n].e.allow):=by show _=_;rw[HT.out];simp[inT,lY,k1]
   have hl6:rs[n].e.allow.length<=6:=by unfold eD at hal;simp at hal;exact hal.1.2
   have HAS:Hid (∀x∈rs[n].e.allow.map fM,x.size<=25):=fun x hx=>by
    obtain⟨a,ha,rfl⟩:=U7.1 hx;obtain⟨i,hi,rfl⟩:=VI ha;unfold eD at hal;simp only[UW]at hal;exact qj (zf hal.2 i hi hi)
   clear hal HT;go_enter func238,ntmps238;go_wp2_with fail;rw[<-hW];clear hW t0 t1 t2 t3 t4;go_loopw[8,9] (fun s i wr=>∃k:Nat,k<=rs[n].e.allow.length/\i=.int .i64 k/\s=.string (fF ⟨#[44]⟩ ((rs[n].e.allow.map fM).take k))/\ae W wr) (fun _ i _=>rs[n].e.allow.length-(intOf i).toNat);case atStart=>exact⟨0,UY _,rfl,by rw[nu],UV _ _⟩
   obtain⟨k,hk,rfl,rfl,hB⟩:=hrel;have hBw:ae w wr:=HB0.out.trans (hB.mono HB0.out.size);have a1:=kept hB hgl g1;have hsj:(fF ⟨#[44]⟩ ((rs[n].e.allow.map fM).take k)).size<=200:=by
    have h:=yB ⟨#[44]⟩ (rs[n].e.allow.map fM) 25 k HAS.out;have e1:(⟨#[44]⟩:ByteArray).size=1:=rfl;rw[e1]at h;omega
   by_cases hlt:k<rs[n].e.allow.length
   ·rcases (HO.out rs[n] (UR hn)).1.below hBw with hnil|⟨ba,Yi,Yj,ZK,hra⟩
    ·rw[hnil]at hlt;simp at hlt
    rw[Yj]at a1;obtain⟨q0,q1⟩:=hra k hlt;have hab:FV rs[n].e.allow[k]=true:=by
     have:=Ws.out;unfold eD at this;simp only[UW]at this;exact zf this.2 k hlt hlt
    have z2:=qj hab;unfold FV at hab;rw[UW]at hab;have z0:=bZ hab.1;have z1:=zC hab.2;have hk1:=bG k;have hk2:(k:Int)<(rs[n].e.allow.length:Int):=by omega
    clear hra Yj hab;by_cases hk0:0<k
    ·have hk3:(0:Int)<(k:Int):=by omega
     have HJ:Hid (fF ⟨#[44]⟩ ((rs[n].e.allow.map fM).take (k+1))=fF ⟨#[44]⟩ ((rs[n].e.allow.map fM).take k)++⟨#[44]⟩++fM rs[n].e.allow[k]):=by show _=_;rw[yA _ _ _ (by simpa using hlt) hk0,List.getElem_map]
     go_wp2_with fail;refine(yz rs[n].e.allow[k] _ z0 z1).mono ?_;rintro e w1 ⟨rfl,hb1⟩;have hB1:ae W w1:=hB.trans (hb1.mono hB.size);clear hb1;go_wp2;go_roundw;case rel=>exact⟨k+1,by omega,by go_num,by rw[HJ.out],hB1⟩
     simp[intOf]<;>omega
    skip
    have hk3:¬(0:Int)<(k:Int):=by omega
    have HJ:Hid (fF ⟨#[44]⟩ ((rs[n].e.allow.map fM).take (k+1))=fF ⟨#[44]⟩ ((rs[n].e.allow.map fM).take k)++fM rs[n].e.allow[k]):=by
     show _=_;obtain rfl:k=0:=by omega
     rw[nu,Bo _ _ (by simpa using hlt),List.getElem_map]
    go_wp2_with fail;refine(yz rs[n].e.allow[k] _ z0 z1).mono ?_;rintro e w1 ⟨rfl,hb1⟩;have hB1:ae W w1:=hB.trans (hb1.mono hB.size);clear hb1;go_wp2;go_roundw;case rel=>exact⟨k+1,by omega,by go_num,by rw[HJ.out],hB1⟩
    simp[intOf]<;>omega
   obtain rfl:k=rs[n].e.allow.length:=by omega
   have HE:Hid ((rs[n].e.allow.map fM).take rs[n].e.allow.length=rs[n].e.allow.map fM):=by show _=_;rw[Vs (by simp)]
   go_wp2;go_ret;exact⟨by rw[HT1.out];exact qR (by rw[HE.out];rfl),hBw⟩
  by_cases k2:rs[n].e.kind=2
  ·have HT1:Hid (ja (ak rs) n inside=rs[n].e.name):=by show _=_;rw[HT.out];simp[inT,lY,k2]
   clear HT;go_enter func238,ntmps238;go_wp2;go_ret;exact⟨by rw[HT1.out];rfl,(UV _ _).alloc (UU _) _⟩
  by_cases k3:rs[n].e.kind=3
  ·have HT1:Hid (ja (ak rs) n inside=rs[n].e.over++⟨#[45,62]⟩++rs[n].e.name):=by show _=_;rw[HT.out];simp[inT,lY,k3]
   have hsz:rs[n].e.over.size<=12/\rs[n].e.name.size<=12:=by
    have:=HN.out;unfold ax at this;rw[if_neg k1,if_neg k2,if_pos k3]at this;simp only[UW]at this;exact⟨bZ this.1.1.1,bZ this.1.1.2⟩
   obtain⟨z0,z1⟩:=hsz;clear HT;go_enter func238,ntmps238;go_wp2;go_ret;exact⟨by rw[HT1.out];rfl,(UV _ _).alloc (UU _) _⟩
  skip
  obtain⟨W,hW⟩:∃W,W=w.alloc (.cells #[.int .i64 rs[n].e.kind,.slice rs[n].adA rs[n].e.allow.length rs[n].capA,.string rs[n].e.over,.string rs[n].e.name,.slice rs[n].adK rs[n].e.kids.length rs[n].capK] 39):=⟨_,rfl⟩;have hB0:ae w W:=by rw[hW];exact(UV _ _).alloc (UU _) _
  have hgl:w.heap.size<W.heap.size:=by rw[hW];simp
  have g0:W.cell? ⟨w.heap.size,0,none⟩=some (.int .i64 rs[n].e.kind):=by rw[hW];simp
  have g1:W.cell? ⟨w.heap.size,1,none⟩=some (.slice rs[n].adA rs[n].e.allow.length rs[n].capA):=by rw[hW];simp
  have g2:W.cell? ⟨w.heap.size,2,none⟩=some (.string rs[n].e.over):=by rw[hW];simp
  have g3:W.cell? ⟨w.heap.size,3,none⟩=some (.string rs[n].e.name):=by rw[hW];simp
  have g4:W.cell? ⟨w.heap.size,4,none⟩=some (.slice rs[n].adK rs[n].e.kids.length rs[n].capK):=by rw[hW];simp
  have HB0:=aC hB0;clear hB0;have HT1:Hid (ja (ak rs) n inside=if inside then ⟨#[40]⟩++fF (gQ rs[n].e.kind) (rs[n].e.kids.map (jF (ak rs) n))++⟨#[41]⟩ else fF (gQ rs[n].e.kind) (rs[n].e.kids.map (jF (ak rs) n))):=by
   show _=_;rw[HT.out];simp[inT,lY,k1,k2,k3]
  have HTS:Hid (∀x∈rs[n].e.kids.map (jF (ak rs) n),x.size<=20000000000000):=fun x hx=>by
   obtain⟨k,hk,rfl⟩:=U7.1 hx;have hlt:=Xh.out k hk;unfold jF;rw[if_pos hlt.2,Ep];exact DR HES.out _ (by rw[aQ];omega) true
  have kb1:(rs[n].e.kind==1)=false:=by simpa using k1
  have kb2:(rs[n].e.kind==2)=false:=by simpa using k2
  have kb3:(rs[n].e.kind==3)=false:=by simpa using k3
  clear HT hkind;go_enter func238,ntmps238;go_wp2_with fail;rw[<-hW];clear hW t0 t1 t2 t3 t4;go_loopw[8,10] (fun s i wr=>∃k:Nat,k<=rs[n].e.kids.length/\i=.int .i64 k/\s=.string (fF (gQ rs[n].e.kind) ((rs[n].e.kids.map (jF (ak rs) n)).take k))/\ae W wr) (fun _ i _=>rs[n].e.kids.length-(intOf i).toNat);case atStart=>exact⟨0,UY _,rfl,by rw[nu],UV _ _⟩
  obtain⟨k,hk,rfl,rfl,hB⟩:=hrel;have hBw:ae w wr:=HB0.out.trans (hB.mono HB0.out.size);have hbw:b<wr.heap.size:=UT hb hBw.size;have a0:=kept hB hgl g0;have a4:=kept hB hgl g4;have hsg:=lX rs[n].e.kind;have hsj:(fF (gQ rs[n].e.kind) ((rs[n].e.kids.map (jF (ak rs) n)).take k)).size<=100000000000100:=by
   have h:=yB (gQ rs[n].e.kind) (rs[n].e.kids.map (jF (ak rs) n)) 20000000000000 k HTS.out;rw[hsg]at h;omega
  by_cases hlt:k<rs[n].e.kids.length
  ·rcases (HO.out rs[n] (UR hn)).2.below hBw with hnil|⟨bk,offk,WA,hbk,hrk⟩
   ·rw[hnil]at hlt;simp at hlt
   rw[WA]at a4;have q0:=hrk k hlt;obtain⟨hz0,hz1⟩:=Xh.out rs[n].e.kids[k] (UR hlt);obtain⟨m,hm⟩:∃m:Nat,rs[n].e.kids[k]=(m:Int):=⟨rs[n].e.kids[k].toNat,by omega⟩;rw[hm]at q0 hz1;have hmn:m<n:=by simpa using hz1
   have hmr:m<rs.length:=by omega
   have HFm:Hid (jF (ak rs) n rs[n].e.kids[k]=ja (ak rs) m true):=by show _=_;rw[hm];unfold jF;rw[if_pos (by simpa using hmn),Ep];simp
   have hsm:=DR HES.out m (by rw[aQ];exact hmr) true;have hk1:=bG k;have hk2:(k:Int)<(rs[n].e.kids.length:Int):=by omega
   clear hrk WA hz0 hz1 hm;by_cases hk0:0<k
   ·have hk3:(0:Int)<(k:Int):=by omega
    have HJ:Hid (fF (gQ rs[n].e.kind) ((rs[n].e.kids.map (jF (ak rs) n)).take (k+1))=fF (gQ rs[n].e.kind) ((rs[n].e.kids.map (jF (ak rs) n)).take k)++gQ rs[n].e.kind++ja (ak rs) m true):=by show _=_;rw[yA _ _ _ (by simpa using hlt) hk0,List.getElem_map,HFm.out]
    go_wp2_with fail;refine(mr _ _).mono ?_;rintro e w' ⟨rfl,rfl⟩;go_wp2_with fail;refine(IH.out m hmn true _ hmr hbw (fun i hi=>(HR.out i hi).later hb hBw) (fun r hr=>(HO.out r hr).below hBw)).mono ?_;rintro e w1 ⟨rfl,hb1⟩;have hB1:ae W w1:=hB.trans (hb1.mono hB.size);clear hb1;go_wp2;go_roundw;case rel=>exact⟨k+1,by omega,by go_num,by rw[HJ.out],hB1⟩
    simp[intOf]<;>omega
   skip
   have hk3:¬(0:Int)<(k:Int):=by omega
   have HJ:Hid (fF (gQ rs[n].e.kind) ((rs[n].e.kids.map (jF (ak rs) n)).take (k+1))=fF (gQ rs[n].e.kind) ((rs[n].e.kids.map (jF (ak rs) n)).take k)++ja (ak rs) m true):=by
    have h0:=HFm.out;show _=_;obtain rfl:k=0:=by omega
    rw[nu,Bo _ _ (by simpa using hlt),List.getElem_map,h0]
   go_wp2_with fail;refine(IH.out m hmn true _ hmr hbw (fun i hi=>(HR.out i hi).later hb hBw) (fun r hr=>(HO.out r hr).below hBw)).mono ?_;rintro e w1 ⟨rfl,hb1⟩;have hB1:ae W w1:=hB.trans (hb1.mono hB.size);clear hb1;go_wp2;go_roundw;case rel=>exact⟨k+1,by omega,by go_num,by rw[HJ.out],hB1⟩
   simp[intOf]<;>omega
  obtain rfl:k=rs[n].e.kids.length:=by omega
  have HE:Hid ((rs[n].e.kids.map (jF (ak rs) n)).take rs[n].e.kids.length=rs[n].e.kids.map (jF (ak rs) n)):=by show _=_;rw[Vs (by simp)]
  cases inside;case true=>
   go_wp2;go_ret;exact⟨by rw[HT1.out];exact qR (by rw[HE.out];rfl),hBw⟩
  go_wp2;go_ret;exact⟨by rw[HT1.out];exact qR (by rw[HE.out];rfl),hBw⟩
def ic(es:Q09):ByteArray:=if aL es then ja es (es.length-1) false else ⟨#[]⟩
theorem DT{es:Q09}(h:aL es=false):ic es=⟨#[]⟩:=by simp[ic,h]
theorem Bp{es:Q09}(h:aL es=true):ic es=ja es (es.length-1) false:=by simp[ic,h]
theorem oo(ad:Q02)(cap:Nat)(rs:Q08)(w:af)(hlen:rs.length<=1048576)(hl:∀r∈rs,r.e.light)(hf:∀r∈rs,r.e.fits)(hs:gZ w ad rs):
  Calls prog 220 #[.slice ad rs.length cap] w fun e w'=>e=.returned (.string (ic (ak rs)))/\ae w w':=by
 have HS:=aC hs;have HL:=aC hl;have HF:=aC hf;clear hs hl hf;go_enter func220,ntmps220;go_wp2_with fail;refine(ma ad cap rs _ hlen HL.out HF.out HS.out).mono ?_;rintro e w1 ⟨he,hb1⟩;have HB1:=aC hb1;clear hb1;cases hE:aL (ak rs);case false=>
  rw[hE]at he;subst he;have HX:Hid (ic (ak rs)=⟨#[]⟩):=DT hE;go_wp2;go_ret;exact⟨by rw[HX.out];rfl,HB1.out⟩
 rw[hE]at he;subst he;have h1:1<=rs.length:=by
  have:=hE;unfold aL at this;simp only[UW,U3,aQ]at this;exact this.1.1.1.1.1
 rcases HS.out.below HB1.out with rfl|⟨b,off,rfl,hb,hr,hok⟩
 ·simp at h1
 have HR:Hid (∀(i:Nat) (h:i<rs.length),yK w1 b (off+i*5) rs[i]):=hr;have HO:=aC hok;have XE:Hid (Sr (ak rs)):=NY hE;have HX:Hid (ic (ak rs)=ja (ak rs) (rs.length-1) false):=by show _=_;rw[Bp hE,aQ]
 have HCA:Hid (((rs.length:Int)-1)=((rs.length-1:Nat):Int)):=by show _=_;omega
 clear hr hok;go_wp2_with fail;rw[HCA.out];refine(JS b off cap rs XE.out HL.out (rs.length-1) false _ (by omega) hb HR.out HO.out).mono ?_;rintro e w2 ⟨rfl,hb2⟩;have HB2:=jR HB1 hb2;clear hb2;go_wp2;go_ret;exact⟨by rw[HX.out];rfl,HB2.out⟩
set_option maxRecDepth 100000
theorem wB(k:Int):gQ k=bf k:=by
 unfold gQ bf;rfl
def ig(s:ByteArray)(p:Nat)(j:Nat):Int :=
 if 4<j/\dY s (bf 4) p=true then 4 else if 5<j/\dY s (bf 5) p=true then 5 else if 6<j/\dY s (bf 6) p=true then 6 else 0
theorem PG(s:bQ)(p:Nat):ig s p 4=0:=by simp[ig]
theorem PH(s:bQ)(p:Nat):ig s p 7=dG s p:=by simp[ig,dG]
theorem G8{s:ByteArray}{p j:Nat}(h4:4<=j)(h7:j<7)(h:ig s p j≠0):ig s p (j+1)=ig s p j:=by
 have hj:j=4\/j=5\/j=6:=by omega
 unfold ig at h⊢;rcases hj with rfl|rfl|rfl<;>cases h1:dY s (bf 4) p<;>cases h2:dY s (bf 5) p<;>cases h3:dY s (bf 6) p<;>simp_all
theorem DU{s:ByteArray}{p j:Nat}(h4:4<=j)(h7:j<7)(h:ig s p j=0)(hl:dY s (bf j) p=false):ig s p (j+1)=0:=by
 have hj:j=4\/j=5\/j=6:=by omega
 unfold ig at h⊢;rcases hj with rfl|rfl|rfl<;>cases h1:dY s (bf 4) p<;>cases h2:dY s (bf 5) p<;>cases h3:dY s (bf 6) p<;>simp_all
theorem JU{s:ByteArray}{p j:Nat}(h4:4<=j)(h7:j<7)(h:ig s p j=0)(hl:dY s (bf j) p=true):ig s p (j+1)=(j:Int):=by
 have hj:j=4\/j=5\/j=6:=by omega
 unfold ig at h⊢;rcases hj with rfl|rfl|rfl<;>cases h1:dY s (bf 4) p<;>cases h2:dY s (bf 5) p<;>cases h3:dY s (bf 6) p<;>simp_all
theorem mD(k:Int):(bf k).size=3:=by
 unfold bf;split
 ·rfl
 split<;>rfl
theorem Bq{s:ByteArray}{p:Nat}(k:Int)(h:p+3<=s.size):dY s (bf k) p=((s.extract p (p+3)).toList==(gQ k).toList):=by
 unfold dY;rw[mD,wB];simp[h]
theorem MQ{s:ByteArray}{p:Nat}(k:Int)(h:¬p+3<=s.size):dY s (bf k) p=false:=by
 unfold dY;rw[mD];simp[h]
def rowP(s:ByteArray)(it:RS->Int×RS)(x:Int×RS):Int×RS :=
 if dG s x.2.p=0\/x.2.bad=true then x
 else (((iq s it (dG s x.2.p) (s.size+1) [x.1] x.2).2.out.length:Int),sF ⟨dG s x.2.p,[],⟨#[]⟩,⟨#[]⟩,(iq s it (dG s x.2.p) (s.size+1) [x.1] x.2).1⟩ (iq s it (dG s x.2.p) (s.size+1) [x.1] x.2).2)
theorem Br{s:ByteArray}{it:RS->Int×RS}{x:Int×RS}(h:dG s x.2.p=0\/x.2.bad=true):rowP s it x=x:=if_pos h
theorem MR{s:ByteArray}{it:RS->Int×RS}{x:Int×RS}(h:¬(dG s x.2.p=0\/x.2.bad=true)){zs:List Int}{st:RS}(hk:iq s it (dG s x.2.p) (s.size+1) [x.1] x.2=(zs,st)):rowP s it x=((st.out.length:Int),sF ⟨dG s x.2.p,[],⟨#[]⟩,⟨#[]⟩,zs⟩ st):=by
 unfold rowP;rw[if_neg h,hk]
theorem PK{s:ByteArray}{it:RS->Int×RS}{k:Int}{n:Nat}{zs:List Int}{st:RS}(h:mX s (bf k) st.p st.bad=false):iq s it k n zs st=(zs,st):=by
 have e:lG s (bf k) st=false:=h;cases n with
 | zero=>rfl
 | succ n=>unfold iq;rw[e];rfl
theorem MS{s:ByteArray}{it:RS->Int×RS}{k:Int}{n:Nat}{zs:List Int}{st:RS}(h:mX s (bf k) st.p st.bad=true):iq s it k (n+1) zs st=iq s it k n (zs++[(it (kE (bf k) st)).1]) (it (kE (bf k) st)).2:=by
 have e:lG s (bf k) st=true:=h
 conv=>lhs;unfold iq
 rw[e];rfl
theorem RdC.heap{w w':af}{R:Nat}{s:ByteArray}{p:Nat}{bad:Bool}{v:Value}(h:RdC w R s p bad v)(hs:w.heap.size<=w'.heap.size)(hh:w'.heap[R]?=w.heap[R]?):RdC w' R s p bad v :=
 ⟨UT h.lt hs,(Vh (w:=w) (a:=⟨R,0,none⟩) hh).trans h.c0,(Vh (w:=w) (a:=⟨R,1,none⟩) hh).trans h.c1,(Vh (w:=w) (a:=⟨R,2,none⟩) hh).trans h.c2,(Vh (w:=w) (a:=⟨R,3,none⟩) hh).trans h.c3,dx h.fr hh⟩
theorem RdF.heap{w w':af}{R:Nat}{s:ByteArray}{st:RS}{base:Nat}{v:Value}{qs:Q08}(h:RdF w R s st base v qs)(hs:w.heap.size<=w'.heap.size)(h1:w'.heap[R]?=w.heap[R]?)(h2:∀g,v.ownBlock=some g->w'.heap[g]?=w.heap[g]?)(h3:∀q∈qs,∀g,p9 q g->w'.heap[g]?=w.heap[g]?):RdF w' R s st base v qs where
 rd:=h.rd.heap hs h1
 own:=jJ h.own h2
 out:=h.out
 zA:=h.zA
 zK:=h.zK
 ok q hq:=rH (h.ok q hq) hs (h.zA q hq) (h.zK q hq) (h3 q hq)
 lie q hq g hg:=by
  obtain⟨a1,a2,a3,a4⟩:=h.lie q hq g hg;exact⟨a1,UT a2 hs,dx a3 (h3 q hq g hg),a4⟩
 one:=h.one
 two:=h.two
 cA:=h.cA
 cK q hq:=(h.cK q hq).heap (h.zK q hq) (h3 q hq)
structure KLr(w wr:World)(R:Nat)(s:ByteArray)(st:RS)(base:Nat)(v v':Value)(qs ns:Q08)(zs:List Int)(vK:Value):Prop where
 rd:RdF wr R s st base v' (qs++ns)
 went:Went R v w v' wr
 new:∀q∈ns,∀g,p9 q g->w.heap.size<=g
 own:wr.ownsRow w.heap.size 2 1 vK zs.length (ints zs)
 far:∀g,vK.ownBlock=some g->v'.ownBlock≠some g/\∀q∈qs++ns,¬p9 q g
 ne:zs≠[]
theorem KLr.is{w wr w':af}{R:Nat}{s:ByteArray}{st st':RS}{base:Nat}{v v':Value}{qs ns:Q08}{zs:List Int}{vK:Value}(h:KLr w wr R s st base v v' qs ns zs vK)(hR:R<w.heap.size)(hg:wr.grownBy w' (some R))(hF:RdF w' R s st' base v' (qs++ns)):KLr w w' R s st' base v v' qs ns zs vK :=
 ⟨hF,h.went.trans ((Onl.of_grown hg).any v'),h.new,h.own.kept hg (.inr (fun e=>by have:=(h.own.lt R e).1;omega)),h.far,h.ne⟩
theorem KLr.more{w wr w':af}{R:Nat}{s:ByteArray}{st st':RS}{base:Nat}{v v' v2:Value}{qs ns ms:Q08}{zs:List Int}{vK:Value}(h:KLr w wr R s st base v v' qs ns zs vK)(hR:R<w.heap.size)(hF:RdF w' R s st' base v2 ((qs++ns)++ms))(hW:Went R v' wr v2 w')(hm:∀q∈ms,∀g,p9 q g->wr.heap.size<=g):KLr w w' R s st' base v v2 qs (ns++ms) zs vK:=by
 have hl:∀g,vK.ownBlock=some g->w.heap.size<=g/\g<wr.heap.size:=fun g hg=>h.own.lt g hg;refine⟨by rw[<-Vm];exact hF,h.went.trans hW,fun q hq g hg=>?_,jJ h.own fun g hg=>hW.onl.block g (hl g hg).2 (by have:=(hl g hg).1;omega) (h.far g hg).1,fun g hg=>⟨hW.apart (hl g hg).2 (h.far g hg).1,fun q hq hi=>?_⟩,h.ne⟩
 ·rcases U6.1 hq with h1|h1
  ·exact h.new q h1 g hg
  exact U0 h.went.onl.size (hm q h1 g hg)
 rw[<-Vm]at hq;rcases U6.1 hq with h1|h1
 ·exact(h.far g hg).2 q h1 hi
 have:=hm q h1 g hi;have:=(hl g hg).2;omega
theorem PM(zs:List Int)(z:Int):ints (zs++[z])=ints zs++[.int .i64 z]:=by simp[ints]
theorem KLr.app{w wr w':af}{R:Nat}{s:ByteArray}{st:RS}{base:Nat}{v v':Value}{qs ns:Q08}{zs:List Int}{vK vN:Value}(h:KLr w wr R s st base v v' qs ns zs vK)(hR:R<w.heap.size)(z:Int)(o:Obj)(hown:w'.ownsRow w.heap.size 2 1 vN (zs.length+1) (ints zs++[.int .i64 z]))(hg:(wr.alloc o).grownBy w' vK.ownBlock)(hat:vN.ownBlock=vK.ownBlock\/vN.ownBlock=some (wr.alloc o).heap.size):KLr w w' R s st base v v' qs ns (zs++[z]) vN:=by
 have hg0:=World.grownBy_alloc wr o none;have keep:∀k,k<wr.heap.size->vK.ownBlock≠some k->w'.heap[k]?=wr.heap[k]?:=fun k hk hne=>(hg.block k (UT hk hg0.size) (Ne.symm hne)).trans (hg0.block k hk (by simp));have hl:∀g,vK.ownBlock=some g->w.heap.size<=g/\g<wr.heap.size:=fun g hg=>h.own.lt g hg;have hs:wr.heap.size<=w'.heap.size:=U0 hg0.size hg.size;refine⟨h.rd.heap hs (keep R h.rd.rd.lt (fun e=>by have:=(hl R e).1;omega)) (fun g hg=>keep g (h.rd.own.lt g hg).2 (fun e=>(h.far g e).1 hg)) (fun q hq g hi=>keep g (h.rd.lie q hq g hi).2.1 (fun e=>(h.far g e).2 q hq hi)),?_,h.new,by rw[PM,U2,Vr];exact hown,fun g hgn=>?_,by simp⟩
 ·refine⟨⟨hg.os.trans (hg0.os.trans h.went.onl.os),hg.tape.trans (hg0.tape.trans h.went.onl.tape),hg.output.trans (hg0.output.trans h.went.onl.output),U0 h.went.onl.size hs,fun k hk h1 h2=>(keep k (UT hk h.went.onl.size) (fun e=>by have:=(hl k e).1;omega)).trans (h.went.onl.block k hk h1 h2)⟩,h.went.own⟩
 rcases hat with e|e
 ·exact h.far g (by rw[<-e];exact hgn)
 rw[e]at hgn;injection hgn with hgn;have hsz:wr.heap.size<=g:=by rw[<-hgn];exact hg0.size
 exact⟨fun e2=>by have:=(h.rd.own.lt g e2).2;omega,fun q hq hi=>by have:=(h.rd.lie q hq g hi).2.1;omega⟩
theorem KLr.node{w wr:af}{R:Nat}{s:ByteArray}{st:RS}{base:Nat}{v v':Value}{qs ns:Q08}{zs:List Int}{vK:Value}(h:KLr w wr R s st base v v' qs ns zs vK)(hb:base<=w.heap.size)(k:Int):∃ad cap,vK=.slice ad zs.length cap/\NewQ base wr ⟨⟨k,[],⟨#[]⟩,⟨#[]⟩,zs⟩,none,0,ad,cap⟩/\∀g,p9 ⟨⟨k,[],⟨#[]⟩,⟨#[]⟩,zs⟩,none,0,ad,cap⟩ g->w.heap.size<=g/\v'.ownBlock≠some g/\∀q∈qs++ns,¬p9 q g:=by
 obtain⟨ad,cap,e,h2,h3,h4⟩:=Ut h.own rfl;have hA:∀g,¬bA ⟨⟨k,[],⟨#[]⟩,⟨#[]⟩,zs⟩,none,0,ad,cap⟩ g:=fun g hg=>hg.1 rfl;have hK:∀g,p9 ⟨⟨k,[],⟨#[]⟩,⟨#[]⟩,zs⟩,none,0,ad,cap⟩ g->(w.heap.size<=g/\g<wr.heap.size/\jX wr g)/\vK.ownBlock=some g:=by
  rintro g (hg|hg)
  ·exact absurd hg (hA g)
  exact⟨h4 g hg.1 hg.2,by rw[e,show ad=some ⟨g,0,none⟩ from hg.2];rfl⟩
 refine⟨ad,cap,e,⟨fun h=>absurd rfl h,h3,⟨.inl rfl,h2⟩,fun g hg=>⟨U0 hb (hK g hg).1.1,(hK g hg).1.2⟩,fun g hg=>absurd hg (hA g),UY _⟩,fun g hg=>⟨(hK g hg).1.1,h.far g (hK g hg).2⟩⟩
theorem KLr.kid{w wr:af}{R:Nat}{s:ByteArray}{st:RS}{base:Nat}{v v':Value}{qs ns:Q08}{zs:List Int}{ad:Q02}{cap:Nat}(h:KLr w wr R s st base v v' qs ns zs (.slice ad zs.length cap))(hb:base<=w.heap.size)(k:Int):Cg wr base ⟨⟨k,[],⟨#[]⟩,⟨#[]⟩,zs⟩,none,0,ad,cap⟩:=Cg.mono (base:=w.heap.size) (.inr ⟨h.ne,h.own⟩) hb
theorem PN(w:af)(z:Int)(g:Nat)(hg:w.heap.size=g):∀j u,[Value.int .i64 z][j]?=some u->(w.alloc (.cells #[.int .i64 z] 2)).cell? ((⟨g,0,none⟩:Addr).add j)=some u:=by
 intro j u hu;subst hg;rw[show(⟨w.heap.size,0,none⟩:Addr).add j=⟨w.heap.size,0+j,none⟩ by simp[Addr.add];omega,Vj];have:=World.cell?_alloc_mark w #[.int .i64 z] 2 (0,0) j;rw[this];simpa using hu
theorem Rx(R:Nat)(s:bQ)(st:RS)(base:Nat)(v:Value)(qs:Q08)(w:af)(h:RdF w R s st base v qs)(hR:R<base)(hB:base<=w.heap.size)(hs:s.size<=1000)(x:Int×RS)(hx:x.2.p<=s.size)
  (hfirst:Calls prog 234 #[.pointer (some ⟨R,0,none⟩)] w (uX R s base v qs w x))
  (it:RS->Int×RS) (hlen:x.2.out.length+(s.size-x.2.p)<=5001)
  (hit:∀(st':RS) (v':Value) (qs':Q08) (w':World),RdF w' R s st' base v' qs'->base<=w'.heap.size->x.2.p+3<=st'.p->st'.p<=s.size->st'.out.length+(s.size-st'.p)<=5000->Calls prog 234 #[.pointer (some ⟨R,0,none⟩)] w' (uX R s base v' qs' w' (it st')))
  (hmono:∀st':RS,x.2.p+3<=st'.p->st'.p<=s.size->st'.p<=(it st').2.p/\(it st').2.p<=s.size/\(it st').2.out.length+st'.p<=st'.out.length+1+(it st').2.p) :
  Calls prog 219 #[.pointer (some ⟨R,0,none⟩)] w (uX R s base v qs w (rowP s it x)):=by
 obtain⟨iI,hiI,zI0,zI1,zI2⟩:=info_parts (P:=prog) (e:=2) (z:=.int .i64 0) (size:=1) (bytes:=8) (by kernel_rfl);have HII:Hid (prog.info? 2=some iI/\iI.zero=some (.int .i64 0)/\iI.size=1/\iI.bytes=8):=⟨hiI,zI0,zI1,zI2⟩;have HLEN:=ai hlen;have HITM:=ai hit;have HMONO:=ai hmono;clear hiI zI0 zI1 zI2 hlen hit hmono;have H:=ai h;have HX:=ai hx;have HIT:=ai hfirst;clear h hx hfirst;go_enter func219,ntmps219;go_wp2_with fail;refine HIT.out.mono ?_;rintro e w1 ⟨v1,ns,rfl,hF1,hW1,hns⟩;have Xk:=ai hF1;have HW1:=ai hW1;have HNS:=ai hns;clear hF1 hW1 hns HIT;go_wp2_with fail;go_loopw[4,5] (fun kd k wr=>∃(j nn:Nat),4<=j/\j<=7/\k=.int .i64 j/\kd=.int .i64 (ig s x.2.p j)/\Hid (wr=w1.drewN nn)) (fun _ k _=>7-(intOf k).toNat);case atStart=>exact⟨4,0,by omega,by omega,rfl,by rw[PG],rfl⟩
 obtain⟨j,nn,hj4,hj7,rfl,rfl,XT⟩:=hrel;have hrd:RdC wr R s x.2.p x.2.bad v1:=by rw[XT.out];exact Xk.out.rd.drewN nn
 have HRD:=ai hrd;have c0:=HRD.out.c0;have c1:=HRD.out.c1;have c2:=HRD.out.c2;clear hrd;by_cases hlt:j<7
 ·have hle:decide ((j:Int)<=6)=true:=by simp;omega
  have hle2:(j:Int)<=6:=by omega
  have hwr:IntKind.i64.wrap ((x.2.p:Int)+3)=(x.2.p:Int)+3:=by have:=HX.out;simp[IntKind.wrap,IntKind.bits,IntKind.signed];omega
  by_cases hK:ig s x.2.p j=0
  ·have hK0:(ig s x.2.p j==0)=true:=by simp[hK]
   by_cases Y5:x.2.p+3<=s.size
   ·have hd:decide ((x.2.p:Int)+3<=(s.size:Int))=true:=by simp;omega
    have hd2:(x.2.p:Int)+3<=(s.size:Int):=by omega
    have hnn:(0:Int)<=(x.2.p:Int):=by omega
    have hp1:(x.2.p:Int)<=(x.2.p:Int)+3:=by omega
    rw[hK];cases he:(s.extract x.2.p (x.2.p+3)).toList==(gQ j).toList
    case' true =>
     have EQ:=ai (JU hj4 hlt hK (by rw[Bq _ Y5];exact he))
    case' false =>
     have EQ:=ai (DU hj4 hlt hK (by rw[Bq _ Y5];exact he))
    all_goals
     clear hK hK0;go_wp2_with fail;go_quiet ((go_at_call 235;exact Calls.quiet_of_same (mr _ _)));go_wp2;go_roundw;case rel=>exact⟨j+1,nn+nq,by omega,by omega,by go_num,by rw[EQ.out],by show _=_;rw[XT.out,World.drewN_drewN]⟩
     simp[intOf]<;>omega
   have hd:decide ((x.2.p:Int)+3<=(s.size:Int))=false:=by simp;omega
   have EQ:=ai (DU hj4 hlt hK (MQ _ Y5));rw[hK];clear hK hK0;go_wp2_with fail;go_quiet ((go_at_call 235;exact Calls.quiet_of_same (mr _ _)));go_wp2;go_roundw;case rel=>exact⟨j+1,nn+nq,by omega,by omega,by go_num,by rw[EQ.out],by show _=_;rw[XT.out,World.drewN_drewN]⟩
   simp[intOf]<;>omega
  have hK0:(ig s x.2.p j==0)=false:=by simp[hK]
  have EQ:=ai (G8 hj4 hlt hK);clear hK;go_wp2_with fail;go_quiet ((go_at_call 235;exact Calls.quiet_of_same (mr _ _)));go_wp2;go_roundw;case rel=>exact⟨j+1,nn+nq,by omega,by omega,by go_num,by rw[EQ.out],by show _=_;rw[XT.out,World.drewN_drewN]⟩
  simp[intOf]<;>omega
 obtain rfl:j=7:=by omega
 rw[PH,show((7:Nat):Int)=(7:Int) from rfl];have hle:decide ((7:Int)<=6)=false:=by decide
 obtain⟨kd,hkd⟩:∃kd,kd=dG s x.2.p:=⟨_,rfl⟩;have HKD:=ai hkd;rw[<-hkd];clear hkd;by_cases hk:kd=0
 ·have hk0:(kd==0)=true:=by simp[hk]
  have EQ:=ai (Br (it:=it) (.inl (HKD.out.symm.trans hk)));subst hk;have HF:=ai (Xk.out.heap (w':=wr) (by rw[XT.out];exact UU _) (by rw[XT.out];rfl) (fun g _=>by rw[XT.out];rfl) (fun q _ g _=>by rw[XT.out];rfl));have HW:Hid (Went R v w v1 wr):=by rw[XT.out];exact⟨⟨HW1.out.onl.os,HW1.out.onl.tape,HW1.out.onl.output,HW1.out.onl.size,HW1.out.onl.block⟩,HW1.out.own⟩
  go_wp2;exact bodyPost_ret (v:=.int .i64 x.1) (by simp[results,Tryz.results219,go_sem]) rfl (by rw[EQ.out];exact⟨v1,ns,rfl,HF.out,HW.out,HNS.out⟩)
 have hk0:(kd==0)=false:=by simp[hk]
 cases hb:x.2.bad;case true=>
  have EQ:=ai (Br (it:=it) (x:=x) (s:=s) (.inr hb));rw[hb]at c2;have HF:=ai (Xk.out.heap (w':=wr) (by rw[XT.out];exact UU _) (by rw[XT.out];rfl) (fun g _=>by rw[XT.out];rfl) (fun q _ g _=>by rw[XT.out];rfl));have HW:Hid (Went R v w v1 wr):=by rw[XT.out];exact⟨⟨HW1.out.onl.os,HW1.out.onl.tape,HW1.out.onl.output,HW1.out.onl.size,HW1.out.onl.block⟩,HW1.out.own⟩
  go_wp2;exact bodyPost_ret (v:=.int .i64 x.1) (by simp[results,Tryz.results219,go_sem]) rfl (by rw[EQ.out];exact⟨v1,ns,rfl,HF.out,HW.out,HNS.out⟩)
 rw[hb]at c2;have Xu:Hid (¬(dG s x.2.p=0\/x.2.bad=true)):=by
  rintro(e|e)
  ·exact hk (HKD.out.trans e)
  rw[hb]at e;cases e
 have HF:=ai (Xk.out.heap (w':=wr) (by rw[XT.out];exact UU _) (by rw[XT.out];rfl) (fun g _=>by rw[XT.out];rfl) (fun q _ g _=>by rw[XT.out];rfl));have HW:Hid (Went R v w v1 wr):=by rw[XT.out];exact⟨⟨HW1.out.onl.os,HW1.out.onl.tape,HW1.out.onl.output,HW1.out.onl.size,HW1.out.onl.block⟩,HW1.out.own⟩
 have HWB:Hid (R<w.heap.size):=H.out.rd.lt;have HKL0:Hid (KLr w (wr.alloc (.cells #[.int .i64 x.1] 2)) R s x.2 base v v1 qs ns [x.1] (.slice (some ⟨wr.heap.size,0,none⟩) 1 1)):=by
  have hg0:=World.grownBy_alloc wr (.cells #[.int .i64 x.1] 2) none;refine⟨HF.out.heap hg0.size (hg0.block R HF.out.rd.lt (by simp)) (fun g hg=>hg0.block g (HF.out.own.lt g hg).2 (by simp)) (fun q hq g hi=>hg0.block g (HF.out.lie q hq g hi).2.1 (by simp)),HW.out.trans ((Onl.of_below ((UV _ _).alloc (UU _) _)).any v1),HNS.out,World.ownsRow_lit wr #[.int .i64 x.1] 1 HW.out.onl.size (by unfold maxLen;omega) (by simp),fun g hg=>?_,by simp⟩;simp[Value.ownBlock]at hg;subst hg;exact⟨fun e=>by have:=(HF.out.own.lt _ e).2;omega,fun q hq hi=>by have:=(HF.out.lie q hq _ hi).2.1;omega⟩
 clear HF HW HRD XT Xk HW1 HNS;go_wp2_with fail;clear c0 c1 c2;go_loopw[6] (fun vK wq=>∃(n:Nat) (zs:List Int) (st':RS) (v':Value) (ms:Q08),Hid (st'.p<=s.size/\x.2.p<=st'.p/\s.size-st'.p<n/\zs.length<=st'.p+1/\st'.out.length+(s.size-st'.p)<=5001)/\Hid (iq s it kd n zs st'=iq s it kd (s.size+1) [x.1] x.2)/\Hid (KLr w wq R s st' base v v' qs ms zs vK)) (fun _ wq=>s.size-wat R wq);case atStart=>exact⟨s.size+1,[x.1],x.2,v1,ns,⟨HX.out,UU _,by omega,by simp,HLEN.out⟩,rfl,HKL0.out⟩
 obtain⟨n,zs,st',v',ms,HB,HQ,Xh⟩:=hrel;clear HKL0;go_wp2_with fail;refine(mr _ _).mono ?_;rintro e w' ⟨rfl,rfl⟩;go_wp2_with fail;refine(l7 R s (gQ kd) st'.p st'.bad v' _ Xh.out.rd.rd hs HB.out.1 (by simp[lX])).mono ?_;rintro e w5 ⟨rfl,hr5,hg5⟩;cases hc:mX s (gQ kd) st'.p st'.bad;case false=>
  have HK5:=ai (Xh.out.is HWB.out hg5 (Xh.out.rd.is_no hR hc hr5 hg5));rw[wB]at hc;have EQ:=ai (MR (zs:=zs) (st:=st') Xu.out (by rw[<-HKD.out];exact HQ.out.symm.trans (PK hc)));obtain⟨ad,cap,rfl,hnq,hin⟩:=HK5.out.node hB kd;have HNQ:=ai hnq;have HIN:=ai hin;have hql:(qs++ms).length<=100000:=by have h1:=HK5.out.rd.out;have h2:=congrArg List.length h1;simp only[ak,Vt]at h2;have:=HB.out.2.2.2.2;omega
  clear hr5 hg5 hc hnq hin Xh;go_wp2_with fail;refine(LM R s st' base v' (qs++ms) ⟨⟨kd,[],⟨#[]⟩,⟨#[]⟩,zs⟩,none,0,ad,cap⟩ w5 HK5.out.rd hR (U0 hB HK5.out.went.onl.size) hql HNQ.out (HK5.out.kid hB kd) (fun g hg=>(HIN.out g hg).2)).mono ?_;rintro e w6 ⟨v6,rfl,hF6,hW6⟩;have Zp:=ai hF6;have HW6:=ai (HK5.out.went.trans hW6);clear hF6 hW6;have HNEW:Hid (∀q∈ms++[(⟨⟨kd,[],⟨#[]⟩,⟨#[]⟩,zs⟩,none,0,ad,cap⟩:ER)],∀g,p9 q g->w.heap.size<=g):=by
   intro q hq g hg;rcases U6.1 hq with h1|h1
   ·exact HK5.out.new q h1 g hg
   rw[U4]at h1;subst h1;exact(HIN.out g hg).1
  replace Zp:Hid (RdF w6 R s (sF ⟨kd,[],⟨#[]⟩,⟨#[]⟩,zs⟩ st') base v6 (qs++(ms++[(⟨⟨kd,[],⟨#[]⟩,⟨#[]⟩,zs⟩,none,0,ad,cap⟩:ER)]))):=by rw[<-Vm];exact Zp.out
  go_wp2;exact bodyPost_ret (v:=.int .i64 (st'.out.length:Int)) (by simp[results,Tryz.results219,go_sem]) rfl (by rw[EQ.out,<-HKD.out];exact⟨v6,_,rfl,Zp.out,HW6.out,HNEW.out⟩)
 have hk5:=Xh.out.is HWB.out hg5 (Xh.out.rd.is_yes hR hc hr5 hg5);rw[wB]at hk5;have HK5:=ai hk5;have HPS:Hid (st'.p+3<=s.size):=by have:=zW hc;rw[lX]at this;exact this
 have HPL:=ai Xh.out.rd.rd.place;obtain⟨m,hm⟩:∃m,n=m+1:=⟨n-1,by have:=HB.out.2.2.1;omega⟩;subst hm;rw[wB]at hc;have EQ:=ai ((MS (it:=it) (n:=m) (zs:=zs) hc).symm.trans HQ.out);have eP:(kE (bf kd) st').p=st'.p+3:=by unfold kE;rw[mD]
 have eO:(kE (bf kd) st').out=st'.out:=rfl;have a1:x.2.p+3<=(kE (bf kd) st').p:=by rw[eP];have:=HB.out.2.1;omega
 have a2:(kE (bf kd) st').p<=s.size:=by rw[eP];exact HPS.out
 have a3:(kE (bf kd) st').out.length+(s.size-(kE (bf kd) st').p)<=5000:=by rw[eP,eO];have:=HB.out.2.2.2.2;have:=HPS.out;omega
 have hmo:=HMONO.out (kE (bf kd) st') a1 a2;rw[eP,eO]at hmo;have hcall:=HITM.out (kE (bf kd) st') v' (qs++ms) w5 HK5.out.rd (U0 hB HK5.out.went.onl.size) a1 a2 a3;obtain⟨y,hy⟩:∃y,y=it (kE (bf kd) st'):=⟨_,rfl⟩;rw[<-hy]at hmo hcall EQ;have HMO:=ai hmo;have Xw:=ai hcall;clear hr5 hg5 hk5 hc Xh eP eO a1 a2 a3 hmo hcall hy;go_wp2_with fail;refine Xw.out.mono ?_;rintro e w6 ⟨v6,ns6,rfl,hF6,hW6,hn6⟩;have HK6:=ai (HK5.out.more HWB.out hF6 hW6 hn6);clear hF6 hW6 hn6 Xw HK5;obtain⟨W7,XX⟩:∃W7,W7=w6.alloc (.cells #[.int .i64 y.1] 2):=⟨_,rfl⟩;have Yf:Hid (W7.ownsRow w.heap.size 2 1 u6 zs.length (ints zs)):=by rw[XX];exact HK6.out.own.alloc _
 have HN7:Hid (∀j u,[Value.int .i64 y.1][j]?=some u->W7.cell? ((⟨w6.heap.size,0,none⟩:Addr).add j)=some u):=by rw[XX];exact PN w6 _ _ rfl
 have HS7:Hid (w.heap.size<=W7.heap.size):=by show _<=_;rw[XX];exact U0 HK6.out.went.onl.size (World.grownBy_alloc w6 _ none).size
 have HW7:=ai XX;have hzl:zs.length<=1001:=by have:=HB.out.2.2.2.1;have:=HB.out.1;omega
 go_wp2_with(at_builtin;rw[<-XX];clear XX;refine wpList_append_own_at _ rfl _ _ 37 rfl w.heap.size 2 iI (.int .i64 0) 1 8 underlying37 HII.out.1 HII.out.2.1 HII.out.2.2.1 HII.out.2.2.2 rfl (by decide) u6 zs.length (ints zs) rfl Yf.out ⟨w6.heap.size,0,none⟩ 1 1 [Value.int .i64 y.1] rfl rfl HN7.out (by intro u hu;simp at hu;subst hu;rfl) (by unfold maxLen;omega) (by omega) HS7.out ?_);intro vN w8 Zj hgr8 _ hat8;have HK8:Hid (KLr w w8 R s y.2 base v v6 qs (ms++ns6) (zs++[y.1]) vN):=by
  rw[HW7.out]at hgr8 hat8;exact HK6.out.app HWB.out y.1 _ Zj hgr8 hat8
 have HM:Hid (s.size-wat R w8<s.size-wat R w'):=by
  show _<_;rw[HK8.out.rd.rd.place,HPL.out];have:=HMO.out.1;have:=HMO.out.2.1;have:=HPS.out;omega
 clear Zj hgr8 hat8 Yf HN7 HS7 HW7 HK6;go_wp2;go_roundw;case rel=>exact⟨m,zs++[y.1],y.2,v6,ms++ns6,⟨HMO.out.2.1,by have:=HMO.out.1;have:=HB.out.2.1;omega,by have:=HB.out.2.2.1;have:=HMO.out.1;have:=HMO.out.2.1;omega,by have:=HB.out.2.2.2.1;have:=HMO.out.1;rw[U2,Vr];omega,by have:=HB.out.2.2.2.2;have:=HMO.out;omega⟩,EQ.out,HK8.out⟩
 exact HM.out
theorem DV{s:ByteArray}{st:RS}(h:st.p<=s.size):st.p<=(bI s st).p/\(bI s st).p<=s.size:=⟨Nat.le_add_right _ _,kF s st.p h⟩
theorem Fg{s:ByteArray}{st:RS}(h:st.p<=s.size):st.p<=(aZ s st).p/\(aZ s st).p<=s.size/\(aZ s st).out=st.out:=by
 unfold aZ;cases e:lG s uP st;case false=>exact⟨UU _,h,rfl⟩
 have h1:st.p+1<=s.size:=kV e;have:=kF s (st.p+1) h1;exact⟨by show st.p<=st.p+1+av s (st.p+1);omega,this,rfl⟩
theorem DW{s:ByteArray}:∀(n:Nat) (xs:Q0a) (st:RS),st.p<=s.size->st.p<=(dF s n xs st).2.p/\(dF s n xs st).2.p<=s.size/\(dF s n xs st).2.out=st.out:=by
 intro n
 induction n with
 | zero=>intro xs st h;exact⟨UU _,h,rfl⟩
 | succ n ih =>
  intro xs st h;have h1:=DV h;have h2:=Fg h1.2;have h3:(aZ s (bI s st)).out=st.out:=h2.2.2;unfold dF;by_cases hb:st.bad=true
  ·rw[if_pos hb];exact⟨UU _,h,rfl⟩
  rw[if_neg hb];by_cases hc:lG s fD (aZ s (bI s st))=true
  ·rw[if_pos hc];have h4:(aZ s (bI s st)).p+1<=s.size:=kV hc;exact⟨by show st.p<=(aZ s (bI s st)).p+1;omega,h4,h3⟩
  rw[if_neg hc];by_cases hm:lG s lZ (aZ s (bI s st))=true
  ·rw[if_pos hm];have h4:(aZ s (bI s st)).p+1<=s.size:=kV hm;obtain⟨a,b,c⟩:=ih (xs++[⟨az s st.p,yL s (bI s st)⟩]) (kE lZ (aZ s (bI s st))) h4;have a':(aZ s (bI s st)).p+1<=_:=a;exact⟨by omega,b,c.trans h3⟩
  rw[if_neg hm];obtain⟨a,b,c⟩:=ih (xs++[⟨az s st.p,yL s (bI s st)⟩]) (uQ (aZ s (bI s st))) h2.2.1;have a':(aZ s (bI s st)).p<=_:=a;exact⟨by omega,b,c.trans h3⟩
def Bt(s:ByteArray)(k:Nat)(st st':RS):Prop:=st.p<=st'.p/\st'.p<=s.size/\st'.out.length+st.p<=st.out.length+k+st'.p
theorem MU{s:ByteArray}{st:RS}(h:lG s fZ st=true):Bt s 1 st (qN s st).2:=by
 have h1:(kE fZ st).p<=s.size:=kV h;obtain⟨a,b,c⟩:=DW (s:=s) (s.size+1) [] (kE fZ st) h1;have a':st.p+5<=_:=a;have c':_=st.out:=c;unfold qN Bt;cases e:dF s (s.size+1) [] (kE fZ st) with
 | mk o st' =>
  rw[e]at a' b c';replace a':st.p+5<=st'.p:=a';replace b:st'.p<=s.size:=b;replace c':st'.out=st.out:=c';cases o with
  | none=>exact⟨by show st.p<=st'.p;omega,b,by show st'.out.length+_<=_+_+st'.p;rw[c'];omega⟩
  | some xs=>exact⟨by show st.p<=st'.p;omega,b,by show(st'.out++_).length+_<=_+_+st'.p;rw[c',U2,Vr];omega⟩
theorem PO{s:ByteArray}{st:RS}(h:st.p<=s.size):Bt s 1 st (sF (fB s st) (judged (fB s st) (aI s st))):=by
 have h1:=DV h;have key:st.p<=(aI s st).p/\(aI s st).p<=s.size/\(aI s st).out=st.out:=by
  unfold aI;cases e:lG s oI (bI s st);case false=>exact⟨h1.1,h1.2,rfl⟩
  have h2:st.p+av s st.p+2<=s.size:=kV e;have:=kF s _ h2;exact⟨by show st.p<=st.p+av s st.p+2+av s (st.p+av s st.p+2);omega,this,rfl⟩
 have key2:(judged (fB s st) (aI s st)).p=(aI s st).p/\(judged (fB s st) (aI s st)).out=st.out:=by
  unfold judged;split
  ·exact⟨rfl,key.2.2⟩
  exact⟨rfl,key.2.2⟩
 refine⟨?_,?_,?_⟩
 ·show st.p<=(judged (fB s st) (aI s st)).p;rw[key2.1];exact key.1
 ·show(judged (fB s st) (aI s st)).p<=_;rw[key2.1];exact key.2.1
 show((judged (fB s st) (aI s st)).out++_).length+_<=_+1+(judged (fB s st) (aI s st)).p;rw[key2.1,key2.2,U2,Vr];have:=key.1;omega
theorem MV{s:ByteArray}{st:RS}{x:Int×RS}(h:Bt s 1 (kE jG st) x.2):Bt s 1 st (tY s x).2:=by
 obtain⟨a,b,c⟩:=h;replace a:st.p+1<=x.2.p:=a;replace c:x.2.out.length+(st.p+1)<=st.out.length+1+x.2.p:=c;unfold tY;cases e:lG s fD x.2;case false=>exact⟨by show st.p<=x.2.p;omega,b,by show x.2.out.length+st.p<=_+1+x.2.p;omega⟩
 have h2:x.2.p+1<=s.size:=kV e;exact⟨by show st.p<=x.2.p+1;omega,h2,by show x.2.out.length+st.p<=_+1+(x.2.p+1);omega⟩
theorem MW{s:ByteArray}{it:RS->Int×RS}{k:Int}(hit:∀st,st.p<=s.size->Bt s 1 st (it st).2):∀(n:Nat) (zs:List Int) (st:RS),st.p<=s.size->Bt s 0 st (iq s it k n zs st).2/\(0<n->lG s (bf k) st=true->(iq s it k n zs st).2.out.length+st.p+2<=st.out.length+(iq s it k n zs st).2.p):=by
 intro n
 induction n with
 | zero=>intro zs st h;exact⟨⟨UU _,h,UU _⟩,fun h=>absurd h (by omega)⟩
 | succ n ih =>
  intro zs st h;unfold iq;cases e:lG s (bf k) st;case false=>exact⟨⟨UU _,h,UU _⟩,fun _ h=>by cases h⟩
  have h1:st.p+3<=s.size:=by have:=kV e;rw[mD]at this;exact this
  have eP:(kE (bf k) st).p=st.p+3:=by unfold kE;rw[mD]
  have eO:(kE (bf k) st).out=st.out:=rfl;obtain⟨a,b,c⟩:=hit (kE (bf k) st) (by rw[eP];exact h1);rw[eP]at a c;rw[eO]at c;obtain⟨⟨a2,b2,c2⟩,-⟩:=ih (zs++[(it (kE (bf k) st)).1]) (it (kE (bf k) st)).2 b;simp only[if_true];exact⟨⟨by omega,b2,by omega⟩,fun _ _=>by omega⟩
theorem JV{s:ByteArray}{p:Nat}(h:dG s p≠0):dY s (bf (dG s p)) p=true:=by
 unfold dG at h⊢;cases h1:dY s (bf 4) p;case true=>simpa using h1
 cases h2:dY s (bf 5) p;case true=>simpa[h1] using h2
 cases h3:dY s (bf 6) p;case true=>simpa[h1,h2] using h3
 simp[h1,h2,h3]at h
theorem Ry{s:ByteArray}{it:RS->Int×RS}(hit:∀st,st.p<=s.size->Bt s 1 st (it st).2){st:RS}{x:Int×RS}(h:Bt s 1 st x.2):Bt s 1 st (rowP s it x).2:=by
 unfold rowP;by_cases hc:dG s x.2.p=0\/x.2.bad=true
 ·rw[if_pos hc];exact h
 rw[if_neg hc];have hsg:dG s x.2.p≠0:=fun e=>hc (.inl e)
 have hbd:x.2.bad=false:=by cases e:x.2.bad with
  | false=>rfl
  | true=>exact absurd (.inr e) hc
 have hyes:lG s (bf (dG s x.2.p)) x.2=true:=by unfold lG;rw[hbd,JV hsg];rfl
 obtain⟨⟨a,b,c⟩,d⟩:=MW hit (k:=dG s x.2.p) (s.size+1) [x.1] x.2 h.2.1;have d:=d (by omega) hyes;obtain⟨a1,b1,c1⟩:=h;refine⟨?_,b,?_⟩
 ·show st.p<=(iq s it (dG s x.2.p) (s.size+1) [x.1] x.2).2.p;omega
 show((iq s it (dG s x.2.p) (s.size+1) [x.1] x.2).2.out++_).length+_<=_+1+(iq s it (dG s x.2.p) (s.size+1) [x.1] x.2).2.p;rw[U2,Vr];omega
theorem Bu{s:ByteArray}{n:Nat}{st:RS}(h:lG s fZ st=true):zF s (n+1) false st=qN s st:=by
 unfold zF qN;rw[if_pos h];cases dF s (s.size+1) [] (kE fZ st) with
 | mk o st'=>cases o<;>rfl
theorem Bv{s:ByteArray}{n:Nat}{st:RS}(h:lG s fZ st=false)(h2:lG s jG st=true):zF s (n+1) false st=tY s (zF s n true (kE jG st)):=by
 conv=>lhs;unfold zF
 rw[if_neg (by rw[h];decide),if_pos h2];rfl
theorem Bw{s:ByteArray}{n:Nat}{st:RS}(h:lG s fZ st=false)(h2:lG s jG st=false):zF s (n+1) false st=((st.out.length:Int),sF (fB s st) (judged (fB s st) (aI s st))):=by
 unfold zF;rw[if_neg (by rw[h];decide),if_neg (by rw[h2];decide)]
theorem Fh{s:ByteArray}{n:Nat}{st:RS}:zF s (n+1) true st=rowP s (zF s n false) (zF s n false st):=by
 conv=>lhs;unfold zF
 rfl
theorem rZ{s:ByteArray}:∀(n:Nat) (b:Bool) (st:RS),st.p<=s.size->Bt s 1 st (zF s n b st).2:=by
 intro n
 induction n with
 | zero=>intro b st h;cases b<;>exact⟨UU _,h,by show st.out.length+st.p<=st.out.length+1+st.p;omega⟩
 | succ n ih =>
  intro b st h;cases b;case true=>rw[Fh];exact Ry (fun st' h'=>ih false st' h') (ih false st h)
  cases h1:lG s fZ st;case true=>rw[Bu h1];exact MU h1
  cases h2:lG s jG st;case true=>rw[Bv h1 h2];exact MV (ih true (kE jG st) (kV h2))
  rw[Bw h1 h2];exact PO h
theorem PP(R:Nat)(s:bQ)(base:Nat)(hR:R<base)(hs:s.size<=1000):∀n:Nat,
  (∀ (st:RS) (v:Value) (qs:Q08) (w:World),RdF w R s st base v qs->base<=w.heap.size->st.p<=s.size->st.out.length+(s.size-st.p)<=5000->2*(s.size-st.p)<n ->
   Calls prog 234 #[.pointer (some ⟨R,0,none⟩)] w (uX R s base v qs w (zF s n false st))) /\
  (∀ (st:RS) (v:Value) (qs:Q08) (w:World),RdF w R s st base v qs->base<=w.heap.size->st.p<=s.size->st.out.length+(s.size-st.p)<=5000->2*(s.size-st.p)+1<n ->
   Calls prog 219 #[.pointer (some ⟨R,0,none⟩)] w (uX R s base v qs w (zF s n true st))):=by
 intro n
 induction n with
 | zero=>exact⟨fun _ _ _ _ _ _ _ _ h=>absurd h (by omega),fun _ _ _ _ _ _ _ _ h=>absurd h (by omega)⟩
 | succ n ih =>
  refine⟨fun st v qs w h hB hp hb hn=>?_,fun st v qs w h hB hp hb hn=>?_⟩
  ·have hlen:qs.length=st.out.length:=by rw[<-h.out];simp[ak]
   cases h1:lG s fZ st;case true=>rw[Bu h1];exact MF R s st base v qs w h hR hB hs hp (by omega) h1
   cases h2:lG s jG st;case true=>
    rw[Bv h1 h2];have h3:st.p+1<=s.size:=kV h2;have h4:(kE jG st).p=st.p+1:=rfl;exact OE R s st base v qs w h hR hs hp h1 h2 _ (rZ n true (kE jG st) h3).2.1 fun w1 hw1 hsz=>ih.2 (kE jG st) v qs w1 hw1 (U0 hB hsz) h3 (by rw[h4];show st.out.length+_<=_;omega) (by rw[h4];omega)
   rw[Bw h1 h2];exact Mx R s st base v qs w h hR hB hs hp (by omega) h1 h2
  rw[Fh];obtain⟨a,b,c⟩:=rZ (s:=s) n false st hp;refine Rx R s st base v qs w h hR hB hs _ b (ih.1 st v qs w h hB hp hb (by omega)) _ (by omega) (fun st' v' qs' w' h' hB' h1 h2 h3=>ih.1 st' v' qs' w' h' hB' h2 h3 (by omega)) (fun st' h1 h2=>?_);obtain⟨a2,b2,c2⟩:=rZ (s:=s) n false st' h2;exact⟨a2,b2,c2⟩
def Uy(s:ByteArray)(a:Al):Prop:=a.t.size<=s.size/\a.s.size<=s.size
def Iz(s:ByteArray)(e:Ex):Prop:=e.allow.length<=s.size+1/\(∀a∈e.allow,Uy s a)/\e.over.size<=s.size/\e.name.size<=s.size/\e.kids.length<=s.size+2
theorem qU(s:bQ)(p:Nat):(az s p).size<=s.size:=by
 unfold az;rw[ByteArray.size_extract];omega
theorem RA(s:bQ)(st:RS):(yL s st).size<=s.size:=by
 unfold yL;split
 ·exact qU s _
 exact UY _
theorem MX{s:ByteArray}:∀(n:Nat) (xs:Q0a) (st:RS) (ys:Q0a),(∀a∈xs,Uy s a)->(dF s n xs st).1=some ys->ys.length<=xs.length+n/\∀a∈ys,Uy s a:=by
 intro n
 induction n with
 | zero=>intro xs st ys _ h;cases h
 | succ n ih =>
  intro xs st ys hx h;have hx2:∀a∈xs++[(⟨az s st.p,yL s (bI s st)⟩:Al)],Uy s a:=by
   intro a ha;rcases U6.1 ha with h1|h1
   ·exact hx a h1
   rw[U4]at h1;subst h1;exact⟨qU s _,RA s _⟩
  unfold dF at h;by_cases hb:st.bad=true
  ·rw[if_pos hb]at h;cases h
  rw[if_neg hb]at h;by_cases hc:lG s fD (aZ s (bI s st))=true
  ·rw[if_pos hc]at h;injection h with h;subst h;exact⟨by rw[U2,Vr];omega,hx2⟩
  rw[if_neg hc]at h;have fin:∀st',(dF s n (xs++[⟨az s st.p,yL s (bI s st)⟩]) st').1=some ys->ys.length<=xs.length+(n+1)/\∀a∈ys,Uy s a:=fun st' h'=>by
   obtain⟨a,b⟩:=ih _ st' ys hx2 h';rw[U2,Vr]at a;exact⟨by omega,b⟩
  by_cases hm:lG s lZ (aZ s (bI s st))=true
  ·rw[if_pos hm]at h;exact fin _ h
  rw[if_neg hm]at h;exact fin _ h
theorem Fj{s:ByteArray}{x:Ex}{st:RS}(h:∀e∈st.out,Iz s e)(hx:Iz s x):∀e∈(sF x st).out,Iz s e:=by
 intro e he;rcases U6.1 he with h1|h1
 ·exact h e h1
 rw[U4]at h1;subst h1;exact hx
theorem PQ{s:ByteArray}{st:RS}(hp:st.p+5<=s.size)(h:∀e∈st.out,Iz s e):∀e∈(qN s st).2.out,Iz s e:=by
 have hc:=(DW (s:=s) (s.size+1) [] (kE fZ st) hp).2.2;have hs:=MX (s:=s) (s.size+1) [] (kE fZ st);unfold qN;cases e:dF s (s.size+1) [] (kE fZ st) with
 | mk o st' =>
  rw[e]at hc hs;have hc':st'.out=st.out:=hc;cases o with
  | none=>show ∀e∈st'.out,Iz s e;rw[hc'];exact h
  | some xs =>
   obtain⟨a,b⟩:=hs xs (fun a ha=>by cases ha) rfl;exact Fj (by rw[hc'];exact h) ⟨by simpa using a,b,UY _,UY _,UY _⟩
theorem RB{s:ByteArray}{st:RS}(h:∀e∈st.out,Iz s e):∀e∈(sF (fB s st) (judged (fB s st) (aI s st))).out,Iz s e:=by
 have h1:(judged (fB s st) (aI s st)).out=st.out:=by
  have h2:(aI s st).out=st.out:=by unfold aI;split<;>rfl
  unfold judged;split<;>exact h2
 refine Fj (by rw[h1];exact h) ?_;unfold fB;split
 ·exact⟨UY _,fun a ha=>(by cases ha),qU s _,qU s _,UY _⟩
 exact⟨UY _,fun a ha=>(by cases ha),UY _,qU s _,UY _⟩
theorem PR{s:ByteArray}{it:RS->Int×RS}{k:Int}(hit:∀st,(∀e∈st.out,Iz s e)->st.p<=s.size->(∀e∈(it st).2.out,Iz s e)/\(it st).2.p<=s.size):∀(n:Nat) (zs:List Int) (st:RS),(∀e∈st.out,Iz s e)->st.p<=s.size->(∀e∈(iq s it k n zs st).2.out,Iz s e)/\(iq s it k n zs st).1.length<=zs.length+n:=by
 intro n
 induction n with
 | zero=>intro zs st h _;exact⟨h,UU _⟩
 | succ n ih =>
  intro zs st h hp;unfold iq;cases e:lG s (bf k) st;case false=>exact⟨h,Nat.le_add_right _ _⟩
  have h1:(kE (bf k) st).p<=s.size:=kV e;obtain⟨a,b⟩:=hit (kE (bf k) st) h h1;obtain⟨a2,b2⟩:=ih (zs++[(it (kE (bf k) st)).1]) _ a b;rw[U2,Vr]at b2;exact⟨a2,by simp only[if_true];omega⟩
theorem PS{s:ByteArray}:∀(n:Nat) (b:Bool) (st:RS),st.p<=s.size->(∀e∈st.out,Iz s e)->∀e∈(zF s n b st).2.out,Iz s e:=by
 intro n
 induction n with
 | zero=>intro b st _ h;cases b<;>exact h
 | succ n ih =>
  intro b st hp h;cases b;case true=>
   rw[Fh];unfold rowP;have hx:=ih false st hp h;have hxp:=(rZ (s:=s) n false st hp).2.1;split
   ·exact hx
   obtain⟨a,b⟩:=PR (s:=s) (it:=zF s n false) (k:=dG s (zF s n false st).2.p) (fun st' h1 h2=>⟨ih false st' h2 h1,(rZ (s:=s) n false st' h2).2.1⟩) (s.size+1) [(zF s n false st).1] (zF s n false st).2 hx hxp;exact Fj a ⟨UY _,fun a ha=>(by cases ha),UY _,UY _,U0 b (by simp only[Vr];omega)⟩
  cases h1:lG s fZ st;case true=>rw[Bu h1];exact PQ (kV h1) h
  cases h2:lG s jG st;case true=>
   rw[Bv h1 h2];have hx:=ih true (kE jG st) (kV h2) h;unfold tY;split
   ·exact hx
   exact hx
  rw[Bw h1 h2];exact RB h
theorem Iz.light{s:ByteArray}{e:Ex}(h:Iz s e)(hs:s.size<=1000):e.light/\e.fits:=by
 obtain⟨h1,h2,h3,h4,h5⟩:=h;refine⟨⟨by omega,by omega⟩,⟨fun a ha=>⟨?_,?_⟩,?_,?_,?_,?_⟩⟩<;>unfold maxLen
 ·have:=(h2 a ha).1;omega
 ·have:=(h2 a ha).2;omega
 all_goals omega
def kL(s:ByteArray):RS:=(zF s (2*s.size+2) true ⟨0,false,[]⟩).2
def mE(s:ByteArray):Bool:=decide (s.size<=1000) && !(kL s).bad && !decide ((kL s).p<s.size)&&aL (kL s).out&&((ic (kL s).out).toList==s.toList)
def Uz(s:ByteArray)(w:World)(e:Ending)(w':World):Prop :=
 ae w w'/\((mE s=false/\e=.returned (.tuple #[.slice none 0 0,.bool false]))\/(mE s=true/\∃(v:Value) (R:Nat) (qs:Q08),e=.returned (.tuple #[v,.bool true])/\RdF w' R s (kL s) (w.heap.size+1) v qs))
theorem PT(w:af)(s:bQ):RdF (w.alloc (.cells #[.string s,.int .i64 0,.bool false,.slice none 0 0] 303)) w.heap.size s ⟨0,false,[]⟩ (w.heap.size+1) (.slice none 0 0) []:=by
 refine⟨⟨by simp,by simp,by simp,by simp,by simp,fun j=>by simp⟩,World.ownsRow_nil _ _ _ _,rfl,?_,?_,?_,?_,?_,?_,?_,?_⟩
 ·intro q hq;cases hq
 ·intro q hq;cases hq
 ·intro q hq;cases hq
 ·intro q hq;cases hq
 ·intro q hq;cases hq
 ·intro x y hx;exact absurd hx (by simp)
 ·intro q hq;cases hq
 intro q hq;cases hq
theorem RdF.slE{w:af}{R:Nat}{s:ByteArray}{st:RS}{base:Nat}{v:Value}{qs:Q08}(h:RdF w R s st base v qs):∃ad cap,v=.slice ad qs.length cap/\gZ w ad qs:=Sw h.own rfl h.ok
theorem RdF.later{w w':af}{R:Nat}{s:ByteArray}{st:RS}{base:Nat}{v:Value}{qs:Q08}(h:RdF w R s st base v qs)(hb:ae w w'):RdF w' R s st base v qs :=
 h.heap hb.size (hb.block R h.rd.lt) (fun g hg=>hb.block g (h.own.lt g hg).2) (fun q hq g hi=>hb.block g (h.lie q hq g hi).2.1)
theorem xL(s:bQ)(w:af):Calls prog 178 #[.string s] w (Uz s w):=by
 by_cases hs:s.size<=1000
 ·have hd0:decide ((1000:Int)<(s.size:Int))=false:=by simp;omega
  have HRD:=ai (PT w s);have Xw:=ai ((PP w.heap.size s (w.heap.size+1) (by omega) hs (2*s.size+2)).2 ⟨0,false,[]⟩ (.slice none 0 0) [] _ HRD.out (by simp) (UY _) (by simp;omega) (by simp));have HSM:Hid (∀e∈(kL s).out,e.light/\e.fits):=fun e he=>(PS (s:=s) _ true ⟨0,false,[]⟩ (UY _) (fun e he=>by cases he) e he).light hs;have HFEW:=ai (rZ (s:=s) (2*s.size+2) true ⟨0,false,[]⟩ (UY _));go_enter func178,ntmps178;go_wp2_with fail;refine Xw.out.mono ?_;rintro e w1 ⟨v1,qs,rfl,hF1,hW1,-⟩;replace hF1:RdF w1 w.heap.size s (kL s) (w.heap.size+1) v1 qs:=hF1;have Xk:=ai hF1;have HB1:Hid (ae w w1):=⟨hW1.onl.os,hW1.onl.tape,hW1.onl.output,by have:=hW1.onl.size;simp at this;omega,fun k hk=>(hW1.onl.block k (by simp;omega) (by omega) (by simp[Value.ownBlock])).trans ((World.grownBy_alloc w _ none).block k hk (by simp))⟩;obtain⟨ad,cap,rfl,hsl⟩:=hF1.slE;have Yu:=ai hsl;have ZT:=ai hF1.out;have hql:qs.length<=1048576:=by
   have h2:=congrArg List.length hF1.out;simp only[ak,Vt]at h2;have h3:(kL s).out.length+0<=0+1+(kL s).p:=HFEW.out.2.2;have h4:(kL s).p<=s.size:=HFEW.out.2.1;omega
  have HL:Hid (∀r∈qs,r.e.light):=fun r hr=>(HSM.out r.e (by rw[<-ZT.out];exact U7.2 ⟨r,hr,rfl⟩)).1;have HF:Hid (∀r∈qs,r.e.fits):=fun r hr=>(HSM.out r.e (by rw[<-ZT.out];exact U7.2 ⟨r,hr,rfl⟩)).2;have Zf:Hid (mE s=(!(kL s).bad && !decide ((kL s).p<s.size)&&aL (kL s).out&&((ic (kL s).out).toList==s.toList))):=by show _=_;unfold mE;simp[hs]
  have c1:=hF1.rd.c1;have c2:=hF1.rd.c2;have c3:=hF1.rd.c3;clear hF1 hW1 hsl Xw HRD HSM HFEW;cases hb:(kL s).bad;case true=>
   rw[hb]at c2;have EQ:Hid (mE s=false):=by show _=_;rw[Zf.out,hb];rfl
   go_wp2;exact bodyPost_ret (v:=.tuple #[.slice none 0 0,.bool false]) (by simp[results,Tryz.results178,go_sem]) rfl ⟨HB1.out,.inl ⟨EQ.out,rfl⟩⟩
  rw[hb]at c2;by_cases hlt:(kL s).p<s.size
  ·have hd1:decide (((kL s).p:Int)<(s.size:Int))=true:=by simp;omega
   have EQ:Hid (mE s=false):=by show _=_;rw[Zf.out,hb,decide_eq_true hlt];rfl
   go_wp2;exact bodyPost_ret (v:=.tuple #[.slice none 0 0,.bool false]) (by simp[results,Tryz.results178,go_sem]) rfl ⟨HB1.out,.inl ⟨EQ.out,rfl⟩⟩
  have hd1:decide (((kL s).p:Int)<(s.size:Int))=false:=by simp;omega
  go_wp2_with fail;refine(ma ad cap qs w1 hql HL.out HF.out Yu.out).mono ?_;rintro e w2 ⟨rfl,hB2⟩;have XK:=ai (Xk.out.later hB2);have HB2:=ai (HB1.out.trans (hB2.mono HB1.out.size));have HSL2:=ai (Yu.out.below hB2);have k3:=XK.out.rd.c3;rw[ZT.out];clear hB2;cases he:aL (kL s).out;case false=>
   have EQ:Hid (mE s=false):=by show _=_;rw[Zf.out,hb,decide_eq_false hlt,he];rfl
   go_wp2;exact bodyPost_ret (v:=.tuple #[.slice none 0 0,.bool false]) (by simp[results,Tryz.results178,go_sem]) rfl ⟨HB2.out,.inl ⟨EQ.out,rfl⟩⟩
  go_wp2_with fail;refine(oo ad cap qs w2 hql HL.out HF.out HSL2.out).mono ?_;rintro e w3 ⟨rfl,hB3⟩;have HF3:=ai (XK.out.later hB3);have HB3:=ai (HB2.out.trans (hB3.mono HB2.out.size));have q3:=HF3.out.rd.c3;rw[ZT.out];clear hB3;cases ht:(ic (kL s).out).toList==s.toList;case false=>
   have ht2:(!(ic (kL s).out).toList==s.toList)=true:=by rw[ht];rfl
   have EQ:Hid (mE s=false):=by show _=_;rw[Zf.out,ht,Bool.and_false]
   go_wp2;exact bodyPost_ret (v:=.tuple #[.slice none 0 0,.bool false]) (by simp[results,Tryz.results178,go_sem]) rfl ⟨HB3.out,.inl ⟨EQ.out,rfl⟩⟩
  have ht2:(!(ic (kL s).out).toList==s.toList)=false:=by rw[ht];rfl
  have EQ:Hid (mE s=true):=by show _=_;rw[Zf.out,hb,decide_eq_false hlt,he,ht];rfl
  go_wp2;exact bodyPost_ret (v:=.tuple #[.slice ad qs.length cap,.bool true]) (by simp[results,Tryz.results178,go_sem]) rfl ⟨HB3.out,.inr ⟨EQ.out,_,_,qs,rfl,HF3.out⟩⟩
 have hd0:decide ((1000:Int)<(s.size:Int))=true:=by simp;omega
 have EQ:Hid (mE s=false):=by show _=_;unfold mE;rw[decide_eq_false hs];rfl
 go_enter func178,ntmps178;go_wp2;exact bodyPost_ret (v:=.tuple #[.slice none 0 0,.bool false]) (by simp[results,Tryz.results178,go_sem]) rfl ⟨UV _ _,.inl ⟨EQ.out,rfl⟩⟩
theorem RdF.nod{w:af}{R:Nat}{s:ByteArray}{st:RS}{base:Nat}{v:Value}{qs:Q08}(h:RdF w R s st base v qs):NodM w base v qs:=⟨h.own,h.zA,h.zK,h.ok,h.lie,h.one,h.two,h.cA⟩
open Maps
set_option linter.unusedVariables false
def aA(fs:Q04):List Value:=fs.flatMap Fc.row
theorem j6:∀fs:List Fc,(aA fs).length=fs.length*5
 | []=>rfl
 | f::fs=>by have:=j6 fs;simp only[aA,Vo,U2,Vq,Fc.row,VT]at this ⊢;omega
theorem ko(fs:Q04)(f:Fc):aA (fs++[f])=aA fs++f.row:=by simp[aA]
theorem qV:∀(fs:Q04) (i:Nat) (h:i<fs.length) (c:Nat),c<5->(aA fs)[i*5+c]?=fs[i].row[c]?
 | [],i,h,_,_=>by simp at h
 | f::fs,0,_,c,hc=>by
  simp only[aA,Vo,Nat.zero_mul,Vj,List.getElem_cons_zero];rw[VP (by simp[Fc.row];omega)]
 | f::fs,i+1,h,c,hc=>by
  have ih:=qV fs i (by simpa using h) c hc;simp only[aA,Vo,List.getElem_cons_succ]at ih ⊢;rw[VN (by simp[Fc.row];omega)];have:(i+1)*5+c-f.row.length=i*5+c:=by simp[Fc.row];omega
  rw[this];exact ih
theorem iP{w:af}{base:Nat}{v:Value}{fs:Q04}(h:w.ownsRow base 29 5 v fs.length (aA fs)):∃ad cap,v=.slice ad fs.length cap/\o8 w ad fs:=by
 rcases h.2 with⟨rfl,h0⟩|⟨g,cap,cur,rfl,hbg,hg,hnc,-⟩
 ·exact⟨none,0,by rw[h0],.inl (Vb.1 h0)⟩
 refine⟨_,cap,rfl,.inr ⟨g,0,rfl,(h.lt g rfl).2,fun i hi=>?_⟩⟩;have hl:=j6 fs;have hc:∀c,c<5->w.cell? ⟨g,0+i*5+c,none⟩=fs[i].row[c]?:=fun c hc=>by
  rw[h.cellAt (0+i*5+c) (by omega),Vj];exact qV fs i hi c hc
 exact⟨hc 0 (by omega),hc 1 (by omega),hc 2 (by omega),hc 3 (by omega),hc 4 (by omega)⟩
theorem pq:∃i,prog.info? 29=some i/\i.zero=some (.agg #[.string ⟨#[]⟩,.string ⟨#[]⟩,.string ⟨#[]⟩,.string ⟨#[]⟩,.string ⟨#[]⟩])/\i.size=5/\i.bytes=80 :=
 info_parts (P:=prog) (e:=29) (z:=.agg #[.string ⟨#[]⟩,.string ⟨#[]⟩,.string ⟨#[]⟩,.string ⟨#[]⟩,.string ⟨#[]⟩]) (size:=5) (bytes:=80) (by kernel_rfl)
theorem wC(w:af)(f:Fc):∀j u,f.row[j]?=some u->(w.alloc (.cells #[.string f.a,.string f.b,.string f.r,.string f.c,.string f.d] 29)).cell? ((⟨w.heap.size,0,none⟩:Addr).add j)=some u:=fun j u hu=>by
 match j,hu with
 | 0,hu=>simp[Fc.row]at hu;subst hu;simp[Addr.add]
 | 1,hu=>simp[Fc.row]at hu;subst hu;simp[Addr.add]
 | 2,hu=>simp[Fc.row]at hu;subst hu;simp[Addr.add]
 | 3,hu=>simp[Fc.row]at hu;subst hu;simp[Addr.add]
 | 4,hu=>simp[Fc.row]at hu;subst hu;simp[Addr.add]
structure OutI(w W wr:World)(v:Value)(out:Q04):Prop where
 row:wr.ownsRow w.heap.size 29 5 v out.length (aA out)
 keep:∀g o x,W.cell? ⟨g,o,none⟩=some x->wr.cell? ⟨g,o,none⟩=some x
 size:W.heap.size<=wr.heap.size
 bel:ae w wr
 free:∀g,v.ownBlock=some g->∀o,W.cell? ⟨g,o,none⟩=none
theorem aF{w:af}{g o:Nat}{x:Value}(h:w.cell? ⟨g,o,none⟩=some x):g<w.heap.size:=by
 unfold World.cell? at h;cases ho:w.heap[g]? with
 | none=>simp[ho]at h
 | some o=>exact(UZ.1 ho).1
theorem RD{w:af}{g o:Nat}(h:w.heap.size<=g):w.cell? ⟨g,o,none⟩=none:=by
 cases e:w.cell? ⟨g,o,none⟩ with
 | none=>rfl
 | some x=>have:=aF e;omega
theorem OutI.below{w W wr w':af}{v:Value}{out:Q04}(h:OutI w W wr v out)(hb:ae wr w'):OutI w W w' v out where
 row:=aY h.row hb
 keep g o x hx:=(hb.cell (p:=⟨g,o,none⟩) (aF (h.keep g o x hx))).trans (h.keep g o x hx)
 size:=U0 h.size hb.size
 bel:=h.bel.trans (hb.mono h.bel.size)
 free:=h.free
theorem OutI.app{w W wr w':af}{v v':Value}{out:Q04}{f:Fc}(h:OutI w W wr v out)(hown:w'.ownsRow w.heap.size 29 5 v' (out.length+1) (aA out++f.row))(hgr:wr.grownBy w' v.ownBlock)(hat:v'.ownBlock=v.ownBlock\/v'.ownBlock=some wr.heap.size):OutI w W w' v' (out++[f]) where
 row:=by rw[ko,U2];exact hown
 keep g o x hx:=by
  have h1:=h.keep g o x hx;refine(Vh (w:=wr) (a:=⟨g,o,none⟩) (hgr.block g (aF h1) fun e=>?_)).trans h1;rw[h.free g e.symm o]at hx;cases hx
 size:=U0 h.size hgr.size
 bel:=h.bel.grown hgr h.bel.size (fun g hg=>(h.row.lt g hg).1)
 free g hg o:=by
  rcases hat with e|e
  ·rw[e]at hg;exact h.free g hg o
  rw[hg]at e;injection e with e;rw[e];exact RD h.size
theorem lq.keepC{w w':af}{ad:Q02}{xs:Q0a}(h:lq w ad xs)(hs:w.heap.size<=w'.heap.size)(hk:∀g o x,w.cell? ⟨g,o,none⟩=some x->w'.cell? ⟨g,o,none⟩=some x):lq w' ad xs:=by
 rcases h with h|⟨b,off,e,hb,hr⟩
 ·exact .inl h
 exact .inr ⟨b,off,e,UT hb hs,fun i hi=>⟨hk _ _ _ (hr i hi).1,hk _ _ _ (hr i hi).2⟩⟩
theorem I5.keepC{w w':af}{ad:Q02}{xs:List St}(h:I5 w ad xs)(hs:w.heap.size<=w'.heap.size)(hk:∀g o x,w.cell? ⟨g,o,none⟩=some x->w'.cell? ⟨g,o,none⟩=some x):I5 w' ad xs:=by
 rcases h with h|⟨b,off,e,hb,hr⟩
 ·exact .inl h
 exact .inr ⟨b,off,e,UT hb hs,fun i hi=>⟨hk _ _ _ (hr i hi).1,hk _ _ _ (hr i hi).2.1,hk _ _ _ (hr i hi).2.2⟩⟩
theorem I5.at0{w:af}{ad:Q02}{xs:List St}(h:I5 w ad xs){k:Nat}(hk:k<xs.length):∃b off,ad=some ⟨b,off,none⟩/\Ud w b (off+k*3) xs[k]/\b<w.heap.size:=by
 rcases h with h|⟨b',off',e,hb,hr⟩
 ·rw[h]at hk;simp at hk
 exact⟨b',off',e,hr k hk,hb⟩
def TE:Value->Nat
 | .slice _ n _=>n
 | _=>0
def UK:Value->Nat
 | .bool true=>1
 | _=>0
end Go.Proofs.YtajkkeikihhejaaGreat
