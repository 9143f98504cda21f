/- The contract of the document's walk over a tree, and of its look at a whole expression. -/
import Derived.Test.YtojjoblnpldniaaGreatSq
import Derived.Test.YtojjoblnpldniaaGreatJ14
import Derived.Test.YtojjoblnpldniaaGreatJ13
import Derived.Test.YtojjoblnpldniaaGreatJ7
open Go.Proofs.Tryz
set_option maxHeartbeats 80000000
namespace Go.Proofs.YtojjoblnpldniaaGreat
open ChangeShapes WideShapes ChangeAt RowKit
open Pl
theorem pF(rs:Q08)(n:Nat)(h:n<rs.length):dC (aj rs) n=rs[n].e.kids:=by simp[dC,aj,h]
theorem JR(b off cap:Nat)(rs:Q08)(hlen:rs.length<=1048576)(hl:∀r∈rs,r.e.light)(n:Nat):∀(w:ae),n<rs.length->b<w.heap.size->(∀(i:Nat) (h:i<rs.length),yz w b (off+i*5) rs[i])->(∀r∈rs,r.ok w) ->
  Calls prog 246 #[.slice (some ⟨b,off,none⟩) rs.length cap,.int .i64 (n:Int)] w fun e w'=>e=.returned (.int .i64 (ay (aj rs) n))/\ag w w':=by
 induction n using Nat.strongRecOn with
 | ind n ih =>
  intro w hn hb hr hok
  have IH:Hid (∀ m,m<n->∀ (w:World),m<rs.length->b<w.heap.size->(∀ (i:Nat) (h:i<rs.length),yz w b (off+i*5) rs[i])->(∀ r∈rs,r.ok w) ->
   Calls prog 246 #[.slice (some ⟨b,off,none⟩) rs.length cap,.int .i64 (m:Int)] w fun e w'=>e=.returned (.int .i64 (ay (aj rs) m))/\ag w w'):=ih
  have HR:Hid (∀(i:Nat) (h:i<rs.length),yz w b (off+i*5) rs[i]):=hr;have HO:=aC hok;obtain⟨t0,t1,t2,t3,t4⟩:=hr n hn;obtain⟨l1,l2⟩:=hl rs[n] (Vp hn);have hn1:=bC n;have hn2:(n:Int)<(rs.length:Int):=by omega
  have HT:Hid (ay (aj rs) n=cZ (dA (aj rs) n) rs[n].e.kids.reverse ((n:Int)-1)):=by show _=_;rw[jg,pF rs n hn]
  have HL:=aC hl;clear ih hr hok hl l1;go_enter func246,ntmps246;go_wp2_with fail;go_loopw[5,6] (fun a i wr=>∃(j:Nat) (x:Int),j<=rs[n].e.kids.length/\i=.int .i64 ((j:Int)-1)/\a=.int .i64 x∧-1<=x/\x<n/\Hid (cZ (dA (aj rs) n) (rs[n].e.kids.take j).reverse x=ay (aj rs) n)/\ag w wr) (fun _ i _=>(intOf i+1).toNat);case atStart=>exact⟨rs[n].e.kids.length,(n:Int)-1,Vr _,rfl,rfl,by omega,by omega,(by show _=_;rw[VI];exact HT.out.symm),Vs _ _⟩
  obtain⟨j,x,hj,rfl,rfl,hx0,hx1,HG,hB⟩:=hrel;have s4:=kept hB hb t4;by_cases hj0:0<j
  ·obtain⟨j,rfl⟩:∃i,j=i+1:=⟨j-1,by omega⟩;have hjl:j<rs[n].e.kids.length:=by omega
   rcases (HO.out rs[n] (Vp hn)).2.below hB with hnil|⟨bk,offk,Zy,hbk,hrk⟩
   ·rw[hnil]at hjl;simp at hjl
   rw[Zy]at s4;have k0:=hrk j hjl;clear hrk;have hji:((j+1:Nat):Int)-1=(j:Int):=by omega
   have hj1:=bC j;have hj2:(j:Int)<(rs[n].e.kids.length:Int):=by omega
   have HG2:Hid ((if x<0\/rs[n].e.kids[j]≠x then -1 else if dA (aj rs) n x<0 then -1 else cZ (dA (aj rs) n) (rs[n].e.kids.take j).reverse (dA (aj rs) n x-1))=ay (aj rs) n):=by
    have:=HG.out;rw[Vu hjl,List.reverse_append]at this;exact this
   rw[hji];clear HG Zy t0 t1 t2 t3 t4;by_cases hxn:x<0
   ·have HT1:Hid (ay (aj rs) n=-1):=by show _=_;rw[<-HG2.out,if_pos (Or.inl hxn)]
    go_wp2;go_ret;exact⟨by rw[HT1.out];rfl,hB⟩
   by_cases hkx:rs[n].e.kids[j]=x
   ·obtain⟨m,rfl⟩:∃m:Nat,x=(m:Int):=⟨x.toNat,by omega⟩;have hF:dA (aj rs) n (m:Int)=ay (aj rs) m:=by unfold dA;rw[if_pos ⟨by omega,by simp;omega⟩];simp
    have HF:Hid (dA (aj rs) n (m:Int)=ay (aj rs) m):=hF;have hle:=il (aj rs) m;clear hF;go_wp2_with fail;refine(IH.out m (by omega) _ (by omega) (Vq hb hB.size) (fun i hi=>(HR.out i hi).same fun o=>hB.cell (p:=⟨b,o,none⟩) hb) (fun r hr=>(HO.out r hr).below hB)).mono ?_;rintro e w1 ⟨rfl,hb1⟩;have hB1:ag w w1:=hB.trans (hb1.mono hB.size);clear hb1;by_cases hneg:ay (aj rs) m<0
    ·have HT1:Hid (ay (aj rs) n=-1):=by show _=_;rw[<-HG2.out,if_neg (by omega),HF.out,if_pos hneg]
     go_wp2;go_ret;exact⟨by rw[HT1.out];rfl,hB1⟩
    have Zz:Hid (cZ (dA (aj rs) n) (rs[n].e.kids.take j).reverse (ay (aj rs) m-1)=ay (aj rs) n):=by
     show _=_;rw[<-HG2.out,if_neg (by omega),HF.out,if_neg hneg]
    go_wp2;go_roundw;case rel=>exact⟨j,ay (aj rs) m-1,by omega,by go_num,rfl,by omega,by omega,Zz,hB1⟩
    simp[intOf]<;>omega
   have HT1:Hid (ay (aj rs) n=-1):=by show _=_;rw[<-HG2.out,if_pos (Or.inr hkx)]
   go_wp2;go_ret;exact⟨by rw[HT1.out];rfl,hB⟩
  obtain rfl:j=0:=by omega
  have HT1:Hid (ay (aj rs) n=x+1):=by show _=_;have:=HG.out;simp[cZ]at this;exact this.symm
  clear HG t0 t1 t2 t3 t4;go_wp2;go_ret;exact⟨by rw[HT1.out];rfl,hB⟩
theorem yz.later{w w':ae}{b off:Nat}{r:ER}(h:yz w b off r)(hb:b<w.heap.size)(hB:ag w w'):yz w' b off r:=h.same fun o=>hB.cell (p:=⟨b,o,none⟩) hb
theorem Dy{es:Q09}(h:¬(1<=es.length/\es.length<=15)):aK es=false:=by
 unfold aK;by_cases h1:1<=es.length
 ·have h2:¬es.length<=15:=fun h2=>h ⟨h1,h2⟩;simp[h2]
 simp[h1]
theorem JS{es:Q09}(k:Nat)(h:k<es.length)(hb:av es[k]=false):aK es=false:=by simp[aK,C8 es k h hb]
theorem JU{es:Q09}(k:Nat)(h:k<es.length)(hb:kP es k=false):aK es=false:=by simp[aK,Pf es k h hb]
def pG(zs:List Int)(i j:Nat):Bool:=(zs.take j).all fun k=>decide (0<=k)&&decide (k<=(i:Int)-1)
theorem EY(zs:List Int)(i j:Nat)(h:j<zs.length):pG zs i (j+1)=(pG zs i j&&(decide (0<=zs[j])&&decide (zs[j]<=(i:Int)-1))):=by
 unfold pG;rw[Vu h,WC];simp
theorem GX(zs:List Int)(i j:Nat)(h:j<zs.length)(hb:(decide (0<=zs[j])&&decide (zs[j]<=(i:Int)-1))=false):(zs.all fun k=>decide (0<=k)&&decide (k<=(i:Int)-1))=false:=by
 rw[Bool.eq_false_iff];intro h2;rw[VC]at h2;have:=h2 zs[j] (Vp h);rw[hb]at this;cases this
set_option maxRecDepth 4000 in
theorem AP(b off cap:Nat)(rs:Q08)(w:ae)(hlen:rs.length<=1048576)(hl:∀r∈rs,r.e.light)(hf:∀r∈rs,r.e.fits)(hb:b<w.heap.size)(hr:∀(i:Nat) (h:i<rs.length),yz w b (off+i*5) rs[i])(hok:∀r∈rs,r.ok w):
  Calls prog 174 #[.slice (some ⟨b,off,none⟩) rs.length cap] w fun e w'=>e=.returned (.bool (aK (aj rs)))/\ag w w':=by
 have hel:=aX rs;have Yo:Hid ((aj rs).length=rs.length):=hel;have HL:=aC hl;have HF:=aC hf;have HR:Hid (∀(i:Nat) (h:i<rs.length),yz w b (off+i*5) rs[i]):=hr;have HO:=aC hok;clear hel hl hf hr hok;by_cases hn:1<=rs.length/\rs.length<=15
 ·obtain⟨hn1,hn2⟩:=hn;go_enter func174,ntmps174;go_wp2_with fail;go_loopw[3,4] (fun o i wr=>∃k:Nat,k<=rs.length/\i=.int .i64 k/\o=.int .i64 (gy (aj rs) k:Nat)/\Hid (jD (aj rs) k=true/\ja (aj rs) k=true)/\ag w wr) (fun _ i _=>rs.length-(intOf i).toNat);case atStart=>exact⟨0,Vv _,rfl,rfl,⟨by simp[jD],by simp[ja]⟩,Vs _ _⟩
  obtain⟨k,hk,rfl,rfl,HU,hB⟩:=hrel;by_cases hlt:k<rs.length
  ·have YF:k<(aj rs).length:=by rw[Yo.out];exact hlt
   have hek:(aj rs)[k]=rs[k].e:=by simp[aj]
   have HEK:Hid ((aj rs)[k]=rs[k].e):=hek;obtain⟨t0,t1,t2,t3,t4⟩:=(HR.out k hlt).later hb hB;clear hek;have hk1:=bC k;have hk2:(k:Int)<(rs.length:Int):=by omega
   have hol:=uS (aj rs) k;go_wp2_with fail;refine(EN rs[k] _ (HF.out _ (Vp hlt)) ((HO.out _ (Vp hlt)).below hB)).mono ?_;rintro e w1 ⟨rfl,hb1⟩;cases WK:av rs[k].e;case false=>
    have HN:Hid (aK (aj rs)=false):=JS k YF (by rw[HEK.out];exact WK);go_wp2;go_ret;exact⟨by rw[HN.out];rfl,hB.trans (hb1.mono hB.size)⟩
   have hB1:ag w w1:=hB.trans (hb1.mono hB.size);have hbw:b<wr.heap.size:=Vq hb hB.size;replace t0:=kept hb1 hbw t0;replace t4:=kept hb1 hbw t4;have hbw1:b<w1.heap.size:=Vq hbw hb1.size;clear t1 t2 t3 hb1 hB hbw;go_wp2_with fail;go_loopw[5] (fun i w2=>∃j:Nat,j<=rs[k].e.kids.length/\i=.int .i64 j/\Hid (pG rs[k].e.kids k j=true)/\w2=w1) (fun i _=>rs[k].e.kids.length-(intOf i).toNat);case atStart=>exact⟨0,Vv _,rfl,(by show _=_;simp[pG]),rfl⟩
   obtain⟨j,hj,rfl,HP,rfl⟩:=hrel;by_cases hjl:j<rs[k].e.kids.length
   ·rcases (HO.out rs[k] (Vp hlt)).2.below hB1 with hnil|⟨bk,offk,Zy,hbk,hrk⟩
    ·rw[hnil]at hjl;simp at hjl
    have t4':=t4;rw[Zy]at t4';have k0:=hrk j hjl;have hj1:=bC j;have hj2:(j:Int)<(rs[k].e.kids.length:Int):=by omega
    obtain⟨-,lk⟩:=HL.out rs[k] (Vp hlt);clear hrk Zy t4;go_wp2_with fail;refine(Px _ _ _ _).mono ?_;rintro e w' ⟨rfl,rfl⟩;cases hin:(decide (0<=rs[k].e.kids[j])&&decide (rs[k].e.kids[j]<=(k:Int)-1));case false=>
     have HN:Hid (aK (aj rs)=false):=JU k YF (by unfold kP;rw[pF rs k hlt];exact GX _ k j hjl hin);go_wp2;go_ret;exact⟨by rw[HN.out];rfl,hB1⟩
    have WQ:Hid (pG rs[k].e.kids k (j+1)=true):=by show _=_;rw[EY _ _ _ hjl,HP.out,hin];rfl
    go_wp2;go_roundw;case rel=>exact⟨j+1,by omega,by go_num,WQ,by first|rfl|trivial⟩
    simp[intOf]<;>omega
   obtain rfl:j=rs[k].e.kids.length:=by omega
   have HU2:Hid (jD (aj rs) (k+1)=true/\ja (aj rs) (k+1)=true):=by
    refine⟨?_,?_⟩
    ·rw[uT _ _ YF,HU.out.1,HEK.out,WK];rfl
    rw[Gj,HU.out.2];unfold kP;rw[pF rs k hlt];have:=HP.out;unfold pG at this;rw[VI]at this;rw[this];rfl
   have HOW:Hid (gy (aj rs) (k+1)=gy (aj rs) k+(if rs[k].e.kind=1 then 1 else 0)):=by show _=_;rw[zH _ _ YF,HEK.out]
   by_cases hk1':rs[k].e.kind=1
   ·have Z0:Hid (gy (aj rs) (k+1)=gy (aj rs) k+1):=by show _=_;rw[HOW.out,if_pos hk1']
    clear HOW;go_wp2;go_roundw;case rel=>exact⟨k+1,by omega,by go_num,by rw[Z0.out];go_num,HU2,hB1⟩
    simp[intOf]<;>omega
   have Z0:Hid (gy (aj rs) (k+1)=gy (aj rs) k):=by show _=_;rw[HOW.out,if_neg hk1'];rfl
   clear HOW;go_wp2;go_roundw;case rel=>exact⟨k+1,by omega,by go_num,by rw[Z0.out],HU2,hB1⟩
   simp[intOf]<;>omega
  obtain rfl:k=rs.length:=by omega
  have HN:Hid ((aj rs).all av=true):=by
   have:=HU.out.1;unfold jD at this;rwa [<-Yo.out,VI]at this
  have HKU:Hid (ja (aj rs) rs.length=true):=HU.out.2;have HOW:Hid (gy (aj rs) rs.length=own (aj rs)):=by show _=_;unfold gy;rw[<-Yo.out,VI]
  have hol:=uS (aj rs) rs.length;by_cases ho:gy (aj rs) rs.length<=1
  ·have HS:Hid (aK (aj rs)=decide (ay (aj rs) (rs.length-1)=0)):=by
    show _=_;have h1:own (aj rs)<=1:=by rw[<-HOW.out];exact ho
    have e1:=Yo.out;unfold aK;rw[e1,HN.out,HKU.out];simp[h1,hn1,hn2]
   have hcast:((rs.length:Int)-1)=((rs.length-1:Nat):Int):=by omega
   have HCA:Hid (((rs.length:Int)-1)=((rs.length-1:Nat):Int)):=hcast;clear hcast;go_wp2_with fail;rw[HCA.out];refine(JR b off cap rs hlen HL.out (rs.length-1) _ (by omega) (Vq hb hB.size) (fun i hi=>(HR.out i hi).later hb hB) (fun r hr=>(HO.out r hr).below hB)).mono ?_;rintro e w1 ⟨rfl,hb1⟩;go_wp2;go_ret;exact⟨by rw[HS.out];exact ah (by rw[VL];simp),hB.trans (hb1.mono hB.size)⟩
  have HS:Hid (aK (aj rs)=false):=by
   show _=_;have h1:¬own (aj rs)<=1:=by rw[<-HOW.out];exact ho
   simp[aK,h1]
  go_wp2;go_ret;exact⟨by rw[HS.out];rfl,hB⟩
 have HN:Hid (aK (aj rs)=false):=Dy (by rw[Yo.out];exact hn);go_enter func174,ntmps174;go_wp2_with fail
 all_goals go_ret
 all_goals exact⟨by rw[HN.out];rfl,Vs _ _⟩
theorem mr(ad:Q02)(cap:Nat)(rs:Q08)(w:ae)(hlen:rs.length<=1048576)(hl:∀r∈rs,r.e.light)(hf:∀r∈rs,r.e.fits)(hs:jw w ad rs):
  Calls prog 174 #[.slice ad rs.length cap] w fun e w'=>e=.returned (.bool (aK (aj rs)))/\ag w w':=by
 rcases hs with rfl|⟨b,off,rfl,hb,hr,hok⟩
 ·go_enter func174,ntmps174;go_wp2_with fail;go_ret;exact⟨rfl,Vs _ _⟩
 exact AP b off cap rs w hlen hl hf hb hr hok
theorem qY{a b:ByteArray}(h:a=b):Ending.returned (.string a)=.returned (.string b):=by rw[h]
theorem r9(a:bQ):(⟨#[]⟩:ByteArray)++a=a:=by apply jh;simp[ByteArray.data_append]
theorem x9(a:Al)(w:ae)(h1:a.t.size<=12)(h2:a.s.size<=12):
  Calls prog 293 #[.agg #[.string a.t,.string a.s]] w fun e w'=>e=.returned (.string (fG a))/\ag w w':=by
 have hB:=(Vs w.heap.size w).alloc (Vr _) (.cells #[.string a.t,.string a.s] 216);cases he:a.s.toList.isEmpty;case true=>
  go_enter func293,ntmps293;go_wp2;go_ret;exact⟨qY (by simp[fG,he]),hB⟩
 go_enter func293,ntmps293;go_wp2;go_ret;exact⟨qY (by simp[fG,he]),hB⟩
theorem mD(k:Int)(w:ae):
  Calls prog 294 #[.int .i64 k] w fun e w'=>e=.returned (.string (gF k))/\w'=w:=by
 by_cases h4:k=4
 ·subst h4;go_enter func294,ntmps294;go_wp2;go_ret;exact⟨rfl,rfl⟩
 by_cases h5:k=5
 ·subst h5;go_enter func294,ntmps294;go_wp2;go_ret;exact⟨rfl,rfl⟩
 have HS:Hid (gF k=⟨#[32,45,32]⟩):=by show _=_;simp[gF,h4,h5]
 go_enter func294,ntmps294;go_wp2;go_ret;exact⟨by rw[HS.out];rfl,rfl⟩
theorem EZ{α:Type}{xs:List α}{k:Nat}(h:k<=xs.length):xs.take k=[]↔k=0:=by
 constructor
 ·intro e;have:=congrArg List.length e;rw[Wi,Wv]at this;omega
 rintro rfl;simp
theorem mZ(sep:bQ)(xs:List ByteArray):fD sep (xs.take 0)=⟨#[]⟩:=by simp[De]
theorem AQ(sep:bQ)(xs:List ByteArray)(h:0<xs.length):fD sep (xs.take 1)=⟨#[]⟩++xs[0]:=by
 rw[show(1:Nat)=0+1 from rfl,Vu h,oW,if_pos (by simp),r9]
theorem yf(sep:bQ)(xs:List ByteArray)(k:Nat)(h:k<xs.length)(hk:0<k):fD sep (xs.take (k+1))=fD sep (xs.take k)++sep++xs[k]:=by
 rw[Vu h,oW,if_neg];rw[EZ (by omega)];omega
theorem yg(sep:bQ)(xs:List ByteArray)(b k:Nat)(hx:∀x∈xs,x.size<=b):(fD sep (xs.take k)).size<=k*(b+sep.size):=by
 have h1:=oZ sep b _ (xs.take k) rfl (fun x h=>hx x (List.mem_of_mem_take h));have h2:(xs.take k).length*(b+sep.size)<=k*(b+sep.size):=Nat.mul_le_mul_right _ (by simp;omega);omega
theorem Dz{es:Q09}(hes:Tu es)(n:Nat)(hn:n<es.length)(i:Bool):(iU es n i).size<=20000000000000 :=
 Vz (Jl hes n hn i) (Vz (Df (by have:=hes.1;omega)) RH)
set_option maxRecDepth 4000 in
theorem JV(b off cap:Nat)(rs:Q08)(hes:Tu (aj rs))(hl:∀r∈rs,r.e.light)(n:Nat):∀(inside:Bool) (w:ae),n<rs.length->b<w.heap.size->(∀(i:Nat) (h:i<rs.length),yz w b (off+i*5) rs[i])->(∀r∈rs,r.ok w) ->
  Calls prog 255 #[.slice (some ⟨b,off,none⟩) rs.length cap,.int .i64 (n:Int),.bool inside] w fun e w'=>e=.returned (.string (iU (aj rs) n inside))/\ag w w':=by
 have HES:=aC hes;have HL:=aC hl;have h15:rs.length<=15:=by have:=hes.1;rw[aX]at this;exact this
 clear hes hl
 induction n using Nat.strongRecOn with
 | ind n ih =>
  intro inside w hn hb hr hok
  have IH:Hid (∀ m,m<n->∀ (inside:Bool) (w:World),m<rs.length->b<w.heap.size->(∀ (i:Nat) (h:i<rs.length),yz w b (off+i*5) rs[i])->(∀ r∈rs,r.ok w) ->
   Calls prog 255 #[.slice (some ⟨b,off,none⟩) rs.length cap,.int .i64 (m:Int),.bool inside] w fun e w'=>e=.returned (.string (iU (aj rs) m inside))/\ag w w'):=ih
  have HR:Hid (∀(i:Nat) (h:i<rs.length),yz w b (off+i*5) rs[i]):=hr;have HO:=aC hok;obtain⟨t0,t1,t2,t3,t4⟩:=hr n hn;have hnE:n<(aj rs).length:=by rw[aX];exact hn
  have heE:(aj rs)[n]=rs[n].e:=by simp[aj]
  have WK:av rs[n].e=true:=by rw[<-heE];exact HES.out.2.1 n hnE
  have hkl:=uY HES.out hnE;rw[heE]at hkl;obtain⟨hk5,hkind⟩:=qI WK;have HT:Hid (iU (aj rs) n inside=inT rs[n].e inside (l6 (jF (aj rs) n) rs[n].e)):=by show _=_;unfold iU;rw[EK hnE,heE]
  have HN:Hid (av rs[n].e=true):=WK;have Xw:Hid (∀k∈rs[n].e.kids,0<=k/\k.toNat<n):=hkl;have hn1:=bC n;have hn2:(n:Int)<(rs.length:Int):=by omega
  clear ih hr hok WK hkl heE;by_cases k1:rs[n].e.kind=1
  ·skip
   obtain⟨W,hW⟩:∃W,W=w.alloc (.cells #[.int .i64 1,.slice rs[n].adA rs[n].e.allow.length rs[n].capA,.string rs[n].e.over,.string rs[n].e.name,.slice rs[n].adK rs[n].e.kids.length rs[n].capK] 43):=⟨_,rfl⟩;have hB0:ag w W:=by rw[hW];exact(Vs _ _).alloc (Vr _) _
   have hgl:w.heap.size<W.heap.size:=by rw[hW];simp
   have g0:W.cell? ⟨w.heap.size,0,none⟩=some (.int .i64 1):=by rw[hW];simp
   have g1:W.cell? ⟨w.heap.size,1,none⟩=some (.slice rs[n].adA rs[n].e.allow.length rs[n].capA):=by rw[hW];simp
   have g2:W.cell? ⟨w.heap.size,2,none⟩=some (.string rs[n].e.over):=by rw[hW];simp
   have g3:W.cell? ⟨w.heap.size,3,none⟩=some (.string rs[n].e.name):=by rw[hW];simp
   have g4:W.cell? ⟨w.heap.size,4,none⟩=some (.slice rs[n].adK rs[n].e.kids.length rs[n].capK):=by rw[hW];simp
   have HB0:=aC hB0;clear hB0;have hal:eF rs[n].e.allow=true:=by
    have:=HN.out;unfold av at this;rw[if_pos k1]at this;simp only[Vt]at this;exact this.1.1.1
   have hts:=jZ hal;have WX:Hid (eF rs[n].e.allow=true):=hal;have HT1:Hid (iU (aj rs) n inside=uX rs[n].e.allow):=by show _=_;rw[HT.out];simp[inT,l6,k1]
   have hl6:rs[n].e.allow.length<=6:=by unfold eF at hal;simp at hal;exact hal.1.2
   have HAS:Hid (∀x∈rs[n].e.allow.map fG,x.size<=25):=fun x hx=>by
    obtain⟨a,ha,rfl⟩:=VG.1 hx;obtain⟨i,hi,rfl⟩:=Wl ha;unfold eF at hal;simp only[Vt]at hal;exact qH (yU hal.2 i hi hi)
   clear hal HT;go_enter func255,ntmps255;go_wp2_with fail;rw[<-hW];clear hW t0 t1 t2 t3 t4;go_loopw[8,9] (fun s i wr=>∃k:Nat,k<=rs[n].e.allow.length/\i=.int .i64 k/\s=.string (fD ⟨#[44]⟩ ((rs[n].e.allow.map fG).take k))/\ag W wr) (fun _ i _=>rs[n].e.allow.length-(intOf i).toNat);case atStart=>exact⟨0,Vv _,rfl,by rw[mZ],Vs _ _⟩
   obtain⟨k,hk,rfl,rfl,hB⟩:=hrel;have hBw:ag w wr:=HB0.out.trans (hB.mono HB0.out.size);have a1:=kept hB hgl g1;have hsj:(fD ⟨#[44]⟩ ((rs[n].e.allow.map fG).take k)).size<=200:=by
    have h:=yg ⟨#[44]⟩ (rs[n].e.allow.map fG) 25 k HAS.out;have e1:(⟨#[44]⟩:ByteArray).size=1:=rfl;rw[e1]at h;omega
   by_cases hlt:k<rs[n].e.allow.length
   ·rcases (HO.out rs[n] (Vp hn)).1.below hBw with hnil|⟨ba,Yx,Yy,ZT,hra⟩
    ·rw[hnil]at hlt;simp at hlt
    rw[Yy]at a1;obtain⟨q0,q1⟩:=hra k hlt;have hab:Gi rs[n].e.allow[k]=true:=by
     have:=WX.out;unfold eF at this;simp only[Vt]at this;exact yU this.2 k hlt hlt
    have z2:=qH hab;unfold Gi at hab;rw[Vt]at hab;have z0:=bI hab.1;have z1:=zX hab.2;have hk1:=bC k;have hk2:(k:Int)<(rs[n].e.allow.length:Int):=by omega
    clear hra Yy hab;by_cases hk0:0<k
    ·have hk3:(0:Int)<(k:Int):=by omega
     have HJ:Hid (fD ⟨#[44]⟩ ((rs[n].e.allow.map fG).take (k+1))=fD ⟨#[44]⟩ ((rs[n].e.allow.map fG).take k)++⟨#[44]⟩++fG rs[n].e.allow[k]):=by show _=_;rw[yf _ _ _ (by simpa using hlt) hk0,List.getElem_map]
     go_wp2_with fail;refine(x9 rs[n].e.allow[k] _ z0 z1).mono ?_;rintro e w1 ⟨rfl,hb1⟩;have hB1:ag W w1:=hB.trans (hb1.mono hB.size);clear hb1;go_wp2;go_roundw;case rel=>exact⟨k+1,by omega,by go_num,by rw[HJ.out],hB1⟩
     simp[intOf]<;>omega
    skip
    have hk3:¬(0:Int)<(k:Int):=by omega
    have HJ:Hid (fD ⟨#[44]⟩ ((rs[n].e.allow.map fG).take (k+1))=fD ⟨#[44]⟩ ((rs[n].e.allow.map fG).take k)++fG rs[n].e.allow[k]):=by
     show _=_;obtain rfl:k=0:=by omega
     rw[mZ,AQ _ _ (by simpa using hlt),List.getElem_map]
    go_wp2_with fail;refine(x9 rs[n].e.allow[k] _ z0 z1).mono ?_;rintro e w1 ⟨rfl,hb1⟩;have hB1:ag W w1:=hB.trans (hb1.mono hB.size);clear hb1;go_wp2;go_roundw;case rel=>exact⟨k+1,by omega,by go_num,by rw[HJ.out],hB1⟩
    simp[intOf]<;>omega
   obtain rfl:k=rs[n].e.allow.length:=by omega
   have HE:Hid ((rs[n].e.allow.map fG).take rs[n].e.allow.length=rs[n].e.allow.map fG):=by show _=_;rw[V8 (by simp)]
   go_wp2;go_ret;exact⟨by rw[HT1.out];exact qY (by rw[HE.out];rfl),hBw⟩
  by_cases k2:rs[n].e.kind=2
  ·have HT1:Hid (iU (aj rs) n inside=rs[n].e.name):=by show _=_;rw[HT.out];simp[inT,l6,k2]
   clear HT;go_enter func255,ntmps255;go_wp2;go_ret;exact⟨by rw[HT1.out];rfl,(Vs _ _).alloc (Vr _) _⟩
  by_cases k3:rs[n].e.kind=3
  ·have HT1:Hid (iU (aj rs) n inside=rs[n].e.over++⟨#[45,62]⟩++rs[n].e.name):=by show _=_;rw[HT.out];simp[inT,l6,k3]
   have hsz:rs[n].e.over.size<=12/\rs[n].e.name.size<=12:=by
    have:=HN.out;unfold av at this;rw[if_neg k1,if_neg k2,if_pos k3]at this;simp only[Vt]at this;exact⟨bI this.1.1.1,bI this.1.1.2⟩
   obtain⟨z0,z1⟩:=hsz;clear HT;go_enter func255,ntmps255;go_wp2;go_ret;exact⟨by rw[HT1.out];rfl,(Vs _ _).alloc (Vr _) _⟩
  skip
  obtain⟨W,hW⟩:∃W,W=w.alloc (.cells #[.int .i64 rs[n].e.kind,.slice rs[n].adA rs[n].e.allow.length rs[n].capA,.string rs[n].e.over,.string rs[n].e.name,.slice rs[n].adK rs[n].e.kids.length rs[n].capK] 43):=⟨_,rfl⟩;have hB0:ag w W:=by rw[hW];exact(Vs _ _).alloc (Vr _) _
  have hgl:w.heap.size<W.heap.size:=by rw[hW];simp
  have g0:W.cell? ⟨w.heap.size,0,none⟩=some (.int .i64 rs[n].e.kind):=by rw[hW];simp
  have g1:W.cell? ⟨w.heap.size,1,none⟩=some (.slice rs[n].adA rs[n].e.allow.length rs[n].capA):=by rw[hW];simp
  have g2:W.cell? ⟨w.heap.size,2,none⟩=some (.string rs[n].e.over):=by rw[hW];simp
  have g3:W.cell? ⟨w.heap.size,3,none⟩=some (.string rs[n].e.name):=by rw[hW];simp
  have g4:W.cell? ⟨w.heap.size,4,none⟩=some (.slice rs[n].adK rs[n].e.kids.length rs[n].capK):=by rw[hW];simp
  have HB0:=aC hB0;clear hB0;have HT1:Hid (iU (aj rs) n inside=if inside then ⟨#[40]⟩++fD (gF rs[n].e.kind) (rs[n].e.kids.map (jF (aj rs) n))++⟨#[41]⟩ else fD (gF rs[n].e.kind) (rs[n].e.kids.map (jF (aj rs) n))):=by
   show _=_;rw[HT.out];simp[inT,l6,k1,k2,k3]
  have HTS:Hid (∀x∈rs[n].e.kids.map (jF (aj rs) n),x.size<=20000000000000):=fun x hx=>by
   obtain⟨k,hk,rfl⟩:=VG.1 hx;have hlt:=Xw.out k hk;unfold jF;rw[if_pos hlt.2,EJ];exact Dz HES.out _ (by rw[aX];omega) true
  have kb1:(rs[n].e.kind==1)=false:=by simpa using k1
  have kb2:(rs[n].e.kind==2)=false:=by simpa using k2
  have kb3:(rs[n].e.kind==3)=false:=by simpa using k3
  clear HT hkind;go_enter func255,ntmps255;go_wp2_with fail;rw[<-hW];clear hW t0 t1 t2 t3 t4;go_loopw[8,10] (fun s i wr=>∃k:Nat,k<=rs[n].e.kids.length/\i=.int .i64 k/\s=.string (fD (gF rs[n].e.kind) ((rs[n].e.kids.map (jF (aj rs) n)).take k))/\ag W wr) (fun _ i _=>rs[n].e.kids.length-(intOf i).toNat);case atStart=>exact⟨0,Vv _,rfl,by rw[mZ],Vs _ _⟩
  obtain⟨k,hk,rfl,rfl,hB⟩:=hrel;have hBw:ag w wr:=HB0.out.trans (hB.mono HB0.out.size);have hbw:b<wr.heap.size:=Vq hb hBw.size;have a0:=kept hB hgl g0;have a4:=kept hB hgl g4;have hsg:=l5 rs[n].e.kind;have hsj:(fD (gF rs[n].e.kind) ((rs[n].e.kids.map (jF (aj rs) n)).take k)).size<=100000000000100:=by
   have h:=yg (gF rs[n].e.kind) (rs[n].e.kids.map (jF (aj rs) n)) 20000000000000 k HTS.out;rw[hsg]at h;omega
  by_cases hlt:k<rs[n].e.kids.length
  ·rcases (HO.out rs[n] (Vp hn)).2.below hBw with hnil|⟨bk,offk,Xl,hbk,hrk⟩
   ·rw[hnil]at hlt;simp at hlt
   rw[Xl]at a4;have q0:=hrk k hlt;obtain⟨hz0,hz1⟩:=Xw.out rs[n].e.kids[k] (Vp hlt);obtain⟨m,hm⟩:∃m:Nat,rs[n].e.kids[k]=(m:Int):=⟨rs[n].e.kids[k].toNat,by omega⟩;rw[hm]at q0 hz1;have hmn:m<n:=by simpa using hz1
   have hmr:m<rs.length:=by omega
   have HFm:Hid (jF (aj rs) n rs[n].e.kids[k]=iU (aj rs) m true):=by show _=_;rw[hm];unfold jF;rw[if_pos (by simpa using hmn),EJ];simp
   have hsm:=Dz HES.out m (by rw[aX];exact hmr) true;have hk1:=bC k;have hk2:(k:Int)<(rs[n].e.kids.length:Int):=by omega
   clear hrk Xl hz0 hz1 hm;by_cases hk0:0<k
   ·have hk3:(0:Int)<(k:Int):=by omega
    have HJ:Hid (fD (gF rs[n].e.kind) ((rs[n].e.kids.map (jF (aj rs) n)).take (k+1))=fD (gF rs[n].e.kind) ((rs[n].e.kids.map (jF (aj rs) n)).take k)++gF rs[n].e.kind++iU (aj rs) m true):=by show _=_;rw[yf _ _ _ (by simpa using hlt) hk0,List.getElem_map,HFm.out]
    go_wp2_with fail;refine(mD _ _).mono ?_;rintro e w' ⟨rfl,rfl⟩;go_wp2_with fail;refine(IH.out m hmn true _ hmr hbw (fun i hi=>(HR.out i hi).later hb hBw) (fun r hr=>(HO.out r hr).below hBw)).mono ?_;rintro e w1 ⟨rfl,hb1⟩;have hB1:ag W w1:=hB.trans (hb1.mono hB.size);clear hb1;go_wp2;go_roundw;case rel=>exact⟨k+1,by omega,by go_num,by rw[HJ.out],hB1⟩
    simp[intOf]<;>omega
   skip
   have hk3:¬(0:Int)<(k:Int):=by omega
   have HJ:Hid (fD (gF rs[n].e.kind) ((rs[n].e.kids.map (jF (aj rs) n)).take (k+1))=fD (gF rs[n].e.kind) ((rs[n].e.kids.map (jF (aj rs) n)).take k)++iU (aj rs) m true):=by
    have h0:=HFm.out;show _=_;obtain rfl:k=0:=by omega
    rw[mZ,AQ _ _ (by simpa using hlt),List.getElem_map,h0]
   go_wp2_with fail;refine(IH.out m hmn true _ hmr hbw (fun i hi=>(HR.out i hi).later hb hBw) (fun r hr=>(HO.out r hr).below hBw)).mono ?_;rintro e w1 ⟨rfl,hb1⟩;have hB1:ag W w1:=hB.trans (hb1.mono hB.size);clear hb1;go_wp2;go_roundw;case rel=>exact⟨k+1,by omega,by go_num,by rw[HJ.out],hB1⟩
   simp[intOf]<;>omega
  obtain rfl:k=rs[n].e.kids.length:=by omega
  have HE:Hid ((rs[n].e.kids.map (jF (aj rs) n)).take rs[n].e.kids.length=rs[n].e.kids.map (jF (aj rs) n)):=by show _=_;rw[V8 (by simp)]
  cases inside;case true=>
   go_wp2;go_ret;exact⟨by rw[HT1.out];exact qY (by rw[HE.out];rfl),hBw⟩
  go_wp2;go_ret;exact⟨by rw[HT1.out];exact qY (by rw[HE.out];rfl),hBw⟩
def gM(es:Q09):ByteArray:=if aK es then iU es (es.length-1) false else ⟨#[]⟩
theorem DC{es:Q09}(h:aK es=false):gM es=⟨#[]⟩:=by simp[gM,h]
theorem AR{es:Q09}(h:aK es=true):gM es=iU es (es.length-1) false:=by simp[gM,h]
theorem ow(ad:Q02)(cap:Nat)(rs:Q08)(w:ae)(hlen:rs.length<=1048576)(hl:∀r∈rs,r.e.light)(hf:∀r∈rs,r.e.fits)(hs:jw w ad rs):
  Calls prog 180 #[.slice ad rs.length cap] w fun e w'=>e=.returned (.string (gM (aj rs)))/\ag w w':=by
 have HS:=aC hs;have HL:=aC hl;have HF:=aC hf;clear hs hl hf;go_enter func180,ntmps180;go_wp2_with fail;refine(mr ad cap rs _ hlen HL.out HF.out HS.out).mono ?_;rintro e w1 ⟨he,hb1⟩;have HB1:=aC hb1;clear hb1;cases hE:aK (aj rs);case false=>
  rw[hE]at he;subst he;have HX:Hid (gM (aj rs)=⟨#[]⟩):=DC hE;go_wp2;go_ret;exact⟨by rw[HX.out];rfl,HB1.out⟩
 rw[hE]at he;subst he;have h1:1<=rs.length:=by
  have:=hE;unfold aK at this;simp only[Vt,VF,aX]at this;exact this.1.1.1.1.1
 rcases HS.out.below HB1.out with rfl|⟨b,off,rfl,hb,hr,hok⟩
 ·simp at h1
 have HR:Hid (∀(i:Nat) (h:i<rs.length),yz w1 b (off+i*5) rs[i]):=hr;have HO:=aC hok;have XN:Hid (Tu (aj rs)):=Pp hE;have HX:Hid (gM (aj rs)=iU (aj rs) (rs.length-1) false):=by show _=_;rw[AR hE,aX]
 have HCA:Hid (((rs.length:Int)-1)=((rs.length-1:Nat):Int)):=by show _=_;omega
 clear hr hok;go_wp2_with fail;rw[HCA.out];refine(JV b off cap rs XN.out HL.out (rs.length-1) false _ (by omega) hb HR.out HO.out).mono ?_;rintro e w2 ⟨rfl,hb2⟩;have HB2:=iJ HB1 hb2;clear hb2;go_wp2;go_ret;exact⟨by rw[HX.out];rfl,HB2.out⟩
set_option maxRecDepth 100000
theorem vP(k:Int):gF k=aU k:=by
 unfold gF aU;rfl
def gP(s:ByteArray)(p:Nat)(j:Nat):Int :=
 if 4<j/\ed s (aU 4) p=true then 4 else if 5<j/\ed s (aU 5) p=true then 5 else if 6<j/\ed s (aU 6) p=true then 6 else 0
theorem P5(s:bQ)(p:Nat):gP s p 4=0:=by simp[gP]
theorem P6(s:bQ)(p:Nat):gP s p 7=dF s p:=by simp[gP,dF]
theorem GY{s:ByteArray}{p j:Nat}(h4:4<=j)(h7:j<7)(h:gP s p j≠0):gP s p (j+1)=gP s p j:=by
 have hj:j=4\/j=5\/j=6:=by omega
 unfold gP at h⊢;rcases hj with rfl|rfl|rfl<;>cases h1:ed s (aU 4) p<;>cases h2:ed s (aU 5) p<;>cases h3:ed s (aU 6) p<;>simp_all
theorem DD{s:ByteArray}{p j:Nat}(h4:4<=j)(h7:j<7)(h:gP s p j=0)(hl:ed s (aU j) p=false):gP s p (j+1)=0:=by
 have hj:j=4\/j=5\/j=6:=by omega
 unfold gP at h⊢;rcases hj with rfl|rfl|rfl<;>cases h1:ed s (aU 4) p<;>cases h2:ed s (aU 5) p<;>cases h3:ed s (aU 6) p<;>simp_all
theorem JW{s:ByteArray}{p j:Nat}(h4:4<=j)(h7:j<7)(h:gP s p j=0)(hl:ed s (aU j) p=true):gP s p (j+1)=(j:Int):=by
 have hj:j=4\/j=5\/j=6:=by omega
 unfold gP at h⊢;rcases hj with rfl|rfl|rfl<;>cases h1:ed s (aU 4) p<;>cases h2:ed s (aU 5) p<;>cases h3:ed s (aU 6) p<;>simp_all
theorem mE(k:Int):(aU k).size=3:=by
 unfold aU;split
 ·rfl
 split<;>rfl
theorem AU{s:ByteArray}{p:Nat}(k:Int)(h:p+3<=s.size):ed s (aU k) p=((s.extract p (p+3)).toList==(gF k).toList):=by
 unfold ed;rw[mE,vP];simp[h]
theorem M5{s:ByteArray}{p:Nat}(k:Int)(h:¬p+3<=s.size):ed s (aU k) p=false:=by
 unfold ed;rw[mE];simp[h]
def rowP(s:ByteArray)(it:RS->Int×RS)(x:Int×RS):Int×RS :=
 if dF s x.2.p=0\/x.2.bad=true then x
 else (((gZ s it (dF s x.2.p) (s.size+1) [x.1] x.2).2.out.length:Int),sK ⟨dF s x.2.p,[],⟨#[]⟩,⟨#[]⟩,(gZ s it (dF s x.2.p) (s.size+1) [x.1] x.2).1⟩ (gZ s it (dF s x.2.p) (s.size+1) [x.1] x.2).2)
theorem AV{s:ByteArray}{it:RS->Int×RS}{x:Int×RS}(h:dF s x.2.p=0\/x.2.bad=true):rowP s it x=x:=if_pos h
theorem M7{s:ByteArray}{it:RS->Int×RS}{x:Int×RS}(h:¬(dF s x.2.p=0\/x.2.bad=true)){zs:List Int}{st:RS}(hk:gZ s it (dF s x.2.p) (s.size+1) [x.1] x.2=(zs,st)):rowP s it x=((st.out.length:Int),sK ⟨dF s x.2.p,[],⟨#[]⟩,⟨#[]⟩,zs⟩ st):=by
 unfold rowP;rw[if_neg h,hk]
theorem P7{s:ByteArray}{it:RS->Int×RS}{k:Int}{n:Nat}{zs:List Int}{st:RS}(h:mY s (aU k) st.p st.bad=false):gZ s it k n zs st=(zs,st):=by
 have e:lH s (aU k) st=false:=h;cases n with
 | zero=>rfl
 | succ n=>unfold gZ;rw[e];rfl
theorem M8{s:ByteArray}{it:RS->Int×RS}{k:Int}{n:Nat}{zs:List Int}{st:RS}(h:mY s (aU k) st.p st.bad=true):gZ s it k (n+1) zs st=gZ s it k n (zs++[(it (kD (aU k) st)).1]) (it (kD (aU k) st)).2:=by
 have e:lH s (aU k) st=true:=h
 conv=>lhs;unfold gZ
 rw[e];rfl
theorem RdC.heap{w w':ae}{R:Nat}{s:ByteArray}{p:Nat}{bad:Bool}{v:Value}(h:RdC w R s p bad v)(hs:w.heap.size<=w'.heap.size)(hh:w'.heap[R]?=w.heap[R]?):RdC w' R s p bad v :=
 ⟨Vq h.lt hs,(VR (w:=w) (a:=⟨R,0,none⟩) hh).trans h.c0,(VR (w:=w) (a:=⟨R,1,none⟩) hh).trans h.c1,(VR (w:=w) (a:=⟨R,2,none⟩) hh).trans h.c2,(VR (w:=w) (a:=⟨R,3,none⟩) hh).trans h.c3,cO h.fr hh⟩
theorem RdF.heap{w w':ae}{R:Nat}{s:ByteArray}{st:RS}{base:Nat}{v:Value}{qs:Q08}(h:RdF w R s st base v qs)(hs:w.heap.size<=w'.heap.size)(h1:w'.heap[R]?=w.heap[R]?)(h2:∀g,v.ownBlock=some g->w'.heap[g]?=w.heap[g]?)(h3:∀q∈qs,∀g,qc q g->w'.heap[g]?=w.heap[g]?):RdF w' R s st base v qs where
 rd:=h.rd.heap hs h1
 own:=jH h.own h2
 out:=h.out
 zA:=h.zA
 zK:=h.zK
 ok q hq:=rP (h.ok q hq) hs (h.zA q hq) (h.zK q hq) (h3 q hq)
 lie q hq g hg:=by
  obtain⟨a1,a2,a3,a4⟩:=h.lie q hq g hg;exact⟨a1,Vq a2 hs,cO a3 (h3 q hq g hg),a4⟩
 one:=h.one
 two:=h.two
 cA:=h.cA
 cK q hq:=(h.cK q hq).heap (h.zK q hq) (h3 q hq)
structure KLr(w wr:World)(R:Nat)(s:ByteArray)(st:RS)(base:Nat)(v v':Value)(qs ns:Q08)(zs:List Int)(vK:Value):Prop where
 rd:RdF wr R s st base v' (qs++ns)
 went:Went R v w v' wr
 new:∀q∈ns,∀g,qc q g->w.heap.size<=g
 own:wr.ownsRow w.heap.size 2 1 vK zs.length (ints zs)
 far:∀g,vK.ownBlock=some g->v'.ownBlock≠some g/\∀q∈qs++ns,¬qc q g
 ne:zs≠[]
theorem KLr.is{w wr w':ae}{R:Nat}{s:ByteArray}{st st':RS}{base:Nat}{v v':Value}{qs ns:Q08}{zs:List Int}{vK:Value}(h:KLr w wr R s st base v v' qs ns zs vK)(hR:R<w.heap.size)(hg:wr.grownBy w' (some R))(hF:RdF w' R s st' base v' (qs++ns)):KLr w w' R s st' base v v' qs ns zs vK :=
 ⟨hF,h.went.trans ((Onl.of_grown hg).any v'),h.new,h.own.kept hg (.inr (fun e=>by have:=(h.own.lt R e).1;omega)),h.far,h.ne⟩
theorem KLr.more{w wr w':ae}{R:Nat}{s:ByteArray}{st st':RS}{base:Nat}{v v' v2:Value}{qs ns ms:Q08}{zs:List Int}{vK:Value}(h:KLr w wr R s st base v v' qs ns zs vK)(hR:R<w.heap.size)(hF:RdF w' R s st' base v2 ((qs++ns)++ms))(hW:Went R v' wr v2 w')(hm:∀q∈ms,∀g,qc q g->wr.heap.size<=g):KLr w w' R s st' base v v2 qs (ns++ms) zs vK:=by
 have hl:∀g,vK.ownBlock=some g->w.heap.size<=g/\g<wr.heap.size:=fun g hg=>h.own.lt g hg;refine⟨by rw[<-VU];exact hF,h.went.trans hW,fun q hq g hg=>?_,jH h.own fun g hg=>hW.onl.block g (hl g hg).2 (by have:=(hl g hg).1;omega) (h.far g hg).1,fun g hg=>⟨hW.apart (hl g hg).2 (h.far g hg).1,fun q hq hi=>?_⟩,h.ne⟩
 ·rcases VE.1 hq with h1|h1
  ·exact h.new q h1 g hg
  exact Vz h.went.onl.size (hm q h1 g hg)
 rw[<-VU]at hq;rcases VE.1 hq with h1|h1
 ·exact(h.far g hg).2 q h1 hi
 have:=hm q h1 g hi;have:=(hl g hg).2;omega
theorem P8(zs:List Int)(z:Int):ints (zs++[z])=ints zs++[.int .i64 z]:=by simp[ints]
theorem KLr.app{w wr w':ae}{R:Nat}{s:ByteArray}{st:RS}{base:Nat}{v v':Value}{qs ns:Q08}{zs:List Int}{vK vN:Value}(h:KLr w wr R s st base v v' qs ns zs vK)(hR:R<w.heap.size)(z:Int)(o:Obj)(hown:w'.ownsRow w.heap.size 2 1 vN (zs.length+1) (ints zs++[.int .i64 z]))(hg:(wr.alloc o).grownBy w' vK.ownBlock)(hat:vN.ownBlock=vK.ownBlock\/vN.ownBlock=some (wr.alloc o).heap.size):KLr w w' R s st base v v' qs ns (zs++[z]) vN:=by
 have hg0:=World.grownBy_alloc wr o none;have keep:∀k,k<wr.heap.size->vK.ownBlock≠some k->w'.heap[k]?=wr.heap[k]?:=fun k hk hne=>(hg.block k (Vq hk hg0.size) (Ne.symm hne)).trans (hg0.block k hk (by simp));have hl:∀g,vK.ownBlock=some g->w.heap.size<=g/\g<wr.heap.size:=fun g hg=>h.own.lt g hg;have hs:wr.heap.size<=w'.heap.size:=Vz hg0.size hg.size;refine⟨h.rd.heap hs (keep R h.rd.rd.lt (fun e=>by have:=(hl R e).1;omega)) (fun g hg=>keep g (h.rd.own.lt g hg).2 (fun e=>(h.far g e).1 hg)) (fun q hq g hi=>keep g (h.rd.lie q hq g hi).2.1 (fun e=>(h.far g e).2 q hq hi)),?_,h.new,by rw[P8,Vx,VW];exact hown,fun g hgn=>?_,by simp⟩
 ·refine⟨⟨hg.os.trans (hg0.os.trans h.went.onl.os),hg.tape.trans (hg0.tape.trans h.went.onl.tape),hg.output.trans (hg0.output.trans h.went.onl.output),Vz h.went.onl.size hs,fun k hk h1 h2=>(keep k (Vq hk h.went.onl.size) (fun e=>by have:=(hl k e).1;omega)).trans (h.went.onl.block k hk h1 h2)⟩,h.went.own⟩
 rcases hat with e|e
 ·exact h.far g (by rw[<-e];exact hgn)
 rw[e]at hgn;injection hgn with hgn;have hsz:wr.heap.size<=g:=by rw[<-hgn];exact hg0.size
 exact⟨fun e2=>by have:=(h.rd.own.lt g e2).2;omega,fun q hq hi=>by have:=(h.rd.lie q hq g hi).2.1;omega⟩
theorem KLr.node{w wr:ae}{R:Nat}{s:ByteArray}{st:RS}{base:Nat}{v v':Value}{qs ns:Q08}{zs:List Int}{vK:Value}(h:KLr w wr R s st base v v' qs ns zs vK)(hb:base<=w.heap.size)(k:Int):∃ad cap,vK=.slice ad zs.length cap/\NewQ base wr ⟨⟨k,[],⟨#[]⟩,⟨#[]⟩,zs⟩,none,0,ad,cap⟩/\∀g,qc ⟨⟨k,[],⟨#[]⟩,⟨#[]⟩,zs⟩,none,0,ad,cap⟩ g->w.heap.size<=g/\v'.ownBlock≠some g/\∀q∈qs++ns,¬qc q g:=by
 obtain⟨ad,cap,e,h2,h3,h4⟩:=UV h.own rfl;have hA:∀g,¬bA ⟨⟨k,[],⟨#[]⟩,⟨#[]⟩,zs⟩,none,0,ad,cap⟩ g:=fun g hg=>hg.1 rfl;have hK:∀g,qc ⟨⟨k,[],⟨#[]⟩,⟨#[]⟩,zs⟩,none,0,ad,cap⟩ g->(w.heap.size<=g/\g<wr.heap.size/\jb wr g)/\vK.ownBlock=some g:=by
  rintro g (hg|hg)
  ·exact absurd hg (hA g)
  exact⟨h4 g hg.1 hg.2,by rw[e,show ad=some ⟨g,0,none⟩ from hg.2];rfl⟩
 refine⟨ad,cap,e,⟨fun h=>absurd rfl h,h3,⟨.inl rfl,h2⟩,fun g hg=>⟨Vz hb (hK g hg).1.1,(hK g hg).1.2⟩,fun g hg=>absurd hg (hA g),Vv _⟩,fun g hg=>⟨(hK g hg).1.1,h.far g (hK g hg).2⟩⟩
theorem KLr.kid{w wr:ae}{R:Nat}{s:ByteArray}{st:RS}{base:Nat}{v v':Value}{qs ns:Q08}{zs:List Int}{ad:Q02}{cap:Nat}(h:KLr w wr R s st base v v' qs ns zs (.slice ad zs.length cap))(hb:base<=w.heap.size)(k:Int):Ck wr base ⟨⟨k,[],⟨#[]⟩,⟨#[]⟩,zs⟩,none,0,ad,cap⟩:=Ck.mono (base:=w.heap.size) (.inr ⟨h.ne,h.own⟩) hb
theorem P9(w:ae)(z:Int)(g:Nat)(hg:w.heap.size=g):∀j u,[Value.int .i64 z][j]?=some u->(w.alloc (.cells #[.int .i64 z] 2)).cell? ((⟨g,0,none⟩:Addr).add j)=some u:=by
 intro j u hu;subst hg;rw[show(⟨w.heap.size,0,none⟩:Addr).add j=⟨w.heap.size,0+j,none⟩ by simp[Addr.add];omega,VQ];have:=World.cell?_alloc_mark w #[.int .i64 z] 2 (0,0) j;rw[this];simpa using hu
theorem RZ(R:Nat)(s:bQ)(st:RS)(base:Nat)(v:Value)(qs:Q08)(w:ae)(h:RdF w R s st base v qs)(hR:R<base)(hB:base<=w.heap.size)(hs:s.size<=1000)(x:Int×RS)(hx:x.2.p<=s.size)
  (hfirst:Calls prog 324 #[.pointer (some ⟨R,0,none⟩)] w (vv R s base v qs w x))
  (it:RS->Int×RS) (hlen:x.2.out.length+(s.size-x.2.p)<=5001)
  (hit:∀(st':RS) (v':Value) (qs':Q08) (w':World),RdF w' R s st' base v' qs'->base<=w'.heap.size->x.2.p+3<=st'.p->st'.p<=s.size->st'.out.length+(s.size-st'.p)<=5000->Calls prog 324 #[.pointer (some ⟨R,0,none⟩)] w' (vv R s base v' qs' w' (it st')))
  (hmono:∀st':RS,x.2.p+3<=st'.p->st'.p<=s.size->st'.p<=(it st').2.p/\(it st').2.p<=s.size/\(it st').2.out.length+st'.p<=st'.out.length+1+(it st').2.p) :
  Calls prog 297 #[.pointer (some ⟨R,0,none⟩)] w (vv R s base v qs w (rowP s it x)):=by
 obtain⟨iI,hiI,zI0,zI1,zI2⟩:=info_parts (P:=prog) (e:=2) (z:=.int .i64 0) (size:=1) (bytes:=8) (by kernel_rfl);have HII:Hid (prog.info? 2=some iI/\iI.zero=some (.int .i64 0)/\iI.size=1/\iI.bytes=8):=⟨hiI,zI0,zI1,zI2⟩;have HLEN:=ai hlen;have HITM:=ai hit;have HMONO:=ai hmono;clear hiI zI0 zI1 zI2 hlen hit hmono;have H:=ai h;have HX:=ai hx;have HIT:=ai hfirst;clear h hx hfirst;go_enter func297,ntmps297;go_wp2_with fail;refine HIT.out.mono ?_;rintro e w1 ⟨v1,ns,rfl,hF1,hW1,hns⟩;have XU:=ai hF1;have HW1:=ai hW1;have HNS:=ai hns;clear hF1 hW1 hns HIT;go_wp2_with fail;go_loopw[4,5] (fun kd k wr=>∃(j nn:Nat),4<=j/\j<=7/\k=.int .i64 j/\kd=.int .i64 (gP s x.2.p j)/\Hid (wr=w1.drewN nn)) (fun _ k _=>7-(intOf k).toNat);case atStart=>exact⟨4,0,by omega,by omega,rfl,by rw[P5],rfl⟩
 obtain⟨j,nn,hj4,hj7,rfl,rfl,YT⟩:=hrel;have hrd:RdC wr R s x.2.p x.2.bad v1:=by rw[YT.out];exact XU.out.rd.drewN nn
 have HRD:=ai hrd;have c0:=HRD.out.c0;have c1:=HRD.out.c1;have c2:=HRD.out.c2;clear hrd;by_cases hlt:j<7
 ·have hle:decide ((j:Int)<=6)=true:=by simp;omega
  have hle2:(j:Int)<=6:=by omega
  have hwr:IntKind.i64.wrap ((x.2.p:Int)+3)=(x.2.p:Int)+3:=by have:=HX.out;simp[IntKind.wrap,IntKind.bits,IntKind.signed];omega
  by_cases hK:gP s x.2.p j=0
  ·have hK0:(gP s x.2.p j==0)=true:=by simp[hK]
   by_cases Zj:x.2.p+3<=s.size
   ·have hd:decide ((x.2.p:Int)+3<=(s.size:Int))=true:=by simp;omega
    have hd2:(x.2.p:Int)+3<=(s.size:Int):=by omega
    have hnn:(0:Int)<=(x.2.p:Int):=by omega
    have hp1:(x.2.p:Int)<=(x.2.p:Int)+3:=by omega
    rw[hK];cases he:(s.extract x.2.p (x.2.p+3)).toList==(gF j).toList
    case' true =>
     have EQ:=ai (JW hj4 hlt hK (by rw[AU _ Zj];exact he))
    case' false =>
     have EQ:=ai (DD hj4 hlt hK (by rw[AU _ Zj];exact he))
    all_goals
     clear hK hK0;go_wp2_with fail;go_quiet ((go_at_call 294;exact Calls.quiet_of_same (mD _ _)));go_wp2;go_roundw;case rel=>exact⟨j+1,nn+nq,by omega,by omega,by go_num,by rw[EQ.out],by show _=_;rw[YT.out,World.drewN_drewN]⟩
     simp[intOf]<;>omega
   have hd:decide ((x.2.p:Int)+3<=(s.size:Int))=false:=by simp;omega
   have EQ:=ai (DD hj4 hlt hK (M5 _ Zj));rw[hK];clear hK hK0;go_wp2_with fail;go_quiet ((go_at_call 294;exact Calls.quiet_of_same (mD _ _)));go_wp2;go_roundw;case rel=>exact⟨j+1,nn+nq,by omega,by omega,by go_num,by rw[EQ.out],by show _=_;rw[YT.out,World.drewN_drewN]⟩
   simp[intOf]<;>omega
  have hK0:(gP s x.2.p j==0)=false:=by simp[hK]
  have EQ:=ai (GY hj4 hlt hK);clear hK;go_wp2_with fail;go_quiet ((go_at_call 294;exact Calls.quiet_of_same (mD _ _)));go_wp2;go_roundw;case rel=>exact⟨j+1,nn+nq,by omega,by omega,by go_num,by rw[EQ.out],by show _=_;rw[YT.out,World.drewN_drewN]⟩
  simp[intOf]<;>omega
 obtain rfl:j=7:=by omega
 rw[P6,show((7:Nat):Int)=(7:Int) from rfl];have hle:decide ((7:Int)<=6)=false:=by decide
 obtain⟨kd,hkd⟩:∃kd,kd=dF s x.2.p:=⟨_,rfl⟩;have HKD:=ai hkd;rw[<-hkd];clear hkd;by_cases hk:kd=0
 ·have hk0:(kd==0)=true:=by simp[hk]
  have EQ:=ai (AV (it:=it) (.inl (HKD.out.symm.trans hk)));subst hk;have HF:=ai (XU.out.heap (w':=wr) (by rw[YT.out];exact Vr _) (by rw[YT.out];rfl) (fun g _=>by rw[YT.out];rfl) (fun q _ g _=>by rw[YT.out];rfl));have HW:Hid (Went R v w v1 wr):=by rw[YT.out];exact⟨⟨HW1.out.onl.os,HW1.out.onl.tape,HW1.out.onl.output,HW1.out.onl.size,HW1.out.onl.block⟩,HW1.out.own⟩
  go_wp2;exact bodyPost_ret (v:=.int .i64 x.1) (by simp[results,Tryz.results297,go_sem]) rfl (by rw[EQ.out];exact⟨v1,ns,rfl,HF.out,HW.out,HNS.out⟩)
 have hk0:(kd==0)=false:=by simp[hk]
 cases hb:x.2.bad;case true=>
  have EQ:=ai (AV (it:=it) (x:=x) (s:=s) (.inr hb));rw[hb]at c2;have HF:=ai (XU.out.heap (w':=wr) (by rw[YT.out];exact Vr _) (by rw[YT.out];rfl) (fun g _=>by rw[YT.out];rfl) (fun q _ g _=>by rw[YT.out];rfl));have HW:Hid (Went R v w v1 wr):=by rw[YT.out];exact⟨⟨HW1.out.onl.os,HW1.out.onl.tape,HW1.out.onl.output,HW1.out.onl.size,HW1.out.onl.block⟩,HW1.out.own⟩
  go_wp2;exact bodyPost_ret (v:=.int .i64 x.1) (by simp[results,Tryz.results297,go_sem]) rfl (by rw[EQ.out];exact⟨v1,ns,rfl,HF.out,HW.out,HNS.out⟩)
 rw[hb]at c2;have YD:Hid (¬(dF s x.2.p=0\/x.2.bad=true)):=by
  rintro(e|e)
  ·exact hk (HKD.out.trans e)
  rw[hb]at e;cases e
 have HF:=ai (XU.out.heap (w':=wr) (by rw[YT.out];exact Vr _) (by rw[YT.out];rfl) (fun g _=>by rw[YT.out];rfl) (fun q _ g _=>by rw[YT.out];rfl));have HW:Hid (Went R v w v1 wr):=by rw[YT.out];exact⟨⟨HW1.out.onl.os,HW1.out.onl.tape,HW1.out.onl.output,HW1.out.onl.size,HW1.out.onl.block⟩,HW1.out.own⟩
 have HWB:Hid (R<w.heap.size):=H.out.rd.lt;have HKL0:Hid (KLr w (wr.alloc (.cells #[.int .i64 x.1] 2)) R s x.2 base v v1 qs ns [x.1] (.slice (some ⟨wr.heap.size,0,none⟩) 1 1)):=by
  have hg0:=World.grownBy_alloc wr (.cells #[.int .i64 x.1] 2) none;refine⟨HF.out.heap hg0.size (hg0.block R HF.out.rd.lt (by simp)) (fun g hg=>hg0.block g (HF.out.own.lt g hg).2 (by simp)) (fun q hq g hi=>hg0.block g (HF.out.lie q hq g hi).2.1 (by simp)),HW.out.trans ((Onl.of_below ((Vs _ _).alloc (Vr _) _)).any v1),HNS.out,World.ownsRow_lit wr #[.int .i64 x.1] 1 HW.out.onl.size (by unfold maxLen;omega) (by simp),fun g hg=>?_,by simp⟩;simp[Value.ownBlock]at hg;subst hg;exact⟨fun e=>by have:=(HF.out.own.lt _ e).2;omega,fun q hq hi=>by have:=(HF.out.lie q hq _ hi).2.1;omega⟩
 clear HF HW HRD YT XU HW1 HNS;go_wp2_with fail;clear c0 c1 c2;go_loopw[6] (fun vK wq=>∃(n:Nat) (zs:List Int) (st':RS) (v':Value) (ms:Q08),Hid (st'.p<=s.size/\x.2.p<=st'.p/\s.size-st'.p<n/\zs.length<=st'.p+1/\st'.out.length+(s.size-st'.p)<=5001)/\Hid (gZ s it kd n zs st'=gZ s it kd (s.size+1) [x.1] x.2)/\Hid (KLr w wq R s st' base v v' qs ms zs vK)) (fun _ wq=>s.size-wat R wq);case atStart=>exact⟨s.size+1,[x.1],x.2,v1,ns,⟨HX.out,Vr _,by omega,by simp,HLEN.out⟩,rfl,HKL0.out⟩
 obtain⟨n,zs,st',v',ms,HB,HQ,Xw⟩:=hrel;clear HKL0;go_wp2_with fail;refine(mD _ _).mono ?_;rintro e w' ⟨rfl,rfl⟩;go_wp2_with fail;refine(l8 R s (gF kd) st'.p st'.bad v' _ Xw.out.rd.rd hs HB.out.1 (by simp[l5])).mono ?_;rintro e w5 ⟨rfl,hr5,hg5⟩;cases hc:mY s (gF kd) st'.p st'.bad;case false=>
  have HK5:=ai (Xw.out.is HWB.out hg5 (Xw.out.rd.is_no hR hc hr5 hg5));rw[vP]at hc;have EQ:=ai (M7 (zs:=zs) (st:=st') YD.out (by rw[<-HKD.out];exact HQ.out.symm.trans (P7 hc)));obtain⟨ad,cap,rfl,hnq,hin⟩:=HK5.out.node hB kd;have HNQ:=ai hnq;have HIN:=ai hin;have hql:(qs++ms).length<=100000:=by have h1:=HK5.out.rd.out;have h2:=congrArg List.length h1;simp only[aj,Wy]at h2;have:=HB.out.2.2.2.2;omega
  clear hr5 hg5 hc hnq hin Xw;go_wp2_with fail;refine(Mx R s st' base v' (qs++ms) ⟨⟨kd,[],⟨#[]⟩,⟨#[]⟩,zs⟩,none,0,ad,cap⟩ w5 HK5.out.rd hR (Vz hB HK5.out.went.onl.size) hql HNQ.out (HK5.out.kid hB kd) (fun g hg=>(HIN.out g hg).2)).mono ?_;rintro e w6 ⟨v6,rfl,hF6,hW6⟩;have Zv:=ai hF6;have HW6:=ai (HK5.out.went.trans hW6);clear hF6 hW6;have HNEW:Hid (∀q∈ms++[(⟨⟨kd,[],⟨#[]⟩,⟨#[]⟩,zs⟩,none,0,ad,cap⟩:ER)],∀g,qc q g->w.heap.size<=g):=by
   intro q hq g hg;rcases VE.1 hq with h1|h1
   ·exact HK5.out.new q h1 g hg
   rw[VD]at h1;subst h1;exact(HIN.out g hg).1
  replace Zv:Hid (RdF w6 R s (sK ⟨kd,[],⟨#[]⟩,⟨#[]⟩,zs⟩ st') base v6 (qs++(ms++[(⟨⟨kd,[],⟨#[]⟩,⟨#[]⟩,zs⟩,none,0,ad,cap⟩:ER)]))):=by rw[<-VU];exact Zv.out
  go_wp2;exact bodyPost_ret (v:=.int .i64 (st'.out.length:Int)) (by simp[results,Tryz.results297,go_sem]) rfl (by rw[EQ.out,<-HKD.out];exact⟨v6,_,rfl,Zv.out,HW6.out,HNEW.out⟩)
 have hk5:=Xw.out.is HWB.out hg5 (Xw.out.rd.is_yes hR hc hr5 hg5);rw[vP]at hk5;have HK5:=ai hk5;have HPS:Hid (st'.p+3<=s.size):=by have:=Ad hc;rw[l5]at this;exact this
 have HPL:=ai Xw.out.rd.rd.place;obtain⟨m,hm⟩:∃m,n=m+1:=⟨n-1,by have:=HB.out.2.2.1;omega⟩;subst hm;rw[vP]at hc;have EQ:=ai ((M8 (it:=it) (n:=m) (zs:=zs) hc).symm.trans HQ.out);have eP:(kD (aU kd) st').p=st'.p+3:=by unfold kD;rw[mE]
 have eO:(kD (aU kd) st').out=st'.out:=rfl;have a1:x.2.p+3<=(kD (aU kd) st').p:=by rw[eP];have:=HB.out.2.1;omega
 have a2:(kD (aU kd) st').p<=s.size:=by rw[eP];exact HPS.out
 have a3:(kD (aU kd) st').out.length+(s.size-(kD (aU kd) st').p)<=5000:=by rw[eP,eO];have:=HB.out.2.2.2.2;have:=HPS.out;omega
 have hmo:=HMONO.out (kD (aU kd) st') a1 a2;rw[eP,eO]at hmo;have hcall:=HITM.out (kD (aU kd) st') v' (qs++ms) w5 HK5.out.rd (Vz hB HK5.out.went.onl.size) a1 a2 a3;obtain⟨y,hy⟩:∃y,y=it (kD (aU kd) st'):=⟨_,rfl⟩;rw[<-hy]at hmo hcall EQ;have HMO:=ai hmo;have Yj:=ai hcall;clear hr5 hg5 hk5 hc Xw eP eO a1 a2 a3 hmo hcall hy;go_wp2_with fail;refine Yj.out.mono ?_;rintro e w6 ⟨v6,ns6,rfl,hF6,hW6,hn6⟩;have HK6:=ai (HK5.out.more HWB.out hF6 hW6 hn6);clear hF6 hW6 hn6 Yj HK5;obtain⟨W7,hW7⟩:∃W7,W7=w6.alloc (.cells #[.int .i64 y.1] 2):=⟨_,rfl⟩;have ZN:Hid (W7.ownsRow w.heap.size 2 1 u6 zs.length (ints zs)):=by rw[hW7];exact HK6.out.own.alloc _
 have HN7:Hid (∀j u,[Value.int .i64 y.1][j]?=some u->W7.cell? ((⟨w6.heap.size,0,none⟩:Addr).add j)=some u):=by rw[hW7];exact P9 w6 _ _ rfl
 have HS7:Hid (w.heap.size<=W7.heap.size):=by show _<=_;rw[hW7];exact Vz HK6.out.went.onl.size (World.grownBy_alloc w6 _ none).size
 have HW7:=ai hW7;have hzl:zs.length<=1001:=by have:=HB.out.2.2.2.1;have:=HB.out.1;omega
 go_wp2_with(at_builtin;rw[<-hW7];clear hW7;refine wpList_append_own_at _ rfl _ _ 41 rfl w.heap.size 2 iI (.int .i64 0) 1 8 underlying41 HII.out.1 HII.out.2.1 HII.out.2.2.1 HII.out.2.2.2 rfl (by decide) u6 zs.length (ints zs) rfl ZN.out ⟨w6.heap.size,0,none⟩ 1 1 [Value.int .i64 y.1] rfl rfl HN7.out (by intro u hu;simp at hu;subst hu;rfl) (by unfold maxLen;omega) (by omega) HS7.out ?_);intro vN w8 ZA hgr8 _ hat8;have HK8:Hid (KLr w w8 R s y.2 base v v6 qs (ms++ns6) (zs++[y.1]) vN):=by
  rw[HW7.out]at hgr8 hat8;exact HK6.out.app HWB.out y.1 _ ZA hgr8 hat8
 have HM:Hid (s.size-wat R w8<s.size-wat R w'):=by
  show _<_;rw[HK8.out.rd.rd.place,HPL.out];have:=HMO.out.1;have:=HMO.out.2.1;have:=HPS.out;omega
 clear ZA hgr8 hat8 ZN HN7 HS7 HW7 HK6;go_wp2;go_roundw;case rel=>exact⟨m,zs++[y.1],y.2,v6,ms++ns6,⟨HMO.out.2.1,by have:=HMO.out.1;have:=HB.out.2.1;omega,by have:=HB.out.2.2.1;have:=HMO.out.1;have:=HMO.out.2.1;omega,by have:=HB.out.2.2.2.1;have:=HMO.out.1;rw[Vx,VW];omega,by have:=HB.out.2.2.2.2;have:=HMO.out;omega⟩,EQ.out,HK8.out⟩
 exact HM.out
theorem DF{s:ByteArray}{st:RS}(h:st.p<=s.size):st.p<=(bn s st).p/\(bn s st).p<=s.size:=⟨Nat.le_add_right _ _,kE s st.p h⟩
theorem E5{s:ByteArray}{st:RS}(h:st.p<=s.size):st.p<=(aT s st).p/\(aT s st).p<=s.size/\(aT s st).out=st.out:=by
 unfold aT;cases e:lH s uZ st;case false=>exact⟨Vr _,h,rfl⟩
 have h1:st.p+1<=s.size:=kS e;have:=kE s (st.p+1) h1;exact⟨by show st.p<=st.p+1+au s (st.p+1);omega,this,rfl⟩
theorem DI{s:ByteArray}:∀(n:Nat) (xs:Q0a) (st:RS),st.p<=s.size->st.p<=(dE s n xs st).2.p/\(dE s n xs st).2.p<=s.size/\(dE s n xs st).2.out=st.out:=by
 intro n
 induction n with
 | zero=>intro xs st h;exact⟨Vr _,h,rfl⟩
 | succ n ih =>
  intro xs st h;have h1:=DF h;have h2:=E5 h1.2;have h3:(aT s (bn s st)).out=st.out:=h2.2.2;unfold dE;by_cases hb:st.bad=true
  ·rw[if_pos hb];exact⟨Vr _,h,rfl⟩
  rw[if_neg hb];by_cases hc:lH s fB (aT s (bn s st))=true
  ·rw[if_pos hc];have h4:(aT s (bn s st)).p+1<=s.size:=kS hc;exact⟨by show st.p<=(aT s (bn s st)).p+1;omega,h4,h3⟩
  rw[if_neg hc];by_cases hm:lH s l7 (aT s (bn s st))=true
  ·rw[if_pos hm];have h4:(aT s (bn s st)).p+1<=s.size:=kS hm;obtain⟨a,b,c⟩:=ih (xs++[⟨ax s st.p,yE s (bn s st)⟩]) (kD l7 (aT s (bn s st))) h4;have a':(aT s (bn s st)).p+1<=_:=a;exact⟨by omega,b,c.trans h3⟩
  rw[if_neg hm];obtain⟨a,b,c⟩:=ih (xs++[⟨ax s st.p,yE s (bn s st)⟩]) (ve (aT s (bn s st))) h2.2.1;have a':(aT s (bn s st)).p<=_:=a;exact⟨by omega,b,c.trans h3⟩
def AX(s:ByteArray)(k:Nat)(st st':RS):Prop:=st.p<=st'.p/\st'.p<=s.size/\st'.out.length+st.p<=st.out.length+k+st'.p
theorem M9{s:ByteArray}{st:RS}(h:lH s fP st=true):AX s 1 st (qW s st).2:=by
 have h1:(kD fP st).p<=s.size:=kS h;obtain⟨a,b,c⟩:=DI (s:=s) (s.size+1) [] (kD fP st) h1;have a':st.p+5<=_:=a;have c':_=st.out:=c;unfold qW AX;cases e:dE s (s.size+1) [] (kD fP st) with
 | mk o st' =>
  rw[e]at a' b c';replace a':st.p+5<=st'.p:=a';replace b:st'.p<=s.size:=b;replace c':st'.out=st.out:=c';cases o with
  | none=>exact⟨by show st.p<=st'.p;omega,b,by show st'.out.length+_<=_+_+st'.p;rw[c'];omega⟩
  | some xs=>exact⟨by show st.p<=st'.p;omega,b,by show(st'.out++_).length+_<=_+_+st'.p;rw[c',Vx,VW];omega⟩
theorem Qa{s:ByteArray}{st:RS}(h:st.p<=s.size):AX s 1 st (sK (fo s st) (judged (fo s st) (aG s st))):=by
 have h1:=DF h;have key:st.p<=(aG s st).p/\(aG s st).p<=s.size/\(aG s st).out=st.out:=by
  unfold aG;cases e:lH s o6 (bn s st);case false=>exact⟨h1.1,h1.2,rfl⟩
  have h2:st.p+au s st.p+2<=s.size:=kS e;have:=kE s _ h2;exact⟨by show st.p<=st.p+au s st.p+2+au s (st.p+au s st.p+2);omega,this,rfl⟩
 have key2:(judged (fo s st) (aG s st)).p=(aG s st).p/\(judged (fo s st) (aG s st)).out=st.out:=by
  unfold judged;split
  ·exact⟨rfl,key.2.2⟩
  exact⟨rfl,key.2.2⟩
 refine⟨?_,?_,?_⟩
 ·show st.p<=(judged (fo s st) (aG s st)).p;rw[key2.1];exact key.1
 ·show(judged (fo s st) (aG s st)).p<=_;rw[key2.1];exact key.2.1
 show((judged (fo s st) (aG s st)).out++_).length+_<=_+1+(judged (fo s st) (aG s st)).p;rw[key2.1,key2.2,Vx,VW];have:=key.1;omega
theorem Na{s:ByteArray}{st:RS}{x:Int×RS}(h:AX s 1 (kD jG st) x.2):AX s 1 st (uj s x).2:=by
 obtain⟨a,b,c⟩:=h;replace a:st.p+1<=x.2.p:=a;replace c:x.2.out.length+(st.p+1)<=st.out.length+1+x.2.p:=c;unfold uj;cases e:lH s fB x.2;case false=>exact⟨by show st.p<=x.2.p;omega,b,by show x.2.out.length+st.p<=_+1+x.2.p;omega⟩
 have h2:x.2.p+1<=s.size:=kS e;exact⟨by show st.p<=x.2.p+1;omega,h2,by show x.2.out.length+st.p<=_+1+(x.2.p+1);omega⟩
theorem Nb{s:ByteArray}{it:RS->Int×RS}{k:Int}(hit:∀st,st.p<=s.size->AX s 1 st (it st).2):∀(n:Nat) (zs:List Int) (st:RS),st.p<=s.size->AX s 0 st (gZ s it k n zs st).2/\(0<n->lH s (aU k) st=true->(gZ s it k n zs st).2.out.length+st.p+2<=st.out.length+(gZ s it k n zs st).2.p):=by
 intro n
 induction n with
 | zero=>intro zs st h;exact⟨⟨Vr _,h,Vr _⟩,fun h=>absurd h (by omega)⟩
 | succ n ih =>
  intro zs st h;unfold gZ;cases e:lH s (aU k) st;case false=>exact⟨⟨Vr _,h,Vr _⟩,fun _ h=>by cases h⟩
  have h1:st.p+3<=s.size:=by have:=kS e;rw[mE]at this;exact this
  have eP:(kD (aU k) st).p=st.p+3:=by unfold kD;rw[mE]
  have eO:(kD (aU k) st).out=st.out:=rfl;obtain⟨a,b,c⟩:=hit (kD (aU k) st) (by rw[eP];exact h1);rw[eP]at a c;rw[eO]at c;obtain⟨⟨a2,b2,c2⟩,-⟩:=ih (zs++[(it (kD (aU k) st)).1]) (it (kD (aU k) st)).2 b;simp only[if_true];exact⟨⟨by omega,b2,by omega⟩,fun _ _=>by omega⟩
theorem JX{s:ByteArray}{p:Nat}(h:dF s p≠0):ed s (aU (dF s p)) p=true:=by
 unfold dF at h⊢;cases h1:ed s (aU 4) p;case true=>simpa using h1
 cases h2:ed s (aU 5) p;case true=>simpa[h1] using h2
 cases h3:ed s (aU 6) p;case true=>simpa[h1,h2] using h3
 simp[h1,h2,h3]at h
theorem R3{s:ByteArray}{it:RS->Int×RS}(hit:∀st,st.p<=s.size->AX s 1 st (it st).2){st:RS}{x:Int×RS}(h:AX s 1 st x.2):AX s 1 st (rowP s it x).2:=by
 unfold rowP;by_cases hc:dF s x.2.p=0\/x.2.bad=true
 ·rw[if_pos hc];exact h
 rw[if_neg hc];have hsg:dF s x.2.p≠0:=fun e=>hc (.inl e)
 have hbd:x.2.bad=false:=by cases e:x.2.bad with
  | false=>rfl
  | true=>exact absurd (.inr e) hc
 have hyes:lH s (aU (dF s x.2.p)) x.2=true:=by unfold lH;rw[hbd,JX hsg];rfl
 obtain⟨⟨a,b,c⟩,d⟩:=Nb hit (k:=dF s x.2.p) (s.size+1) [x.1] x.2 h.2.1;have d:=d (by omega) hyes;obtain⟨a1,b1,c1⟩:=h;refine⟨?_,b,?_⟩
 ·show st.p<=(gZ s it (dF s x.2.p) (s.size+1) [x.1] x.2).2.p;omega
 show((gZ s it (dF s x.2.p) (s.size+1) [x.1] x.2).2.out++_).length+_<=_+1+(gZ s it (dF s x.2.p) (s.size+1) [x.1] x.2).2.p;rw[Vx,VW];omega
theorem AY{s:ByteArray}{n:Nat}{st:RS}(h:lH s fP st=true):zZ s (n+1) false st=qW s st:=by
 unfold zZ qW;rw[if_pos h];cases dE s (s.size+1) [] (kD fP st) with
 | mk o st'=>cases o<;>rfl
theorem AZ{s:ByteArray}{n:Nat}{st:RS}(h:lH s fP st=false)(h2:lH s jG st=true):zZ s (n+1) false st=uj s (zZ s n true (kD jG st)):=by
 conv=>lhs;unfold zZ
 rw[if_neg (by rw[h];decide),if_pos h2];rfl
theorem A7{s:ByteArray}{n:Nat}{st:RS}(h:lH s fP st=false)(h2:lH s jG st=false):zZ s (n+1) false st=((st.out.length:Int),sK (fo s st) (judged (fo s st) (aG s st))):=by
 unfold zZ;rw[if_neg (by rw[h];decide),if_neg (by rw[h2];decide)]
theorem E8{s:ByteArray}{n:Nat}{st:RS}:zZ s (n+1) true st=rowP s (zZ s n false) (zZ s n false st):=by
 conv=>lhs;unfold zZ
 rfl
theorem si{s:ByteArray}:∀(n:Nat) (b:Bool) (st:RS),st.p<=s.size->AX s 1 st (zZ s n b st).2:=by
 intro n
 induction n with
 | zero=>intro b st h;cases b<;>exact⟨Vr _,h,by show st.out.length+st.p<=st.out.length+1+st.p;omega⟩
 | succ n ih =>
  intro b st h;cases b;case true=>rw[E8];exact R3 (fun st' h'=>ih false st' h') (ih false st h)
  cases h1:lH s fP st;case true=>rw[AY h1];exact M9 h1
  cases h2:lH s jG st;case true=>rw[AZ h1 h2];exact Na (ih true (kD jG st) (kS h2))
  rw[A7 h1 h2];exact Qa h
theorem Qb(R:Nat)(s:bQ)(base:Nat)(hR:R<base)(hs:s.size<=1000):∀n:Nat,
  (∀ (st:RS) (v:Value) (qs:Q08) (w:World),RdF w R s st base v qs->base<=w.heap.size->st.p<=s.size->st.out.length+(s.size-st.p)<=5000->2*(s.size-st.p)<n ->
   Calls prog 324 #[.pointer (some ⟨R,0,none⟩)] w (vv R s base v qs w (zZ s n false st))) /\
  (∀ (st:RS) (v:Value) (qs:Q08) (w:World),RdF w R s st base v qs->base<=w.heap.size->st.p<=s.size->st.out.length+(s.size-st.p)<=5000->2*(s.size-st.p)+1<n ->
   Calls prog 297 #[.pointer (some ⟨R,0,none⟩)] w (vv R s base v qs w (zZ s n true st))):=by
 intro n
 induction n with
 | zero=>exact⟨fun _ _ _ _ _ _ _ _ h=>absurd h (by omega),fun _ _ _ _ _ _ _ _ h=>absurd h (by omega)⟩
 | succ n ih =>
  refine⟨fun st v qs w h hB hp hb hn=>?_,fun st v qs w h hB hp hb hn=>?_⟩
  ·have hlen:qs.length=st.out.length:=by rw[<-h.out];simp[aj]
   cases h1:lH s fP st;case true=>rw[AY h1];exact MZ R s st base v qs w h hR hB hs hp (by omega) h1
   cases h2:lH s jG st;case true=>
    rw[AZ h1 h2];have h3:st.p+1<=s.size:=kS h2;have h4:(kD jG st).p=st.p+1:=rfl;exact Pw R s st base v qs w h hR hs hp h1 h2 _ (si n true (kD jG st) h3).2.1 fun w1 hw1 hsz=>ih.2 (kD jG st) v qs w1 hw1 (Vz hB hsz) h3 (by rw[h4];show st.out.length+_<=_;omega) (by rw[h4];omega)
   rw[A7 h1 h2];exact MU R s st base v qs w h hR hB hs hp (by omega) h1 h2
  rw[E8];obtain⟨a,b,c⟩:=si (s:=s) n false st hp;refine RZ R s st base v qs w h hR hB hs _ b (ih.1 st v qs w h hB hp hb (by omega)) _ (by omega) (fun st' v' qs' w' h' hB' h1 h2 h3=>ih.1 st' v' qs' w' h' hB' h2 h3 (by omega)) (fun st' h1 h2=>?_);obtain⟨a2,b2,c2⟩:=si (s:=s) n false st' h2;exact⟨a2,b2,c2⟩
def UZ(s:ByteArray)(a:Al):Prop:=a.t.size<=s.size/\a.s.size<=s.size
def IV(s:ByteArray)(e:Ex):Prop:=e.allow.length<=s.size+1/\(∀a∈e.allow,UZ s a)/\e.over.size<=s.size/\e.name.size<=s.size/\e.kids.length<=s.size+2
theorem qZ(s:bQ)(p:Nat):(ax s p).size<=s.size:=by
 unfold ax;rw[ByteArray.size_extract];omega
theorem R4(s:bQ)(st:RS):(yE s st).size<=s.size:=by
 unfold yE;split
 ·exact qZ s _
 exact Vv _
theorem Nc{s:ByteArray}:∀(n:Nat) (xs:Q0a) (st:RS) (ys:Q0a),(∀a∈xs,UZ s a)->(dE s n xs st).1=some ys->ys.length<=xs.length+n/\∀a∈ys,UZ s a:=by
 intro n
 induction n with
 | zero=>intro xs st ys _ h;cases h
 | succ n ih =>
  intro xs st ys hx h;have hx2:∀a∈xs++[(⟨ax s st.p,yE s (bn s st)⟩:Al)],UZ s a:=by
   intro a ha;rcases VE.1 ha with h1|h1
   ·exact hx a h1
   rw[VD]at h1;subst h1;exact⟨qZ s _,R4 s _⟩
  unfold dE at h;by_cases hb:st.bad=true
  ·rw[if_pos hb]at h;cases h
  rw[if_neg hb]at h;by_cases hc:lH s fB (aT s (bn s st))=true
  ·rw[if_pos hc]at h;injection h with h;subst h;exact⟨by rw[Vx,VW];omega,hx2⟩
  rw[if_neg hc]at h;have fin:∀st',(dE s n (xs++[⟨ax s st.p,yE s (bn s st)⟩]) st').1=some ys->ys.length<=xs.length+(n+1)/\∀a∈ys,UZ s a:=fun st' h'=>by
   obtain⟨a,b⟩:=ih _ st' ys hx2 h';rw[Vx,VW]at a;exact⟨by omega,b⟩
  by_cases hm:lH s l7 (aT s (bn s st))=true
  ·rw[if_pos hm]at h;exact fin _ h
  rw[if_neg hm]at h;exact fin _ h
theorem E9{s:ByteArray}{x:Ex}{st:RS}(h:∀e∈st.out,IV s e)(hx:IV s x):∀e∈(sK x st).out,IV s e:=by
 intro e he;rcases VE.1 he with h1|h1
 ·exact h e h1
 rw[VD]at h1;subst h1;exact hx
theorem Qc{s:ByteArray}{st:RS}(hp:st.p+5<=s.size)(h:∀e∈st.out,IV s e):∀e∈(qW s st).2.out,IV s e:=by
 have hc:=(DI (s:=s) (s.size+1) [] (kD fP st) hp).2.2;have hs:=Nc (s:=s) (s.size+1) [] (kD fP st);unfold qW;cases e:dE s (s.size+1) [] (kD fP st) with
 | mk o st' =>
  rw[e]at hc hs;have hc':st'.out=st.out:=hc;cases o with
  | none=>show ∀e∈st'.out,IV s e;rw[hc'];exact h
  | some xs =>
   obtain⟨a,b⟩:=hs xs (fun a ha=>by cases ha) rfl;exact E9 (by rw[hc'];exact h) ⟨by simpa using a,b,Vv _,Vv _,Vv _⟩
theorem R5{s:ByteArray}{st:RS}(h:∀e∈st.out,IV s e):∀e∈(sK (fo s st) (judged (fo s st) (aG s st))).out,IV s e:=by
 have h1:(judged (fo s st) (aG s st)).out=st.out:=by
  have h2:(aG s st).out=st.out:=by unfold aG;split<;>rfl
  unfold judged;split<;>exact h2
 refine E9 (by rw[h1];exact h) ?_;unfold fo;split
 ·exact⟨Vv _,fun a ha=>(by cases ha),qZ s _,qZ s _,Vv _⟩
 exact⟨Vv _,fun a ha=>(by cases ha),Vv _,qZ s _,Vv _⟩
theorem Qd{s:ByteArray}{it:RS->Int×RS}{k:Int}(hit:∀st,(∀e∈st.out,IV s e)->st.p<=s.size->(∀e∈(it st).2.out,IV s e)/\(it st).2.p<=s.size):∀(n:Nat) (zs:List Int) (st:RS),(∀e∈st.out,IV s e)->st.p<=s.size->(∀e∈(gZ s it k n zs st).2.out,IV s e)/\(gZ s it k n zs st).1.length<=zs.length+n:=by
 intro n
 induction n with
 | zero=>intro zs st h _;exact⟨h,Vr _⟩
 | succ n ih =>
  intro zs st h hp;unfold gZ;cases e:lH s (aU k) st;case false=>exact⟨h,Nat.le_add_right _ _⟩
  have h1:(kD (aU k) st).p<=s.size:=kS e;obtain⟨a,b⟩:=hit (kD (aU k) st) h h1;obtain⟨a2,b2⟩:=ih (zs++[(it (kD (aU k) st)).1]) _ a b;rw[Vx,VW]at b2;exact⟨a2,by simp only[if_true];omega⟩
theorem Qe{s:ByteArray}:∀(n:Nat) (b:Bool) (st:RS),st.p<=s.size->(∀e∈st.out,IV s e)->∀e∈(zZ s n b st).2.out,IV s e:=by
 intro n
 induction n with
 | zero=>intro b st _ h;cases b<;>exact h
 | succ n ih =>
  intro b st hp h;cases b;case true=>
   rw[E8];unfold rowP;have hx:=ih false st hp h;have hxp:=(si (s:=s) n false st hp).2.1;split
   ·exact hx
   obtain⟨a,b⟩:=Qd (s:=s) (it:=zZ s n false) (k:=dF s (zZ s n false st).2.p) (fun st' h1 h2=>⟨ih false st' h2 h1,(si (s:=s) n false st' h2).2.1⟩) (s.size+1) [(zZ s n false st).1] (zZ s n false st).2 hx hxp;exact E9 a ⟨Vv _,fun a ha=>(by cases ha),Vv _,Vv _,Vz b (by simp only[VW];omega)⟩
  cases h1:lH s fP st;case true=>rw[AY h1];exact Qc (kS h1) h
  cases h2:lH s jG st;case true=>
   rw[AZ h1 h2];have hx:=ih true (kD jG st) (kS h2) h;unfold uj;split
   ·exact hx
   exact hx
  rw[A7 h1 h2];exact R5 h
theorem IV.light{s:ByteArray}{e:Ex}(h:IV s e)(hs:s.size<=1000):e.light/\e.fits:=by
 obtain⟨h1,h2,h3,h4,h5⟩:=h;refine⟨⟨by omega,by omega⟩,⟨fun a ha=>⟨?_,?_⟩,?_,?_,?_,?_⟩⟩<;>unfold maxLen
 ·have:=(h2 a ha).1;omega
 ·have:=(h2 a ha).2;omega
 all_goals omega
def kI(s:ByteArray):RS:=(zZ s (2*s.size+2) true ⟨0,false,[]⟩).2
def mG(s:ByteArray):Bool:=decide (s.size<=1000) && !(kI s).bad && !decide ((kI s).p<s.size)&&aK (kI s).out&&((gM (kI s).out).toList==s.toList)
def U0(s:ByteArray)(w:World)(e:Ending)(w':World):Prop :=
 ag w w'/\((mG s=false/\e=.returned (.tuple #[.slice none 0 0,.bool false]))\/(mG s=true/\∃(v:Value) (R:Nat) (qs:Q08),e=.returned (.tuple #[v,.bool true])/\RdF w' R s (kI s) (w.heap.size+1) v qs))
theorem Qf(w:ae)(s:bQ):RdF (w.alloc (.cells #[.string s,.int .i64 0,.bool false,.slice none 0 0] 372)) w.heap.size s ⟨0,false,[]⟩ (w.heap.size+1) (.slice none 0 0) []:=by
 refine⟨⟨by simp,by simp,by simp,by simp,by simp,fun j=>by simp⟩,World.ownsRow_nil _ _ _ _,rfl,?_,?_,?_,?_,?_,?_,?_,?_⟩
 ·intro q hq;cases hq
 ·intro q hq;cases hq
 ·intro q hq;cases hq
 ·intro q hq;cases hq
 ·intro q hq;cases hq
 ·intro x y hx;exact absurd hx (by simp)
 ·intro q hq;cases hq
 intro q hq;cases hq
theorem RdF.slE{w:ae}{R:Nat}{s:ByteArray}{st:RS}{base:Nat}{v:Value}{qs:Q08}(h:RdF w R s st base v qs):∃ad cap,v=.slice ad qs.length cap/\jw w ad qs:=Tv h.own rfl h.ok
theorem RdF.later{w w':ae}{R:Nat}{s:ByteArray}{st:RS}{base:Nat}{v:Value}{qs:Q08}(h:RdF w R s st base v qs)(hb:ag w w'):RdF w' R s st base v qs :=
 h.heap hb.size (hb.block R h.rd.lt) (fun g hg=>hb.block g (h.own.lt g hg).2) (fun q hq g hi=>hb.block g (h.lie q hq g hi).2.1)
theorem xy(s:bQ)(w:ae):Calls prog 263 #[.string s] w (U0 s w):=by
 by_cases hs:s.size<=1000
 ·have hd0:decide ((1000:Int)<(s.size:Int))=false:=by simp;omega
  have HRD:=ai (Qf w s);have Yj:=ai ((Qb w.heap.size s (w.heap.size+1) (by omega) hs (2*s.size+2)).2 ⟨0,false,[]⟩ (.slice none 0 0) [] _ HRD.out (by simp) (Vv _) (by simp;omega) (by simp));have HSM:Hid (∀e∈(kI s).out,e.light/\e.fits):=fun e he=>(Qe (s:=s) _ true ⟨0,false,[]⟩ (Vv _) (fun e he=>by cases he) e he).light hs;have HFEW:=ai (si (s:=s) (2*s.size+2) true ⟨0,false,[]⟩ (Vv _));go_enter func263,ntmps263;go_wp2_with fail;refine Yj.out.mono ?_;rintro e w1 ⟨v1,qs,rfl,hF1,hW1,-⟩;replace hF1:RdF w1 w.heap.size s (kI s) (w.heap.size+1) v1 qs:=hF1;have XU:=ai hF1;have HB1:Hid (ag w w1):=⟨hW1.onl.os,hW1.onl.tape,hW1.onl.output,by have:=hW1.onl.size;simp at this;omega,fun k hk=>(hW1.onl.block k (by simp;omega) (by omega) (by simp[Value.ownBlock])).trans ((World.grownBy_alloc w _ none).block k hk (by simp))⟩;obtain⟨ad,cap,rfl,hsl⟩:=hF1.slE;have Zc:=ai hsl;have Z4:=ai hF1.out;have hql:qs.length<=1048576:=by
   have h2:=congrArg List.length hF1.out;simp only[aj,Wy]at h2;have h3:(kI s).out.length+0<=0+1+(kI s).p:=HFEW.out.2.2;have h4:(kI s).p<=s.size:=HFEW.out.2.1;omega
  have HL:Hid (∀r∈qs,r.e.light):=fun r hr=>(HSM.out r.e (by rw[<-Z4.out];exact VG.2 ⟨r,hr,rfl⟩)).1;have HF:Hid (∀r∈qs,r.e.fits):=fun r hr=>(HSM.out r.e (by rw[<-Z4.out];exact VG.2 ⟨r,hr,rfl⟩)).2;have Zx:Hid (mG s=(!(kI s).bad && !decide ((kI s).p<s.size)&&aK (kI s).out&&((gM (kI s).out).toList==s.toList))):=by show _=_;unfold mG;simp[hs]
  have c1:=hF1.rd.c1;have c2:=hF1.rd.c2;have c3:=hF1.rd.c3;clear hF1 hW1 hsl Yj HRD HSM HFEW;cases hb:(kI s).bad;case true=>
   rw[hb]at c2;have EQ:Hid (mG s=false):=by show _=_;rw[Zx.out,hb];rfl
   go_wp2;exact bodyPost_ret (v:=.tuple #[.slice none 0 0,.bool false]) (by simp[results,Tryz.results263,go_sem]) rfl ⟨HB1.out,.inl ⟨EQ.out,rfl⟩⟩
  rw[hb]at c2;by_cases hlt:(kI s).p<s.size
  ·have hd1:decide (((kI s).p:Int)<(s.size:Int))=true:=by simp;omega
   have EQ:Hid (mG s=false):=by show _=_;rw[Zx.out,hb,decide_eq_true hlt];rfl
   go_wp2;exact bodyPost_ret (v:=.tuple #[.slice none 0 0,.bool false]) (by simp[results,Tryz.results263,go_sem]) rfl ⟨HB1.out,.inl ⟨EQ.out,rfl⟩⟩
  have hd1:decide (((kI s).p:Int)<(s.size:Int))=false:=by simp;omega
  go_wp2_with fail;refine(mr ad cap qs w1 hql HL.out HF.out Zc.out).mono ?_;rintro e w2 ⟨rfl,hB2⟩;have Yb:=ai (XU.out.later hB2);have HB2:=ai (HB1.out.trans (hB2.mono HB1.out.size));have HSL2:=ai (Zc.out.below hB2);have k3:=Yb.out.rd.c3;rw[Z4.out];clear hB2;cases he:aK (kI s).out;case false=>
   have EQ:Hid (mG s=false):=by show _=_;rw[Zx.out,hb,decide_eq_false hlt,he];rfl
   go_wp2;exact bodyPost_ret (v:=.tuple #[.slice none 0 0,.bool false]) (by simp[results,Tryz.results263,go_sem]) rfl ⟨HB2.out,.inl ⟨EQ.out,rfl⟩⟩
  go_wp2_with fail;refine(ow ad cap qs w2 hql HL.out HF.out HSL2.out).mono ?_;rintro e w3 ⟨rfl,hB3⟩;have HF3:=ai (Yb.out.later hB3);have HB3:=ai (HB2.out.trans (hB3.mono HB2.out.size));have q3:=HF3.out.rd.c3;rw[Z4.out];clear hB3;cases ht:(gM (kI s).out).toList==s.toList;case false=>
   have ht2:(!(gM (kI s).out).toList==s.toList)=true:=by rw[ht];rfl
   have EQ:Hid (mG s=false):=by show _=_;rw[Zx.out,ht,Bool.and_false]
   go_wp2;exact bodyPost_ret (v:=.tuple #[.slice none 0 0,.bool false]) (by simp[results,Tryz.results263,go_sem]) rfl ⟨HB3.out,.inl ⟨EQ.out,rfl⟩⟩
  have ht2:(!(gM (kI s).out).toList==s.toList)=false:=by rw[ht];rfl
  have EQ:Hid (mG s=true):=by show _=_;rw[Zx.out,hb,decide_eq_false hlt,he,ht];rfl
  go_wp2;exact bodyPost_ret (v:=.tuple #[.slice ad qs.length cap,.bool true]) (by simp[results,Tryz.results263,go_sem]) rfl ⟨HB3.out,.inr ⟨EQ.out,_,_,qs,rfl,HF3.out⟩⟩
 have hd0:decide ((1000:Int)<(s.size:Int))=true:=by simp;omega
 have EQ:Hid (mG s=false):=by show _=_;unfold mG;rw[decide_eq_false hs];rfl
 go_enter func263,ntmps263;go_wp2;exact bodyPost_ret (v:=.tuple #[.slice none 0 0,.bool false]) (by simp[results,Tryz.results263,go_sem]) rfl ⟨Vs _ _,.inl ⟨EQ.out,rfl⟩⟩
theorem RdF.nod{w:ae}{R:Nat}{s:ByteArray}{st:RS}{base:Nat}{v:Value}{qs:Q08}(h:RdF w R s st base v qs):NodM w base v qs:=⟨h.own,h.zA,h.zK,h.ok,h.lie,h.one,h.two,h.cA⟩
theorem DJ(x y:Al):jV x y=jV y x:=by
 unfold jV;rw[VL];simp only[Vt,beq_iff_eq];exact⟨fun h=>⟨h.1.symm,h.2.symm⟩,fun h=>⟨h.1.symm,h.2.symm⟩⟩
theorem Nf(ad:Q02)(n cap:Nat)(xs:Q0a)(v:Al)(w:ae)(hn:n<=xs.length)(hlen:xs.length<=1048576)(hs:lu w ad xs):
  Calls prog 221 #[.slice ad n cap,.agg #[.string v.t,.string v.s]] w fun e w'=>(∃r:Int,e=.returned (.int .i64 r)/\decide (0<=r)=dG xs n v)/\ag w w':=by
 obtain⟨W,hW⟩:∃W,W=w.alloc (.cells #[.string v.t,.string v.s] 216):=⟨_,rfl⟩;have HB0:Hid (ag w W):=by show Below _ _ _;rw[hW];exact(Vs w.heap.size w).alloc (Vr _) _
 have hz:w.heap.size<W.heap.size:=by rw[hW];simp
 have b0:W.cell? ⟨w.heap.size,0,none⟩=some (.string v.t):=by rw[hW];simp
 have b1:W.cell? ⟨w.heap.size,1,none⟩=some (.string v.s):=by rw[hW];simp
 have HS:=aC (hs.below HB0.out);clear hs;go_enter func221,ntmps221;go_wp2_with fail;rw[<-hW];clear hW;go_loopw[8] (fun i wr=>∃k:Nat,k<=n/\i=.int .i64 k/\Hid (dG xs k v=false)/\ag W wr) (fun i _=>n-(intOf i).toNat);case atStart=>exact⟨0,Vv _,rfl,ug _ _,Vs _ _⟩
 obtain⟨k,hk,rfl,HP,hB⟩:=hrel;have a0:=kept hB hz b0;have a1:=kept hB hz b1;by_cases hlt:k<n
 ·have hltx:k<xs.length:=by omega
  rcases HS.out.below hB with rfl|⟨b,off,rfl,hb,hr⟩
  ·simp at hltx
  obtain⟨t0,t1⟩:=hr k hltx;have hk1:=bC k;have hk2:(k:Int)<(n:Int):=by omega
  clear hr;cases hq:jV v xs[k];case true=>
   have HE:=EM v xs[k] hq;have HN:Hid (dG xs n v=true):=Dg hlt hltx (by rw[DJ];exact hq);go_wp2_with fail;go_quiet (fail);go_wp2;go_ret;exact⟨⟨_,rfl,by rw[HN.out];simp⟩,HB0.out.trans (below_drewN (hB.mono HB0.out.size) _)⟩
  have HE:=EM v xs[k] hq;have WQ:Hid (dG xs (k+1) v=false):=by show _=_;rw[uf _ _ _ hltx,HP.out,DJ,hq];rfl
  go_wp2_with fail;go_quiet (fail);go_wp2;go_roundw;case rel=>exact⟨k+1,by omega,by go_num,WQ,below_drewN hB _⟩
  simp[intOf]<;>omega
 obtain rfl:k=n:=by omega
 go_wp2;go_ret;exact⟨⟨-1,rfl,by rw[HP.out];rfl⟩,HB0.out.trans (hB.mono HB0.out.size)⟩
theorem vQ(ad:Q02)(n cap:Nat)(xs:Q0a)(v:Al)(w:ae)(hn:n<=xs.length)(hlen:xs.length<=1048576)(hs:lu w ad xs):
  Calls prog 149 #[.slice ad n cap,.agg #[.string v.t,.string v.s]] w fun e w'=>e=.returned (.bool (dG xs n v))/\ag w w':=by
 have HB0:Hid (ag w (w.alloc (.cells #[.string v.t,.string v.s] 216))):=(Vs w.heap.size w).alloc (Vr _) _;have HS:=aC hs;clear hs;go_enter func149,ntmps149;go_wp2_with fail;refine(Nf ad n cap xs v _ hn hlen (HS.out.below HB0.out)).mono ?_;rintro e w1 ⟨⟨r,rfl,hr⟩,hb1⟩;have HR:Hid (decide (0<=r)=dG xs n v):=hr;have HB1:=iJ HB0 hb1;clear hr hb1;go_wp2;go_ret;exact⟨ah HR.out,HB1.out⟩
set_option maxRecDepth 8000 in
theorem Fa(r:ER)(w:ae)(hf:r.e.fits)(h1:r.e.kind≠1):
  Calls prog 250 #[r.val] w fun e w'=>e=.returned (.bool (av r.e))/\ag w w':=by
 obtain⟨⟨kind,allow,over,name,kids⟩,adA,capA,adK,capK⟩:=r;obtain⟨f1,f2,f3,f4,f5⟩:=hf;simp only at f1 f2 f3 f4 f5 h1;simp only[ER.val];unfold maxLen at f4 f5;by_cases h2:kind=2
 ·subst h2;clear h1;go_enter func250,ntmps250;go_wp2_with fail;go_quiet (fail);go_wp2_with(go_at_call 122;refine(aL _ _ (by assumption)).mono ?_;rintro e w' ⟨rfl,rfl⟩)
  all_goals go_ret
  all_goals exact⟨ah (by first|(simp[av, *];done)|(simp[av, *];omega)|(simp[av, *];rw[VL];simp;done)|(simp[av, *];rw[VL];simp;omega)),below_drewN ((Vs w.heap.size w).alloc (Vr _) _) _⟩
 by_cases h3:kind=3
 ·subst h3;clear h1;go_enter func250,ntmps250;go_wp2_with fail;go_quiet (fail);go_wp2_with(go_at_call 122;refine(aL _ _ (by assumption)).mono ?_;rintro e w' ⟨rfl,rfl⟩)
  all_goals go_ret
  all_goals exact⟨ah (by first|(simp[av, *];done)|(simp[av, *];omega)|(simp[av, *];rw[VL];simp;done)|(simp[av, *];rw[VL];simp;omega)),below_drewN ((Vs w.heap.size w).alloc (Vr _) _) _⟩
 by_cases h4:kind=4
 ·subst h4;clear h1;go_enter func250,ntmps250;go_wp2_with fail;go_quiet (fail);go_wp2_with(go_at_call 122;refine(aL _ _ (by assumption)).mono ?_;rintro e w' ⟨rfl,rfl⟩)
  all_goals go_ret
  all_goals exact⟨ah (by first|(simp[av, *];done)|(simp[av, *];omega)|(simp[av, *];rw[VL];simp;done)|(simp[av, *];rw[VL];simp;omega)),below_drewN ((Vs w.heap.size w).alloc (Vr _) _) _⟩
 by_cases h5:kind=5
 ·subst h5;clear h1;go_enter func250,ntmps250;go_wp2_with fail;go_quiet (fail);go_wp2_with(go_at_call 122;refine(aL _ _ (by assumption)).mono ?_;rintro e w' ⟨rfl,rfl⟩)
  all_goals go_ret
  all_goals exact⟨ah (by first|(simp[av, *];done)|(simp[av, *];omega)|(simp[av, *];rw[VL];simp;done)|(simp[av, *];rw[VL];simp;omega)),below_drewN ((Vs w.heap.size w).alloc (Vr _) _) _⟩
 by_cases h6:kind=6
 ·subst h6;clear h1;go_enter func250,ntmps250;go_wp2_with fail;go_quiet (fail);go_wp2_with(go_at_call 122;refine(aL _ _ (by assumption)).mono ?_;rintro e w' ⟨rfl,rfl⟩)
  all_goals go_ret
  all_goals exact⟨ah (by first|(simp[av, *];done)|(simp[av, *];omega)|(simp[av, *];rw[VL];simp;done)|(simp[av, *];rw[VL];simp;omega)),below_drewN ((Vs w.heap.size w).alloc (Vr _) _) _⟩
 go_enter func250,ntmps250;go_wp2_with fail;go_quiet (fail);go_wp2_with(go_at_call 122;refine(aL _ _ (by assumption)).mono ?_;rintro e w' ⟨rfl,rfl⟩)
 all_goals go_ret
 all_goals exact⟨ah (by first|(simp[av, *];done)|(simp[av, *];omega)|(simp[av, *];rw[VL];simp;done)|(simp[av, *];rw[VL];simp;omega)),below_drewN ((Vs w.heap.size w).alloc (Vr _) _) _⟩
set_option linter.unusedVariables false
structure KpO(b l:Nat)(W W':World):Prop where
 size:W.heap.size<=W'.heap.size
 cells:∀(g:Nat) (cs:Array Value) (T:TypeId) (m:Nat×Nat),W.heap[g]?=some (.cells cs T m)->T≠52->T≠44->W'.heap[g]?=some (.cells cs T m)
 other:∀(g:Nat) (o:Obj),W.heap[g]?=some o->o.isCells=false->g≠l->g≠b->W'.heap[g]?=some o
structure KpI(W W':World):Prop where
 size:W.heap.size<=W'.heap.size
 cells:∀(g:Nat) (cs:Array Value) (T:TypeId) (m:Nat×Nat),W.heap[g]?=some (.cells cs T m)->T=27\/T=39->W'.heap[g]?=some (.cells cs T m)
theorem KpO.trans{b l:Nat}{X Y Z:ae}(h:KpO b l X Y)(k:KpO b l Y Z):KpO b l X Z :=
 ⟨Vz h.size k.size,fun g cs T m hg h1 h2=>k.cells g cs T m (h.cells g cs T m hg h1 h2) h1 h2,fun g o hg hc h1 h2=>k.other g o (h.other g o hg hc h1 h2) hc h1 h2⟩
theorem KpI.trans{X Y Z:ae}(h:KpI X Y)(k:KpI Y Z):KpI X Z :=
 ⟨Vz h.size k.size,fun g cs T m hg h1=>k.cells g cs T m (h.cells g cs T m hg h1) h1⟩
theorem oz{W:ae}{l g:Nat}{o':Obj}(h:g≠l):(W.putObj l o').heap[g]?=W.heap[g]?:=World.putObj_heap_other h
theorem KpO.put{b l:Nat}{W:ae}{o o':Obj}(h:W.heap[l]?=some o)(hc:o.isCells=false):KpO b l W (W.putObj l o') where
 size:=by simp
 cells g cs T m hg _ _:=by
  have:g≠l:=fun e=>by subst e;rw[h]at hg;injection hg with hg;subst hg;cases hc
  rw[oz this];exact hg
 other g x hg _ h1 _:=by rw[oz h1];exact hg
theorem KpI.put{l:Nat}{W:ae}{o o':Obj}(h:W.heap[l]?=some o)(hc:o.isCells=false):KpI W (W.putObj l o') where
 size:=by simp
 cells g cs T m hg _:=by
  have:g≠l:=fun e=>by subst e;rw[h]at hg;injection hg with hg;subst hg;cases hc
  rw[oz this];exact hg
theorem KpO.below{b l:Nat}{W W':ae}(h:ag W W'):KpO b l W W' :=
 ⟨h.size,fun g cs T m hg _ _=>(h.block g (Vw.1 hg).1).trans hg,fun g o hg _ _ _=>(h.block g (Vw.1 hg).1).trans hg⟩
theorem KpI.below{W W':ae}(h:ag W W'):KpI W W' :=
 ⟨h.size,fun g cs T m hg _=>(h.block g (Vw.1 hg).1).trans hg⟩
theorem KpO.toI{b l:Nat}{W W':ae}(h:KpO b l W W'):KpI W W' :=
 ⟨h.size,fun g cs T m hg hT=>h.cells g cs T m hg (by rcases hT with e|e<;>(rw[e];decide)) (by rcases hT with e|e<;>(rw[e];decide))⟩
theorem A8{W W':ae}(h:ag W W'):W.grownBy W' none:=⟨h.os,h.tape,h.output,h.size,fun k hk _=>h.block k hk⟩
theorem ni{β:Type}{B:Nat}{I:β->World->Prop}(h:OwnFrom B I){s:β}{W W':ae}(hs:I s W)(hb:ag W W'):I s W':=h s W W' none hs (A8 hb) (fun r e=>by cases e)
open Maps
def aH(fs:Q04):List Value:=fs.flatMap Fc.row
theorem lN:∀fs:List Fc,(aH fs).length=fs.length*5
 | []=>rfl
 | f::fs=>by have:=lN fs;simp only[aH,VX,Vx,VS,Fc.row,Wv]at this ⊢;omega
theorem A9(fs:Q04)(f:Fc):aH (fs++[f])=aH fs++f.row:=by simp[aH]
theorem q8:∀(fs:Q04) (i:Nat) (h:i<fs.length) (c:Nat),c<5->(aH fs)[i*5+c]?=fs[i].row[c]?
 | [],i,h,_,_=>by simp at h
 | f::fs,0,_,c,hc=>by
  simp only[aH,VX,Nat.zero_mul,VQ,List.getElem_cons_zero];rw[Wt (by simp[Fc.row];omega)]
 | f::fs,i+1,h,c,hc=>by
  have ih:=q8 fs i (by simpa using h) c hc;simp only[aH,VX,List.getElem_cons_succ]at ih ⊢;rw[Wq (by simp[Fc.row];omega)];have:(i+1)*5+c-f.row.length=i*5+c:=by simp[Fc.row];omega
  rw[this];exact ih
theorem oC{w:ae}{base:Nat}{v:Value}{fs:Q04}(h:w.ownsRow base 52 5 v fs.length (aH fs)):∃ad cap,v=.slice ad fs.length cap/\Au w ad fs:=by
 rcases h.2 with⟨rfl,h0⟩|⟨g,cap,cur,rfl,hbg,hg,hnc,-⟩
 ·exact⟨none,0,by rw[h0],.inl (VM.1 h0)⟩
 refine⟨_,cap,rfl,.inr ⟨g,0,rfl,(h.lt g rfl).2,fun i hi=>?_⟩⟩;have hl:=lN fs;have hc:∀c,c<5->w.cell? ⟨g,0+i*5+c,none⟩=fs[i].row[c]?:=fun c hc=>by
  rw[h.cellAt (0+i*5+c) (by omega),VQ];exact q8 fs i hi c hc
 exact⟨hc 0 (by omega),hc 1 (by omega),hc 2 (by omega),hc 3 (by omega),hc 4 (by omega)⟩
theorem Fb:∃i,prog.info? 52=some i/\i.zero=some (.agg #[.string ⟨#[]⟩,.string ⟨#[]⟩,.string ⟨#[]⟩,.string ⟨#[]⟩,.string ⟨#[]⟩])/\i.size=5/\i.bytes=80 :=
 info_parts (P:=prog) (e:=52) (z:=.agg #[.string ⟨#[]⟩,.string ⟨#[]⟩,.string ⟨#[]⟩,.string ⟨#[]⟩,.string ⟨#[]⟩]) (size:=5) (bytes:=80) (by kernel_rfl)
theorem LC(w:ae)(f:Fc):∀j u,f.row[j]?=some u->(w.alloc (.cells #[.string f.a,.string f.b,.string f.r,.string f.c,.string f.d] 52)).cell? ((⟨w.heap.size,0,none⟩:Addr).add j)=some u:=fun j u hu=>by
 match j,hu with
 | 0,hu=>simp[Fc.row]at hu;subst hu;simp[Addr.add]
 | 1,hu=>simp[Fc.row]at hu;subst hu;simp[Addr.add]
 | 2,hu=>simp[Fc.row]at hu;subst hu;simp[Addr.add]
 | 3,hu=>simp[Fc.row]at hu;subst hu;simp[Addr.add]
 | 4,hu=>simp[Fc.row]at hu;subst hu;simp[Addr.add]
structure OutI(w W wr:World)(v:Value)(out:Q04):Prop where
 row:wr.ownsRow w.heap.size 52 5 v out.length (aH out)
 keep:∀g o x,W.cell? ⟨g,o,none⟩=some x->wr.cell? ⟨g,o,none⟩=some x
 size:W.heap.size<=wr.heap.size
 bel:ag w wr
 free:∀g,v.ownBlock=some g->∀o,W.cell? ⟨g,o,none⟩=none
theorem aI{w:ae}{g o:Nat}{x:Value}(h:w.cell? ⟨g,o,none⟩=some x):g<w.heap.size:=by
 unfold World.cell? at h;cases ho:w.heap[g]? with
 | none=>simp[ho]at h
 | some o=>exact(Vw.1 ho).1
theorem R6{w:ae}{g o:Nat}(h:w.heap.size<=g):w.cell? ⟨g,o,none⟩=none:=by
 cases e:w.cell? ⟨g,o,none⟩ with
 | none=>rfl
 | some x=>have:=aI e;omega
theorem OutI.below{w W wr w':ae}{v:Value}{out:Q04}(h:OutI w W wr v out)(hb:ag wr w'):OutI w W w' v out where
 row:=dw h.row hb
 keep g o x hx:=(hb.cell (p:=⟨g,o,none⟩) (aI (h.keep g o x hx))).trans (h.keep g o x hx)
 size:=Vz h.size hb.size
 bel:=h.bel.trans (hb.mono h.bel.size)
 free:=h.free
theorem OutI.app{w W wr w':ae}{v v':Value}{out:Q04}{f:Fc}(h:OutI w W wr v out)(hown:w'.ownsRow w.heap.size 52 5 v' (out.length+1) (aH out++f.row))(hgr:wr.grownBy w' v.ownBlock)(hat:v'.ownBlock=v.ownBlock\/v'.ownBlock=some wr.heap.size):OutI w W w' v' (out++[f]) where
 row:=by rw[A9,Vx];exact hown
 keep g o x hx:=by
  have h1:=h.keep g o x hx;refine(VR (w:=wr) (a:=⟨g,o,none⟩) (hgr.block g (aI h1) fun e=>?_)).trans h1;rw[h.free g e.symm o]at hx;cases hx
 size:=Vz h.size hgr.size
 bel:=h.bel.grown hgr h.bel.size (fun g hg=>(h.row.lt g hg).1)
 free g hg o:=by
  rcases hat with e|e
  ·rw[e]at hg;exact h.free g hg o
  rw[hg]at e;injection e with e;rw[e];exact R6 h.size
theorem lu.keepC{w w':ae}{ad:Q02}{xs:Q0a}(h:lu w ad xs)(hs:w.heap.size<=w'.heap.size)(hk:∀g o x,w.cell? ⟨g,o,none⟩=some x->w'.cell? ⟨g,o,none⟩=some x):lu w' ad xs:=by
 rcases h with h|⟨b,off,e,hb,hr⟩
 ·exact .inl h
 exact .inr ⟨b,off,e,Vq hb hs,fun i hi=>⟨hk _ _ _ (hr i hi).1,hk _ _ _ (hr i hi).2⟩⟩
theorem Jd.keepC{w w':ae}{ad:Q02}{xs:List St}(h:Jd w ad xs)(hs:w.heap.size<=w'.heap.size)(hk:∀g o x,w.cell? ⟨g,o,none⟩=some x->w'.cell? ⟨g,o,none⟩=some x):Jd w' ad xs:=by
 rcases h with h|⟨b,off,e,hb,hr⟩
 ·exact .inl h
 exact .inr ⟨b,off,e,Vq hb hs,fun i hi=>⟨hk _ _ _ (hr i hi).1,hk _ _ _ (hr i hi).2.1,hk _ _ _ (hr i hi).2.2⟩⟩
theorem Jd.at0{w:ae}{ad:Q02}{xs:List St}(h:Jd w ad xs){k:Nat}(hk:k<xs.length):∃b off,ad=some ⟨b,off,none⟩/\UF w b (off+k*3) xs[k]/\b<w.heap.size:=by
 rcases h with h|⟨b',off',e,hb,hr⟩
 ·rw[h]at hk;simp at hk
 exact⟨b',off',e,hr k hk,hb⟩
def Ue:Value->Nat
 | .slice _ n _=>n
 | _=>0
def Vg:Value->Nat
 | .bool true=>1
 | _=>0
end Go.Proofs.YtojjoblnpldniaaGreat
