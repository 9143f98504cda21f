/- Contracts of the document's functions that write an expression's text. -/
import Derived.Test.YtajkkeikihhejaaGreatSq
import Derived.Test.YtajkkeikihhejaaGreatJ18
import Derived.Test.YtajkkeikihhejaaGreatJ14
import Derived.Test.YtajkkeikihhejaaGreatJ7
import Derived.Test.YtajkkeikihhejaaGreatJ21
open Go.Proofs.Tryz
set_option maxHeartbeats 80000000
namespace Go.Proofs.YtajkkeikihhejaaGreat
open Go.ChangeShapes Go.WideShapes Go.ChangeAt Go.RowKit
open Pl
theorem qO {a b:ByteArray}(h:a=b):Ending.returned (.string a)=.returned (.string b):=by rw [h]
theorem rJ (a:bI):(⟨#[]⟩:ByteArray)++a=a:=by apply jd;simp [ByteArray.data_append]
theorem xU (a:Al)(w:af)(h1:a.t.size<=12)(h2:a.s.size<=12) :
  Calls prog 251 #[.agg #[.string a.t,.string a.s]] w fun e w'=>e=.returned (.string (fG a))/\ag w w':=by
 have hB:=(Uf w.heap.size w).alloc (Ue _) (.cells #[.string a.t,.string a.s] 43);cases he:a.s.toList.isEmpty;case true=>
  go_enter func251,ntmps251;go_wp2;go_ret;exact ⟨qO (by simp [fG,he]),hB⟩
 go_enter func251,ntmps251;go_wp2;go_ret;exact ⟨qO (by simp [fG,he]),hB⟩
theorem mo (k:Int)(w:af) :
  Calls prog 235 #[.int .i64 k] w fun e w'=>e=.returned (.string (gG k))/\w'=w:=by
 by_cases h4:k=4
 ·subst h4;go_enter func235,ntmps235;go_wp2;go_ret;exact ⟨rfl,rfl⟩
 by_cases h5:k=5
 ·subst h5;go_enter func235,ntmps235;go_wp2;go_ret;exact ⟨rfl,rfl⟩
 have HS:Hid (gG k=⟨#[32,45,32]⟩):=by show _=_;simp [gG,h4,h5]
 go_enter func235,ntmps235;go_wp2;go_ret;exact ⟨by rw [HS.out];rfl,rfl⟩
theorem Ey {α:Type}{xs:List α}{k:Nat}(h:k<=xs.length):xs.take k=[] ↔ k=0:=by
 constructor
 ·intro e;have:=congrArg List.length e;rw [UF,List.length_nil]at this;omega
 rintro rfl;simp
theorem mX (sep:bI)(xs:List ByteArray):fB sep (xs.take 0)=⟨#[]⟩:=by simp [Ck]
theorem AC (sep:bI)(xs:List ByteArray)(h:0<xs.length):fB sep (xs.take 1)=⟨#[]⟩++xs[0]:=by
 rw [show (1:Nat)=0+1 from rfl,Uh h,oO,if_pos (by simp),rJ]
theorem xV (sep:bI)(xs:List ByteArray)(k:Nat)(h:k<xs.length)(hk:0<k):fB sep (xs.take (k+1))=fB sep (xs.take k)++sep++xs[k]:=by
 rw [Uh h,oO,if_neg];rw [Ey (by omega)];omega
theorem xW (sep:bI)(xs:List ByteArray)(b k:Nat)(hx:∀ x∈xs,x.size<=b):(fB sep (xs.take k)).size<=k*(b+sep.size):=by
 have h1:=oP sep b _ (xs.take k) rfl (fun x h=>hx x (List.mem_of_mem_take h));have h2:(xs.take k).length*(b+sep.size)<=k*(b+sep.size):=Nat.mul_le_mul_right _ (by simp;omega);omega
theorem Di {es:List Ex}(hes:RB es)(n:Nat)(hn:n<es.length)(i:Bool):(iU es n i).size<=20000000000000 :=
 Uk (H8 hes n hn i) (Uk (Cm (by have:=hes.1;omega)) Qn)
set_option maxRecDepth 4000 in
theorem Jt (b off cap:Nat)(rs:List ER)(hes:RB (aj rs))(hl:∀ r∈rs,r.e.light)(n:Nat):∀ (inside:Bool) (w:af),n<rs.length->b<w.heap.size->(∀ (i:Nat) (h:i<rs.length),ym w b (off+i*5) rs[i])->(∀ r∈rs,r.ok w) ->
  Calls prog 238 #[.slice (some ⟨b,off,none⟩) rs.length cap,.int .i64 (n:Int),.bool inside] w fun e w'=>e=.returned (.string (iU (aj rs) n inside))/\ag w w':=by
 have HES:=aA hes;have HL:=aA hl;have h15:rs.length<=15:=by have:=hes.1;rw [aN]at this;exact this
 clear hes hl
 induction n using Nat.strongRecOn with
 | ind n ih =>
  intro inside w hn hb hr hok
  have IH:Hid (∀ m,m<n->∀ (inside:Bool) (w:World),m<rs.length->b<w.heap.size->(∀ (i:Nat) (h:i<rs.length),ym w b (off+i*5) rs[i])->(∀ r∈rs,r.ok w) ->
   Calls prog 238 #[.slice (some ⟨b,off,none⟩) rs.length cap,.int .i64 (m:Int),.bool inside] w fun e w'=>e=.returned (.string (iU (aj rs) m inside))/\ag w w'):=ih
  have HR:Hid (∀ (i:Nat) (h:i<rs.length),ym w b (off+i*5) rs[i]):=hr;have HO:=aA hok;obtain ⟨t0,t1,t2,t3,t4⟩:=hr n hn;have hnE:n<(aj rs).length:=by rw [aN];exact hn
  have heE:(aj rs)[n]=rs[n].e:=by simp [aj]
  have UM:av rs[n].e=true:=by rw [<-heE];exact HES.out.2.1 n hnE
  have hkl:=uC HES.out hnE;rw [heE]at hkl;obtain ⟨hk5,hkind⟩:=qg UM;have HT:Hid (iU (aj rs) n inside=inT rs[n].e inside (lV (jy (aj rs) n) rs[n].e)):=by show _=_;unfold iU;rw [DX hnE,heE]
  have HN:Hid (av rs[n].e=true):=UM;have VD:Hid (∀ k∈rs[n].e.kids,0<=k/\k.toNat<n):=hkl;have hn1:=bF n;have hn2:(n:Int)<(rs.length:Int):=by omega
  clear ih hr hok UM hkl heE;by_cases k1:rs[n].e.kind=1
  ·skip
   obtain ⟨W,hW⟩:∃ W,W=w.alloc (.cells #[.int .i64 1,.slice rs[n].adA rs[n].e.allow.length rs[n].capA,.string rs[n].e.over,.string rs[n].e.name,.slice rs[n].adK rs[n].e.kids.length rs[n].capK] 39):=⟨_,rfl⟩;have hB0:ag w W:=by rw [hW];exact (Uf _ _).alloc (Ue _) _
   have hgl:w.heap.size<W.heap.size:=by rw [hW];simp
   have g0:W.cell? ⟨w.heap.size,0,none⟩=some (.int .i64 1):=by rw [hW];simp
   have g1:W.cell? ⟨w.heap.size,1,none⟩=some (.slice rs[n].adA rs[n].e.allow.length rs[n].capA):=by rw [hW];simp
   have g2:W.cell? ⟨w.heap.size,2,none⟩=some (.string rs[n].e.over):=by rw [hW];simp
   have g3:W.cell? ⟨w.heap.size,3,none⟩=some (.string rs[n].e.name):=by rw [hW];simp
   have g4:W.cell? ⟨w.heap.size,4,none⟩=some (.slice rs[n].adK rs[n].e.kids.length rs[n].capK):=by rw [hW];simp
   have HB0:=aA hB0;clear hB0;have hal:ed rs[n].e.allow=true:=by
    have:=HN.out;unfold av at this;rw [if_pos k1]at this;simp only [Ug]at this;exact this.1.1.1
   have hts:=jW hal;have U2:Hid (ed rs[n].e.allow=true):=hal;have HT1:Hid (iU (aj rs) n inside=uA rs[n].e.allow):=by show _=_;rw [HT.out];simp [inT,lV,k1]
   have hl6:rs[n].e.allow.length<=6:=by unfold ed at hal;simp at hal;exact hal.1.2
   have HAS:Hid (∀ x∈rs[n].e.allow.map fG,x.size<=25):=fun x hx=>by
    obtain ⟨a,ha,rfl⟩:=Ur.1 hx;obtain ⟨i,hi,rfl⟩:=UE ha;unfold ed at hal;simp only [Ug]at hal;exact qd (yJ hal.2 i hi hi)
   clear hal HT;go_enter func238,ntmps238;go_wp2_with fail;rw [<-hW];clear hW t0 t1 t2 t3 t4;go_loopw [8,9] (fun s i wr=>∃ k:Nat,k<=rs[n].e.allow.length/\i=.int .i64 k/\s=.string (fB ⟨#[44]⟩ ((rs[n].e.allow.map fG).take k))/\ag W wr) (fun _ i _=>rs[n].e.allow.length-(intOf i).toNat);case atStart=>exact ⟨0,Ui _,rfl,by rw [mX],Uf _ _⟩
   obtain ⟨k,hk,rfl,rfl,hB⟩:=hrel;have hBw:ag w wr:=HB0.out.trans (hB.mono HB0.out.size);have a1:=kept hB hgl g1;have hsj:(fB ⟨#[44]⟩ ((rs[n].e.allow.map fG).take k)).size<=200:=by
    have h:=xW ⟨#[44]⟩ (rs[n].e.allow.map fG) 25 k HAS.out;have e1:(⟨#[44]⟩:ByteArray).size=1:=rfl;rw [e1]at h;omega
   by_cases hlt:k<rs[n].e.allow.length
   ·rcases (HO.out rs[n] (Ud hn)).1.below hBw with hnil|⟨ba,WH,WJ,WA,hra⟩
    ·rw [hnil]at hlt;simp at hlt
    rw [WJ]at a1;obtain ⟨q0,q1⟩:=hra k hlt;have hab:Fq rs[n].e.allow[k]=true:=by
     have:=U2.out;unfold ed at this;simp only [Ug]at this;exact yJ this.2 k hlt hlt
    have z2:=qd hab;unfold Fq at hab;rw [Ug]at hab;have z0:=bR hab.1;have z1:=za hab.2;have hk1:=bF k;have hk2:(k:Int)<(rs[n].e.allow.length:Int):=by omega
    clear hra WJ hab;by_cases hk0:0<k
    ·have hk3:(0:Int)<(k:Int):=by omega
     have HJ:Hid (fB ⟨#[44]⟩ ((rs[n].e.allow.map fG).take (k+1))=fB ⟨#[44]⟩ ((rs[n].e.allow.map fG).take k)++⟨#[44]⟩++fG rs[n].e.allow[k]):=by show _=_;rw [xV _ _ _ (by simpa using hlt) hk0,List.getElem_map]
     go_wp2_with fail;refine (xU rs[n].e.allow[k] _ z0 z1).mono ?_;rintro e w1 ⟨rfl,hb1⟩;have hB1:ag W w1:=hB.trans (hb1.mono hB.size);clear hb1;go_wp2;go_roundw;case rel=>exact ⟨k+1,by omega,by go_num,by rw [HJ.out],hB1⟩
     simp [intOf] <;> omega
    skip
    have hk3:¬ (0:Int)<(k:Int):=by omega
    have HJ:Hid (fB ⟨#[44]⟩ ((rs[n].e.allow.map fG).take (k+1))=fB ⟨#[44]⟩ ((rs[n].e.allow.map fG).take k)++fG rs[n].e.allow[k]):=by
     show _=_;obtain rfl:k=0:=by omega
     rw [mX,AC _ _ (by simpa using hlt),List.getElem_map]
    go_wp2_with fail;refine (xU rs[n].e.allow[k] _ z0 z1).mono ?_;rintro e w1 ⟨rfl,hb1⟩;have hB1:ag W w1:=hB.trans (hb1.mono hB.size);clear hb1;go_wp2;go_roundw;case rel=>exact ⟨k+1,by omega,by go_num,by rw [HJ.out],hB1⟩
    simp [intOf] <;> omega
   obtain rfl:k=rs[n].e.allow.length:=by omega
   have HE:Hid ((rs[n].e.allow.map fG).take rs[n].e.allow.length=rs[n].e.allow.map fG):=by show _=_;rw [List.take_of_length_le (by simp)]
   go_wp2;go_ret;exact ⟨by rw [HT1.out];exact qO (by rw [HE.out];rfl),hBw⟩
  by_cases k2:rs[n].e.kind=2
  ·have HT1:Hid (iU (aj rs) n inside=rs[n].e.name):=by show _=_;rw [HT.out];simp [inT,lV,k2]
   clear HT;go_enter func238,ntmps238;go_wp2;go_ret;exact ⟨by rw [HT1.out];rfl,(Uf _ _).alloc (Ue _) _⟩
  by_cases k3:rs[n].e.kind=3
  ·have HT1:Hid (iU (aj rs) n inside=rs[n].e.over++⟨#[45,62]⟩++rs[n].e.name):=by show _=_;rw [HT.out];simp [inT,lV,k3]
   have hsz:rs[n].e.over.size<=12/\rs[n].e.name.size<=12:=by
    have:=HN.out;unfold av at this;rw [if_neg k1,if_neg k2,if_pos k3]at this;simp only [Ug]at this;exact ⟨bR this.1.1.1,bR this.1.1.2⟩
   obtain ⟨z0,z1⟩:=hsz;clear HT;go_enter func238,ntmps238;go_wp2;go_ret;exact ⟨by rw [HT1.out];rfl,(Uf _ _).alloc (Ue _) _⟩
  skip
  obtain ⟨W,hW⟩:∃ W,W=w.alloc (.cells #[.int .i64 rs[n].e.kind,.slice rs[n].adA rs[n].e.allow.length rs[n].capA,.string rs[n].e.over,.string rs[n].e.name,.slice rs[n].adK rs[n].e.kids.length rs[n].capK] 39):=⟨_,rfl⟩;have hB0:ag w W:=by rw [hW];exact (Uf _ _).alloc (Ue _) _
  have hgl:w.heap.size<W.heap.size:=by rw [hW];simp
  have g0:W.cell? ⟨w.heap.size,0,none⟩=some (.int .i64 rs[n].e.kind):=by rw [hW];simp
  have g1:W.cell? ⟨w.heap.size,1,none⟩=some (.slice rs[n].adA rs[n].e.allow.length rs[n].capA):=by rw [hW];simp
  have g2:W.cell? ⟨w.heap.size,2,none⟩=some (.string rs[n].e.over):=by rw [hW];simp
  have g3:W.cell? ⟨w.heap.size,3,none⟩=some (.string rs[n].e.name):=by rw [hW];simp
  have g4:W.cell? ⟨w.heap.size,4,none⟩=some (.slice rs[n].adK rs[n].e.kids.length rs[n].capK):=by rw [hW];simp
  have HB0:=aA hB0;clear hB0;have HT1:Hid (iU (aj rs) n inside=if inside then ⟨#[40]⟩++fB (gG rs[n].e.kind) (rs[n].e.kids.map (jy (aj rs) n))++⟨#[41]⟩ else fB (gG rs[n].e.kind) (rs[n].e.kids.map (jy (aj rs) n))):=by
   show _=_;rw [HT.out];simp [inT,lV,k1,k2,k3]
  have HTS:Hid (∀ x∈rs[n].e.kids.map (jy (aj rs) n),x.size<=20000000000000):=fun x hx=>by
   obtain ⟨k,hk,rfl⟩:=Ur.1 hx;have hlt:=VD.out k hk;unfold jy;rw [if_pos hlt.2,DW];exact Di HES.out _ (by rw [aN];omega) true
  have kb1:(rs[n].e.kind==1)=false:=by simpa using k1
  have kb2:(rs[n].e.kind==2)=false:=by simpa using k2
  have kb3:(rs[n].e.kind==3)=false:=by simpa using k3
  clear HT hkind;go_enter func238,ntmps238;go_wp2_with fail;rw [<-hW];clear hW t0 t1 t2 t3 t4;go_loopw [8,10] (fun s i wr=>∃ k:Nat,k<=rs[n].e.kids.length/\i=.int .i64 k/\s=.string (fB (gG rs[n].e.kind) ((rs[n].e.kids.map (jy (aj rs) n)).take k))/\ag W wr) (fun _ i _=>rs[n].e.kids.length-(intOf i).toNat);case atStart=>exact ⟨0,Ui _,rfl,by rw [mX],Uf _ _⟩
  obtain ⟨k,hk,rfl,rfl,hB⟩:=hrel;have hBw:ag w wr:=HB0.out.trans (hB.mono HB0.out.size);have hbw:b<wr.heap.size:=Uc hb hBw.size;have a0:=kept hB hgl g0;have a4:=kept hB hgl g4;have hsg:=lT rs[n].e.kind;have hsj:(fB (gG rs[n].e.kind) ((rs[n].e.kids.map (jy (aj rs) n)).take k)).size<=100000000000100:=by
   have h:=xW (gG rs[n].e.kind) (rs[n].e.kids.map (jy (aj rs) n)) 20000000000000 k HTS.out;rw [hsg]at h;omega
  by_cases hlt:k<rs[n].e.kids.length
  ·rcases (HO.out rs[n] (Ud hn)).2.below hBw with hnil|⟨bk,offk,Vi,hbk,YP⟩
   ·rw [hnil]at hlt;simp at hlt
   rw [Vi]at a4;have q0:=YP k hlt;obtain ⟨hz0,hz1⟩:=VD.out rs[n].e.kids[k] (Ud hlt);obtain ⟨m,hm⟩:∃ m:Nat,rs[n].e.kids[k]=(m:Int):=⟨rs[n].e.kids[k].toNat,by omega⟩;rw [hm]at q0 hz1;have hmn:m<n:=by simpa using hz1
   have hmr:m<rs.length:=by omega
   have HFm:Hid (jy (aj rs) n rs[n].e.kids[k]=iU (aj rs) m true):=by show _=_;rw [hm];unfold jy;rw [if_pos (by simpa using hmn),DW];simp
   have hsm:=Di HES.out m (by rw [aN];exact hmr) true;have hk1:=bF k;have hk2:(k:Int)<(rs[n].e.kids.length:Int):=by omega
   clear YP Vi hz0 hz1 hm;by_cases hk0:0<k
   ·have hk3:(0:Int)<(k:Int):=by omega
    have HJ:Hid (fB (gG rs[n].e.kind) ((rs[n].e.kids.map (jy (aj rs) n)).take (k+1))=fB (gG rs[n].e.kind) ((rs[n].e.kids.map (jy (aj rs) n)).take k)++gG rs[n].e.kind++iU (aj rs) m true):=by show _=_;rw [xV _ _ _ (by simpa using hlt) hk0,List.getElem_map,HFm.out]
    go_wp2_with fail;refine (mo _ _).mono ?_;rintro e w' ⟨rfl,rfl⟩;go_wp2_with fail;refine (IH.out m hmn true _ hmr hbw (fun i hi=>(HR.out i hi).later hb hBw) (fun r hr=>(HO.out r hr).below hBw)).mono ?_;rintro e w1 ⟨rfl,hb1⟩;have hB1:ag W w1:=hB.trans (hb1.mono hB.size);clear hb1;go_wp2;go_roundw;case rel=>exact ⟨k+1,by omega,by go_num,by rw [HJ.out],hB1⟩
    simp [intOf] <;> omega
   skip
   have hk3:¬ (0:Int)<(k:Int):=by omega
   have HJ:Hid (fB (gG rs[n].e.kind) ((rs[n].e.kids.map (jy (aj rs) n)).take (k+1))=fB (gG rs[n].e.kind) ((rs[n].e.kids.map (jy (aj rs) n)).take k)++iU (aj rs) m true):=by
    have h0:=HFm.out;show _=_;obtain rfl:k=0:=by omega
    rw [mX,AC _ _ (by simpa using hlt),List.getElem_map,h0]
   go_wp2_with fail;refine (IH.out m hmn true _ hmr hbw (fun i hi=>(HR.out i hi).later hb hBw) (fun r hr=>(HO.out r hr).below hBw)).mono ?_;rintro e w1 ⟨rfl,hb1⟩;have hB1:ag W w1:=hB.trans (hb1.mono hB.size);clear hb1;go_wp2;go_roundw;case rel=>exact ⟨k+1,by omega,by go_num,by rw [HJ.out],hB1⟩
   simp [intOf] <;> omega
  obtain rfl:k=rs[n].e.kids.length:=by omega
  have HE:Hid ((rs[n].e.kids.map (jy (aj rs) n)).take rs[n].e.kids.length=rs[n].e.kids.map (jy (aj rs) n)):=by show _=_;rw [List.take_of_length_le (by simp)]
  cases inside;case true=>
   go_wp2;go_ret;exact ⟨by rw [HT1.out];exact qO (by rw [HE.out];rfl),hBw⟩
  go_wp2;go_ret;exact ⟨by rw [HT1.out];exact qO (by rw [HE.out];rfl),hBw⟩
def gQ (es:List Ex):ByteArray:=if aK es then iU es (es.length-1) false else ⟨#[]⟩
theorem Dj {es:List Ex}(h:aK es=false):gQ es=⟨#[]⟩:=by simp [gQ,h]
theorem AJ {es:List Ex}(h:aK es=true):gQ es=iU es (es.length-1) false:=by simp [gQ,h]
theorem oq (ad:Option Addr)(cap:Nat)(rs:List ER)(w:af)(hlen:rs.length<=1048576)(hl:∀ r∈rs,r.e.light)(hf:∀ r∈rs,r.e.fits)(hs:iC w ad rs) :
  Calls prog 220 #[.slice ad rs.length cap] w fun e w'=>e=.returned (.string (gQ (aj rs)))/\ag w w':=by
 have HS:=aA hs;have HL:=aA hl;have HF:=aA hf;clear hs hl hf;go_enter func220,ntmps220;go_wp2_with fail;refine (l7 ad cap rs _ hlen HL.out HF.out HS.out).mono ?_;rintro e w1 ⟨he,hb1⟩;have HB1:=aA hb1;clear hb1;cases hE:aK (aj rs);case false=>
  rw [hE]at he;subst he;have HX:Hid (gQ (aj rs)=⟨#[]⟩):=Dj hE;go_wp2;go_ret;exact ⟨by rw [HX.out];rfl,HB1.out⟩
 rw [hE]at he;subst he;have h1:1<=rs.length:=by
  have:=hE;unfold aK at this;simp only [Ug,Um,aN]at this;exact this.1.1.1.1.1
 rcases HS.out.below HB1.out with rfl|⟨b,off,rfl,hb,hr,hok⟩
 ·simp at h1
 have HR:Hid (∀ (i:Nat) (h:i<rs.length),ym w1 b (off+i*5) rs[i]):=hr;have HO:=aA hok;have VP:Hid (RB (aj rs)):=Nw hE;have HX:Hid (gQ (aj rs)=iU (aj rs) (rs.length-1) false):=by show _=_;rw [AJ hE,aN]
 have YQ:Hid (((rs.length:Int)-1)=((rs.length-1:Nat):Int)):=by show _=_;omega
 clear hr hok;go_wp2_with fail;rw [YQ.out];refine (Jt b off cap rs VP.out HL.out (rs.length-1) false _ (by omega) hb HR.out HO.out).mono ?_;rintro e w2 ⟨rfl,hb2⟩;have HB2:=jP HB1 hb2;clear hb2;go_wp2;go_ret;exact ⟨by rw [HX.out];rfl,HB2.out⟩
set_option maxRecDepth 100000
theorem vL (k:Int):gG k=aX k:=by
 unfold gG aX;rfl
def gT (s:ByteArray)(p:Nat)(j:Nat):Int :=
 if 4<j/\dX s (aX 4) p=true then 4 else if 5<j/\dX s (aX 5) p=true then 5 else if 6<j/\dX s (aX 6) p=true then 6 else 0
theorem OZ (s:bI)(p:Nat):gT s p 4=0:=by simp [gT]
theorem O0 (s:bI)(p:Nat):gT s p 7=dG s p:=by simp [gT,dG]
theorem Gu {s:ByteArray}{p j:Nat}(h4:4<=j)(h7:j<7)(h:gT s p j≠0):gT s p (j+1)=gT s p j:=by
 have hj:j=4\/j=5\/j=6:=by omega
 unfold gT at h ⊢;rcases hj with rfl|rfl|rfl <;> cases h1:dX s (aX 4) p <;> cases h2:dX s (aX 5) p <;> cases h3:dX s (aX 6) p <;> simp_all
theorem Dk {s:ByteArray}{p j:Nat}(h4:4<=j)(h7:j<7)(h:gT s p j=0)(hl:dX s (aX j) p=false):gT s p (j+1)=0:=by
 have hj:j=4\/j=5\/j=6:=by omega
 unfold gT at h ⊢;rcases hj with rfl|rfl|rfl <;> cases h1:dX s (aX 4) p <;> cases h2:dX s (aX 5) p <;> cases h3:dX s (aX 6) p <;> simp_all
theorem Ju {s:ByteArray}{p j:Nat}(h4:4<=j)(h7:j<7)(h:gT s p j=0)(hl:dX s (aX j) p=true):gT s p (j+1)=(j:Int):=by
 have hj:j=4\/j=5\/j=6:=by omega
 unfold gT at h ⊢;rcases hj with rfl|rfl|rfl <;> cases h1:dX s (aX 4) p <;> cases h2:dX s (aX 5) p <;> cases h3:dX s (aX 6) p <;> simp_all
theorem mq (k:Int):(aX k).size=3:=by
 unfold aX;split
 ·rfl
 split <;> rfl
theorem AL {s:ByteArray}{p:Nat}(k:Int)(h:p+3<=s.size):dX s (aX k) p=((s.extract p (p+3)).toList==(gG k).toList):=by
 unfold dX;rw [mq,vL];simp [h]
theorem L6 {s:ByteArray}{p:Nat}(k:Int)(h:¬ p+3<=s.size):dX s (aX k) p=false:=by
 unfold dX;rw [mq];simp [h]
def rowP (s:ByteArray)(it:RS->Int×RS)(x:Int×RS):Int×RS :=
 if dG s x.2.p=0\/x.2.bad=true then x
 else (((ib s it (dG s x.2.p) (s.size+1) [x.1] x.2).2.out.length:Int),rX ⟨dG s x.2.p,[],⟨#[]⟩,⟨#[]⟩,(ib s it (dG s x.2.p) (s.size+1) [x.1] x.2).1⟩ (ib s it (dG s x.2.p) (s.size+1) [x.1] x.2).2)
theorem AO {s:ByteArray}{it:RS->Int×RS}{x:Int×RS}(h:dG s x.2.p=0\/x.2.bad=true):rowP s it x=x:=if_pos h
theorem L8 {s:ByteArray}{it:RS->Int×RS}{x:Int×RS}(h:¬ (dG s x.2.p=0\/x.2.bad=true)){zs:List Int}{st:RS}(hk:ib s it (dG s x.2.p) (s.size+1) [x.1] x.2=(zs,st)):rowP s it x=((st.out.length:Int),rX ⟨dG s x.2.p,[],⟨#[]⟩,⟨#[]⟩,zs⟩ st):=by
 unfold rowP;rw [if_neg h,hk]
theorem O1 {s:ByteArray}{it:RS->Int×RS}{k:Int}{n:Nat}{zs:List Int}{st:RS}(h:mP s (aX k) st.p st.bad=false):ib s it k n zs st=(zs,st):=by
 have e:kZ s (aX k) st=false:=h;cases n with
 | zero=>rfl
 | succ n=>unfold ib;rw [e];rfl
theorem L9 {s:ByteArray}{it:RS->Int×RS}{k:Int}{n:Nat}{zs:List Int}{st:RS}(h:mP s (aX k) st.p st.bad=true):ib s it k (n+1) zs st=ib s it k n (zs++[(it (j6 (aX k) st)).1]) (it (j6 (aX k) st)).2:=by
 have e:kZ s (aX k) st=true:=h
 conv=>lhs;unfold ib
 rw [e];rfl
theorem RdC.heap {w w':af}{R:Nat}{s:ByteArray}{p:Nat}{bad:Bool}{v:Value}(h:RdC w R s p bad v)(hs:w.heap.size<=w'.heap.size)(hh:w'.heap[R]?=w.heap[R]?):RdC w' R s p bad v :=
 ⟨Uc h.lt hs,(Uy (w:=w) (a:=⟨R,0,none⟩) hh).trans h.c0,(Uy (w:=w) (a:=⟨R,1,none⟩) hh).trans h.c1,(Uy (w:=w) (a:=⟨R,2,none⟩) hh).trans h.c2,(Uy (w:=w) (a:=⟨R,3,none⟩) hh).trans h.c3,di h.fr hh⟩
theorem RdF.heap {w w':af}{R:Nat}{s:ByteArray}{st:RS}{base:Nat}{v:Value}{qs:List ER}(h:RdF w R s st base v qs)(hs:w.heap.size<=w'.heap.size)(h1:w'.heap[R]?=w.heap[R]?)(h2:∀ g,v.ownBlock=some g->w'.heap[g]?=w.heap[g]?)(h3:∀ q∈qs,∀ g,oM q g->w'.heap[g]?=w.heap[g]?):RdF w' R s st base v qs where
 rd:=h.rd.heap hs h1
 own:=jG h.own h2
 out:=h.out
 zA:=h.zA
 zK:=h.zK
 ok q hq:=rA (h.ok q hq) hs (h.zA q hq) (h.zK q hq) (h3 q hq)
 lie q hq g hg:=by
  obtain ⟨a1,a2,a3,a4⟩:=h.lie q hq g hg;exact ⟨a1,Uc a2 hs,di a3 (h3 q hq g hg),a4⟩
 one:=h.one
 two:=h.two
 cA:=h.cA
 cK q hq:=(h.cK q hq).heap (h.zK q hq) (h3 q hq)
structure KLr (w wr:World)(R:Nat)(s:ByteArray)(st:RS)(base:Nat)(v v':Value)(qs ns:List ER)(zs:List Int)(vK:Value):Prop where
 rd:RdF wr R s st base v' (qs++ns)
 went:Went R v w v' wr
 new:∀ q∈ns,∀ g,oM q g->w.heap.size<=g
 own:wr.ownsRow w.heap.size 2 1 vK zs.length (ints zs)
 far:∀ g,vK.ownBlock=some g->v'.ownBlock≠some g/\∀ q∈qs++ns,¬ oM q g
 ne:zs≠[]
theorem KLr.is {w wr w':af}{R:Nat}{s:ByteArray}{st st':RS}{base:Nat}{v v':Value}{qs ns:List ER}{zs:List Int}{vK:Value}(h:KLr w wr R s st base v v' qs ns zs vK)(hR:R<w.heap.size)(hg:wr.grownBy w' (some R))(hF:RdF w' R s st' base v' (qs++ns)):KLr w w' R s st' base v v' qs ns zs vK :=
 ⟨hF,h.went.trans ((Onl.of_grown hg).any v'),h.new,h.own.kept hg (.inr (fun e=>by have:=(h.own.lt R e).1;omega)),h.far,h.ne⟩
theorem KLr.more {w wr w':af}{R:Nat}{s:ByteArray}{st st':RS}{base:Nat}{v v' v2:Value}{qs ns ms:List ER}{zs:List Int}{vK:Value}(h:KLr w wr R s st base v v' qs ns zs vK)(hR:R<w.heap.size)(hF:RdF w' R s st' base v2 ((qs++ns)++ms))(hW:Went R v' wr v2 w')(hm:∀ q∈ms,∀ g,oM q g->wr.heap.size<=g):KLr w w' R s st' base v v2 qs (ns++ms) zs vK:=by
 have hl:∀ g,vK.ownBlock=some g->w.heap.size<=g/\g<wr.heap.size:=fun g hg=>h.own.lt g hg;refine ⟨by rw [<-List.append_assoc];exact hF,h.went.trans hW,fun q hq g hg=>?_,jG h.own fun g hg=>hW.onl.block g (hl g hg).2 (by have:=(hl g hg).1;omega) (h.far g hg).1,fun g hg=>⟨hW.apart (hl g hg).2 (h.far g hg).1,fun q hq hi=>?_⟩,h.ne⟩
 ·rcases Uq.1 hq with h1|h1
  ·exact h.new q h1 g hg
  exact Uk h.went.onl.size (hm q h1 g hg)
 rw [<-List.append_assoc]at hq;rcases Uq.1 hq with h1|h1
 ·exact (h.far g hg).2 q h1 hi
 have:=hm q h1 g hi;have:=(hl g hg).2;omega
theorem O3 (zs:List Int)(z:Int):ints (zs++[z])=ints zs++[.int .i64 z]:=by simp [ints]
theorem KLr.app {w wr w':af}{R:Nat}{s:ByteArray}{st:RS}{base:Nat}{v v':Value}{qs ns:List ER}{zs:List Int}{vK vN:Value}(h:KLr w wr R s st base v v' qs ns zs vK)(hR:R<w.heap.size)(z:Int)(o:Obj)(hown:w'.ownsRow w.heap.size 2 1 vN (zs.length+1) (ints zs++[.int .i64 z]))(hg:(wr.alloc o).grownBy w' vK.ownBlock)(hat:vN.ownBlock=vK.ownBlock\/vN.ownBlock=some (wr.alloc o).heap.size):KLr w w' R s st base v v' qs ns (zs++[z]) vN:=by
 have hg0:=World.grownBy_alloc wr o none;have keep:∀ k,k<wr.heap.size->vK.ownBlock≠some k->w'.heap[k]?=wr.heap[k]?:=fun k hk hne=>(hg.block k (Uc hk hg0.size) (Ne.symm hne)).trans (hg0.block k hk (by simp));have hl:∀ g,vK.ownBlock=some g->w.heap.size<=g/\g<wr.heap.size:=fun g hg=>h.own.lt g hg;have hs:wr.heap.size<=w'.heap.size:=Uk hg0.size hg.size;refine ⟨h.rd.heap hs (keep R h.rd.rd.lt (fun e=>by have:=(hl R e).1;omega)) (fun g hg=>keep g (h.rd.own.lt g hg).2 (fun e=>(h.far g e).1 hg)) (fun q hq g hi=>keep g (h.rd.lie q hq g hi).2.1 (fun e=>(h.far g e).2 q hq hi)),?_,h.new,by rw [O3,Ul,List.length_singleton];exact hown,fun g hgn=>?_,by simp⟩
 ·refine ⟨⟨hg.os.trans (hg0.os.trans h.went.onl.os),hg.tape.trans (hg0.tape.trans h.went.onl.tape),hg.output.trans (hg0.output.trans h.went.onl.output),Uk h.went.onl.size hs,fun k hk h1 h2=>(keep k (Uc hk h.went.onl.size) (fun e=>by have:=(hl k e).1;omega)).trans (h.went.onl.block k hk h1 h2)⟩,h.went.own⟩
 rcases hat with e|e
 ·exact h.far g (by rw [<-e];exact hgn)
 rw [e]at hgn;injection hgn with hgn;have hsz:wr.heap.size<=g:=by rw [<-hgn];exact hg0.size
 exact ⟨fun e2=>by have:=(h.rd.own.lt g e2).2;omega,fun q hq hi=>by have:=(h.rd.lie q hq g hi).2.1;omega⟩
theorem KLr.node {w wr:af}{R:Nat}{s:ByteArray}{st:RS}{base:Nat}{v v':Value}{qs ns:List ER}{zs:List Int}{vK:Value}(h:KLr w wr R s st base v v' qs ns zs vK)(hb:base<=w.heap.size)(k:Int):∃ ad cap,vK=.slice ad zs.length cap/\NewQ base wr ⟨⟨k,[],⟨#[]⟩,⟨#[]⟩,zs⟩,none,0,ad,cap⟩/\∀ g,oM ⟨⟨k,[],⟨#[]⟩,⟨#[]⟩,zs⟩,none,0,ad,cap⟩ g->w.heap.size<=g/\v'.ownBlock≠some g/\∀ q∈qs++ns,¬ oM q g:=by
 obtain ⟨ad,cap,e,h2,h3,h4⟩:=RI h.own rfl;have hA:∀ g,¬ bA ⟨⟨k,[],⟨#[]⟩,⟨#[]⟩,zs⟩,none,0,ad,cap⟩ g:=fun g hg=>hg.1 rfl;have hK:∀ g,oM ⟨⟨k,[],⟨#[]⟩,⟨#[]⟩,zs⟩,none,0,ad,cap⟩ g->(w.heap.size<=g/\g<wr.heap.size/\gY wr g)/\vK.ownBlock=some g:=by
  rintro g (hg|hg)
  ·exact absurd hg (hA g)
  exact ⟨h4 g hg.1 hg.2,by rw [e,show ad=some ⟨g,0,none⟩ from hg.2];rfl⟩
 refine ⟨ad,cap,e,⟨fun h=>absurd rfl h,h3,⟨.inl rfl,h2⟩,fun g hg=>⟨Uk hb (hK g hg).1.1,(hK g hg).1.2⟩,fun g hg=>absurd hg (hA g),Ui _⟩,fun g hg=>⟨(hK g hg).1.1,h.far g (hK g hg).2⟩⟩
theorem KLr.kid {w wr:af}{R:Nat}{s:ByteArray}{st:RS}{base:Nat}{v v':Value}{qs ns:List ER}{zs:List Int}{ad:Option Addr}{cap:Nat}(h:KLr w wr R s st base v v' qs ns zs (.slice ad zs.length cap))(hb:base<=w.heap.size)(k:Int):BF wr base ⟨⟨k,[],⟨#[]⟩,⟨#[]⟩,zs⟩,none,0,ad,cap⟩:=BF.mono (base:=w.heap.size) (.inr ⟨h.ne,h.own⟩) hb
theorem O4 (w:af)(z:Int)(g:Nat)(hg:w.heap.size=g):∀ j u,[Value.int .i64 z][j]?=some u->(w.alloc (.cells #[.int .i64 z] 2)).cell? ((⟨g,0,none⟩:Addr).add j)=some u:=by
 intro j u hu;subst hg;rw [show (⟨w.heap.size,0,none⟩:Addr).add j=⟨w.heap.size,0+j,none⟩ by simp [Addr.add];omega,Uz];have:=World.cell?_alloc_mark w #[.int .i64 z] 2 (0,0) j;rw [this];simpa using hu
theorem QM (R:Nat)(s:bI)(st:RS)(base:Nat)(v:Value)(qs:List ER)(w:af)(h:RdF w R s st base v qs)(hR:R<base)(hB:base<=w.heap.size)(hs:s.size<=1000)(x:Int×RS)(hx:x.2.p<=s.size)
  (ZI:Calls prog 234 #[.pointer (some ⟨R,0,none⟩)] w (uQ R s base v qs w x))
  (it:RS->Int×RS) (hlen:x.2.out.length+(s.size-x.2.p)<=5001)
  (hit:∀ (st':RS) (v':Value) (qs':List ER) (w':World),RdF w' R s st' base v' qs'->base<=w'.heap.size->x.2.p+3<=st'.p->st'.p<=s.size->st'.out.length+(s.size-st'.p)<=5000->Calls prog 234 #[.pointer (some ⟨R,0,none⟩)] w' (uQ R s base v' qs' w' (it st')))
  (hmono:∀ st':RS,x.2.p+3<=st'.p->st'.p<=s.size->st'.p<=(it st').2.p/\(it st').2.p<=s.size/\(it st').2.out.length+st'.p<=st'.out.length+1+(it st').2.p) :
  Calls prog 219 #[.pointer (some ⟨R,0,none⟩)] w (uQ R s base v qs w (rowP s it x)):=by
 obtain ⟨iI,hiI,zI0,zI1,zI2⟩:=info_parts (P:=prog) (e:=2) (z:=.int .i64 0) (size:=1) (bytes:=8) (by kernel_rfl);have HII:Hid (prog.info? 2=some iI/\iI.zero=some (.int .i64 0)/\iI.size=1/\iI.bytes=8):=⟨hiI,zI0,zI1,zI2⟩;have HLEN:=ai hlen;have HITM:=ai hit;have HMONO:=ai hmono;clear hiI zI0 zI1 zI2 hlen hit hmono;have H:=ai h;have HX:=ai hx;have HIT:=ai ZI;clear h hx ZI;go_enter func219,ntmps219;go_wp2_with fail;refine HIT.out.mono ?_;rintro e w1 ⟨v1,ns,rfl,hF1,hW1,hns⟩;have VJ:=ai hF1;have HW1:=ai hW1;have HNS:=ai hns;clear hF1 hW1 hns HIT;go_wp2_with fail;go_loopw [4,5] (fun kd k wr=>∃ (j nn:Nat),4<=j/\j<=7/\k=.int .i64 j/\kd=.int .i64 (gT s x.2.p j)/\Hid (wr=w1.drewN nn)) (fun _ k _=>7-(intOf k).toNat);case atStart=>exact ⟨4,0,by omega,by omega,rfl,by rw [OZ],rfl⟩
 obtain ⟨j,nn,hj4,hj7,rfl,rfl,Xf⟩:=hrel;have hrd:RdC wr R s x.2.p x.2.bad v1:=by rw [Xf.out];exact VJ.out.rd.drewN nn
 have Zr:=ai hrd;have c0:=Zr.out.c0;have c1:=Zr.out.c1;have c2:=Zr.out.c2;clear hrd;by_cases hlt:j<7
 ·have hle:decide ((j:Int)<=6)=true:=by simp;omega
  have hle2:(j:Int)<=6:=by omega
  have hwr:IntKind.i64.wrap ((x.2.p:Int)+3)=(x.2.p:Int)+3:=by have:=HX.out;simp [IntKind.wrap,IntKind.bits,IntKind.signed];omega
  by_cases hK:gT s x.2.p j=0
  ·have hK0:(gT s x.2.p j==0)=true:=by simp [hK]
   by_cases XG:x.2.p+3<=s.size
   ·have hd:decide ((x.2.p:Int)+3<=(s.size:Int))=true:=by simp;omega
    have hd2:(x.2.p:Int)+3<=(s.size:Int):=by omega
    have hnn:(0:Int)<=(x.2.p:Int):=by omega
    have hp1:(x.2.p:Int)<=(x.2.p:Int)+3:=by omega
    rw [hK];cases he:(s.extract x.2.p (x.2.p+3)).toList==(gG j).toList
    case' true =>
     have EQ:=ai (Ju hj4 hlt hK (by rw [AL _ XG];exact he))
    case' false =>
     have EQ:=ai (Dk hj4 hlt hK (by rw [AL _ XG];exact he))
    all_goals
     clear hK hK0;go_wp2_with fail;go_quiet ((go_at_call 235;exact Calls.quiet_of_same (mo _ _)));go_wp2;go_roundw;case rel=>exact ⟨j+1,nn+nq,by omega,by omega,by go_num,by rw [EQ.out],by show _=_;rw [Xf.out,World.drewN_drewN]⟩
     simp [intOf] <;> omega
   have hd:decide ((x.2.p:Int)+3<=(s.size:Int))=false:=by simp;omega
   have EQ:=ai (Dk hj4 hlt hK (L6 _ XG));rw [hK];clear hK hK0;go_wp2_with fail;go_quiet ((go_at_call 235;exact Calls.quiet_of_same (mo _ _)));go_wp2;go_roundw;case rel=>exact ⟨j+1,nn+nq,by omega,by omega,by go_num,by rw [EQ.out],by show _=_;rw [Xf.out,World.drewN_drewN]⟩
   simp [intOf] <;> omega
  have hK0:(gT s x.2.p j==0)=false:=by simp [hK]
  have EQ:=ai (Gu hj4 hlt hK);clear hK;go_wp2_with fail;go_quiet ((go_at_call 235;exact Calls.quiet_of_same (mo _ _)));go_wp2;go_roundw;case rel=>exact ⟨j+1,nn+nq,by omega,by omega,by go_num,by rw [EQ.out],by show _=_;rw [Xf.out,World.drewN_drewN]⟩
  simp [intOf] <;> omega
 obtain rfl:j=7:=by omega
 rw [O0,show ((7:Nat):Int)=(7:Int) from rfl];have hle:decide ((7:Int)<=6)=false:=by decide
 obtain ⟨kd,hkd⟩:∃ kd,kd=dG s x.2.p:=⟨_,rfl⟩;have HKD:=ai hkd;rw [<-hkd];clear hkd;by_cases hk:kd=0
 ·have hk0:(kd==0)=true:=by simp [hk]
  have EQ:=ai (AO (it:=it) (.inl (HKD.out.symm.trans hk)));subst hk;have HF:=ai (VJ.out.heap (w':=wr) (by rw [Xf.out];exact Ue _) (by rw [Xf.out];rfl) (fun g _=>by rw [Xf.out];rfl) (fun q _ g _=>by rw [Xf.out];rfl));have HW:Hid (Went R v w v1 wr):=by rw [Xf.out];exact ⟨⟨HW1.out.onl.os,HW1.out.onl.tape,HW1.out.onl.output,HW1.out.onl.size,HW1.out.onl.block⟩,HW1.out.own⟩
  go_wp2;exact bodyPost_ret (v:=.int .i64 x.1) (by simp [results,Tryz.results219,go_sem]) rfl (by rw [EQ.out];exact ⟨v1,ns,rfl,HF.out,HW.out,HNS.out⟩)
 have hk0:(kd==0)=false:=by simp [hk]
 cases hb:x.2.bad;case true=>
  have EQ:=ai (AO (it:=it) (x:=x) (s:=s) (.inr hb));rw [hb]at c2;have HF:=ai (VJ.out.heap (w':=wr) (by rw [Xf.out];exact Ue _) (by rw [Xf.out];rfl) (fun g _=>by rw [Xf.out];rfl) (fun q _ g _=>by rw [Xf.out];rfl));have HW:Hid (Went R v w v1 wr):=by rw [Xf.out];exact ⟨⟨HW1.out.onl.os,HW1.out.onl.tape,HW1.out.onl.output,HW1.out.onl.size,HW1.out.onl.block⟩,HW1.out.own⟩
  go_wp2;exact bodyPost_ret (v:=.int .i64 x.1) (by simp [results,Tryz.results219,go_sem]) rfl (by rw [EQ.out];exact ⟨v1,ns,rfl,HF.out,HW.out,HNS.out⟩)
 rw [hb]at c2;have Wo:Hid (¬ (dG s x.2.p=0\/x.2.bad=true)):=by
  rintro (e|e)
  ·exact hk (HKD.out.trans e)
  rw [hb]at e;cases e
 have HF:=ai (VJ.out.heap (w':=wr) (by rw [Xf.out];exact Ue _) (by rw [Xf.out];rfl) (fun g _=>by rw [Xf.out];rfl) (fun q _ g _=>by rw [Xf.out];rfl));have HW:Hid (Went R v w v1 wr):=by rw [Xf.out];exact ⟨⟨HW1.out.onl.os,HW1.out.onl.tape,HW1.out.onl.output,HW1.out.onl.size,HW1.out.onl.block⟩,HW1.out.own⟩
 have HWB:Hid (R<w.heap.size):=H.out.rd.lt;have HKL0:Hid (KLr w (wr.alloc (.cells #[.int .i64 x.1] 2)) R s x.2 base v v1 qs ns [x.1] (.slice (some ⟨wr.heap.size,0,none⟩) 1 1)):=by
  have hg0:=World.grownBy_alloc wr (.cells #[.int .i64 x.1] 2) none;refine ⟨HF.out.heap hg0.size (hg0.block R HF.out.rd.lt (by simp)) (fun g hg=>hg0.block g (HF.out.own.lt g hg).2 (by simp)) (fun q hq g hi=>hg0.block g (HF.out.lie q hq g hi).2.1 (by simp)),HW.out.trans ((Onl.of_below ((Uf _ _).alloc (Ue _) _)).any v1),HNS.out,World.ownsRow_lit wr #[.int .i64 x.1] 1 HW.out.onl.size (by unfold maxLen;omega) (by simp),fun g hg=>?_,by simp⟩;simp [Value.ownBlock]at hg;subst hg;exact ⟨fun e=>by have:=(HF.out.own.lt _ e).2;omega,fun q hq hi=>by have:=(HF.out.lie q hq _ hi).2.1;omega⟩
 clear HF HW Zr Xf VJ HW1 HNS;go_wp2_with fail;clear c0 c1 c2;go_loopw [6] (fun vK wq=>∃ (n:Nat) (zs:List Int) (st':RS) (v':Value) (ms:List ER),Hid (st'.p<=s.size/\x.2.p<=st'.p/\s.size-st'.p<n/\zs.length<=st'.p+1/\st'.out.length+(s.size-st'.p)<=5001)/\Hid (ib s it kd n zs st'=ib s it kd (s.size+1) [x.1] x.2)/\Hid (KLr w wq R s st' base v v' qs ms zs vK)) (fun _ wq=>s.size-wat R wq);case atStart=>exact ⟨s.size+1,[x.1],x.2,v1,ns,⟨HX.out,Ue _,by omega,by simp,HLEN.out⟩,rfl,HKL0.out⟩
 obtain ⟨n,zs,st',v',ms,HB,HQ,VD⟩:=hrel;clear HKL0;go_wp2_with fail;refine (mo _ _).mono ?_;rintro e w' ⟨rfl,rfl⟩;go_wp2_with fail;refine (lX R s (gG kd) st'.p st'.bad v' _ VD.out.rd.rd hs HB.out.1 (by simp [lT])).mono ?_;rintro e w5 ⟨rfl,Zk,hg5⟩;cases hc:mP s (gG kd) st'.p st'.bad;case false=>
  have Zl:=ai (VD.out.is HWB.out hg5 (VD.out.rd.is_no hR hc Zk hg5));rw [vL]at hc;have EQ:=ai (L8 (zs:=zs) (st:=st') Wo.out (by rw [<-HKD.out];exact HQ.out.symm.trans (O1 hc)));obtain ⟨ad,cap,rfl,hnq,hin⟩:=Zl.out.node hB kd;have HNQ:=ai hnq;have HIN:=ai hin;have Yu:(qs++ms).length<=100000:=by have h1:=Zl.out.rd.out;have h2:=congrArg List.length h1;simp only [aj,UK]at h2;have:=HB.out.2.2.2.2;omega
  clear Zk hg5 hc hnq hin VD;go_wp2_with fail;refine (Le R s st' base v' (qs++ms) ⟨⟨kd,[],⟨#[]⟩,⟨#[]⟩,zs⟩,none,0,ad,cap⟩ w5 Zl.out.rd hR (Uk hB Zl.out.went.onl.size) Yu HNQ.out (Zl.out.kid hB kd) (fun g hg=>(HIN.out g hg).2)).mono ?_;rintro e w6 ⟨v6,rfl,hF6,Yg⟩;have XV:=ai hF6;have HW6:=ai (Zl.out.went.trans Yg);clear hF6 Yg;have HNEW:Hid (∀ q∈ms++[(⟨⟨kd,[],⟨#[]⟩,⟨#[]⟩,zs⟩,none,0,ad,cap⟩:ER)],∀ g,oM q g->w.heap.size<=g):=by
   intro q hq g hg;rcases Uq.1 hq with h1|h1
   ·exact Zl.out.new q h1 g hg
   rw [Uo]at h1;subst h1;exact (HIN.out g hg).1
  replace XV:Hid (RdF w6 R s (rX ⟨kd,[],⟨#[]⟩,⟨#[]⟩,zs⟩ st') base v6 (qs++(ms++[(⟨⟨kd,[],⟨#[]⟩,⟨#[]⟩,zs⟩,none,0,ad,cap⟩:ER)]))):=by rw [<-List.append_assoc];exact XV.out
  go_wp2;exact bodyPost_ret (v:=.int .i64 (st'.out.length:Int)) (by simp [results,Tryz.results219,go_sem]) rfl (by rw [EQ.out,<-HKD.out];exact ⟨v6,_,rfl,XV.out,HW6.out,HNEW.out⟩)
 have hk5:=VD.out.is HWB.out hg5 (VD.out.rd.is_yes hR hc Zk hg5);rw [vL]at hk5;have Zl:=ai hk5;have Xi:Hid (st'.p+3<=s.size):=by have:=zM hc;rw [lT]at this;exact this
 have HPL:=ai VD.out.rd.rd.place;obtain ⟨m,hm⟩:∃ m,n=m+1:=⟨n-1,by have:=HB.out.2.2.1;omega⟩;subst hm;rw [vL]at hc;have EQ:=ai ((L9 (it:=it) (n:=m) (zs:=zs) hc).symm.trans HQ.out);have eP:(j6 (aX kd) st').p=st'.p+3:=by unfold j6;rw [mq]
 have eO:(j6 (aX kd) st').out=st'.out:=rfl;have a1:x.2.p+3<=(j6 (aX kd) st').p:=by rw [eP];have:=HB.out.2.1;omega
 have a2:(j6 (aX kd) st').p<=s.size:=by rw [eP];exact Xi.out
 have a3:(j6 (aX kd) st').out.length+(s.size-(j6 (aX kd) st').p)<=5000:=by rw [eP,eO];have:=HB.out.2.2.2.2;have:=Xi.out;omega
 have hmo:=HMONO.out (j6 (aX kd) st') a1 a2;rw [eP,eO]at hmo;have hcall:=HITM.out (j6 (aX kd) st') v' (qs++ms) w5 Zl.out.rd (Uk hB Zl.out.went.onl.size) a1 a2 a3;obtain ⟨y,hy⟩:∃ y,y=it (j6 (aX kd) st'):=⟨_,rfl⟩;rw [<-hy]at hmo hcall EQ;have HMO:=ai hmo;have VU:=ai hcall;clear Zk hg5 hk5 hc VD eP eO a1 a2 a3 hmo hcall hy;go_wp2_with fail;refine VU.out.mono ?_;rintro e w6 ⟨v6,ns6,rfl,hF6,Yg,hn6⟩;have HK6:=ai (Zl.out.more HWB.out hF6 Yg hn6);clear hF6 Yg hn6 VU Zl;obtain ⟨W7,WR⟩:∃ W7,W7=w6.alloc (.cells #[.int .i64 y.1] 2):=⟨_,rfl⟩;have Xc:Hid (W7.ownsRow w.heap.size 2 1 u6 zs.length (ints zs)):=by rw [WR];exact HK6.out.own.alloc _
 have HN7:Hid (∀ j u,[Value.int .i64 y.1][j]?=some u->W7.cell? ((⟨w6.heap.size,0,none⟩:Addr).add j)=some u):=by rw [WR];exact O4 w6 _ _ rfl
 have HS7:Hid (w.heap.size<=W7.heap.size):=by show _<=_;rw [WR];exact Uk HK6.out.went.onl.size (World.grownBy_alloc w6 _ none).size
 have HW7:=ai WR;have hzl:zs.length<=1001:=by have:=HB.out.2.2.2.1;have:=HB.out.1;omega
 go_wp2_with (at_builtin;rw [<-WR];clear WR;refine wpList_append_own_at _ rfl _ _ 37 rfl w.heap.size 2 iI (.int .i64 0) 1 8 underlying37 HII.out.1 HII.out.2.1 HII.out.2.2.1 HII.out.2.2.2 rfl (by decide) u6 zs.length (ints zs) rfl Xc.out ⟨w6.heap.size,0,none⟩ 1 1 [Value.int .i64 y.1] rfl rfl HN7.out (by intro u hu;simp at hu;subst hu;rfl) (by unfold maxLen;omega) (by omega) HS7.out ?_);intro vN w8 XY hgr8 _ hat8;have HK8:Hid (KLr w w8 R s y.2 base v v6 qs (ms++ns6) (zs++[y.1]) vN):=by
  rw [HW7.out]at hgr8 hat8;exact HK6.out.app HWB.out y.1 _ XY hgr8 hat8
 have HM:Hid (s.size-wat R w8<s.size-wat R w'):=by
  show _<_;rw [HK8.out.rd.rd.place,HPL.out];have:=HMO.out.1;have:=HMO.out.2.1;have:=Xi.out;omega
 clear XY hgr8 hat8 Xc HN7 HS7 HW7 HK6;go_wp2;go_roundw;case rel=>exact ⟨m,zs++[y.1],y.2,v6,ms++ns6,⟨HMO.out.2.1,by have:=HMO.out.1;have:=HB.out.2.1;omega,by have:=HB.out.2.2.1;have:=HMO.out.1;have:=HMO.out.2.1;omega,by have:=HB.out.2.2.2.1;have:=HMO.out.1;rw [Ul,List.length_singleton];omega,by have:=HB.out.2.2.2.2;have:=HMO.out;omega⟩,EQ.out,HK8.out⟩
 exact HM.out
theorem Dl {s:ByteArray}{st:RS}(h:st.p<=s.size):st.p<=(bB s st).p/\(bB s st).p<=s.size:=⟨Nat.le_add_right _ _,ko s st.p h⟩
theorem Ez {s:ByteArray}{st:RS}(h:st.p<=s.size):st.p<=(aW s st).p/\(aW s st).p<=s.size/\(aW s st).out=st.out:=by
 unfold aW;cases e:kZ s uD st;case false=>exact ⟨Ue _,h,rfl⟩
 have h1:st.p+1<=s.size:=kJ e;have:=ko s (st.p+1) h1;exact ⟨by show st.p<=st.p+1+au s (st.p+1);omega,this,rfl⟩
theorem Dm {s:ByteArray}:∀ (n:Nat) (xs:List Al) (st:RS),st.p<=s.size->st.p<=(dF s n xs st).2.p/\(dF s n xs st).2.p<=s.size/\(dF s n xs st).2.out=st.out:=by
 intro n
 induction n with
 | zero=>intro xs st h;exact ⟨Ue _,h,rfl⟩
 | succ n ih =>
  intro xs st h;have h1:=Dl h;have h2:=Ez h1.2;have h3:(aW s (bB s st)).out=st.out:=h2.2.2;unfold dF;by_cases hb:st.bad=true
  ·rw [if_pos hb];exact ⟨Ue _,h,rfl⟩
  rw [if_neg hb];by_cases hc:kZ s fu (aW s (bB s st))=true
  ·rw [if_pos hc];have h4:(aW s (bB s st)).p+1<=s.size:=kJ hc;exact ⟨by show st.p<=(aW s (bB s st)).p+1;omega,h4,h3⟩
  rw [if_neg hc];by_cases hm:kZ s lW (aW s (bB s st))=true
  ·rw [if_pos hm];have h4:(aW s (bB s st)).p+1<=s.size:=kJ hm;obtain ⟨a,b,c⟩:=ih (xs++[⟨ay s st.p,yn s (bB s st)⟩]) (j6 lW (aW s (bB s st))) h4;have a':(aW s (bB s st)).p+1<=_:=a;exact ⟨by omega,b,c.trans h3⟩
  rw [if_neg hm];obtain ⟨a,b,c⟩:=ih (xs++[⟨ay s st.p,yn s (bB s st)⟩]) (uE (aW s (bB s st))) h2.2.1;have a':(aW s (bB s st)).p<=_:=a;exact ⟨by omega,b,c.trans h3⟩
def AP (s:ByteArray)(k:Nat)(st st':RS):Prop:=st.p<=st'.p/\st'.p<=s.size/\st'.out.length+st.p<=st.out.length+k+st'.p
theorem Ma {s:ByteArray}{st:RS}(h:kZ s fP st=true):AP s 1 st (qL s st).2:=by
 have h1:(j6 fP st).p<=s.size:=kJ h;obtain ⟨a,b,c⟩:=Dm (s:=s) (s.size+1) [] (j6 fP st) h1;have a':st.p+5<=_:=a;have c':_=st.out:=c;unfold qL AP;cases e:dF s (s.size+1) [] (j6 fP st) with
 | mk o st' =>
  rw [e]at a' b c';replace a':st.p+5<=st'.p:=a';replace b:st'.p<=s.size:=b;replace c':st'.out=st.out:=c';cases o with
  | none=>exact ⟨by show st.p<=st'.p;omega,b,by show st'.out.length+_<=_+_+st'.p;rw [c'];omega⟩
  | some xs=>exact ⟨by show st.p<=st'.p;omega,b,by show (st'.out++_).length+_<=_+_+st'.p;rw [c',Ul,List.length_singleton];omega⟩
theorem O5 {s:ByteArray}{st:RS}(h:st.p<=s.size):AP s 1 st (rX (eZ s st) (judged (eZ s st) (aJ s st))):=by
 have h1:=Dl h;have key:st.p<=(aJ s st).p/\(aJ s st).p<=s.size/\(aJ s st).out=st.out:=by
  unfold aJ;cases e:kZ s oQ (bB s st);case false=>exact ⟨h1.1,h1.2,rfl⟩
  have h2:st.p+au s st.p+2<=s.size:=kJ e;have:=ko s _ h2;exact ⟨by show st.p<=st.p+au s st.p+2+au s (st.p+au s st.p+2);omega,this,rfl⟩
 have key2:(judged (eZ s st) (aJ s st)).p=(aJ s st).p/\(judged (eZ s st) (aJ s st)).out=st.out:=by
  unfold judged;split
  ·exact ⟨rfl,key.2.2⟩
  exact ⟨rfl,key.2.2⟩
 refine ⟨?_,?_,?_⟩
 ·show st.p<=(judged (eZ s st) (aJ s st)).p;rw [key2.1];exact key.1
 ·show (judged (eZ s st) (aJ s st)).p<=_;rw [key2.1];exact key.2.1
 show ((judged (eZ s st) (aJ s st)).out++_).length+_<=_+1+(judged (eZ s st) (aJ s st)).p;rw [key2.1,key2.2,Ul,List.length_singleton];have:=key.1;omega
theorem Mc {s:ByteArray}{st:RS}{x:Int×RS}(h:AP s 1 (j6 jA st) x.2):AP s 1 st (tC s x).2:=by
 obtain ⟨a,b,c⟩:=h;replace a:st.p+1<=x.2.p:=a;replace c:x.2.out.length+(st.p+1)<=st.out.length+1+x.2.p:=c;unfold tC;cases e:kZ s fu x.2;case false=>exact ⟨by show st.p<=x.2.p;omega,b,by show x.2.out.length+st.p<=_+1+x.2.p;omega⟩
 have h2:x.2.p+1<=s.size:=kJ e;exact ⟨by show st.p<=x.2.p+1;omega,h2,by show x.2.out.length+st.p<=_+1+(x.2.p+1);omega⟩
theorem Md {s:ByteArray}{it:RS->Int×RS}{k:Int}(hit:∀ st,st.p<=s.size->AP s 1 st (it st).2):∀ (n:Nat) (zs:List Int) (st:RS),st.p<=s.size->AP s 0 st (ib s it k n zs st).2/\(0<n->kZ s (aX k) st=true->(ib s it k n zs st).2.out.length+st.p+2<=st.out.length+(ib s it k n zs st).2.p):=by
 intro n
 induction n with
 | zero=>intro zs st h;exact ⟨⟨Ue _,h,Ue _⟩,fun h=>absurd h (by omega)⟩
 | succ n ih =>
  intro zs st h;unfold ib;cases e:kZ s (aX k) st;case false=>exact ⟨⟨Ue _,h,Ue _⟩,fun _ h=>by cases h⟩
  have h1:st.p+3<=s.size:=by have:=kJ e;rw [mq]at this;exact this
  have eP:(j6 (aX k) st).p=st.p+3:=by unfold j6;rw [mq]
  have eO:(j6 (aX k) st).out=st.out:=rfl;obtain ⟨a,b,c⟩:=hit (j6 (aX k) st) (by rw [eP];exact h1);rw [eP]at a c;rw [eO]at c;obtain ⟨⟨a2,b2,c2⟩,-⟩:=ih (zs++[(it (j6 (aX k) st)).1]) (it (j6 (aX k) st)).2 b;simp only [if_true];exact ⟨⟨by omega,b2,by omega⟩,fun _ _=>by omega⟩
theorem Jv {s:ByteArray}{p:Nat}(h:dG s p≠0):dX s (aX (dG s p)) p=true:=by
 unfold dG at h ⊢;cases h1:dX s (aX 4) p;case true=>simpa using h1
 cases h2:dX s (aX 5) p;case true=>simpa [h1] using h2
 cases h3:dX s (aX 6) p;case true=>simpa [h1,h2] using h3
 simp [h1,h2,h3]at h
theorem QN {s:ByteArray}{it:RS->Int×RS}(hit:∀ st,st.p<=s.size->AP s 1 st (it st).2){st:RS}{x:Int×RS}(h:AP s 1 st x.2):AP s 1 st (rowP s it x).2:=by
 unfold rowP;by_cases hc:dG s x.2.p=0\/x.2.bad=true
 ·rw [if_pos hc];exact h
 rw [if_neg hc];have hsg:dG s x.2.p≠0:=fun e=>hc (.inl e)
 have hbd:x.2.bad=false:=by cases e:x.2.bad with
  | false=>rfl
  | true=>exact absurd (.inr e) hc
 have hyes:kZ s (aX (dG s x.2.p)) x.2=true:=by unfold kZ;rw [hbd,Jv hsg];rfl
 obtain ⟨⟨a,b,c⟩,d⟩:=Md hit (k:=dG s x.2.p) (s.size+1) [x.1] x.2 h.2.1;have d:=d (by omega) hyes;obtain ⟨a1,b1,c1⟩:=h;refine ⟨?_,b,?_⟩
 ·show st.p<=(ib s it (dG s x.2.p) (s.size+1) [x.1] x.2).2.p;omega
 show ((ib s it (dG s x.2.p) (s.size+1) [x.1] x.2).2.out++_).length+_<=_+1+(ib s it (dG s x.2.p) (s.size+1) [x.1] x.2).2.p;rw [Ul,List.length_singleton];omega
theorem AQ {s:ByteArray}{n:Nat}{st:RS}(h:kZ s fP st=true):ze s (n+1) false st=qL s st:=by
 unfold ze qL;rw [if_pos h];cases dF s (s.size+1) [] (j6 fP st) with
 | mk o st'=>cases o <;> rfl
theorem AR {s:ByteArray}{n:Nat}{st:RS}(h:kZ s fP st=false)(h2:kZ s jA st=true):ze s (n+1) false st=tC s (ze s n true (j6 jA st)):=by
 conv=>lhs;unfold ze
 rw [if_neg (by rw [h];decide),if_pos h2];rfl
theorem AU {s:ByteArray}{n:Nat}{st:RS}(h:kZ s fP st=false)(h2:kZ s jA st=false):ze s (n+1) false st=((st.out.length:Int),rX (eZ s st) (judged (eZ s st) (aJ s st))):=by
 unfold ze;rw [if_neg (by rw [h];decide),if_neg (by rw [h2];decide)]
theorem ED {s:ByteArray}{n:Nat}{st:RS}:ze s (n+1) true st=rowP s (ze s n false) (ze s n false st):=by
 conv=>lhs;unfold ze
 rfl
theorem rM {s:ByteArray}:∀ (n:Nat) (b:Bool) (st:RS),st.p<=s.size->AP s 1 st (ze s n b st).2:=by
 intro n
 induction n with
 | zero=>intro b st h;cases b <;> exact ⟨Ue _,h,by show st.out.length+st.p<=st.out.length+1+st.p;omega⟩
 | succ n ih =>
  intro b st h;cases b;case true=>rw [ED];exact QN (fun st' h'=>ih false st' h') (ih false st h)
  cases h1:kZ s fP st;case true=>rw [AQ h1];exact Ma h1
  cases h2:kZ s jA st;case true=>rw [AR h1 h2];exact Mc (ih true (j6 jA st) (kJ h2))
  rw [AU h1 h2];exact O5 h
theorem O6 (R:Nat)(s:bI)(base:Nat)(hR:R<base)(hs:s.size<=1000):∀ n:Nat,
  (∀ (st:RS) (v:Value) (qs:List ER) (w:World),RdF w R s st base v qs->base<=w.heap.size->st.p<=s.size->st.out.length+(s.size-st.p)<=5000->2*(s.size-st.p)<n ->
   Calls prog 234 #[.pointer (some ⟨R,0,none⟩)] w (uQ R s base v qs w (ze s n false st))) /\
  (∀ (st:RS) (v:Value) (qs:List ER) (w:World),RdF w R s st base v qs->base<=w.heap.size->st.p<=s.size->st.out.length+(s.size-st.p)<=5000->2*(s.size-st.p)+1<n ->
   Calls prog 219 #[.pointer (some ⟨R,0,none⟩)] w (uQ R s base v qs w (ze s n true st))):=by
 intro n
 induction n with
 | zero=>exact ⟨fun _ _ _ _ _ _ _ _ h=>absurd h (by omega),fun _ _ _ _ _ _ _ _ h=>absurd h (by omega)⟩
 | succ n ih =>
  refine ⟨fun st v qs w h hB hp hb hn=>?_,fun st v qs w h hB hp hb hn=>?_⟩
  ·have hlen:qs.length=st.out.length:=by rw [<-h.out];simp [aj]
   cases h1:kZ s fP st;case true=>rw [AQ h1];exact LU R s st base v qs w h hR hB hs hp (by omega) h1
   cases h2:kZ s jA st;case true=>
    rw [AR h1 h2];have h3:st.p+1<=s.size:=kJ h2;have h4:(j6 jA st).p=st.p+1:=rfl;exact Oj R s st base v qs w h hR hs hp h1 h2 _ (rM n true (j6 jA st) h3).2.1 fun w1 hw1 hsz=>ih.2 (j6 jA st) v qs w1 hw1 (Uk hB hsz) h3 (by rw [h4];show st.out.length+_<=_;omega) (by rw [h4];omega)
   rw [AU h1 h2];exact LJ R s st base v qs w h hR hB hs hp (by omega) h1 h2
  rw [ED];obtain ⟨a,b,c⟩:=rM (s:=s) n false st hp;refine QM R s st base v qs w h hR hB hs _ b (ih.1 st v qs w h hB hp hb (by omega)) _ (by omega) (fun st' v' qs' w' h' hB' h1 h2 h3=>ih.1 st' v' qs' w' h' hB' h2 h3 (by omega)) (fun st' h1 h2=>?_);obtain ⟨a2,b2,c2⟩:=rM (s:=s) n false st' h2;exact ⟨a2,b2,c2⟩
def TI (s:ByteArray)(a:Al):Prop:=a.t.size<=s.size/\a.s.size<=s.size
def Hu (s:ByteArray)(e:Ex):Prop:=e.allow.length<=s.size+1/\(∀ a∈e.allow,TI s a)/\e.over.size<=s.size/\e.name.size<=s.size/\e.kids.length<=s.size+2
theorem qP (s:bI)(p:Nat):(ay s p).size<=s.size:=by
 unfold ay;rw [ByteArray.size_extract];omega
theorem QO (s:bI)(st:RS):(yn s st).size<=s.size:=by
 unfold yn;split
 ·exact qP s _
 exact Ui _
theorem Me {s:ByteArray}:∀ (n:Nat) (xs:List Al) (st:RS) (ys:List Al),(∀ a∈xs,TI s a)->(dF s n xs st).1=some ys->ys.length<=xs.length+n/\∀ a∈ys,TI s a:=by
 intro n
 induction n with
 | zero=>intro xs st ys _ h;cases h
 | succ n ih =>
  intro xs st ys hx h;have hx2:∀ a∈xs++[(⟨ay s st.p,yn s (bB s st)⟩:Al)],TI s a:=by
   intro a ha;rcases Uq.1 ha with h1|h1
   ·exact hx a h1
   rw [Uo]at h1;subst h1;exact ⟨qP s _,QO s _⟩
  unfold dF at h;by_cases hb:st.bad=true
  ·rw [if_pos hb]at h;cases h
  rw [if_neg hb]at h;by_cases hc:kZ s fu (aW s (bB s st))=true
  ·rw [if_pos hc]at h;injection h with h;subst h;exact ⟨by rw [Ul,List.length_singleton];omega,hx2⟩
  rw [if_neg hc]at h;have fin:∀ st',(dF s n (xs++[⟨ay s st.p,yn s (bB s st)⟩]) st').1=some ys->ys.length<=xs.length+(n+1)/\∀ a∈ys,TI s a:=fun st' h'=>by
   obtain ⟨a,b⟩:=ih _ st' ys hx2 h';rw [Ul,List.length_singleton]at a;exact ⟨by omega,b⟩
  by_cases hm:kZ s lW (aW s (bB s st))=true
  ·rw [if_pos hm]at h;exact fin _ h
  rw [if_neg hm]at h;exact fin _ h
theorem EE {s:ByteArray}{x:Ex}{st:RS}(h:∀ e∈st.out,Hu s e)(hx:Hu s x):∀ e∈(rX x st).out,Hu s e:=by
 intro e he;rcases Uq.1 he with h1|h1
 ·exact h e h1
 rw [Uo]at h1;subst h1;exact hx
theorem O7 {s:ByteArray}{st:RS}(hp:st.p+5<=s.size)(h:∀ e∈st.out,Hu s e):∀ e∈(qL s st).2.out,Hu s e:=by
 have hc:=(Dm (s:=s) (s.size+1) [] (j6 fP st) hp).2.2;have hs:=Me (s:=s) (s.size+1) [] (j6 fP st);unfold qL;cases e:dF s (s.size+1) [] (j6 fP st) with
 | mk o st' =>
  rw [e]at hc hs;have hc':st'.out=st.out:=hc;cases o with
  | none=>show ∀ e∈st'.out,Hu s e;rw [hc'];exact h
  | some xs =>
   obtain ⟨a,b⟩:=hs xs (fun a ha=>by cases ha) rfl;exact EE (by rw [hc'];exact h) ⟨by simpa using a,b,Ui _,Ui _,Ui _⟩
theorem QP {s:ByteArray}{st:RS}(h:∀ e∈st.out,Hu s e):∀ e∈(rX (eZ s st) (judged (eZ s st) (aJ s st))).out,Hu s e:=by
 have h1:(judged (eZ s st) (aJ s st)).out=st.out:=by
  have h2:(aJ s st).out=st.out:=by unfold aJ;split <;> rfl
  unfold judged;split <;> exact h2
 refine EE (by rw [h1];exact h) ?_;unfold eZ;split
 ·exact ⟨Ui _,fun a ha=>(by cases ha),qP s _,qP s _,Ui _⟩
 exact ⟨Ui _,fun a ha=>(by cases ha),Ui _,qP s _,Ui _⟩
theorem O8 {s:ByteArray}{it:RS->Int×RS}{k:Int}(hit:∀ st,(∀ e∈st.out,Hu s e)->st.p<=s.size->(∀ e∈(it st).2.out,Hu s e)/\(it st).2.p<=s.size):∀ (n:Nat) (zs:List Int) (st:RS),(∀ e∈st.out,Hu s e)->st.p<=s.size->(∀ e∈(ib s it k n zs st).2.out,Hu s e)/\(ib s it k n zs st).1.length<=zs.length+n:=by
 intro n
 induction n with
 | zero=>intro zs st h _;exact ⟨h,Ue _⟩
 | succ n ih =>
  intro zs st h hp;unfold ib;cases e:kZ s (aX k) st;case false=>exact ⟨h,Nat.le_add_right _ _⟩
  have h1:(j6 (aX k) st).p<=s.size:=kJ e;obtain ⟨a,b⟩:=hit (j6 (aX k) st) h h1;obtain ⟨a2,b2⟩:=ih (zs++[(it (j6 (aX k) st)).1]) _ a b;rw [Ul,List.length_singleton]at b2;exact ⟨a2,by simp only [if_true];omega⟩
theorem O9 {s:ByteArray}:∀ (n:Nat) (b:Bool) (st:RS),st.p<=s.size->(∀ e∈st.out,Hu s e)->∀ e∈(ze s n b st).2.out,Hu s e:=by
 intro n
 induction n with
 | zero=>intro b st _ h;cases b <;> exact h
 | succ n ih =>
  intro b st hp h;cases b;case true=>
   rw [ED];unfold rowP;have hx:=ih false st hp h;have hxp:=(rM (s:=s) n false st hp).2.1;split
   ·exact hx
   obtain ⟨a,b⟩:=O8 (s:=s) (it:=ze s n false) (k:=dG s (ze s n false st).2.p) (fun st' h1 h2=>⟨ih false st' h2 h1,(rM (s:=s) n false st' h2).2.1⟩) (s.size+1) [(ze s n false st).1] (ze s n false st).2 hx hxp;exact EE a ⟨Ui _,fun a ha=>(by cases ha),Ui _,Ui _,Uk b (by simp only [List.length_singleton];omega)⟩
  cases h1:kZ s fP st;case true=>rw [AQ h1];exact O7 (kJ h1) h
  cases h2:kZ s jA st;case true=>
   rw [AR h1 h2];have hx:=ih true (j6 jA st) (kJ h2) h;unfold tC;split
   ·exact hx
   exact hx
  rw [AU h1 h2];exact QP h
theorem Hu.light {s:ByteArray}{e:Ex}(h:Hu s e)(hs:s.size<=1000):e.light/\e.fits:=by
 obtain ⟨h1,h2,h3,h4,h5⟩:=h;refine ⟨⟨by omega,by omega⟩,⟨fun a ha=>⟨?_,?_⟩,?_,?_,?_,?_⟩⟩ <;> unfold maxLen
 ·have:=(h2 a ha).1;omega
 ·have:=(h2 a ha).2;omega
 all_goals omega
def kD (s:ByteArray):RS:=(ze s (2*s.size+2) true ⟨0,false,[]⟩).2
def mr (s:ByteArray):Bool:=decide (s.size<=1000) && !(kD s).bad && !decide ((kD s).p<s.size)&&aK (kD s).out&&((gQ (kD s).out).toList==s.toList)
def TJ (s:ByteArray)(w:World)(e:Ending)(w':World):Prop :=
 ag w w'/\((mr s=false/\e=.returned (.tuple #[.slice none 0 0,.bool false]))\/(mr s=true/\∃ (v:Value) (R:Nat) (qs:List ER),e=.returned (.tuple #[v,.bool true])/\RdF w' R s (kD s) (w.heap.size+1) v qs))
theorem Pb (w:af)(s:bI):RdF (w.alloc (.cells #[.string s,.int .i64 0,.bool false,.slice none 0 0] 303)) w.heap.size s ⟨0,false,[]⟩ (w.heap.size+1) (.slice none 0 0) []:=by
 refine ⟨⟨by simp,by simp,by simp,by simp,by simp,fun j=>by simp⟩,World.ownsRow_nil _ _ _ _,rfl,?_,?_,?_,?_,?_,?_,?_,?_⟩
 ·intro q hq;cases hq
 ·intro q hq;cases hq
 ·intro q hq;cases hq
 ·intro q hq;cases hq
 ·intro q hq;cases hq
 ·intro x y hx;exact absurd hx (by simp)
 ·intro q hq;cases hq
 intro q hq;cases hq
theorem RdF.slE {w:af}{R:Nat}{s:ByteArray}{st:RS}{base:Nat}{v:Value}{qs:List ER}(h:RdF w R s st base v qs):∃ ad cap,v=.slice ad qs.length cap/\iC w ad qs:=RJ h.own rfl h.ok
theorem RdF.later {w w':af}{R:Nat}{s:ByteArray}{st:RS}{base:Nat}{v:Value}{qs:List ER}(h:RdF w R s st base v qs)(hb:ag w w'):RdF w' R s st base v qs :=
 h.heap hb.size (hb.block R h.rd.lt) (fun g hg=>hb.block g (h.own.lt g hg).2) (fun q hq g hi=>hb.block g (h.lie q hq g hi).2.1)
theorem wZ (s:bI)(w:af):Calls prog 178 #[.string s] w (TJ s w):=by
 by_cases hs:s.size<=1000
 ·have hd0:decide ((1000:Int)<(s.size:Int))=false:=by simp;omega
  have Zr:=ai (Pb w s);have VU:=ai ((O6 w.heap.size s (w.heap.size+1) (by omega) hs (2*s.size+2)).2 ⟨0,false,[]⟩ (.slice none 0 0) [] _ Zr.out (by simp) (Ui _) (by simp;omega) (by simp));have Z0:Hid (∀ e∈(kD s).out,e.light/\e.fits):=fun e he=>(O9 (s:=s) _ true ⟨0,false,[]⟩ (Ui _) (fun e he=>by cases he) e he).light hs;have HFEW:=ai (rM (s:=s) (2*s.size+2) true ⟨0,false,[]⟩ (Ui _));go_enter func178,ntmps178;go_wp2_with fail;refine VU.out.mono ?_;rintro e w1 ⟨v1,qs,rfl,hF1,hW1,-⟩;replace hF1:RdF w1 w.heap.size s (kD s) (w.heap.size+1) v1 qs:=hF1;have VJ:=ai hF1;have HB1:Hid (ag w w1):=⟨hW1.onl.os,hW1.onl.tape,hW1.onl.output,by have:=hW1.onl.size;simp at this;omega,fun k hk=>(hW1.onl.block k (by simp;omega) (by omega) (by simp [Value.ownBlock])).trans ((World.grownBy_alloc w _ none).block k hk (by simp))⟩;obtain ⟨ad,cap,rfl,hsl⟩:=hF1.slE;have WY:=ai hsl;have Yx:=ai hF1.out;have Yu:qs.length<=1048576:=by
   have h2:=congrArg List.length hF1.out;simp only [aj,UK]at h2;have h3:(kD s).out.length+0<=0+1+(kD s).p:=HFEW.out.2.2;have h4:(kD s).p<=s.size:=HFEW.out.2.1;omega
  have HL:Hid (∀ r∈qs,r.e.light):=fun r hr=>(Z0.out r.e (by rw [<-Yx.out];exact Ur.2 ⟨r,hr,rfl⟩)).1;have HF:Hid (∀ r∈qs,r.e.fits):=fun r hr=>(Z0.out r.e (by rw [<-Yx.out];exact Ur.2 ⟨r,hr,rfl⟩)).2;have XQ:Hid (mr s=(!(kD s).bad && !decide ((kD s).p<s.size)&&aK (kD s).out&&((gQ (kD s).out).toList==s.toList))):=by show _=_;unfold mr;simp [hs]
  have c1:=hF1.rd.c1;have c2:=hF1.rd.c2;have c3:=hF1.rd.c3;clear hF1 hW1 hsl VU Zr Z0 HFEW;cases hb:(kD s).bad;case true=>
   rw [hb]at c2;have EQ:Hid (mr s=false):=by show _=_;rw [XQ.out,hb];rfl
   go_wp2;exact bodyPost_ret (v:=.tuple #[.slice none 0 0,.bool false]) (by simp [results,Tryz.results178,go_sem]) rfl ⟨HB1.out,.inl ⟨EQ.out,rfl⟩⟩
  rw [hb]at c2;by_cases hlt:(kD s).p<s.size
  ·have hd1:decide (((kD s).p:Int)<(s.size:Int))=true:=by simp;omega
   have EQ:Hid (mr s=false):=by show _=_;rw [XQ.out,hb,decide_eq_true hlt];rfl
   go_wp2;exact bodyPost_ret (v:=.tuple #[.slice none 0 0,.bool false]) (by simp [results,Tryz.results178,go_sem]) rfl ⟨HB1.out,.inl ⟨EQ.out,rfl⟩⟩
  have hd1:decide (((kD s).p:Int)<(s.size:Int))=false:=by simp;omega
  go_wp2_with fail;refine (l7 ad cap qs w1 Yu HL.out HF.out WY.out).mono ?_;rintro e w2 ⟨rfl,hB2⟩;have VV:=ai (VJ.out.later hB2);have HB2:=ai (HB1.out.trans (hB2.mono HB1.out.size));have HSL2:=ai (WY.out.below hB2);have k3:=VV.out.rd.c3;rw [Yx.out];clear hB2;cases he:aK (kD s).out;case false=>
   have EQ:Hid (mr s=false):=by show _=_;rw [XQ.out,hb,decide_eq_false hlt,he];rfl
   go_wp2;exact bodyPost_ret (v:=.tuple #[.slice none 0 0,.bool false]) (by simp [results,Tryz.results178,go_sem]) rfl ⟨HB2.out,.inl ⟨EQ.out,rfl⟩⟩
  go_wp2_with fail;refine (oq ad cap qs w2 Yu HL.out HF.out HSL2.out).mono ?_;rintro e w3 ⟨rfl,hB3⟩;have Zw:=ai (VV.out.later hB3);have HB3:=ai (HB2.out.trans (hB3.mono HB2.out.size));have q3:=Zw.out.rd.c3;rw [Yx.out];clear hB3;cases ht:(gQ (kD s).out).toList==s.toList;case false=>
   have ht2:(!(gQ (kD s).out).toList==s.toList)=true:=by rw [ht];rfl
   have EQ:Hid (mr s=false):=by show _=_;rw [XQ.out,ht,Bool.and_false]
   go_wp2;exact bodyPost_ret (v:=.tuple #[.slice none 0 0,.bool false]) (by simp [results,Tryz.results178,go_sem]) rfl ⟨HB3.out,.inl ⟨EQ.out,rfl⟩⟩
  have ht2:(!(gQ (kD s).out).toList==s.toList)=false:=by rw [ht];rfl
  have EQ:Hid (mr s=true):=by show _=_;rw [XQ.out,hb,decide_eq_false hlt,he,ht];rfl
  go_wp2;exact bodyPost_ret (v:=.tuple #[.slice ad qs.length cap,.bool true]) (by simp [results,Tryz.results178,go_sem]) rfl ⟨HB3.out,.inr ⟨EQ.out,_,_,qs,rfl,Zw.out⟩⟩
 have hd0:decide ((1000:Int)<(s.size:Int))=true:=by simp;omega
 have EQ:Hid (mr s=false):=by show _=_;unfold mr;rw [decide_eq_false hs];rfl
 go_enter func178,ntmps178;go_wp2;exact bodyPost_ret (v:=.tuple #[.slice none 0 0,.bool false]) (by simp [results,Tryz.results178,go_sem]) rfl ⟨Uf _ _,.inl ⟨EQ.out,rfl⟩⟩
theorem RdF.nod {w:af}{R:Nat}{s:ByteArray}{st:RS}{base:Nat}{v:Value}{qs:List ER}(h:RdF w R s st base v qs):NodM w base v qs:=⟨h.own,h.zA,h.zK,h.ok,h.lie,h.one,h.two,h.cA⟩
def sm:List Nat->Nat
 | []=>0
 | x::xs=>x+sm xs
theorem Dn:∀ xs ys:List Nat,sm (xs++ys)=sm xs+sm ys
 | [],ys=>by simp [sm]
 | x::xs,ys=>by rw [List.cons_append];simp only [sm];rw [Dn xs ys];omega
theorem Mf (sep:bI)(xs:List ByteArray):(fB sep xs).size<=sm (xs.map fun x=>x.size+sep.size):=by
 suffices h:∀ ys:List ByteArray,(fB sep ys.reverse).size<=sm (ys.reverse.map fun x=>x.size+sep.size) by
  have:=h xs.reverse;rwa [List.reverse_reverse]at this
 intro ys
 induction ys with
 | nil=>exact Ue _
 | cons y ys ih =>
  rw [List.reverse_cons,oO,List.map_append,Dn];simp only [List.map_cons,List.map_nil,sm];split
  ·omega
  simp only [Uv];omega
def kS (f:Int->Int):List Int->Int
 | []=>0
 | k::ks=>(k-f k+1)+kS f ks
theorem vM (f:Int->Int):∀ xs ys:List Int,kS f (xs++ys)=kS f xs+kS f ys
 | [],ys=>by simp [kS]
 | x::xs,ys=>by rw [List.cons_append];simp only [kS];rw [vM f xs ys];omega
theorem sG (f:Int->Int):∀ xs:List Int,kS f xs.reverse=kS f xs
 | []=>rfl
 | x::xs=>by rw [List.reverse_cons,vM,sG f xs];simp only [kS];omega
theorem xX {f:Int->Int}:∀ (ks:List Int) (a:Int),0<=cO f ks a->kS f ks=a+1-cO f ks a
 | [],a,_=>by simp [kS,cO]
 | k::ks,a,h=>by
  unfold cO at h ⊢;split at h
  ·omega
  rename_i h1;rw [if_neg h1];split at h
  ·omega
  rename_i h2;rw [if_neg h2];have hk:k=a:=Decidable.byContradiction fun e=>h1 (.inr e);subst hk;simp only [kS];rw [xX ks _ h];omega
theorem QQ {es:List Ex}(hes:RB es)(ht:∀ j,j<es.length->0<=az es j)(n:Nat):n<es.length->∀ i,((iU es n i).size:Int)<=250*((n:Int)-az es n+1):=by
 induction n using Nat.strongRecOn with
 | ind n ih =>
  intro hn i;have hle:=iE es n;have h1:=Fu (DV es n) i (lV (jy es n) (DV es n));unfold iU
  suffices h:((lV (jy es n) (DV es n)).size:Int)<=250*((n:Int)-az es n+1)-10 by omega
  have UM:=hes.2.1 n hn;obtain ⟨hk5,-⟩:=qg UM;rw [DX hn];unfold lV;unfold av at UM;split
  ·rename_i k;rw [if_pos k]at UM;simp only [Ug]at UM;have:=jW UM.1.1.1;omega
  rename_i k1;rw [if_neg k1]at UM;split
  ·rename_i k2;rw [if_pos k2]at UM;simp only [Ug]at UM;have:=bR UM.1.1.1;omega
  rename_i k2;rw [if_neg k2]at UM;split
  ·rename_i k3;rw [if_pos k3]at UM;simp only [Ug]at UM;have h1:=bR UM.1.1.1;have h2:=bR UM.1.1.2;have e1:(⟨#[45,62]⟩:ByteArray).size=2:=rfl;simp only [Uv];omega
  have hj:=Mf (gG es[n].kind) (es[n].kids.map (jy es n));rw [lT,List.map_map]at hj;have hspan:kS (dB es n) es[n].kids=(n:Int)-az es n:=by
   have h0:=ht n hn;rw [iD]at h0;have h2:=xX _ _ h0;rw [sG,<-iD]at h2;have e:dx es n=es[n].kids:=by simp [dx,hn]
   rw [e]at h2;omega
  have hsum:∀ ks:List Int,(∀ k∈ks,0<=k/\k.toNat<n)->(sm (ks.map ((fun x:ByteArray=>x.size+3) ∘ jy es n)):Int)<=250*kS (dB es n) ks+3*(ks.length:Int):=by
   intro ks
   induction ks with
   | nil=>intro _;simp [sm,kS]
   | cons k ks ih2 =>
    intro hks;obtain ⟨hk0,hk1⟩:=hks k (UG ..);have h3:=ih2 fun x hx=>hks x (UC _ hx);have h4:=ih k.toNat hk1 (by omega) true;have e1:jy es n k=iU es k.toNat true:=by unfold jy;rw [if_pos hk1,DW]
    have e2:dB es n k=az es k.toNat:=by unfold dB;rw [if_pos ⟨hk0,hk1⟩]
    have e3:((k.toNat:Nat):Int)=k:=by omega
    simp only [List.map_cons,sm,kS,Function.comp_apply,List.length_cons];rw [e1,e2];rw [e3]at h4;omega
  have h5:=hsum es[n].kids (uC hes hn);rw [hspan]at h5;have:(es[n].kids.length:Int)<=5:=by omega
  omega
theorem Pd {es:List Ex}(h:aK es=true):∀ j,j<es.length->0<=az es j:=by
 rw [wB]at h;unfold kM at h;simp only [Ug,Um]at h;have h1:=h.2.1;unfold jw at h1;rw [Un]at h1;intro j hj;simpa using h1 j (by simpa using hj)
theorem EF (es:List Ex):(gQ es).size<=3750:=by
 by_cases h:aK es=true
 ·have ht:=Pd h;have hf:=lq h;have h1:=QQ (Nw h) ht (es.length-1) (by omega) false;have h2:=ht (es.length-1) (by omega);rw [AJ h];omega
 rw [Dj (by simpa using h)];show 0<=3750;omega
def Gv (r:Rl):ByteArray:=((r.name++⟨#[32,61,32]⟩)++gQ r.expr)++⟨#[10]⟩
def dP:List Rl->ByteArray
 | []=>⟨#[]⟩
 | r::rs=>Gv r++dP rs
def mD (n:ByteArray):ByteArray:=(⟨#[116,121,112,101,32]⟩++n)++⟨#[10]⟩
def dA:List Ty->ByteArray
 | []=>⟨#[]⟩
 | t::ts=>(mD t.name++dP t.rels)++dA ts
theorem vO (a:bI):a++(⟨#[]⟩:ByteArray)=a:=by apply jd;simp [ByteArray.data_append]
theorem qQ:∀ (xs:List Rl) (r:Rl),dP (xs++[r])=dP xs++Gv r
 | [],r=>by simp only [List.nil_append,dP,vO,rJ]
 | x::xs,r=>by rw [List.cons_append];simp only [dP];rw [qQ xs r,<-ByteArray.append_assoc]
theorem mE:∀ (xs:List Ty) (t:Ty),dA (xs++[t])=dA xs++(mD t.name++dP t.rels)
 | [],t=>by simp only [List.nil_append,dA,vO,rJ]
 | x::xs,t=>by rw [List.cons_append];simp only [dA];rw [mE xs t,<-ByteArray.append_assoc]
theorem Mg (rs:List RR)(k:Nat)(h:k<rs.length):eF (rs.take (k+1))=eF (rs.take k)++[⟨rs[k].name,aj rs[k].rows⟩]:=by
 rw [Uh h];unfold eF;rw [List.map_append];rfl
theorem Mh (rs:List TR)(k:Nat)(h:k<rs.length):ae (rs.take (k+1))=ae (rs.take k)++[⟨rs[k].name,eF rs[k].rows⟩]:=by
 rw [Uh h];unfold ae;rw [List.map_append];rfl
theorem xY (n:bI):(mD n).size=n.size+6:=by
 have e1:(⟨#[116,121,112,101,32]⟩:ByteArray).size=5:=rfl;have e2:(⟨#[10]⟩:ByteArray).size=1:=rfl;unfold mD;simp only [Uv];omega
def Pe:ByteArray:=⟨#[116,121,112,101,32]⟩
def TK:ByteArray:=⟨#[61,32]⟩
def TL:ByteArray:=⟨#[10]⟩
def AV (l:ByteArray):Bool:=decide (5<l.size)&&(l.extract 0 5).toList==Pe.toList
def xZ (t:ByteArray):Bool:=decide (2<=t.size)&&(t.extract 0 2).toList==TK.toList
def Dq (l:ByteArray):ByteArray:=(iL 32 l).extract 2 (iL 32 l).size
def EG (acc:List Ty)(r:Rl):List Ty:=match acc.getLast? with
 | none=>[]
 | some t=>acc.dropLast++[⟨t.name,t.rels++[r]⟩]
theorem qR (xs:List Ty)(t:Ty)(r:Rl):EG (xs++[t]) r=xs++[⟨t.name,t.rels++[r]⟩]:=by
 unfold EG;simp
def mY (acc:List Ty)(l:ByteArray):Option (List Ty) :=
 if AV l then some (acc++[⟨l.extract 5 l.size,[]⟩])
 else if !acc.isEmpty&&xZ (iL 32 l)&&mr (Dq l) then some (EG acc ⟨kr 32 l,(kD (Dq l)).out⟩) else none
def dQ:Nat->ByteArray->List Ty->Option (List Ty)
 | 0,_,acc=>some acc
 | n+1,rest,acc =>
  if rest.toList.isEmpty then some acc
  else if oU 10 rest then
   match mY acc (kr 10 rest) with
   | none=>none
   | some a=>dQ n (iL 10 rest) a
  else none
theorem mF (b:bI):b.toList=b.data.toList:=Go.ByteArray.toList_eq b
theorem Mi (c:UInt8)(l:List UInt8)(h:(iV c l).2.2=true):l=(iV c l).1++c::(iV c l).2.1:=by
 induction l with
 | nil=>simp [iV]at h
 | cons b l ih =>
  unfold iV at h ⊢;split
  ·rename_i e;simp [e]
  rename_i e;rw [if_neg e]at h;simp only [List.cons_append,List.cons.injEq,true_and];exact ih h
theorem AX {c:UInt8}{s:ByteArray}(h:oU c s=true):s=(kr c s++⟨#[c]⟩)++iL c s:=by
 apply jd;have:=Mi c s.data.toList h;simpa [kr,iL,ByteArray.data_append] using this
theorem Gw {c:UInt8}{s:ByteArray}(h:oU c s=true):(iL c s).size<s.size:=by
 have:=congrArg ByteArray.size (AX h);have e1:(⟨#[c]⟩:ByteArray).size=1:=rfl;simp only [Uv,e1]at this;omega
theorem Gx (l:bI)(k:Nat)(hk:k<=l.size):l=l.extract 0 k++l.extract k l.size:=by
 apply jd;rw [ByteArray.data_append,ByteArray.data_extract,ByteArray.data_extract];have hk':k<=l.data.size:=hk;have h2:l.size=l.data.size:=rfl;rw [h2];simp;rw [show max k l.size=l.data.toList.length by simp [Nat.max_def];omega,Us]
theorem toList_inj {a b:ByteArray}(h:a.toList=b.toList):a=b:=by
 rw [mF,mF]at h;exact jd h
theorem Pf {l:ByteArray}(h:AV l=true):l=Pe++l.extract 5 l.size:=by
 unfold AV at h;simp only [Ug,Um,beq_iff_eq]at h;have e:=toList_inj h.2
 conv=>lhs;rw [Gx l 5 (by omega),e]
theorem Pg {l:ByteArray}(h:xZ (iL 32 l)=true):l=((kr 32 l++⟨#[32,61,32]⟩)++Dq l):=by
 unfold xZ at h;simp only [Ug,Um,beq_iff_eq]at h;have hf:oU 32 l=true:=by
  cases e:oU 32 l;case true=>rfl
  rw [NG e]at h;exact absurd h.1 (by decide)
 have e:=toList_inj h.2;have e2:iL 32 l=TK++Dq l:=by
  conv=>lhs;rw [Gx (iL 32 l) 2 h.1,e]
  rfl
 have e3:(⟨#[32,61,32]⟩:ByteArray)=⟨#[32]⟩++TK:=by apply jd;simp [ByteArray.data_append,TK]
 conv=>lhs;rw [AX hf,e2]
 rw [e3];simp only [ByteArray.append_assoc]
theorem AY {s:ByteArray}(h:mr s=true):gQ (kD s).out=s/\s.size<=1000/\aK (kD s).out=true:=by
 unfold mr at h;simp only [Ug,Um,beq_iff_eq]at h;exact ⟨toList_inj h.2,h.1.1.1.1,h.1.2⟩
theorem Mj {acc acc':List Ty}{l:ByteArray}(h:mY acc l=some acc'):dA acc'=dA acc++(l++TL):=by
 unfold mY at h;split at h
 ·rename_i ht;injection h with h;subst h;rw [mE]
  conv=>rhs;rw [Pf ht]
  simp only [mD,dP,vO];rfl
 split at h
 ·rename_i h2;injection h with h;subst h;simp only [Ug,Bool.not_eq_true']at h2;obtain ⟨⟨h3,h4⟩,h5⟩:=h2;have hne:acc≠[]:=fun e=>by rw [e]at h3;simp at h3
  have e1:=List.dropLast_concat_getLast hne;rw [<-e1,qR,mE,mE,qQ]
  conv=>rhs;rw [Pg h4]
  have e2:=(AY h5).1;simp only [Gv,e2,ByteArray.append_assoc];rfl
 cases h
def RY (T:List Ty):Prop:=∀ t∈T,∀ r∈t.rels,r.expr.length<=15/\∀ e∈r.expr,e.light/\e.fits
theorem QR {acc acc':List Ty}{l:ByteArray}(h:mY acc l=some acc')(hk:RY acc):RY acc':=by
 unfold mY at h;split at h
 ·injection h with h;subst h;intro t ht r hr;rcases Uq.1 ht with ht|ht
  ·exact hk t ht r hr
  rw [Uo]at ht;subst ht;cases hr
 split at h
 ·rename_i h2;injection h with h;subst h;simp only [Ug,Bool.not_eq_true']at h2;obtain ⟨⟨h3,h4⟩,h5⟩:=h2;have hne:acc≠[]:=fun e=>by rw [e]at h3;simp at h3
  have e1:=List.dropLast_concat_getLast hne;obtain ⟨-,hs,hsp⟩:=AY h5;intro t ht r hr;rw [<-e1,qR]at ht;rcases Uq.1 ht with ht|ht
  ·exact hk t (by rw [<-e1];exact List.mem_append_left _ ht) r hr
  rw [Uo]at ht;subst ht;rcases Uq.1 hr with hr|hr
  ·exact hk (acc.getLast hne) (List.getLast_mem hne) r hr
  rw [Uo]at hr;subst hr;refine ⟨(lq hsp).2,fun e he=>?_⟩;exact (O9 (s:=Dq l) _ true ⟨0,false,[]⟩ (Ui _) (fun e he=>by cases he) e he).light hs
 cases h
theorem x8:∀ (rs:List Rl),rs.length*4<=(dP rs).size/\∀ r∈rs,r.name.size+4<=(dP rs).size
 | []=>⟨by simp,fun r hr=>by cases hr⟩
 | r::rs=>by
  obtain ⟨h1,h2⟩:=x8 rs;have e1:(⟨#[32,61,32]⟩:ByteArray).size=3:=rfl;have e2:(⟨#[10]⟩:ByteArray).size=1:=rfl;have h3:(dP (r::rs)).size=r.name.size+3+(gQ r.expr).size+1+(dP rs).size:=by simp only [dP,Gv,Uv,e1,e2]
  refine ⟨by rw [h3,List.length_cons];omega,fun q hq=>?_⟩;rcases List.mem_cons.1 hq with rfl|hq
  ·omega
  have:=h2 q hq;omega
theorem AZ:∀ (T:List Ty),T.length*6<=(dA T).size/\∀ t∈T,t.name.size+6+(dP t.rels).size<=(dA T).size
 | []=>⟨by simp,fun r hr=>by cases hr⟩
 | t::ts=>by
  obtain ⟨h1,h2⟩:=AZ ts;have h3:(dA (t::ts)).size=t.name.size+6+(dP t.rels).size+(dA ts).size:=by simp only [dA,Uv,xY]
  refine ⟨by rw [h3,List.length_cons];omega,fun q hq=>?_⟩;rcases List.mem_cons.1 hq with rfl|hq
  ·omega
  have:=h2 q hq;omega
theorem rows_ok {rs:List TR}(hk:RY (ae rs))(hz:(dA (ae rs)).size<=3000):rs.length<=500/\(∀ r∈rs,r.rows.length<=750/\r.name.size<=3000/\∀ q∈r.rows,q.name.size<=3000)/\(∀ r∈rs,r.light)/\∀ r∈rs,r.fits:=by
 obtain ⟨h1,h2⟩:=AZ (ae rs);rw [kY]at h1;have key:∀ r∈rs,r.rows.length<=750/\r.name.size<=3000/\∀ q∈r.rows,q.name.size<=3000:=fun r hr=>by
  have h3:=h2 r.p (Ur.2 ⟨r,hr,rfl⟩);obtain ⟨h4,h5⟩:=x8 (eF r.rows);rw [rq]at h4;have h6:r.name.size+6+(dP (eF r.rows)).size<=(dA (ae rs)).size:=h3;refine ⟨by omega,by omega,fun q hq=>?_⟩;have:=h5 q.p (Ur.2 ⟨q,hq,rfl⟩);have h7:q.name.size+4<=(dP (eF r.rows)).size:=this;omega
 have kex:∀ r∈rs,∀ q∈r.rows,q.rows.length<=15/\∀ x∈q.rows,x.e.light/\x.e.fits:=fun r hr q hq=>by
  have:=hk r.p (Ur.2 ⟨r,hr,rfl⟩) q.p (Ur.2 ⟨q,hq,rfl⟩);exact ⟨by rw [<-aN];exact this.1,fun x hx=>this.2 x.e (Ur.2 ⟨x,hx,rfl⟩)⟩
 refine ⟨by omega,key,fun r hr=>⟨by have:=(key r hr).1;omega,fun q hq=>⟨by have:=(kex r hr q hq).1;omega,fun x hx=>((kex r hr q hq).2 x hx).1⟩⟩,fun r hr=>⟨by have:=(key r hr).2.1;unfold maxLen;omega,by have:=(key r hr).1;unfold maxLen;omega,fun q hq=>⟨by have:=(key r hr).2.2 q hq;unfold maxLen;omega,by have:=(kex r hr q hq).1;unfold maxLen;omega,fun x hx=>((kex r hr q hq).2 x hx).2⟩⟩⟩
set_option linter.unusedVariables false
structure KpO (b l:Nat)(W W':World):Prop where
 size:W.heap.size<=W'.heap.size
 cells:∀ (g:Nat) (cs:Array Value) (T:TypeId) (m:Nat×Nat),W.heap[g]?=some (.cells cs T m)->T≠29->T≠40->W'.heap[g]?=some (.cells cs T m)
 other:∀ (g:Nat) (o:Obj),W.heap[g]?=some o->o.isCells=false->g≠l->g≠b->W'.heap[g]?=some o
structure KpI (W W':World):Prop where
 size:W.heap.size<=W'.heap.size
 cells:∀ (g:Nat) (cs:Array Value) (T:TypeId) (m:Nat×Nat),W.heap[g]?=some (.cells cs T m)->T=27\/T=147->W'.heap[g]?=some (.cells cs T m)
theorem KpO.trans {b l:Nat}{X Y Z:af}(h:KpO b l X Y)(k:KpO b l Y Z):KpO b l X Z :=
 ⟨Uk h.size k.size,fun g cs T m hg h1 h2=>k.cells g cs T m (h.cells g cs T m hg h1 h2) h1 h2,fun g o hg hc h1 h2=>k.other g o (h.other g o hg hc h1 h2) hc h1 h2⟩
theorem KpI.trans {X Y Z:af}(h:KpI X Y)(k:KpI Y Z):KpI X Z :=
 ⟨Uk h.size k.size,fun g cs T m hg h1=>k.cells g cs T m (h.cells g cs T m hg h1) h1⟩
theorem ow {W:af}{l g:Nat}{o':Obj}(h:g≠l):(W.putObj l o').heap[g]?=W.heap[g]?:=World.putObj_heap_other h
theorem KpO.put {b l:Nat}{W:af}{o o':Obj}(h:W.heap[l]?=some o)(hc:o.isCells=false):KpO b l W (W.putObj l o') where
 size:=by simp
 cells g cs T m hg _ _:=by
  have:g≠l:=fun e=>by subst e;rw [h]at hg;injection hg with hg;subst hg;cases hc
  rw [ow this];exact hg
 other g x hg _ h1 _:=by rw [ow h1];exact hg
theorem KpI.put {l:Nat}{W:af}{o o':Obj}(h:W.heap[l]?=some o)(hc:o.isCells=false):KpI W (W.putObj l o') where
 size:=by simp
 cells g cs T m hg _:=by
  have:g≠l:=fun e=>by subst e;rw [h]at hg;injection hg with hg;subst hg;cases hc
  rw [ow this];exact hg
theorem KpO.below {b l:Nat}{W W':af}(h:ag W W'):KpO b l W W' :=
 ⟨h.size,fun g cs T m hg _ _=>(h.block g (Array.getElem?_eq_some_iff.1 hg).1).trans hg,fun g o hg _ _ _=>(h.block g (Array.getElem?_eq_some_iff.1 hg).1).trans hg⟩
theorem KpI.below {W W':af}(h:ag W W'):KpI W W' :=
 ⟨h.size,fun g cs T m hg _=>(h.block g (Array.getElem?_eq_some_iff.1 hg).1).trans hg⟩
theorem KpO.toI {b l:Nat}{W W':af}(h:KpO b l W W'):KpI W W' :=
 ⟨h.size,fun g cs T m hg hT=>h.cells g cs T m hg (by rcases hT with e|e <;> (rw [e];decide)) (by rcases hT with e|e <;> (rw [e];decide))⟩
theorem A7 {W W':af}(h:ag W W'):W.grownBy W' none:=⟨h.os,h.tape,h.output,h.size,fun k hk _=>h.block k hk⟩
theorem mZ {β:Type}{B:Nat}{I:β->World->Prop}(h:OwnFrom B I){s:β}{W W':af}(hs:I s W)(hb:ag W W'):I s W':=h s W W' none hs (A7 hb) (fun r e=>by cases e)
open Go.Maps
def aI (fs:List Fc):List Value:=fs.flatMap Fc.row
theorem lG:∀ fs:List Fc,(aI fs).length=fs.length*5
 | []=>rfl
 | f::fs=>by have:=lG fs;simp only [aI,List.flatMap_cons,Ul,List.length_cons,Fc.row,List.length_nil]at this ⊢;omega
theorem A8 (fs:List Fc)(f:Fc):aI (fs++[f])=aI fs++f.row:=by simp [aI]
theorem qU:∀ (fs:List Fc) (i:Nat) (h:i<fs.length) (c:Nat),c<5->(aI fs)[i*5+c]?=fs[i].row[c]?
 | [],i,h,_,_=>by simp at h
 | f::fs,0,_,c,hc=>by
  simp only [aI,List.flatMap_cons,Nat.zero_mul,Uz,List.getElem_cons_zero];rw [List.getElem?_append_left (by simp [Fc.row];omega)]
 | f::fs,i+1,h,c,hc=>by
  have ih:=qU fs i (by simpa using h) c hc;simp only [aI,List.flatMap_cons,List.getElem_cons_succ]at ih ⊢;rw [List.getElem?_append_right (by simp [Fc.row];omega)];have:(i+1)*5+c-f.row.length=i*5+c:=by simp [Fc.row];omega
  rw [this];exact ih
theorem ni {w:af}{base:Nat}{v:Value}{fs:List Fc}(h:w.ownsRow base 29 5 v fs.length (aI fs)):∃ ad cap,v=.slice ad fs.length cap/\BA w ad fs:=by
 rcases h.2 with ⟨rfl,h0⟩|⟨g,cap,cur,rfl,hbg,hg,hnc,-⟩
 ·exact ⟨none,0,by rw [h0],.inl (Uu.1 h0)⟩
 refine ⟨_,cap,rfl,.inr ⟨g,0,rfl,(h.lt g rfl).2,fun i hi=>?_⟩⟩;have hl:=lG fs;have hc:∀ c,c<5->w.cell? ⟨g,0+i*5+c,none⟩=fs[i].row[c]?:=fun c hc=>by
  rw [h.cellAt (0+i*5+c) (by omega),Uz];exact qU fs i hi c hc
 exact ⟨hc 0 (by omega),hc 1 (by omega),hc 2 (by omega),hc 3 (by omega),hc 4 (by omega)⟩
theorem EH:∃ i,prog.info? 29=some i/\i.zero=some (.agg #[.string ⟨#[]⟩,.string ⟨#[]⟩,.string ⟨#[]⟩,.string ⟨#[]⟩,.string ⟨#[]⟩])/\i.size=5/\i.bytes=80 :=
 info_parts (P:=prog) (e:=29) (z:=.agg #[.string ⟨#[]⟩,.string ⟨#[]⟩,.string ⟨#[]⟩,.string ⟨#[]⟩,.string ⟨#[]⟩]) (size:=5) (bytes:=80) (by kernel_rfl)
theorem Kz (w:af)(f:Fc):∀ j u,f.row[j]?=some u->(w.alloc (.cells #[.string f.a,.string f.b,.string f.r,.string f.c,.string f.d] 29)).cell? ((⟨w.heap.size,0,none⟩:Addr).add j)=some u:=fun j u hu=>by
 match j,hu with
 | 0,hu=>simp [Fc.row]at hu;subst hu;simp [Addr.add]
 | 1,hu=>simp [Fc.row]at hu;subst hu;simp [Addr.add]
 | 2,hu=>simp [Fc.row]at hu;subst hu;simp [Addr.add]
 | 3,hu=>simp [Fc.row]at hu;subst hu;simp [Addr.add]
 | 4,hu=>simp [Fc.row]at hu;subst hu;simp [Addr.add]
structure OutI (w W wr:World)(v:Value)(out:List Fc):Prop where
 row:wr.ownsRow w.heap.size 29 5 v out.length (aI out)
 keep:∀ g o x,W.cell? ⟨g,o,none⟩=some x->wr.cell? ⟨g,o,none⟩=some x
 size:W.heap.size<=wr.heap.size
 bel:ag w wr
 free:∀ g,v.ownBlock=some g->∀ o,W.cell? ⟨g,o,none⟩=none
theorem aG {w:af}{g o:Nat}{x:Value}(h:w.cell? ⟨g,o,none⟩=some x):g<w.heap.size:=by
 unfold World.cell? at h;cases ho:w.heap[g]? with
 | none=>simp [ho]at h
 | some o=>exact (Array.getElem?_eq_some_iff.1 ho).1
theorem QS {w:af}{g o:Nat}(h:w.heap.size<=g):w.cell? ⟨g,o,none⟩=none:=by
 cases e:w.cell? ⟨g,o,none⟩ with
 | none=>rfl
 | some x=>have:=aG e;omega
theorem OutI.below {w W wr w':af}{v:Value}{out:List Fc}(h:OutI w W wr v out)(hb:ag wr w'):OutI w W w' v out where
 row:=df h.row hb
 keep g o x hx:=(hb.cell (p:=⟨g,o,none⟩) (aG (h.keep g o x hx))).trans (h.keep g o x hx)
 size:=Uk h.size hb.size
 bel:=h.bel.trans (hb.mono h.bel.size)
 free:=h.free
theorem OutI.app {w W wr w':af}{v v':Value}{out:List Fc}{f:Fc}(h:OutI w W wr v out)(hown:w'.ownsRow w.heap.size 29 5 v' (out.length+1) (aI out++f.row))(hgr:wr.grownBy w' v.ownBlock)(hat:v'.ownBlock=v.ownBlock\/v'.ownBlock=some wr.heap.size):OutI w W w' v' (out++[f]) where
 row:=by rw [A8,Ul];exact hown
 keep g o x hx:=by
  have h1:=h.keep g o x hx;refine (Uy (w:=wr) (a:=⟨g,o,none⟩) (hgr.block g (aG h1) fun e=>?_)).trans h1;rw [h.free g e.symm o]at hx;cases hx
 size:=Uk h.size hgr.size
 bel:=h.bel.grown hgr h.bel.size (fun g hg=>(h.row.lt g hg).1)
 free g hg o:=by
  rcases hat with e|e
  ·rw [e]at hg;exact h.free g hg o
  rw [hg]at e;injection e with e;rw [e];exact QS h.size
theorem jM.keepC {w w':af}{ad:Option Addr}{xs:List Al}(h:jM w ad xs)(hs:w.heap.size<=w'.heap.size)(hk:∀ g o x,w.cell? ⟨g,o,none⟩=some x->w'.cell? ⟨g,o,none⟩=some x):jM w' ad xs:=by
 rcases h with h|⟨b,off,e,hb,hr⟩
 ·exact .inl h
 exact .inr ⟨b,off,e,Uc hb hs,fun i hi=>⟨hk _ _ _ (hr i hi).1,hk _ _ _ (hr i hi).2⟩⟩
theorem IA.keepC {w w':af}{ad:Option Addr}{xs:List St}(h:IA w ad xs)(hs:w.heap.size<=w'.heap.size)(hk:∀ g o x,w.cell? ⟨g,o,none⟩=some x->w'.cell? ⟨g,o,none⟩=some x):IA w' ad xs:=by
 rcases h with h|⟨b,off,e,hb,hr⟩
 ·exact .inl h
 exact .inr ⟨b,off,e,Uc hb hs,fun i hi=>⟨hk _ _ _ (hr i hi).1,hk _ _ _ (hr i hi).2.1,hk _ _ _ (hr i hi).2.2⟩⟩
theorem IA.at0 {w:af}{ad:Option Addr}{xs:List St}(h:IA w ad xs){k:Nat}(hk:k<xs.length):∃ b off,ad=some ⟨b,off,none⟩/\Tt w b (off+k*3) xs[k]/\b<w.heap.size:=by
 rcases h with h|⟨b',off',e,hb,hr⟩
 ·rw [h]at hk;simp at hk
 exact ⟨b',off',e,hr k hk,hb⟩
def SG:Value->Nat
 | .slice _ n _=>n
 | _=>0
def TV:Value->Nat
 | .bool true=>1
 | _=>0
end Go.Proofs.YtajkkeikihhejaaGreat
