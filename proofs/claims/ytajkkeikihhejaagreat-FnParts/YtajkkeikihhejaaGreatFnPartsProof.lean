/- Proved here: FnParts answers true for every slice of bytes and leaves it as it was, with no condition on it. -/
import Derived.Test.YtajkkeikihhejaaGreatSq
import Derived.Test.YtajkkeikihhejaaGreatJ40
import Derived.Test.YtajkkeikihhejaaGreatJ41
import Derived.OpenShut
import Derived.ShutString
import Derived.HandedShaped
open Go.Proofs.Tryz
set_option maxHeartbeats 80000000
namespace Go.Proofs.YtajkkeikihhejaaGreat.fnParts
open Go.Sort
open Go.ChangeShapes Go.WideShapes Go.ChangeAt Go.RowKit
open Pl
set_option linter.unusedVariables false
structure St (w:World)(Vz:Option Addr)(g n:Nat)(rs:List TR)(ts:List Tp)(f:Fc)(W:World):Prop where
 bel:ag w W
 sl:kX W Vz rs
 tu:Sl W (some ⟨g,0,none⟩) ts
 lt:n<W.heap.size
 bx:W.cell? ⟨n,0,none⟩=some (.string f.a)/\W.cell? ⟨n,1,none⟩=some (.string f.b)/\W.cell? ⟨n,2,none⟩=some (.string f.r)/\W.cell? ⟨n,3,none⟩=some (.string f.c)/\W.cell? ⟨n,4,none⟩=some (.string f.d)
theorem St.later {w W W':af}{Vz:Option Addr}{g n:Nat}{rs:List TR}{ts:List Tp}{f:Fc}(h:St w Vz g n rs ts f W)(hb:ag W W'):St w Vz g n rs ts f W' :=
 ⟨h.bel.trans (hb.mono h.bel.size),h.sl.below hb,h.tu.below hb,Uc h.lt hb.size,by
  obtain ⟨c0,c1,c2,c3,c4⟩:=h.bx;have hk:=fun o=>hb.cell (p:=⟨n,o,none⟩) h.lt;exact ⟨(hk _).trans c0,(hk _).trans c1,(hk _).trans c2,(hk _).trans c3,(hk _).trans c4⟩⟩
structure Nb (W:World)(n:Nat)(x:ER):Prop where
 lt:n<W.heap.size
 bx:W.cell? ⟨n,0,none⟩=some (.int .i64 x.e.kind)/\W.cell? ⟨n,1,none⟩=some (.slice x.adA x.e.allow.length x.capA)/\W.cell? ⟨n,2,none⟩=some (.string x.e.over)/\W.cell? ⟨n,3,none⟩=some (.string x.e.name)/\W.cell? ⟨n,4,none⟩=some (.slice x.adK x.e.kids.length x.capK)
theorem Nb.later {W W':af}{n:Nat}{x:ER}(h:Nb W n x)(hb:ag W W'):Nb W' n x :=
 ⟨Uc h.lt hb.size,by
  obtain ⟨c0,c1,c2,c3,c4⟩:=h.bx;have hk:=fun o=>hb.cell (p:=⟨n,o,none⟩) h.lt;exact ⟨(hk _).trans c0,(hk _).trans c1,(hk _).trans c2,(hk _).trans c3,(hk _).trans c4⟩⟩
theorem Nb.new (w:af)(x:ER):Nb (w.alloc (.cells #[.int .i64 x.e.kind,.slice x.adA x.e.allow.length x.capA,.string x.e.over,.string x.e.name,.slice x.adK x.e.kids.length x.capK] 39)) w.heap.size x:=by
 refine ⟨by simp,?_,?_,?_,?_,?_⟩ <;> simp
theorem Qj [DecidableEq Fc]{st:ByteArray×ByteArray->Int}{rs:List TR}{ts:List Tp}(h:(iB st rs ts).length≠0):aV (gW rs) rs ts=true:=by
 cases hr:aV (gW rs) rs ts;case true=>rfl
 rw [Bw,jq hr]at h;exact absurd rfl h
theorem DT {rs:List TR}(hl:∀ r∈rs,r.light)(ty n:bI):(si (ae rs) ty n).length<=15/\(1<=(si (ae rs) ty n).length->aK (si (ae rs) ty n)=true/\aB (ae rs) ty n=si (ae rs) ty n):=by
 unfold si;cases hd:aL (ae rs);case false=>simp
 simp only [if_true];unfold aB;cases e:fH (ae rs) ty n with
 | none=>simp
 | some es =>
  obtain ⟨t,ht,q,hq,-,-,rfl⟩:=og e;obtain ⟨h1,h2,h3⟩:=(bu (aZ.1 hd).1).2.2 t ht q hq;simp only [Option.getD_some];exact ⟨by rw [aN];exact h2,fun _=>⟨h1,trivial⟩⟩
set_option maxRecDepth 100000 in
theorem walk [DecidableEq Fc](ad:Option Addr)(len cap:Nat)(w:af)(h:Bytes w ad len) :
    Calls prog 4 #[.slice ad len cap] w fun e w'=>e=.returned (.bool true)/\ag w w':=by
  have H:=dw h;clear h;go_enter func4,ntmps4;go_wp2_with fail;refine (Qy ad len cap w).mono ?_;rintro e w0 ⟨rfl,rfl⟩;by_cases hbig:(1048576:Int)<(len:Int)
  · go_wp2;go_ret;exact ⟨rfl,Uf _ _⟩
  go_wp2_with fail;refine (Ca ad len cap _ H.out).mono ?_;rintro e w1 ⟨v,rs,g,c,ts,f,rfl,hT,⟨hG1,hG2,hG3⟩,ZA,hsh,hff,hown,hb1⟩;obtain ⟨Vz,Vn,rfl,hs1,hcp⟩:=hT.read;obtain ⟨hrow,hg,-,-⟩:=nz hown rfl;obtain ⟨W1,hW1⟩:∃ W1,W1=w1.alloc (.cells #[.string f.a,.string f.b,.string f.r,.string f.c,.string f.d] 29):=⟨_,rfl⟩;have WA:ag w1 W1:=by rw [hW1];exact (Uf _ _).alloc (Ue _) _
  have K1:Hid (St w0 Vz g w1.heap.size rs ts f W1):=by
    refine ⟨hb1.trans (WA.mono hb1.size),hs1.below WA,Sl.below (.inr ⟨g,0,rfl,hg,hrow⟩) WA,by rw [hW1];simp,?_⟩;refine ⟨?_,?_,?_,?_,?_⟩ <;> (rw [hW1];simp)
  have hlen:rs.length<=1048576:=by omega
  have hlt:ts.length<=1048576:=by omega
  obtain ⟨st,hst0⟩:=R4 (ae rs);have Vs:=dw hst0;have HL:=dw hG2;have HF:=dw hG3;have HC:=dw hcp;have UY:=dw hsh.fits;have HFF:=dw hff;have m1:f.a.size<=maxLen:=hff.1;have m3:f.r.size<=maxLen:=hff.2.2.1;clear hT hG2 hG3 hcp hb1 hs1 hbig hown hsh hff hrow hg WA H hst0;obtain ⟨x0,x1,x2,x3,x4⟩:=K1.out.bx;go_wp2_with fail;rw [<-hW1];clear hW1;refine (jZ st Vz Vn rs _ c ts f _ hlen K1.out.sl HL.out HF.out HC.out hlt K1.out.tu UY.out Vs.out).mono ?_;rintro e w2 ⟨rfl,hb2⟩;have K2:=dw (K1.out.later hb2);clear hb2 K1 x0 x1 x2 x3 x4;obtain ⟨x0,x1,x2,x3,x4⟩:=K2.out.bx;go_wp2_with fail;refine (Cb Vz Vn rs f.a f.r _ hlen K2.out.sl HL.out HF.out HC.out m1 m3).mono ?_;rintro e w3 ⟨UO,capE,qs,rfl,hqe,hqs,-,hb3⟩;have K3:=dw (K2.out.later hb3);have HE:=dw hqs;have HQ:=dw hqe;have Yu:qs.length<=15:=by have:=(DT HL.out f.a f.r).1;rw [<-hqe,aN]at this;exact this
  have HTH:Hid ((!(si (ae rs) f.a f.r).isEmpty)=!qs.isEmpty):=by show _=_;rw [<-hqe];cases qs <;> rfl
  rw [HTH.out];clear hb3 K2 x0 x1 x2 x3 x4 hqs hqe HTH;obtain ⟨x0,x1,x2,x3,x4⟩:=K3.out.bx;obtain ⟨q,hq⟩:∃ q,bn (ax st rs ts) f=q:=⟨_,rfl⟩;have HIS:=dw hq;rw [hq];clear hq;go_wp2_with fail;refine (sO st Vz Vn rs _ c ts f _ hlen K3.out.sl HL.out HF.out hlt K3.out.tu UY.out Vs.out).mono ?_;rintro e w4 ⟨rfl,hb4⟩;rw [HIS.out];have K4:=dw (K3.out.later hb4);have HE4:=dw (HE.out.below hb4);clear hb4 K3 HE x0 x1 x2 x3 x4;have hqn:(q != q)=false:=by simp
  have hqq:(q==q)=true:=by simp
  cases hie:qs.isEmpty
  case' true =>
    have hi2:(!true)=false:=rfl;have KE:=K4
  case' false =>
    have hi2:(!false)=true:=rfl;by_cases h3:qs.length<3
    case' pos =>
      have hd1:decide ((qs.length:Int)<3)=true:=by simp;omega
      have hd2:decide (qs.length<3)=true:=by simp;omega
      have KE:=K4
    case' neg =>
      have hd1:decide ((qs.length:Int)<3)=false:=by simp;omega
      have hd2:decide (qs.length<3)=false:=by simp;omega
      go_wp2_with fail;refine (sN st Vz Vn rs _ c ts _ hlen K4.out.sl HL.out HF.out HC.out hlt K4.out.tu UY.out Vs.out).mono ?_;rintro e w5 hP;obtain ⟨⟨v,rfl,hof⟩,hb5⟩:=BX hP;obtain ⟨Yj,VI,rfl,-⟩:=ni hof;have K5:=dw (K4.out.later hb5);have HE5:=dw (HE4.out.below hb5);clear hb5 hP hof K4 HE4;obtain ⟨m,hm⟩:∃ m,(iB st rs ts).length=m:=⟨_,rfl⟩;rw [hm];by_cases hm0:m=0
      case' pos =>
        subst hm0;have KE:=K5
      case' neg =>
        have HRT:=dw (Qj (st:=st) (rs:=rs) (ts:=ts) (by rw [hm];exact hm0));have hm1:((m:Int)==0)=false:=by simpa using hm0
        have hm2:¬ (m:Int)=0:=by omega
        obtain ⟨n,hn⟩:∃ n,qs.length=n+1:=⟨qs.length-1,by omega⟩;have h2n:2<=n:=by omega
        obtain ⟨hsE,hrO⟩:=(DT HL.out f.a f.r).2 (by rw [<-HQ.out,aN];omega);rw [<-HQ.out]at hsE hrO;have Wo:=dw (EW hsE).1;obtain ⟨bE,oE,rfl,⟨t0,t1,t2,t3,t4⟩,hbE,hxo⟩:=iC.at0 HE5.out (show n<qs.length by omega);obtain ⟨x,hx⟩:∃ x,x=qs[n]'(by omega):=⟨_,rfl⟩;have HXK:Hid (∀ i∈x.e.kids,0<=i/\i<(n:Int)):=fun i hi=>Wo.out.kid (by omega) (by rw [hx]at hi;exact hi);have HKI:=dw hxo.2;rw [<-hx]at t0 t1 t2 t3 t4 HKI;have hxe:(aj qs)[(aj qs).length-1]?=some x.e:=by rw [aN,hn];simp [aj,hx,Uj (show n<qs.length by omega)]
        obtain ⟨b,hb1,hb2,hb3⟩:=Nh Vs.out HRT.out f hrO hsE (by rw [aN];omega) hxe;have HP1:=dw hb1;have UW:=dw hb2;have HP3:=dw hb3;have hn1:=bF n;have hn2:(n:Int)<(qs.length:Int):=by omega
        have hsub:(qs.length:Int)-1=(n:Int):=by omega
        have hwr:IntKind.i64.wrap (n:Int)=(n:Int):=by rw [IntKind.wrap_i64] <;> omega
        have hkl:x.e.kids.length<=1000:=Wo.out.kids x (by rw [hx];exact Ud _);obtain ⟨W6,Yg⟩:∃ W6,W6=w5.alloc (.cells #[.int .i64 x.e.kind,.slice x.adA x.e.allow.length x.capA,.string x.e.over,.string x.e.name,.slice x.adK x.e.kids.length x.capK] 39):=⟨_,rfl⟩;have WA:ag w5 W6:=by rw [Yg];exact (Uf _ _).alloc (Ue _) _
        have HX6:Hid (Nb W6 w5.heap.size x):=by show Nb _ _ _;rw [Yg];exact Nb.new w5 x
        have K6:=dw (K5.out.later WA);have HE6:=dw (HE5.out.below WA);have HK6:=dw (HKI.out.below WA);obtain ⟨n9,hn9⟩:∃ n9,n9=w5.heap.size:=⟨_,rfl⟩;clear hsE hrO hx hn hxe hb1 hb2 hb3 hxo WA K5 HE5 HKI;go_wp2_with fail;rw [<-Yg];rw [<-hn9]at HX6 ⊢;clear Yg hn9 t0 t1 t2 t3 t4;go_loopw [10,11,12,13] (fun va vy vf vi wr=>∃ k:Nat,k<=x.e.kids.length/\vi=.int .i64 k/\va=.bool ((List.range k).all b)/\vy=.bool ((List.range k).any b)/\vf=.bool (decide (0<k)&&b 0)/\Hid (∀ j,j<k->mH ts (ax st rs ts) f (aj qs) x.e.kids j=some (b j))/\Hid (ag W6 wr)) (fun _ _ _ i _=>x.e.kids.length-(intOf i).toNat);case atStart=>exact ⟨0,Ui _,rfl,rfl,rfl,rfl,fun j h=>absurd h (UI _),Uf _ _⟩
        obtain ⟨k,hk,rfl,rfl,rfl,rfl,HS,HB⟩:=hrel;have hk1:=bF k;have KR:=dw (K6.out.later HB.out);have XB:=dw (HX6.out.later HB.out);have ZA:=XB.out.lt;obtain ⟨y0,y1,y2,y3,y4⟩:=XB.out.bx;obtain ⟨x0,x1,x2,x3,x4⟩:=KR.out.bx;have xl:=KR.out.lt;by_cases hlk:k<x.e.kids.length
        · have hk2:(k:Int)<(x.e.kids.length:Int):=by omega
          obtain ⟨bK,Xv,Vi,z0,ZN⟩:=p8.at0 (HK6.out.below HB.out) hlk;obtain ⟨m,hmm⟩:∃ m:Nat,x.e.kids[k]=(m:Int):=⟨x.e.kids[k].toNat,by have:=(HXK.out _ (Ud hlk)).1;omega⟩;have hmn:m<qs.length:=by have:=(HXK.out _ (Ud hlk)).2;omega
          obtain ⟨bE2,oE2,WO,⟨t0,t1,t2,t3,t4⟩,hbE2,-⟩:=iC.at0 (HE6.out.below HB.out) hmn;injection WO with WO;injection WO with e1 e2 e3;subst e1 e2;obtain ⟨z,hz⟩:∃ z,z=qs[m]:=⟨_,rfl⟩;have HSV:Hid (∀ v,oL ts (ax st rs ts) f z.e=some v->mH ts (ax st rs ts) f (aj qs) x.e.kids k=some (b k)/\b k=v):=fun v hv=>HP1.out k (m:Int) z.e v (by rw [Uj hlk,hmm]) (by simp [aj,hz,Uj hmn]) hv;rw [<-hz]at t0 t1 t2 t3 t4;rw [hmm]at z0;rw [Vi]at y4;have XE:=bF m;have YJ:(m:Int)<(qs.length:Int):=by omega
          obtain ⟨W7,WR⟩:∃ W7,W7=wr.alloc (.cells #[.int .i64 z.e.kind,.slice z.adA z.e.allow.length z.capA,.string z.e.over,.string z.e.name,.slice z.adK z.e.kids.length z.capK] 39):=⟨_,rfl⟩;have WA:ag wr W7:=by rw [WR];exact (Uf _ _).alloc (Ue _) _
          have HZ7:Hid (Nb W7 wr.heap.size z):=by show Nb _ _ _;rw [WR];exact Nb.new wr z
          have YL:=dw (HB.out.trans (WA.mono HB.out.size));have K7:=dw (KR.out.later WA);have HX7:=dw (XB.out.later WA);obtain ⟨n14,ZW⟩:∃ n14,n14=wr.heap.size:=⟨_,rfl⟩;clear Vi hz hmm WA KR XB HB;by_cases k2:z.e.kind=2
          case' pos =>
            have q2:(z.e.kind==2)=true:=by rw [k2];rfl
            replace k2:=dw k2;go_wp2_with fail;rw [<-WR];clear WR ZW t0 t1 t2 t3 t4 y0 y1 y2 y3 y4 x0 x1 x2 x3 x4 xl ZA z0;refine (jZ st Vz Vn rs _ c ts ⟨f.a,f.b,z.e.name,f.c,f.d⟩ W7 hlen K7.out.sl HL.out HF.out HC.out hlt K7.out.tu UY.out Vs.out).mono ?_;rintro e w8 ⟨rfl,hb8⟩;have K8:=dw (K7.out.later hb8);have HB8:=dw (YL.out.trans (hb8.mono YL.out.size));have HX8:=dw (HX7.out.later hb8);obtain ⟨v,hv⟩:∃ v,bn (ax st rs ts) ⟨f.a,f.b,z.e.name,f.c,f.d⟩=v:=⟨_,rfl⟩;have HV:=dw (HSV.out v (by unfold oL;rw [if_neg (by rw [k2.out];decide),if_pos k2.out,hv]));rw [hv];clear hv hb8 K7 YL HX7 HZ7 HSV
          case' neg =>
            have q2:(z.e.kind==2)=false:=by simpa using k2
            by_cases k3:z.e.kind=3
            case' pos =>
              have q3:(z.e.kind==3)=true:=by rw [k3];rfl
              replace k3:=dw k3;go_wp2_with fail;rw [<-WR];rw [<-ZW]at HZ7 ⊢;clear WR ZW t0 t1 t2 t3 t4 y0 y1 y2 y3 y4 x0 x1 x2 x3 x4 xl ZA z0;go_loopw [15,16] (fun vo vj wq=>∃ j:Nat,j<=ts.length/\vj=.int .i64 j/\vo=.bool ((ts.take j).any (mW (ax st rs ts) z.e.over z.e.name f))/\Hid (ag W7 wq)) (fun _ j _=>ts.length-(intOf j).toNat);case atStart=>exact ⟨0,Ui _,rfl,rfl,Uf _ _⟩
              case' round =>
                obtain ⟨j,hj,rfl,rfl,V7⟩:=hrel;have hj1:=bF j;by_cases hlj:j<ts.length;case pos =>
                 as_aux_lemma =>
                  have hj2:(j:Int)<(ts.length:Int):=by omega
                  obtain ⟨bT,oT,Vk,⟨a0,a1,a2,-,-,-⟩,hbT⟩:=Sl.at0 (K7.out.later V7.out).tu hlj;injection Vk with Vk;injection Vk with e1 e2 e3;subst e1 e2;simp only [Uz]at a0 a1 a2;obtain ⟨x0,x1,x2,-,-⟩:=(K7.out.later V7.out).bx;obtain ⟨-,-,c2,-,-⟩:=(HZ7.out.later V7.out).bx;replace a0:=cell_regrown a0;replace a1:=cell_regrown a1;replace a2:=cell_regrown a2;replace x0:=cell_regrown x0;replace x1:=cell_regrown x1;replace x2:=cell_regrown x2;replace c2:=cell_regrown c2;have HD:=dw (Ht (p:=mW (ax st rs ts) z.e.over z.e.name f) hlj);obtain ⟨A,hA⟩:∃ A,(ts.take j).any (mW (ax st rs ts) z.e.over z.e.name f)=A:=⟨_,rfl⟩;rw [hA]at HD ⊢;clear hA;obtain ⟨o,ho⟩:∃ o,uk ts[j].a ts[j].b f.a f.b=o:=⟨_,rfl⟩;obtain ⟨r,hr⟩:∃ r,(ts[j].r.toList==z.e.over.toList)=r:=⟨_,rfl⟩;have hoe:=iq _ _ _ _ ho;have hcs:(o&&r)=false\/(o=true/\r=true):=by cases o <;> cases r <;> simp
                  rcases hcs with hor|⟨rfl,rfl⟩
                  · have HR:Hid ((ts.take (j+1)).any (mW (ax st rs ts) z.e.over z.e.name f)=A):=by
                      show _=_;rw [HD.out];unfold uk at ho;unfold mW;rw [ho,hr,hor];simp
                    clear HD;go_wp2_with fail;cases o <;> cases r <;> first|(cases hor;done)|skip
                    all_goals
                      refine wp_region_quiet_below (by kernel_rfl) (by kernel_rfl) ?_
                      repeat (go_big_quiet_step (fail))
                      refine wpQuiet_nil ?_;rintro _ ⟨⟨dq,osq⟩,rfl⟩;have HB2:=dw (V7.out.trans ((below_regrown _ dq osq).mono V7.out.size));clear a0 a1 a2 x0 x1 x2 c2;go_wp2;go_roundw;case rel=>exact ⟨j+1,by omega,by go_num,by rw [HR.out],HB2⟩
                      simp [intOf] <;> omega
                  · go_wp2_with fail;refine wp_region_quiet_below (by kernel_rfl) (by kernel_rfl) ?_
                    repeat (go_big_quiet_step (fail))
                    refine wpQuiet_nil ?_;rintro _ ⟨⟨dq,osq⟩,rfl⟩;obtain ⟨w2,hw2⟩:∃ w2,w2=grow (redrawn wr dq) osq:=⟨_,rfl⟩;have VZ:Hid (ag W7 w2):=by show Below _ _ _;rw [hw2];exact V7.out.trans ((below_regrown _ dq osq).mono V7.out.size)
                    rw [<-hw2];clear hw2 a0 a1 a2 x0 x1 x2 c2 V7;obtain ⟨_,_,Vk,⟨-,-,a2,a3,a4,a5⟩,-⟩:=Sl.at0 (K7.out.later VZ.out).tu hlj;injection Vk with Vk;injection Vk with e1 e2 e3;subst e1 e2;simp only [Uz]at a2 a3 a4 a5;obtain ⟨-,-,-,x3,x4⟩:=(K7.out.later VZ.out).bx;obtain ⟨-,-,-,c3,-⟩:=(HZ7.out.later VZ.out).bx;replace a2:=cell_regrown a2;replace a3:=cell_regrown a3;replace a4:=cell_regrown a4;replace a5:=cell_regrown a5;replace x3:=cell_regrown x3;replace x4:=cell_regrown x4;replace c3:=cell_regrown c3;obtain ⟨y,hy⟩:∃ y,bn (ax st rs ts) ⟨ts[j].c,ts[j].d,z.e.name,f.c,f.d⟩=y:=⟨_,rfl⟩;have Vo:Hid (∀ d os,Calls prog 11 #[.slice Vz rs.length Vn,.slice (some ⟨g,0,none⟩) ts.length c,.agg #[.string ts[j].c,.string ts[j].d,.string z.e.name,.string f.c,.string f.d]] (grow (redrawn w2 d) os) fun e w3=>e=.returned (.bool y)/\∃ p:Regrown,w3=grow (redrawn w2 p.d) p.os):=by
                      refine bP fun W' hb=>?_;have KR:=K7.out.later (VZ.out.trans (hb.mono VZ.out.size));refine (jZ st Vz Vn rs _ c ts ⟨ts[j].c,ts[j].d,z.e.name,f.c,f.d⟩ W' hlen KR.sl HL.out HF.out HC.out hlt KR.tu UY.out Vs.out).mono ?_;rintro e w' ⟨rfl,hb'⟩;exact ⟨by rw [hy],hb'⟩
                    have HR:Hid ((ts.take (j+1)).any (mW (ax st rs ts) z.e.over z.e.name f)=(A || y)):=by
                      show _=_;rw [HD.out];unfold uk at ho;unfold mW;rw [ho,hr,hy];simp
                    clear HD hy ho hr hoe;cases A
                    all_goals
                      go_wp2_with fail;refine wp_region_quiet_below (by kernel_rfl) (by kernel_rfl) ?_
                      repeat (go_big_quiet_step (exact Vo.out _ _))
                      refine wpQuiet_nil ?_;rintro _ ⟨⟨dq,osq⟩,rfl⟩;have HB2:=dw (VZ.out.trans ((below_regrown _ dq osq).mono VZ.out.size));clear a2 a3 a4 a5 x3 x4 c3 Vo;go_wp2;go_roundw;case rel=>exact ⟨j+1,by omega,by go_num,by rw [HR.out];simp,HB2⟩
                      simp [intOf] <;> omega
                case' neg =>
                  have hj2:¬ ((j:Int)<(ts.length:Int)):=by omega
                  obtain rfl:j=ts.length:=by omega
                  obtain ⟨w8,hw8⟩:∃ w8,w8=wr:=⟨_,rfl⟩;rw [<-hw8]at V7 ⊢;have K8:=dw (K7.out.later V7.out);have HB8:=dw (YL.out.trans (V7.out.mono YL.out.size));have HX8:=dw (HX7.out.later V7.out);obtain ⟨v,hv⟩:∃ v,(ts.take ts.length).any (mW (ax st rs ts) z.e.over z.e.name f)=v:=⟨_,rfl⟩;have HV:=dw (HSV.out v (by rw [Us]at hv;unfold oL;rw [if_neg (by rw [k3.out];decide),if_neg k2,if_pos k3.out];rw [<-hv];rfl));rw [hv];clear hv hw8 K7 YL HX7 HZ7 HSV V7
            case' neg =>
              have q3:(z.e.kind==3)=false:=by simpa using k3
              by_cases k1:z.e.kind=1;case neg =>
                have q1:(z.e.kind==1)=false:=by simpa using k1
                go_wp2;go_ret;exact ⟨rfl,WR ▸ K7.out.bel⟩
              case' pos =>
                have q1:(z.e.kind==1)=true:=by rw [k1];rfl
                replace k1:=dw k1;go_wp2_with fail;rw [<-WR];rw [<-ZW]at HZ7 ⊢;clear WR ZW t0 t1 t2 t3 t4 y0 y1 y2 y3 y4 x0 x1 x2 x3 x4 xl ZA z0;go_loopw [15,17] (fun vo vj wq=>∃ j:Nat,j<=ts.length/\vj=.int .i64 j/\vo=.bool ((ts.take j).any (mh (ax st rs ts) f))/\Hid (ag W7 wq)) (fun _ j _=>ts.length-(intOf j).toNat);case atStart=>exact ⟨0,Ui _,rfl,rfl,Uf _ _⟩
                case' round =>
                  obtain ⟨j,hj,rfl,rfl,V7⟩:=hrel;have hj1:=bF j;by_cases hlj:j<ts.length;case pos =>
                   as_aux_lemma =>
                    have hj2:(j:Int)<(ts.length:Int):=by omega
                    obtain ⟨bT,oT,Vk,⟨a0,a1,a2,-,-,-⟩,hbT⟩:=Sl.at0 (K7.out.later V7.out).tu hlj;injection Vk with Vk;injection Vk with e1 e2 e3;subst e1 e2;simp only [Uz]at a0 a1 a2;obtain ⟨x0,x1,x2,-,-⟩:=(K7.out.later V7.out).bx;obtain ⟨-,-,c2,-,-⟩:=(HZ7.out.later V7.out).bx;replace a0:=cell_regrown a0;replace a1:=cell_regrown a1;replace a2:=cell_regrown a2;replace x0:=cell_regrown x0;replace x1:=cell_regrown x1;replace x2:=cell_regrown x2;replace c2:=cell_regrown c2;have HD:=dw (Ht (p:=mh (ax st rs ts) f) hlj);obtain ⟨A,hA⟩:∃ A,(ts.take j).any (mh (ax st rs ts) f)=A:=⟨_,rfl⟩;rw [hA]at HD ⊢;clear hA;obtain ⟨o,ho⟩:∃ o,uk ts[j].a ts[j].b f.a f.b=o:=⟨_,rfl⟩;obtain ⟨r,hr⟩:∃ r,(ts[j].r.toList==f.r.toList)=r:=⟨_,rfl⟩;have hoe:=Aq _ _ _ _ ho;have hrn:(ts[j].r.toList != f.r.toList)=!r:=by rw [<-hr];rfl
                    have hcs:(o&&r)=false\/(o=true/\r=true):=by cases o <;> cases r <;> simp
                    rcases hcs with hor|⟨rfl,rfl⟩
                    · have HR:Hid ((ts.take (j+1)).any (mh (ax st rs ts) f)=A):=by
                        show _=_;rw [HD.out];unfold uk at ho;unfold mh;rw [ho,hr,hor];simp
                      clear HD;go_wp2_with fail;cases o <;> cases r <;> first|(cases hor;done)|skip
                      all_goals
                        refine wp_region_quiet_below (by kernel_rfl) (by kernel_rfl) ?_
                        repeat (go_big_quiet_step (fail))
                        refine wpQuiet_nil ?_;rintro _ ⟨⟨dq,osq⟩,rfl⟩;have HB2:=dw (V7.out.trans ((below_regrown _ dq osq).mono V7.out.size));clear a0 a1 a2 x0 x1 x2 c2;go_wp2;go_roundw;case rel=>exact ⟨j+1,by omega,by go_num,by rw [HR.out],HB2⟩
                        simp [intOf] <;> omega
                    · go_wp2_with fail;refine wp_region_quiet_below (by kernel_rfl) (by kernel_rfl) ?_
                      repeat (go_big_quiet_step (fail))
                      refine wpQuiet_nil ?_;rintro _ ⟨⟨dq,osq⟩,rfl⟩;obtain ⟨w2,hw2⟩:∃ w2,w2=grow (redrawn wr dq) osq:=⟨_,rfl⟩;have VZ:Hid (ag W7 w2):=by show Below _ _ _;rw [hw2];exact V7.out.trans ((below_regrown _ dq osq).mono V7.out.size)
                      rw [<-hw2];clear hw2 a0 a1 a2 x0 x1 x2 c2 V7;obtain ⟨_,_,Vk,⟨-,-,a2,a3,a4,a5⟩,-⟩:=Sl.at0 (K7.out.later VZ.out).tu hlj;injection Vk with Vk;injection Vk with e1 e2 e3;subst e1 e2;simp only [Uz]at a2 a3 a4 a5;obtain ⟨-,-,-,x3,x4⟩:=(K7.out.later VZ.out).bx;obtain ⟨-,-,-,c3,-⟩:=(HZ7.out.later VZ.out).bx;replace a2:=cell_regrown a2;replace a3:=cell_regrown a3;replace a4:=cell_regrown a4;replace a5:=cell_regrown a5;replace x3:=cell_regrown x3;replace x4:=cell_regrown x4;replace c3:=cell_regrown c3;obtain ⟨y,hy⟩:∃ y,bn (ax st rs ts) ⟨ts[j].c,ts[j].d,ts[j].s,f.c,f.d⟩=y:=⟨_,rfl⟩;have Vo:Hid (∀ d os,Calls prog 11 #[.slice Vz rs.length Vn,.slice (some ⟨g,0,none⟩) ts.length c,.agg #[.string ts[j].c,.string ts[j].d,.string ts[j].s,.string f.c,.string f.d]] (grow (redrawn w2 d) os) fun e w3=>e=.returned (.bool y)/\∃ p:Regrown,w3=grow (redrawn w2 p.d) p.os):=by
                        refine bP fun W' hb=>?_;have KR:=K7.out.later (VZ.out.trans (hb.mono VZ.out.size));refine (jZ st Vz Vn rs _ c ts ⟨ts[j].c,ts[j].d,ts[j].s,f.c,f.d⟩ W' hlen KR.sl HL.out HF.out HC.out hlt KR.tu UY.out Vs.out).mono ?_;rintro e w' ⟨rfl,hb'⟩;exact ⟨by rw [hy],hb'⟩
                      obtain ⟨s,hs⟩:∃ s,(ts[j].s.toList==[])=s:=⟨_,rfl⟩;have hsn:(ts[j].s.toList != [])=!s:=by rw [<-hs];rfl
                      obtain ⟨u,hu⟩:∃ u,uk ts[j].c ts[j].d f.c f.d=u:=⟨_,rfl⟩;have hue:=iq _ _ _ _ hu;have HR:Hid ((ts.take (j+1)).any (mh (ax st rs ts) f)=(A || (if s=true then u else y))):=by
                        show _=_;rw [HD.out];unfold uk at ho hu;unfold mh;rw [ho,hr,hy,hu,<-pF,hs];simp
                      clear HD hy ho hr hoe hu hrn;have hcs:A=true\/(A=false/\s=false)\/(A=false/\s=true/\u=true)\/(A=false/\s=true/\u=false):=by cases A <;> cases s <;> cases u <;> simp
                      rcases hcs with rfl|⟨rfl,rfl⟩|⟨rfl,rfl,rfl⟩|⟨rfl,rfl,rfl⟩
                      all_goals
                        go_wp2_with fail;refine wp_region_quiet_below (by kernel_rfl) (by kernel_rfl) ?_
                        repeat (go_big_quiet_step (exact Vo.out _ _))
                        refine wpQuiet_nil ?_;rintro _ ⟨⟨dq,osq⟩,rfl⟩;have HB2:=dw (VZ.out.trans ((below_regrown _ dq osq).mono VZ.out.size));clear a2 a3 a4 a5 x3 x4 c3 Vo;go_wp2;go_roundw;case rel=>exact ⟨j+1,by omega,by go_num,by rw [HR.out];simp,HB2⟩
                        simp [intOf] <;> omega
                  case' neg =>
                    have hj2:¬ ((j:Int)<(ts.length:Int)):=by omega
                    obtain rfl:j=ts.length:=by omega
                    obtain ⟨w8,hw8⟩:∃ w8,w8=wr:=⟨_,rfl⟩;rw [<-hw8]at V7 ⊢;have K8:=dw (K7.out.later V7.out);have HB8:=dw (YL.out.trans (V7.out.mono YL.out.size));have HX8:=dw (HX7.out.later V7.out);obtain ⟨v,hv⟩:∃ v,(ts.take ts.length).any (mh (ax st rs ts) f)=v:=⟨_,rfl⟩;have HV:=dw (HSV.out v (by rw [Us]at hv;unfold oL;rw [if_pos k1.out];rw [<-hv];rfl));rw [hv];clear hv hw8 K7 YL HX7 HZ7 HSV V7
          all_goals
            as_aux_lemma =>
              obtain ⟨hP,hbv⟩:=HV.out;have HS2:Hid (∀ j,j<k+1->mH ts (ax st rs ts) f (aj qs) x.e.kids j=some (b j)):=fun j h=>by
                rcases Nat.lt_or_ge j k with h2|h2
                · exact HS.out j h2
                · obtain rfl:j=k:=by omega
                  exact hP
              have HM:Hid (1<=k->x.e.kind=6->k=1/\q=(b 0 && !b k)):=fun h1 h6=>by
                rw [<-HIS.out];exact UW.out k h1 hlk h6 fun j h=>HS2.out j (by omega)
              obtain ⟨y0,y1,y2,y3,y4⟩:=HX8.out.bx;have ZA:=HX8.out.lt;have HA:=dw (Tn (b:=b) (k:=k));have HY:=dw (Tm (b:=b) (k:=k));rw [hbv]at HA HY HM;clear HV hP HS;by_cases hk0:k=0
              · subst hk0;rw [show (List.range 0).all b=true from rfl,show (List.range 0).any b=false from rfl]at *
                go_wp2;go_roundw;case rel=>exact ⟨1,by omega,by go_num,by rw [HA.out];simp,by rw [HY.out];simp,by rw [<-hbv];rfl,HS2,HB8⟩
                simp [intOf] <;> omega
              · have hk3:((k:Int)==0)=false:=by simpa using hk0
                obtain ⟨B,hB⟩:∃ B,b 0=B:=⟨_,rfl⟩;have Wm:=dw hB;by_cases k6:x.e.kind=6
                · have q6:(x.e.kind==6)=true:=by rw [k6];rfl
                  obtain ⟨rfl,VJ⟩:=HM.out (by omega) k6;rw [hB]at VJ;rw [show (decide (0<1)&&b 0)=B from by rw [<-hB];rfl,show (List.range 1).all b=B from by rw [<-hB];simp,show (List.range 1).any b=B from by rw [<-hB];simp];clear hB;cases B
                  all_goals
                    simp at VJ;subst VJ;go_wp2;go_ret;exact ⟨by simp,K8.out.bel⟩
                · have q6:(x.e.kind==6)=false:=by simpa using k6
                  rw [show (decide (0<k)&&b 0)=B from by rw [<-hB];simp;omega];obtain ⟨A,hA⟩:∃ A,(List.range k).all b=A:=⟨_,rfl⟩;obtain ⟨Y,hY⟩:∃ Y,(List.range k).any b=Y:=⟨_,rfl⟩;rw [hA]at HA ⊢;rw [hY]at HY ⊢;clear hA hY hB;cases A <;> cases Y
                  all_goals
                    go_wp2;go_roundw;case rel=>exact ⟨k+1,by omega,by go_num,by rw [HA.out];simp,by rw [HY.out];simp,by rw [Wm.out];simp,HS2,HB8⟩
                    simp [intOf] <;> omega
        · have hk2:¬ ((k:Int)<(x.e.kids.length:Int)):=by omega
          obtain rfl:k=x.e.kids.length:=by omega
          have HEND:=dw (HP3.out HS.out);rw [HIS.out]at HEND;rcases HEND.out with ⟨e4,hv⟩|⟨e5,hv⟩|e6
          · rw [e4]at y0;rw [<-hv];go_wp2;go_ret;exact ⟨by simp,KR.out.bel⟩
          · rw [e5]at y0;rw [<-hv];go_wp2;go_ret;exact ⟨by simp,KR.out.bel⟩
          · rw [e6]at y0;go_wp2;go_ret;exact ⟨by simp,KR.out.bel⟩
  all_goals
    obtain ⟨x0,x1,x2,x3,x4⟩:=KE.out.bx;go_wp2_with fail;refine (sO st Vz Vn rs _ c ts f _ hlen KE.out.sl HL.out HF.out hlt KE.out.tu UY.out Vs.out).mono ?_;rintro e y ⟨rfl,hy⟩;have HBe:=dw (KE.out.later hy).bel;rw [HIS.out];clear hy;go_wp2;go_ret;exact ⟨rfl,HBe.out⟩
theorem own:ownKnob prog.godebug=none:=by kernel_rfl
theorem laidOut:laidOutB prog=true:=by kernel_rfl
set_option maxRecDepth 100000 in
theorem lifted (os:Os)(started:os.Started)(H:Type)(enc:TypeId×Value->H) :
  ReturnsInHanded {} Tryz.checked os 4 .any (Rows.fnPartsSpec.pre6 enc prog Tryz.f4 Rows.fnPartsRow.domain false) (Rows.fnPartsSpec.post enc prog Tryz.f4 false true false false):=by
 refine returnsInHanded_of_change_shaped (C:=Tryz.checked) own started (by kernel_rfl) func4
  (ChangeSpec.witness6 (enc:=enc) (C:=Tryz.checked) false ⟨#[],#[.slice none 0 0],[]⟩ 8 (by kernel_rfl) (by kernel_rfl) (by kernel_rfl) (by kernel_rfl)) ?_
 intro W base args ds gs before hval0 hW hcnd _ hsh _;have hval:∀ (j:Nat) t v,Tryz.f4.params[j]?=some t->args[j]?=some v->Value.okWide prog W .any base t v:=hval0;have hW':=hW;obtain ⟨p,q,hA0,hV,rfl,hfz,hnd⟩:=hW;have hA:DataW.TrodAll enc prog W 0 (fun _=>true) true Tryz.f4.params.toList args.toList ds p:=hA0;rw [Tryz.params4]at hA hval;obtain ⟨v0,vs0,d0,ds0,p0,q0,hargs,rfl,rfl,h0,r0⟩:=trodAll_cons hA;obtain ⟨rfl,rfl,rfl⟩:=trodAll_nil r0;obtain rfl:args=#[v0]:=by cases args;simp_all
 obtain ⟨rfl,rfl⟩:=trodVars_none hV;have k0:=h0;have lt0:∀ x∈p0,x.block<W.heap.size:=by obtain ⟨m,hm⟩:=k0;exact DataW.trod_lt m _ _ _ hm
 obtain ⟨ad0,len0,cap0,hv0⟩:=okWide_slice underlying22 (hval 0 22 v0 rfl rfl);subst hv0;obtain ⟨fuel0,hf0⟩:=h0;have hby0:=Ij (by simpa [Value.cells] using hf0);clear hA0 hval0
 haveI:DecidableEq Fc:=fun x y=>Classical.propDecidable (x=y)
 refine (walk ad0 len0 cap0 W hby0).mono fun e W' ⟨he,bel⟩=>?_;subst he;exact ⟨_,rfl,_,_,_,[],_,[],hW',trodAll_mk1 (shut_bool underlying4 _),(trodAll_cons_mk (Below.trod laidOut (by kernel_rfl) (of_decide_eq_true (by kernel_rfl)) k0 bel lt0) trodAll_mk0),rfl,bel.frame _,fun h=>by cases h⟩
theorem over:Rows.fnPartsRow.holds Tryz.pinned (OpenSpec.ofChange Rows.fnPartsSpec) :=
 OpenClaim.holds_of_wide 4 Tryz.f4 rfl rfl rfl rfl rfl rfl rfl ⟨rfl,rfl,rfl,rfl,rfl⟩ rfl rfl rfl rfl rfl (by kernel_rfl) func4 (by kernel_rfl)
  (of_decide_eq_true (by kernel_rfl)) (by unfold Func.isWrapper;first|(rw [if_pos (by decide +kernel)];kernel_rfl)|(rw [if_neg (by decide +kernel)];exact ⟨rfl,rfl⟩))
  (fun os started H enc _=>lifted os started H enc)
end Go.Proofs.YtajkkeikihhejaaGreat.fnParts
namespace Go.Proofs.YtajkkeikihhejaaGreat
theorem FnParts_holds:Rows.FnPartsSaid:=fnParts.over
end Go.Proofs.YtajkkeikihhejaaGreat
