/- Both sides' look whether a fact is there. -/
import Derived.Test.YtajkkeikihhejaaGreatSq
import Derived.Maps.RangeWalk
import Derived.Test.YtajkkeikihhejaaGreatJ39
import Derived.Test.YtajkkeikihhejaaGreatChkS
import Derived.Test.YtajkkeikihhejaaGreatJ38
open Go.Proofs.Tryz
set_option maxHeartbeats 80000000
namespace Go.Proofs.YtajkkeikihhejaaGreat
set_option maxRecDepth 100000
set_option linter.unusedVariables false
set_option linter.unusedSectionVars false
open Go.ChangeShapes Go.WideShapes Go.ChangeAt Go.RowKit Go.Maps
open Pl
theorem DR (x y:Fc):wV x y=wV y x:=by rw [Bool.eq_iff_iff,vz,vz];exact ⟨Eq.symm,Eq.symm⟩
theorem Nc {x y:List Fc}(h:x.Perm y)(f:Fc):bn x f=bn y f:=by rw [Bool.eq_iff_iff,dE,dE];exact h.mem_iff
theorem Ho (ad:Option Addr)(cap:Nat)(ts:List Fc)(t:Fc)(w:af)(hlen:ts.length<=1048576)(hs:BA w ad ts) :
  Calls prog 76 #[.slice ad ts.length cap,.agg #[.string t.a,.string t.b,.string t.r,.string t.c,.string t.d]] w fun e w'=>(∃ r:Int,e=.returned (.int .i64 r)/\decide (0<=r)=bn ts t)/\ag w w':=by
 have HS:=aD hs;clear hs;obtain ⟨W0,hW0⟩:∃ W0,W0=w.alloc (.cells #[.string t.a,.string t.b,.string t.r,.string t.c,.string t.d] 29):=⟨_,rfl⟩;have HB0:=rV hW0;have HX0:Hid (wm W0 w.heap.size t):=by show wm _ _ _;rw [hW0];exact World.alloc_heap_new w _
 go_enter func76,ntmps76;go_wp2_with fail;rw [<-hW0];clear hW0;go_loopw [8] (fun i wr=>∃ k:Nat,k<=ts.length/\i=.int .i64 k/\Hid (bn (ts.drop k) t=bn ts t)/\Hid (ag W0 wr)) (fun i _=>ts.length-(intOf i).toNat);case atStart=>exact ⟨0,Ui _,rfl,rfl,Uf _ _⟩
 obtain ⟨k,hk,rfl,HP,HB⟩:=hrel;have UU:Hid (ag w wr):=HB0.out.trans (HB.out.mono HB0.out.size);by_cases hlt:k<ts.length
 ·obtain ⟨b,off,UT,⟨t0,t1,t2,t3,t4⟩,hb⟩:=BA.at0 (HS.out.below UU.out) hlt;obtain ⟨x0,x1,x2,x3,x4,xl⟩:=(HX0.out.bel HB.out).c;have hk1:=bF k;have hk2:(k:Int)<(ts.length:Int):=by omega
  have HD:Hid (bn ts t=(wV ts[k] t || bn (ts.drop (k+1)) t)):=by show _=_;rw [<-HP.out];exact C8 hlt
  subst UT;cases hq:wV ts[k] t;case true=>
   have heq:=Et t ts[k] (v:=true) (by rw [DR];exact hq);have HN:Hid (bn ts t=true):=by show _=_;rw [HD.out,hq];rfl
   clear hq;go_wp2_with fail;go_quiet (fail);clear t0 t1 t2 t3 t4 x0 x1 x2 x3 x4 heq;go_wp2;go_ret;exact ⟨⟨k,rfl,by rw [HN.out];simp⟩,below_drewN UU.out _⟩
  have heq:=Et t ts[k] (v:=false) (by rw [DR];exact hq);have UW:Hid (bn (ts.drop (k+1)) t=bn ts t):=by show _=_;rw [HD.out,hq];rfl
  clear hq;go_wp2_with fail;go_quiet (fail);clear t0 t1 t2 t3 t4 x0 x1 x2 x3 x4 heq;go_wp2;go_roundw;case rel=>exact ⟨k+1,by omega,by go_num,UW,below_drewN HB.out _⟩
  simp [intOf] <;> omega
 have HN:Hid (bn ts t=false):=by show _=_;rw [<-HP.out,List.drop_of_length_le (by omega)];rfl
 go_wp2;go_ret;exact ⟨⟨-1,rfl,by rw [HN.out];simp⟩,UU.out⟩
theorem Bz (ad:Option Addr)(cap:Nat)(ts:List Fc)(t:Fc)(w:af)(hlen:ts.length<=1048576)(hs:BA w ad ts) :
  Calls prog 51 #[.slice ad ts.length cap,.agg #[.string t.a,.string t.b,.string t.r,.string t.c,.string t.d]] w fun e w'=>e=.returned (.bool (bn ts t))/\ag w w':=by
 obtain ⟨W0,hW0⟩:∃ W0,W0=w.alloc (.cells #[.string t.a,.string t.b,.string t.r,.string t.c,.string t.d] 29):=⟨_,rfl⟩;have HB0:=rV hW0;have HC:=aD (Ho ad cap ts t W0 hlen (hs.below HB0.out));clear hs;go_enter func51,ntmps51;go_wp2_with fail;rw [<-hW0];clear hW0;refine HC.out.mono ?_;rintro e w' ⟨⟨r,rfl,hr⟩,hbx⟩;have HR:=aD hr;have Vg:=aD (HB0.out.trans (hbx.mono HB0.out.size));clear hr hbx;go_wp2;go_ret;exact ⟨by rw [<-HR.out];rfl,Vg.out⟩
section
variable  [DecidableEq Fc]
theorem jZ (st:ByteArray×ByteArray->Int)(ad:Option Addr)(cap:Nat)(rs:List TR)(UX:Option Addr)(cap':Nat)(ts:List Tp)(f:Fc)(w:af)(hlen:rs.length<=1048576)(hs:kX w ad rs)(hl:∀ r∈rs,r.light)(hfr:∀ r∈rs,r.fits)(hcp:∀ r∈rs,r.caps)(hlt:ts.length<=1048576)(hst:Sl w UX ts)(hft:∀ x∈ts,x.fits)(hle:aL (ae rs)=true->Least (ae rs) st) :
  Calls prog 11 #[.slice ad rs.length cap,.slice UX ts.length cap',.agg #[.string f.a,.string f.b,.string f.r,.string f.c,.string f.d]] w fun e w'=>e=.returned (.bool (bn (ax st rs ts) f))/\ag w w':=by
 obtain ⟨W0,hW0⟩:∃ W0,W0=w.alloc (.cells #[.string f.a,.string f.b,.string f.r,.string f.c,.string f.d] 29):=⟨_,rfl⟩;have HB0:ag w W0:=by rw [hW0];exact (Uf _ _).alloc (Ue _) _
 have hbx:wm W0 w.heap.size f:=by rw [hW0];exact World.alloc_heap_new w _
 obtain ⟨c0,c1,c2,c3,c4,cl⟩:=hbx.c;have VU:Hid (∀ W':World,(W'.cell? ⟨w.heap.size,0,none⟩=some (.string f.a)/\W'.cell? ⟨w.heap.size,1,none⟩=some (.string f.b)/\W'.cell? ⟨w.heap.size,2,none⟩=some (.string f.r)/\W'.cell? ⟨w.heap.size,3,none⟩=some (.string f.c)/\W'.cell? ⟨w.heap.size,4,none⟩=some (.string f.d)/\ag w W')->Calls prog 14 #[.slice ad rs.length cap,.slice UX ts.length cap'] W' (DN (ax st rs ts) W')):=fun W' h=>sN st ad cap rs UX cap' ts W' hlen (hs.below h.2.2.2.2.2) hl hfr hcp hlt (hst.below h.2.2.2.2.2) hft hle;have hLl:=pO st (rs:=rs) (ts:=ts);clear hs hl hfr hcp hst hft hle hbx;go_enter func11,ntmps11;go_wp2_with fail;rw [<-hW0];clear hW0
 go_region_held3 (fun w'=>w'.cell? ⟨w.heap.size,0,none⟩=some (.string f.a)/\w'.cell? ⟨w.heap.size,1,none⟩=some (.string f.b)/\w'.cell? ⟨w.heap.size,2,none⟩=some (.string f.r)/\w'.cell? ⟨w.heap.size,3,none⟩=some (.string f.c)/\w'.cell? ⟨w.heap.size,4,none⟩=some (.string f.d)/\ag w w')
  (first|assumption|exact P8 (by assumption) hbx|exact ⟨c0,c1,c2,c3,c4,HB0.drew⟩)
  (first|(go_at_call 14;refine (VU.out _ (by assumption)).mono ?_;rintro e w' ⟨⟨L,v,rfl,hp,-,hown⟩,hbx⟩;obtain ⟨ZK,Xw,rfl,hsl⟩:=ni hown;have HLL:Hid (L.length<=1048576):=(by show _<=_;rw [hp.length_eq];exact Uk hLl (by decide)))|(go_at_call 51;refine (Bz ZK Xw L f _ HLL.out (by first|exact hsl|exact hsl.below (Uf _ _))).mono ?_;rintro e w'' ⟨rfl,hbx⟩))
 rename_i hJ;have HG:=aD hJ.2.2.2.2.2;have HE:=aD (Nc hp f);clear hJ hown hsl hp c0 c1 c2 c3 c4;go_wp2;go_ret;exact ⟨by rw [HE.out];rfl,HG.out⟩
end
section
variable  [DecidableEq Fc]
theorem BZ (st:ByteArray×ByteArray->Int)(ad:Option Addr)(cap:Nat)(rs:List TR)(UX:Option Addr)(cap':Nat)(ts:List Tp)(w:af)(hlen:rs.length<=1048576)(hs:kX w ad rs)(hl:∀ r∈rs,r.light)(hfr:∀ r∈rs,r.fits)(hlt:ts.length<=1048576)(hst:Sl w UX ts)(hft:∀ x∈ts,x.fits)(hle:aL (ae rs)=true->Least (ae rs) st) :
  Calls prog 47 #[.slice ad rs.length cap,.slice UX ts.length cap'] w fun e w'=>(∃ v,e=.returned v/\w'.ownsRow w.heap.size 29 5 v (iB st rs ts).length (aI (iB st rs ts)))/\ag w w':=by
 have hLl:=pO st (rs:=rs) (ts:=ts);have HFQ:=aD (yj (st:=st) hfr hft);have HRC:=aD (yh ad cap rs UX cap' ts w hlen hs hl hfr hlt hst hft);have HAC:Hid (aV (gW rs) rs ts=true->∀ W':World,ag w W'->Calls prog 57 #[.slice ad rs.length cap,.slice UX ts.length cap'] W' fun e w'=>(∃ v,e=.returned v/\w'.ownsRow W'.heap.size 29 5 v (ax st rs ts).length (aI (ax st rs ts)))/\ag W' w'):=fun hr W' hb=>by
  have hsd:aL (ae rs)=true/\ts.length<=40:=by
   unfold aV dL at hr;simp only [Ug,Um]at hr;exact ⟨hr.1.1,hr.1.2.1⟩
  have:=DK st ad cap rs UX cap' ts W' (aZ.1 hsd.1) (hle hsd.1) (hs.below hb) hl hsd.2 (hst.below hb);rw [<-iy hr]at this;exact this
 clear hs hl hfr hst hft hle;go_enter func47,ntmps47;go_wp2_with fail;refine HRC.out.mono ?_;rintro e w1 ⟨rfl,hb1⟩;have HB1:=aD hb1;clear hb1 HRC;cases hr:aV (gW rs) rs ts;case false=>
  have HN:Hid (iB st rs ts=[]):=by show _=_;unfold iB;rw [jq hr];rfl
  clear hr HAC;obtain ⟨W2,hW2⟩:∃ W2,W2=w1.alloc (.cells #[] 29):=⟨_,rfl⟩;have UN:Hid (W2.ownsRow w.heap.size 29 5 (.slice (some ⟨w1.heap.size,0,none⟩) 0 0) 0 []):=by
   show World.ownsRow _ _ _ _ _ _ _;rw [hW2];exact World.ownsRow_lit w1 #[] 0 HB1.out.size (by unfold maxLen;omega) (by simp)
  have HB2:Hid (ag w W2):=by show Below _ _ _;rw [hW2];exact HB1.out.alloc HB1.out.size _
  go_wp2;rw [<-hW2];go_ret;exact ⟨⟨_,rfl,by rw [HN.out];exact UN.out⟩,HB2.out⟩
 have HA:=aD (HAC.out hr);clear HAC hr;obtain ⟨L,hL⟩:∃ L,ax st rs ts=L:=⟨_,rfl⟩;have WY:Hid (iB st rs ts=kv oH L):=by show _=_;unfold iB;rw [hL]
 rw [hL]at HA HFQ hLl;clear hL;go_wp2_with fail;refine (HA.out _ HB1.out).mono ?_;rintro e w2 ⟨⟨v,rfl,hown⟩,hb2⟩;obtain ⟨ZK,Xw,rfl,hsl⟩:=ni hown;have Zi:=aD hsl;have HB2:=jP HB1 hb2;clear hown hsl hb2 HB1 HA;have HLL:Hid (L.length<=1048576):=Uk hLl (by decide);clear hLl;go_wp2_with fail;refine (JE ZK Xw L _ HLL.out Zi.out HFQ.out).mono ?_;rintro e w3 ⟨⟨v,rfl,hown⟩,hb3⟩;have HB3:=jP HB2 hb3;have U9:Hid (w3.ownsRow w.heap.size 29 5 v (iB st rs ts).length (aI (iB st rs ts))):=by
  show World.ownsRow _ _ _ _ _ _ _;rw [WY.out,(jb L).length_eq];exact xh hown HB2.out.size
 clear hown hb3;go_wp2;go_ret;exact ⟨⟨v,rfl,U9.out⟩,HB3.out⟩
end
theorem Fc.short.fits {f:Fc}(h:f.short):f.fits:=by unfold Fc.short at h;unfold Fc.fits maxLen;omega
def TT (w:World)(e:Ending)(w':World):Prop:=∃ (v:Value) (rs:List TR) (g c:Nat) (ts:List Tp) (f:Fc),e=.returned (.tuple #[v,.slice (some ⟨g,0,none⟩) ts.length c,.agg #[.string f.a,.string f.b,.string f.r,.string f.c,.string f.d]])/\iN w' w.heap.size v rs/\GoodS rs/\ts.length<=12/\qZ ts/\f.fits/\w'.ownsRow w.heap.size 46 6 (.slice (some ⟨g,0,none⟩) ts.length c) ts.length (bH ts)/\ag w w'
def Tk (w:World)(R n:Nat):Prop:=n≠R/\n<w.heap.size/\(∀ o,w.frozen? ⟨n,o,none⟩=false)/\∀ j,j<5->∃ u,w.cell? ⟨n,j,none⟩=some u
theorem Tk.only {w w':af}{R n:Nat}(h:Tk w R n)(hO:Only R w w'):Tk w' R n:=by
 obtain ⟨h1,h2,h3,h4⟩:=h;exact ⟨h1,Uc h2 hO.size,fun o=>(hO.frozen (o:=o) h2 h1).trans (h3 o),fun j hj=>by obtain ⟨u,hu⟩:=h4 j hj;exact ⟨u,(hO.cell (b:=n) (o:=j) h2 h1).trans hu⟩⟩
theorem jr {w:af}{n i j:Nat}{v:Value}(h:i≠j):(w.setCell ⟨n,i,none⟩ v).cell? ⟨n,j,none⟩=w.cell? ⟨n,j,none⟩:=by
 apply World.cell?_setCell_other;intro e;exact h (congrArg Addr.off e)
theorem Tk.set {w:af}{R n:Nat}(h:Tk w R n)(v0 v1 v2 v3 v4:Value)(W:af)(hW:W=((((w.setCell ⟨n,0,none⟩ v0).setCell ⟨n,1,none⟩ v1).setCell ⟨n,2,none⟩ v2).setCell ⟨n,3,none⟩ v3).setCell ⟨n,4,none⟩ v4):W.cell? ⟨n,0,none⟩=some v0/\W.cell? ⟨n,1,none⟩=some v1/\W.cell? ⟨n,2,none⟩=some v2/\W.cell? ⟨n,3,none⟩=some v3/\W.cell? ⟨n,4,none⟩=some v4/\Only n w W:=by
 obtain ⟨-,-,-,h4⟩:=h;obtain ⟨u0,c0⟩:=h4 0 (by omega);obtain ⟨u1,c1⟩:=h4 1 (by omega);obtain ⟨u2,c2⟩:=h4 2 (by omega);obtain ⟨u3,c3⟩:=h4 3 (by omega);obtain ⟨u4,c4⟩:=h4 4 (by omega);subst hW;refine ⟨?_,?_,?_,?_,?_,((((Only.refl n w).set 0 v0).set 1 v1).set 2 v2).set 3 v3 |>.set 4 v4⟩
 ·rw [jr (by omega),jr (by omega),jr (by omega),jr (by omega)];exact World.cell?_setCell_same _ _ _ c0
 ·rw [jr (by omega),jr (by omega),jr (by omega)];exact World.cell?_setCell_same (u:=u1) _ _ _ (by rw [jr (by omega)];exact c1)
 ·rw [jr (by omega),jr (by omega)];exact World.cell?_setCell_same (u:=u2) _ _ _ (by rw [jr (by omega),jr (by omega)];exact c2)
 ·rw [jr (by omega)];exact World.cell?_setCell_same (u:=u3) _ _ _ (by rw [jr (by omega),jr (by omega),jr (by omega)];exact c3)
 exact World.cell?_setCell_same (u:=u4) _ _ _ (by rw [jr (by omega),jr (by omega),jr (by omega),jr (by omega)];exact c4)
theorem Ca [DecidableEq Fc](ad:Option Addr)(len cap:Nat)(w:af)(h:Bytes w ad len) :
  Calls prog 10 #[.slice ad len cap] w (TT w):=by
 have H:=aA h;clear h;obtain ⟨W0,hW0⟩:∃ W0,W0=w.alloc (.cells #[.string ⟨#[]⟩,.string ⟨#[]⟩,.string ⟨#[]⟩,.string ⟨#[]⟩,.string ⟨#[]⟩] 29):=⟨_,rfl⟩;have HB0:=rV hW0;have HZ0:Hid (W0.heap.size=w.heap.size+1):=by show _=_;rw [hW0];simp
 have Xy:Hid (Tk W0 (w.heap.size+1) w.heap.size):=by
  show Tk _ _ _;rw [hW0];refine ⟨by omega,by simp,fun o=>by simp,fun j hj=>?_⟩;have hc:j=0\/j=1\/j=2\/j=3\/j=4:=by omega
  rcases hc with rfl|rfl|rfl|rfl|rfl <;> exact ⟨_,by simp;rfl⟩
 go_enter func10,ntmps10;go_wp2_with fail;rw [<-hW0];clear hW0;refine (NZ ad len cap _ (H.out.below HB0.out)).mono ?_;rintro e w1 ⟨rfl,Vh,hb1⟩;rw [HZ0.out]at Vh ⊢;obtain ⟨R,hRR⟩:∃ R,R=w.heap.size+1:=⟨_,rfl⟩;rw [<-hRR]at Vh Xy ⊢;have HB1:=jP HB0 hb1;have HR1:=aA Vh;have HS1:=dw (Xy.out.only (Only.of_below hb1));have hRn:w.heap.size<R:=by omega
 clear Vh hb1 Xy HB0 HZ0 hRR;go_wp2_with fail;refine (J3 R ad len cap _ HR1.out).mono ?_;rintro e w2 ⟨v,rs,rfl,hT2,hG,hR2,hO2⟩;have hb:=HR1.out.lt;obtain ⟨Vz,Vn,rfl,-,-⟩:=hT2.read;have HR2:=aA hR2;have HB2:Hid (ag w w2):=Only.toBelow HB1.out hO2 HB1.out.size (by omega);have HT2:=aA hT2;have HG:Hid (GoodS rs):=hG;have HS2:=dw (HS1.out.only hO2);clear hT2 hG hR2 hO2 HB1 HR1 HS1;go_wp2_with fail;refine (BV R ad len cap Vz Vn w1.heap.size rs _ HR2.out hb HT2.out HG.out).mono ?_;rintro e w3 ⟨⟨g,c,ts,rfl,ZA,hsh,hown⟩,WF,hO3⟩;have HB3:Hid (ag w w3):=Only.toBelow HB2.out hO3 HB2.out.size (by omega);have HT3:Hid (iN w3 w1.heap.size (.slice Vz rs.length Vn) rs):=HT2.out.only hb hO3;have hw:w.heap.size<=w1.heap.size:=by omega
 have hs2:R<w2.heap.size:=HR2.out.lt;obtain ⟨hrow,hg,-,hbg⟩:=nz hown rfl;have HO:=aA hown;have HS3:=dw (HS2.out.only hO3);have HR3:=dw WF;obtain ⟨st,hle⟩:=R4 (ae rs);obtain ⟨adQ,capQ,eQ,hsl,hcp⟩:=HT3.out.read;injection eQ with e1 e2 e3;subst e1;have UY:=dw (yj (st:=st) HG.out.2.2 hsh.fits);have HFQ:=dw (BZ st Vz Vn rs (some ⟨g,0,none⟩) c ts w3 (by have:=HG.out.1;omega) hsl HG.out.2.1 HG.out.2.2 (by omega) (.inr ⟨g,0,rfl,hg,hrow⟩) hsh.fits hle);have HSH:=dw hsh;have hLl:=pO st (rs:=rs) (ts:=ts);clear WF hO3 HR2 HB2 HT2 HS2 hown hrow hg hbg hsh hsl hcp e2 e3 hle;go_wp2_with fail;refine HFQ.out.mono ?_;rintro e w4 ⟨⟨vf,rfl,hof⟩,hb4⟩;have hlf:(iB st rs ts).length<=115200:=by rw [Bw];exact hLl
 obtain ⟨Yj,VI,rfl,hSF⟩:=ni hof;have Vx:=jP HB3 hb4;have HT4:Hid (iN w4 w1.heap.size (.slice Vz rs.length Vn) rs):=U1.below mJ HT3.out hb4;have HR4:=aA (HR3.out.below hb4);have HS4:=dw (HS3.out.only (Only.of_below hb4));have U4:Hid (w4.ownsRow w2.heap.size 46 6 (.slice (some ⟨g,0,none⟩) ts.length c) ts.length (bH ts)):=oJ HO.out hs2 (Only.of_below hb4);have hR4s:R<w3.heap.size:=HR3.out.lt;have HOF:=dw hof;have Zi:=dw hSF;have hn1:w.heap.size<w1.heap.size:=by omega
 have hn2:w.heap.size<w2.heap.size:=by omega
 clear hb4 hof hSF HFQ HB3 HT3 HR3 HS3 HO;obtain ⟨n,hn⟩:∃ n,n=(iB st rs ts).length:=⟨_,rfl⟩;have WQ:=dw hn;have Zm:n<=115200:=by omega
 -- a fact that was drawn,of whatever kind
 have Vm:Hid (∀ (wc:World) (f:Fc),Only R w4 wc->f.fits->∀ W5,W5=((((wc.setCell ⟨w.heap.size,0,none⟩ (.string f.a)).setCell ⟨w.heap.size,1,none⟩ (.string f.b)).setCell ⟨w.heap.size,2,none⟩ (.string f.r)).setCell ⟨w.heap.size,3,none⟩ (.string f.c)).setCell ⟨w.heap.size,4,none⟩ (.string f.d)->TT w (.returned (.tuple #[.slice Vz rs.length Vn,.slice (some ⟨g,0,none⟩) ts.length c,.agg #[.string f.a,.string f.b,.string f.r,.string f.c,.string f.d]])) W5):=by
  intro wc f hO hf W5 Vr;obtain ⟨-,-,-,-,-,Va⟩:=(HS4.out.only hO).set _ _ _ _ _ W5 Vr;have hBc:ag w wc:=Only.toBelow Vx.out hO Vx.out.size (by omega);exact ⟨_,rs,g,c,ts,f,rfl,U1.lower ((HT4.out.only hb hO).only hn1 Va) hw,HG.out,ZA,HSH.out,hf,fD (oJ (oJ U4.out hs2 hO) hn2 Va) (Nat.le_of_lt hn2),Only.toBelow hBc Va hBc.size (Ue _)⟩
 have HDRAW:Hid (∀ wc,Only R w4 wc->Rd wc R ad len cap->Calls prog 50 #[.pointer (some ⟨R,0,none⟩)] wc fun e w'=>(∃ f:Fc,e=.returned (.agg #[.string f.a,.string f.b,.string f.r,.string f.c,.string f.d])/\f.short)/\Rd w' R ad len cap/\Only R wc w'):=fun wc _ hR=>PG R ad len cap wc hR;by_cases hz:n=0
 ·have hd1:decide ((0:Int)<(n:Int))=false:=by simp;omega
  have hd2:decide (0<n)=false:=by simp;omega
  rw [<-hn];clear hn;go_wp2_with fail;refine (HDRAW.out _ (Only.refl R w4) HR4.out).mono ?_;rintro e w6 ⟨⟨f,rfl,hsf⟩,-,Xh⟩;have HFF:=dw hsf.fits;have Vw:=dw (Only.trans (Only.refl R w4) Xh);clear hsf Xh;obtain ⟨W5,Vr⟩:∃ W5,W5=((((w6.setCell ⟨w.heap.size,0,none⟩ (.string f.a)).setCell ⟨w.heap.size,1,none⟩ (.string f.b)).setCell ⟨w.heap.size,2,none⟩ (.string f.r)).setCell ⟨w.heap.size,3,none⟩ (.string f.c)).setCell ⟨w.heap.size,4,none⟩ (.string f.d):=⟨_,rfl⟩;have hS6:=HS4.out.only (Vw.out);have U5:=dw (Vm.out w6 f (Vw.out) HFF.out W5 Vr);have Xl:=dw (hS6.set _ _ _ _ _ W5 Vr);obtain ⟨s1,s2,s3,s4⟩:=hS6;obtain ⟨u0,k0⟩:=s4 0 (by omega);obtain ⟨u1,k1⟩:=s4 1 (by omega);obtain ⟨u2,k2⟩:=s4 2 (by omega);obtain ⟨u3,k3⟩:=s4 3 (by omega);obtain ⟨u4,k4⟩:=s4 4 (by omega);clear s4;go_wp2;rw [<-Vr];clear Vr k0 k1 k2 k3 k4 s2 s3;obtain ⟨c0,c1,c2,c3,c4,-⟩:=Xl.out;exact bodyPost_ret (v:=.tuple #[.slice Vz rs.length Vn,.slice (some ⟨g,0,none⟩) ts.length c,.agg #[.string f.a,.string f.b,.string f.r,.string f.c,.string f.d]]) (by simp [results,Tryz.results10,go_sem, *]) rfl U5.out
 have hd1:decide ((0:Int)<(n:Int))=true:=by simp;omega
 have hd2:decide (0<n)=true:=by simp;omega
 rw [<-hn];clear hn;go_wp2_with fail;refine (iW R ad len cap 2 _ HR4.out (by omega) (by omega)).mono ?_;rintro e w5 ⟨⟨q,rfl⟩,U6,Va⟩;have U5:=dw U6;have UZ:=dw Va;clear U6 Va;cases q;case false=>
  go_wp2_with fail;refine (HDRAW.out _ (UZ.out) U5.out).mono ?_;rintro e w6 ⟨⟨f,rfl,hsf⟩,-,Xh⟩;have HFF:=dw hsf.fits;have Vw:=dw (Only.trans (UZ.out) Xh);clear hsf Xh;obtain ⟨W5,Vr⟩:∃ W5,W5=((((w6.setCell ⟨w.heap.size,0,none⟩ (.string f.a)).setCell ⟨w.heap.size,1,none⟩ (.string f.b)).setCell ⟨w.heap.size,2,none⟩ (.string f.r)).setCell ⟨w.heap.size,3,none⟩ (.string f.c)).setCell ⟨w.heap.size,4,none⟩ (.string f.d):=⟨_,rfl⟩;have hS6:=HS4.out.only (Vw.out);have U5:=dw (Vm.out w6 f (Vw.out) HFF.out W5 Vr);have Xl:=dw (hS6.set _ _ _ _ _ W5 Vr);obtain ⟨s1,s2,s3,s4⟩:=hS6;obtain ⟨u0,k0⟩:=s4 0 (by omega);obtain ⟨u1,k1⟩:=s4 1 (by omega);obtain ⟨u2,k2⟩:=s4 2 (by omega);obtain ⟨u3,k3⟩:=s4 3 (by omega);obtain ⟨u4,k4⟩:=s4 4 (by omega);clear s4;go_wp2;rw [<-Vr];clear Vr k0 k1 k2 k3 k4 s2 s3;obtain ⟨c0,c1,c2,c3,c4,-⟩:=Xl.out;exact bodyPost_ret (v:=.tuple #[.slice Vz rs.length Vn,.slice (some ⟨g,0,none⟩) ts.length c,.agg #[.string f.a,.string f.b,.string f.r,.string f.c,.string f.d]]) (by simp [results,Tryz.results10,go_sem, *]) rfl U5.out
 have Wt:=dw (U5.out.below (Uf _ _).drew);have Vw:=dw (UZ.out.trans (Only.of_below (Uf w5.heap.size w5).drew));have Xa:=dw (J4 R ad len cap n w5.drew Wt.out (by omega) (by omega));go_wp2_with fail;refine wp_region_held_drew (S:=fun _=>True) (by kernel_rfl) trivial (fun hHeld=>?_);refine tk 0 26 ?_;go_frame;refine tk 1 27 ?_;go_frame;refine tk 2 28 ?_;go_frame;refine tk 3 29 ?_;go_frame;refine tk 4 30 ?_;go_frame;refine tk 5 31 ?_;go_frame;refine wpAnyH_ready (rs:=[6]) (by kernel_rfl) (by simp) ?_;refine AllReadyH.cons rfl (fun K hK=>?_) AllReadyH.nil;go_simp;refine Xa.out.mono ?_;rintro e w7 ⟨⟨x,rfl,hx⟩,-,hO7⟩;have Xc:=dw (Vw.out.trans hO7);go_wp2_with fail;refine hK.out _ _ trivial (fun _=>?_);clear hK K;have hxl:x<(iB st rs ts).length:=by have:=WQ.out;omega
 have h7:=HOF.out.kept Xc.out (.inr fun e=>by have:=(HOF.out.lt R e).1;omega);obtain ⟨adX,capX,eX,hS7⟩:=ni h7;injection eX with e1 e2 e3;subst e1;rcases hS7 with hnil|⟨b,off,rfl,hbl,hrow⟩
 ·rw [hnil]at hxl;simp at hxl
 obtain ⟨f,hf⟩:∃ f,f=(iB st rs ts)[x]:=⟨_,rfl⟩;have t5:=hrow x hxl;rw [<-hf]at t5;obtain ⟨t0,t1,t2,t3,t4⟩:=t5;have HFF:Hid f.fits:=by show f.fits;rw [hf];exact UY.out _ ((jb _).mem_iff.1 (Ud hxl))
 have hx1:=bF x;have hx2:(x:Int)<(n:Int):=by omega
 clear hf hrow hbl h7 e2 e3 hO7 hxl;refine tk 7 33 ?_;go_frame;refine tk 9 2 ?_;go_frame;refine tk 10 3 ?_;go_frame;refine wpAnyH_ready (rs:=[8]) (by kernel_rfl) (by simp) ?_;refine AllReadyH.cons rfl (fun K hK=>?_) AllReadyH.nil;go_simp;refine hK.out _ _ trivial (fun _=>?_);clear hK K;obtain ⟨W5,Vr⟩:∃ W5,W5=((((w7.setCell ⟨w.heap.size,0,none⟩ (.string f.a)).setCell ⟨w.heap.size,1,none⟩ (.string f.b)).setCell ⟨w.heap.size,2,none⟩ (.string f.r)).setCell ⟨w.heap.size,3,none⟩ (.string f.c)).setCell ⟨w.heap.size,4,none⟩ (.string f.d):=⟨_,rfl⟩;have hS6:=HS4.out.only (Xc.out);have U5:=dw (Vm.out w7 f (Xc.out) HFF.out W5 Vr);have Xl:=dw (hS6.set _ _ _ _ _ W5 Vr);obtain ⟨s1,s2,s3,s4⟩:=hS6;obtain ⟨u0,k0⟩:=s4 0 (by omega);obtain ⟨u1,k1⟩:=s4 1 (by omega);obtain ⟨u2,k2⟩:=s4 2 (by omega);obtain ⟨u3,k3⟩:=s4 3 (by omega);obtain ⟨u4,k4⟩:=s4 4 (by omega);clear s4;refine wpAnyH_ready (rs:=[11]) (by kernel_rfl) (by simp) ?_;refine AllReadyH.cons rfl (fun K hK=>?_) AllReadyH.nil;go_simp;rw [<-Vr];clear Vr k0 k1 k2 k3 k4 s2 s3;obtain ⟨c0,c1,c2,c3,c4,-⟩:=Xl.out;refine hK.out _ _ trivial (fun _=>?_);clear hK K;refine wpAnyH_done (by kernel_rfl) ?_ _;go_wp2;exact bodyPost_ret (v:=.tuple #[.slice Vz rs.length Vn,.slice (some ⟨g,0,none⟩) ts.length c,.agg #[.string f.a,.string f.b,.string f.r,.string f.c,.string f.d]]) (by simp [results,Tryz.results10,go_sem, *]) rfl U5.out
end Go.Proofs.YtajkkeikihhejaaGreat
