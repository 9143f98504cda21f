/- Contract of the document's Check. -/
import Derived.Test.YtajkkeikihhejaaGreatSq
import Derived.Test.YtajkkeikihhejaaGreatJ35
open Go.Proofs.Tryz
set_option maxHeartbeats 80000000
namespace Go.Proofs.YtajkkeikihhejaaGreat
set_option maxRecDepth 100000
set_option linter.unusedVariables false
set_option linter.unusedSectionVars false
open Go.ChangeShapes Go.WideShapes Go.ChangeAt Go.RowKit Go.Maps
open Pl
section
variable  [DecidableEq Fc]
theorem sO (st:ByteArray×ByteArray->Int)(ad:Option Addr)(cap:Nat)(rs:List TR)(UX:Option Addr)(cap':Nat)(ts:List Tp)(f:Fc)(w:af)(hlen:rs.length<=1048576)(hs:kX w ad rs)(hl:∀ r∈rs,r.light)(hfr:∀ r∈rs,r.fits)(hlt:ts.length<=1048576)(hst:Sl w UX ts)(hft:∀ x∈ts,x.fits)(hle:aL (ae rs)=true->Least (ae rs) st) :
  Calls prog 13 #[.slice ad rs.length cap,.slice UX ts.length cap',.agg #[.string f.a,.string f.b,.string f.r,.string f.c,.string f.d]] w fun e w'=>e=.returned (.bool (bn (ax st rs ts) f))/\ag w w':=by
 obtain ⟨W0,hW0⟩:∃ W0,W0=w.alloc (.cells #[.string f.a,.string f.b,.string f.r,.string f.c,.string f.d] 29):=⟨_,rfl⟩;have HB0:=rV hW0;have hbx:wm W0 w.heap.size f:=by rw [hW0];exact World.alloc_heap_new w _
 have Vg:=aD hbx;have hLl:=pO st (rs:=rs) (ts:=ts);have HRC:Hid (∀ W':World,ag W0 W'->Calls prog 55 #[.slice ad rs.length cap,.slice UX ts.length cap'] W' fun e w'=>e=.returned (.bool (aV (gW rs) rs ts))/\ag W' w'):=fun W' h=>by
  have hb:=HB0.out.trans (h.mono HB0.out.size);exact yh ad cap rs UX cap' ts W' hlen (hs.below hb) hl hfr hlt (hst.below hb) hft
 have HAC:Hid (aV (gW rs) rs ts=true->∀ W':World,ag W0 W'->Calls prog 57 #[.slice ad rs.length cap,.slice UX ts.length cap'] W' fun e w'=>(∃ v,e=.returned v/\w'.ownsRow W'.heap.size 29 5 v (ax st rs ts).length (aI (ax st rs ts)))/\ag W' w'):=fun hr W' h=>by
  have hb:=HB0.out.trans (h.mono HB0.out.size);have hsd:aL (ae rs)=true/\ts.length<=40:=by
   unfold aV dL at hr;simp only [Ug,Um]at hr;exact ⟨hr.1.1,hr.1.2.1⟩
  have:=DK st ad cap rs UX cap' ts W' (aZ.1 hsd.1) (hle hsd.1) (hs.below hb) hl hsd.2 (hst.below hb);rw [<-iy hr]at this;exact this
 clear hs hl hfr hst hft hle hbx;go_enter func13,ntmps13;go_wp2_with fail;rw [<-hW0];clear hW0;cases hr:aV (gW rs) rs ts;case true=>
  have HA:=aD (HAC.out hr);rw [hr]at HRC;obtain ⟨c0,c1,c2,c3,c4,cl⟩:=Vg.out.c;obtain ⟨L,WE⟩:∃ L,L=ax st rs ts:=⟨_,rfl⟩;rw [<-WE]at HA hLl;have Vs:=aD WE;clear HAC hr WE
  go_region_held3 (fun w'=>w'.cell? ⟨w.heap.size,0,none⟩=some (.string f.a)/\w'.cell? ⟨w.heap.size,1,none⟩=some (.string f.b)/\w'.cell? ⟨w.heap.size,2,none⟩=some (.string f.r)/\w'.cell? ⟨w.heap.size,3,none⟩=some (.string f.c)/\w'.cell? ⟨w.heap.size,4,none⟩=some (.string f.d)/\ag W0 w')
   (first|assumption|exact P8 (by assumption) hbx|exact ⟨c0,c1,c2,c3,c4,(Uf _ _).drew⟩)
   (first|(go_at_call 55;refine (HRC.out _ (And.right (And.right (And.right (And.right (And.right (by assumption))))))).mono ?_;rintro e w' ⟨rfl,hbx⟩)|(go_at_call 57;refine (HA.out _ (And.right (And.right (And.right (And.right (And.right (by assumption))))))).mono ?_;rintro e w' ⟨⟨v,rfl,hown⟩,hbx⟩;obtain ⟨ZK,Xw,rfl,hsl⟩:=ni hown)|(go_at_call 56;refine (ol ZK Xw L f _ (by omega) (by first|exact hsl|exact hsl.below (Uf _ _))).mono ?_;rintro e w'' ⟨rfl,hbx⟩))
  rename_i hJ;have HG:=aD (HB0.out.trans (hJ.2.2.2.2.2.mono HB0.out.size));clear hJ hown hsl c0 c1 c2 c3 c4 HB0;go_wp2;go_ret;exact ⟨by rw [Vs.out];rfl,HG.out⟩
 rw [hr]at HRC;have HN:Hid (bn (ax st rs ts) f=false):=by show _=_;rw [jq hr];rfl
 clear HAC hr;refine lN 10 (fun n=>(undef::undef::undef::undef::undef::undef::undef::undef::undef::undef::[]).getD n undef) (fun fq=>{ tmps:=List.toArray (Value.slice ad rs.length cap::.slice UX ts.length cap'::.agg #[.string f.a,.string f.b,.string f.r,.string f.c,.string f.d]::undef::undef::.pointer (some ⟨w.heap.size,0,none⟩)::.bool false::fq 0::fq 1::fq 2::fq 3::fq 4::fq 5::fq 6::fq 7::fq 8::fq 9::[]),defers:=[] }) (fun n v _=>v=(Value.slice ad rs.length cap::.slice UX ts.length cap'::.bool false::.bool false::undef::undef::undef::undef::undef::.bool false::[]).getD n undef) (fun w'=>ag W0 w') (by kernel_rfl) rfl (by kernel_rfl) (by kernel_rfl) rfl (Uf _ _).drew ?dU ?finF;case dU =>
  rintro i hi o ho fq w' hG hpre;have HG:Hid (ag W0 w'):=hG;have HM:Hid (∀ e∈o.after,Region.binds .any e=true->_):=hpre;clear hG hpre;have hc:=ul (i:=i) (by omega);clear hi
  repeat' rcases hc with rfl|hc
  iterate 2
   ·cases ho;have hm:=HM.out
    try simp [Region.binds]at hm
    clear HM;refine wpOp_step rfl (fun K hK=>?_);have HK:Hid (∀ a w,_->K a w):=hK;clear hK;go_simp;exact HK.out _ _ ⟨_,by simp [upd, *],HG.out,rfl,fun k u hu=>hu⟩
  ·cases ho;have e0:fq 0=.slice ad rs.length cap:=HM.out ⟨0,.data⟩ (by simp) rfl;have e1:fq 1=.slice UX ts.length cap':=HM.out ⟨1,.data⟩ (by simp) rfl;clear HM;refine wpOp_step rfl (fun K hK=>?_);have HK:Hid (∀ a w,_->K a w):=hK;clear hK;simp only [e0,e1];go_simp;refine (HRC.out _ HG.out).mono ?_;rintro e w9 ⟨rfl,hb9⟩;have HG9:=jP HG hb9;clear hb9;go_wp2_with fail;exact HK.out _ _ ⟨Value.bool false,by simp [upd,e0,e1],HG9.out,rfl,fun k u hu=>hu⟩
  iterate 7
   ·cases ho;have hm:=HM.out
    try simp [Region.binds]at hm
    clear HM;refine wpOp_step rfl (fun K hK=>?_);have HK:Hid (∀ a w,_->K a w):=hK;clear hK
    try simp only [hm]
    go_simp;exact HK.out _ _ ⟨_,by simp [upd, *],HG.out,rfl,fun k u hu=>hu⟩
 case finF =>
  rintro o ho fq w' hG hall;have e9:fq 9=.bool false:=hall 9 (by omega);have HG:Hid (ag W0 w'):=hG;clear hG hall;cases ho;refine wpOp_step rfl (fun K hK=>?_);have HK:Hid (∀ a w,_->K a w):=hK;clear hK;simp only [e9];go_simp;refine HK.out _ _ ?_;clear HK;go_wp2;go_ret;exact ⟨by rw [HN.out];rfl,HB0.out.trans (HG.out.mono HB0.out.size)⟩
end
end Go.Proofs.YtajkkeikihhejaaGreat
