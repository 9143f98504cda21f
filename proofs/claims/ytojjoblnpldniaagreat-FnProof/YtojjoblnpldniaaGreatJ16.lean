/- Contract of the document's Check. -/
import Derived.Test.YtojjoblnpldniaaGreatSq
import Derived.Test.YtojjoblnpldniaaGreatJ14
import Derived.Laws.AppendOwnNone
open Go.Proofs.Tryz
set_option maxHeartbeats 80000000
set_option linter.defProp false
namespace Go.Proofs.YtojjoblnpldniaaGreat
set_option maxRecDepth 100000
set_option linter.unusedVariables false
set_option linter.unusedSectionVars false
open ChangeShapes WideShapes ChangeAt RowKit Maps
open Pl
section
variable  [DecidableEq Fc]
def Ef(st:Q00)(ad:Q02)(cap:Nat)(rs:Q06)(Y8:Q02)(cap':Nat)(ts:Q05)(f:Fc)(w:ag)(hlen:a7 rs)(hs:kI w ad rs)(hl:∀r∈rs,r.light)(hfr:∀r∈rs,r.fits)(hlt:a7 ts)(hst:Sl w Y8 ts)(hft:∀x∈ts,x.fits)(hle:aN (ai rs)=true->Least (ai rs) st):
  Calls prog 71 #[.slice ad rs.length cap,.slice Y8 ts.length cap',.agg<|cf f] w (a8 w<|.bool<|aR (aA st rs ts) f):=by
 obtain⟨W0,hW0⟩:=eQx<|w.alloc<|.cells (cf f) 52;have HB0:=lX hW0;have hbx:kC W0 w.heap.size f:=by rw[hW0];exact World.alloc_heap_new w _
 have Zv:=ah hbx;have hLl:=jJ st (rs:=rs) (ts:=ts);have HRC:O (∀W':World,ae W0 W'->Calls prog 59 #[.slice ad rs.length cap,.slice Y8 ts.length cap'] W' fun e w'=>e=.returned (.bool<|aQ (fU rs) rs ts)/\ae W' w'):=fun W' h=>by
  have hb:=HB0.trans<|h.mono HB0.size;exact zR ad cap rs Y8 cap' ts W' hlen (hs.below hb) hl hfr hlt (hst.below hb) hft
 have HAC:O (aQ (fU rs) rs ts=true->∀W':World,ae W0 W'->Calls prog 61 #[.slice ad rs.length cap,.slice Y8 ts.length cap'] W' fun e w'=>(∃v,e=.returned v/\bj W' w' 52 5 v (aA st rs ts).length (av<|aA st rs ts))/\ae W' w'):=fun hr W' h=>by
  have hb:=HB0.trans<|h.mono HB0.size;have hsd:aN (ai rs)=true/\ts.length<=40:=by
   unfold aQ dW at hr;simp only[XN,XU]at hr;exact⟨hr.1.1,hr.1.2.1⟩
  have:=yU st ad cap rs Y8 cap' ts W' (bf.1 hsd.1) (hle hsd.1) (hs.below hb) hl hsd.2<|hst.below hb;rw[<-dZ hr]at this;exact this
 clear hs hl hfr hst hft hle hbx;go_enter func71,ntmps71;go_wp2_with fail;rw[<-hW0];clear hW0;cases hr:aQ (fU rs) rs ts;case true=>
  have HA:=ah<|HAC hr;rw[hr]at HRC;obtain⟨c0,c1,c2,c3,c4,cl⟩:=Zv.c;obtain⟨L,hLe⟩:=eQx<|aA st rs ts;rw[<-hLe]at HA hLl;have ZH:=ah hLe;clear HAC hr hLe
  go_region_held3 (fun w'=>w'.cell? (aE w)=some (.string f.a)/\w'.cell? (a6 w 1)=some (.string f.b)/\w'.cell? (a6 w 2)=some (.string f.r)/\w'.cell? (a6 w 3)=some (.string f.c)/\w'.cell? (a6 w 4)=some (.string f.d)/\ae W0 w')
   (first|assumption|exact vY cE hbx|exact⟨c0,c1,c2,c3,c4,(XL _ _).drew⟩)
   (first|(go_at_call 59;refine(HRC _<|And.right<|And.right<|And.right<|And.right<|And.right cE).mono ?_;rintro e w' ⟨rfl,hbx⟩)|(go_at_call 61;refine(HA _<|And.right<|And.right<|And.right<|And.right<|And.right cE).mono ?_;rintro e w' ⟨⟨v,rfl,hown⟩,hbx⟩;obtain⟨Zo,Y0,rfl,hsl⟩:=gV hown)|(go_at_call 145;refine(pJ Zo Y0 L f _ cq<|by first|exact hsl|exact hsl.below<|XL _ _).mono ?_;rintro e w'' ⟨rfl,hbx⟩))
  rename_i hJ;have HG:=ah<|HB0.trans<|hJ.2.2.2.2.2.mono HB0.size;clear hJ hown hsl c0 c1 c2 c3 c4 HB0;go_wp2;go_ret;exact⟨by rw[ZH];rfl,HG⟩
 rw[hr]at HRC;have HN:O (aR (aA st rs ts) f=false):=by show _=_;rw[fV hr];rfl
 clear HAC hr;refine dG 10 (fun n=>(undef::undef::undef::undef::undef::undef::undef::undef::undef::undef::[]).getD n undef) (fun fq=>{ tmps:=List.toArray (Value.slice ad rs.length cap::.slice Y8 ts.length cap'::.agg (cf f)::undef::undef::.pointer (some<|aE w)::.bool false::fq 0::fq 1::fq 2::fq 3::fq 4::fq 5::fq 6::fq 7::fq 8::fq 9::[]),defers:=[] }) (fun n v _=>v=(Value.slice ad rs.length cap::.slice Y8 ts.length cap'::.bool false::.bool false::undef::undef::undef::undef::undef::.bool false::[]).getD n undef) (fun w'=>ae W0 w') cw rfl cw cw rfl (XL _ _).drew ?fJ ?finF;case fJ =>
  rintro i hi o ho fq w' hG hpre;have HG:O (ae W0 w'):=hG;have HM:O (∀e∈o.after,Region.binds .any e=true->_):=hpre;clear hG hpre;have hc:=H8 (i:=i) cq;clear hi
  repeat' rcases hc with rfl|hc
  iterate 2
   ·cases ho;have hm:=HM.out
    try simp[Region.binds]at hm
    clear HM;refine wpOp_step rfl (fun K hK=>?_);have HK:O (∀a w,_->K a w):=hK;clear hK;go_simp;exact HK _ _ ⟨_,by simp[upd, *],HG,rfl,fun k u hu=>hu⟩
  ·cases ho;have e0:fq 0=.slice ad rs.length cap:=HM ⟨0,.data⟩ ct rfl;have e1:fq 1=.slice Y8 ts.length cap':=HM ⟨1,.data⟩ ct rfl;clear HM;refine wpOp_step rfl (fun K hK=>?_);have HK:O (∀a w,_->K a w):=hK;clear hK;simp only[e0,e1];go_simp;refine(HRC _ HG).mono ?_;rintro e w9 ⟨rfl,hb9⟩;have HG9:=jr HG hb9;clear hb9;go_wp2_with fail;exact HK _ _ ⟨Value.bool false,by simp[upd,e0,e1],HG9,rfl,fun k u hu=>hu⟩
  iterate 7
   ·cases ho;have hm:=HM.out
    try simp[Region.binds]at hm
    clear HM;refine wpOp_step rfl (fun K hK=>?_);have HK:O (∀a w,_->K a w):=hK;clear hK
    try simp only[hm]
    go_simp;exact HK _ _ ⟨_,by simp[upd, *],HG,rfl,fun k u hu=>hu⟩
 case finF =>
  rintro o ho fq w' hG hall;have e9:fq 9=.bool false:=hall 9 cq;have HG:O (ae W0 w'):=hG;clear hG hall;cases ho;refine wpOp_step rfl (fun K hK=>?_);have HK:O (∀a w,_->K a w):=hK;clear hK;simp only[e9];go_simp;refine HK _ _ ?_;clear HK;go_wp2;go_ret;exact⟨by rw[HN];rfl,HB0.trans<|HG.mono HB0.size⟩
end
section
variable  {φ:Type}[DecidableEq φ]{rk:φ->Int}{H:List φ->φ->Bool}{qs:Nat->List φ}
def JP(H:List φ->φ->Bool)(out:List φ):Prop:=∀(i:Nat) (h:i<out.length),H (out.take i) out[i]=true
def Ti:JP H []:=fun i h=>absurd h<|YG _
def PK{out:List φ}(h:JP H out)(f:φ):JP H (fJ H out f):=by
 unfold fJ;split
 ·exact h
 rename_i hn;have hH:H out f=true:=by
  cases e:H out f;case true=>rfl
  exact absurd (.inr e) hn
 intro i hi;rw[XT,Yr]at hi;by_cases e:i<out.length
 ·rw[Yo e,List.take_append_of_le_length cq];exact h i e
 have e2:i=out.length:=cq;subst e2;rw[YC (XK _),List.take_append_of_le_length<|XK _,X8];simpa using hH
def JQ:∀(q:List φ) {out:List φ},JP H out->JP H (dh H q out)
 | [],_,h=>h
 | f::q,out,h=>JQ q<|PK h f
def FZ(q:List φ):∀(k:Nat) {out:List φ},JP H out->JP H (mg H q k out)
 | 0,_,h=>h
 | k+1,out,h=>by
  unfold mg;split
  ·exact h
  exact FZ q k<|JQ q h
def NA:∀N,JP H (TY H qs N)
 | 0=>Ti
 | N+1=>FZ (qs N) _<|NA N
def F3(hq:∀n,∀f∈qs n,rk f=(n:Int)):∀N,(TY H qs N).Pairwise fun a b=>rk a<=rk b
 | 0=>List.Pairwise.nil
 | N+1=>by
  obtain⟨new,e,hn⟩:=Iy (H:=H) (qs N)<|TY H qs N;rw[TY,e];refine List.pairwise_append.2 ⟨F3 hq N,?_,fun a ha b hb=>?_⟩
  ·rw[List.pairwise_iff_getElem];intro i j hi hj _;rw[hq N _ (hn _<|XI hi),hq N _<|hn _<|XI hj];exact Int.le_refl _
  have h1:=Iz hq N a ha;have h2:=hq N b<|hn b hb;omega
def PN{L:List φ}(hs:L.Pairwise fun a b=>rk a<=rk b){i:Nat}(hi:i<L.length){g:φ}(hg:rk g<rk L[i]):g∈L↔g∈L.take i:=by
 refine⟨fun h=>?_,fun h=>List.mem_of_mem_take h⟩;obtain⟨j,hj,rfl⟩:=Yk h;have hji:j<i:=by
  rcases Nat.lt_trichotomy j i with h1|h1|h1
  ·exact h1
  ·subst h1;exact absurd hg<|Int.lt_irrefl _
  have:=List.pairwise_iff_getElem.1 hs i j hi hj h1;omega
 exact List.mem_take_iff_getElem.2 ⟨j,cq,rfl⟩
end
section
variable  [DecidableEq Fc]
def NC(ts:Q0b)(l:Q05)(st:Q00)(xo xu:Q0a):∀N,iV ts l st xo xu N=TY (iC ts l) (fun n=>di ts st xo xu (n:Int)) N
 | 0=>rfl
 | N+1=>by rw[jQ,NC ts l st xo xu N];rfl
def JR{ts:Q0b}{l:Q05}{st:Q00}{xo xu:Q0a}(hS:Sol ts st)(hsh:bz ts=true)(hrf:jd ts=true)(hfit:∀t∈l,UT ts t=true)(hen:∀k∈ay ts,hasB ts k.1 k.2=true)(N:Nat){i:Nat}(hi:i<(iV ts l st xo xu N).length):
  dC l (aH ts (iV ts l st xo xu N)[i].a (iV ts l st xo xu N)[i].r) (iV ts l st xo xu N) (iV ts l st xo xu N)[i] (aH ts (iV ts l st xo xu N)[i].a (iV ts l st xo xu N)[i].r).length ((iV ts l st xo xu N).take i) ((aH ts (iV ts l st xo xu N)[i].a (iV ts l st xo xu N)[i].r).length-1)=true:=by
 have e:=NC ts l st xo xu N;have hq:∀n:Nat,∀f∈di ts st xo xu (n:Int),UR ts st f=(n:Int):=fun n f hf=>Ms hen hf;have h1:=NA (H:=iC ts l) (qs:=fun n=>di ts st xo xu (n:Int)) N;have h2:=F3 (H:=iC ts l) (qs:=fun n=>di ts st xo xu (n:Int)) hq N;rw[<-e]at h1 h2;obtain⟨L,hL⟩:=eQx<|iV ts l st xo xu N;simp only[<-hL]at h1 h2 hi⊢;have hh:=h1 i hi;unfold iC at hh;obtain⟨f,hf⟩:=eQx<|L[i];rw[<-hf]at hh⊢;by_cases he:aH ts f.a f.r=[]
 ·rw[he]at hh;cases hh
 have hpos:(aH ts f.a f.r).length-1<(aH ts f.a f.r).length:=by
  have:(aH ts f.a f.r).length≠0:=fun e=>he<|X0.1 e;omega
 refine(SH hS hsh hrf hfit he).more (fun g hg=>?_) _ _ _ _ (fun g _ h=>h) hpos hh;rw[hf]at hg;exact(PN h2 hi hg).symm
end
structure KnF(w:World)(FC:Nat)(rc cp:Array Value)(K:Fc->Bool):Prop where
 run:∀(ys:Array Value) (u:World),(callFunc FC ys).run prog u=.ok (.enter FC ys) u
 says:∀x:Fc,x.fits->∀w1:World,ae w w1->Calls prog FC (rc.push (.agg #[.string x.a,.string x.b,.string x.r,.string x.c,.string x.d])++cp) w1 fun e w'=>e=.returned (.bool<|K x)/\ae w1 w'
def KnF.below{w w':ag}{FC:Nat}{rc cp:Array Value}{K:Fc->Bool}(h:KnF w FC rc cp K)(hb:ae w w'):KnF w' FC rc cp K :=
 ⟨h.run,fun x hx w1 h1=>h.says x hx w1<|hb.trans<|h1.mono hb.size⟩
def F4{ps:List Bool}{k:Nat}(h:k<ps.length):(ps.drop k).any id=(ps[k] || (ps.drop<|k+1).any id):=by rw[Yi h];rfl
def MB(FC:Nat)(rc cp:Array Value)(ps:List Bool)(ad:Q02)(cap:Nat)(w:ag)(hlen:ps.length<=1000)
  (hrun:∀(ys:Array Value) (u:World),(callFunc FC ys).run prog u=.ok (.enter FC ys) u)
  (hs:ps=[] \/ ∃g,ad=some (am g)/\g<w.heap.size/\∀(i:Nat) (h:i<ps.length),∃u,w.cell? (ap g i)=some u/\∀w1:World,ae w w1->Calls prog FC (rc.push u++cp) w1 (a8 w1<|.bool ps[i])) :
  Calls prog 367 #[.slice ad ps.length cap,.func (Fn.func FC) rc cp] w fun e w'=>(∃r:Int,e=.returned (.int .i64 r)/\decide (0<=r)=ps.any id)/\ae w w':=by
 have HS:=ah hs;have HRUN:=ah hrun;clear hs hrun;have HD:O (∀k (h:k<ps.length),(ps.drop k).any id=(ps[k] || (ps.drop<|k+1).any id)):=fun k h=>F4 h;go_enter func367,ntmps367;go_wp2_with fail;go_loopw[8] (fun i wr=>∃k:Nat,k<=ps.length/\i=.int .i64 k/\O ((ps.drop k).any id=ps.any id)/\O (ae w wr)) (fun i _=>ps.length-(intOf i).toNat);case atStart=>exact⟨0,XP _,rfl,rfl,XL _ _⟩
 obtain⟨k,hk,rfl,HQ,HB⟩:=hrel;by_cases hlt:k<ps.length
 ·rcases HS.out with hnil|⟨g,YW,hg,hrow⟩
  ·rw[hnil]at hlt;simp at hlt
  obtain⟨u,hu,hcall⟩:=hrow k hlt;have HC:=ah<|hcall wr HB;have t0:=az HB.out hg hu;have hk1:=bG k;have hk2:(k:Int)<(ps.length:Int):=cq;have HD2:=ah<|HD k hlt;subst YW;clear hrow hu hcall;go_wp2_with fail;rw[HRUN.out,Oper.upon_enter];refine HC.mono ?_;rintro e w1 ⟨rfl,hb1⟩;have HB1:=jr HB hb1;clear hb1 t0;cases he:ps[k];case true=>
   have HN:O (ps.any id=true):=by show _=_;rw[<-HQ,HD2,he];rfl
   go_wp2;go_ret;exact⟨⟨k,rfl,by rw[HN];simp⟩,HB1⟩
  have HQ2:O ((ps.drop<|k+1).any id=ps.any id):=by show _=_;rw[<-HQ,HD2,he];rfl
  go_wp2;go_roundw;case rel=>exact⟨k+1,cq,cx,HQ2,HB1⟩
  simp[intOf]<;>omega
 have HN:O (ps.any id=false):=by show _=_;rw[<-HQ,Ya cq];rfl
 go_wp2;go_ret;exact⟨⟨-1,rfl,by rw[HN];simp⟩,HB⟩
def uU(FC:Nat)(rc cp:Array Value)(ps:List Bool)(ad:Q02)(cap:Nat)(w:ag)(hlen:ps.length<=1000)
  (hrun:∀(ys:Array Value) (u:World),(callFunc FC ys).run prog u=.ok (.enter FC ys) u)
  (hs:ps=[] \/ ∃g,ad=some (am g)/\g<w.heap.size/\∀(i:Nat) (h:i<ps.length),∃u,w.cell? (ap g i)=some u/\∀w1:World,ae w w1->Calls prog FC (rc.push u++cp) w1 (a8 w1<|.bool ps[i])) :
  Calls prog 365 #[.slice ad ps.length cap,.func (Fn.func FC) rc cp] w (a8 w<|.bool<|ps.any id):=by
 have HC:=ah<|MB FC rc cp ps ad cap w hlen hrun hs;clear hs hrun;go_enter func365,ntmps365;go_wp2_with fail;refine HC.mono ?_;rintro e w' ⟨⟨r,rfl,hr⟩,hbx⟩;have HR:=ah hr;clear hr;go_wp2;go_ret;exact⟨by rw[<-HR];rfl,hbx⟩
def JS(b:Bool)(fv:Value)(w:ag):
  Calls prog 362 #[.agg #[.bool b],fv] w (a8 w<|.bool b):=by
 have HB:O (ae w<|w.alloc<|.cells #[.bool b] 239):=(XL _ _).alloc (XK _) _;go_enter func362,ntmps362;go_wp2;go_ret;exact⟨rfl,HB⟩
def UY{FC:Nat}{rc cp:Array Value}{K:Fc->Bool}{ad:Q02}{cap:Nat}{fs:Q04}{w:ag}(hK:KnF w FC rc cp K)(hl:fs.length<=1000)(hs:jX w ad fs)(hf:∀x∈fs,x.fits):
  Calls prog 363 #[.agg #[.slice ad fs.length cap],.func (Fn.func FC) rc cp] w (a8 w<|.bool<|fs.any K):=by
 obtain⟨W0,hW0⟩:=eQx<|w.alloc<|.cells #[.slice ad fs.length cap] 301;have HB0:=lX hW0;have HC:=ah<|sF FC rc cp K ad cap fs W0 cq (hs.below HB0) hK.run fun x hx w1 hb=>hK.says x (hf x hx) w1<|HB0.trans<|hb.mono HB0.size;clear hK hs hf;go_enter func363,ntmps363;go_wp2_with fail;rw[<-hW0];clear hW0;refine HC.mono ?_;rintro e w1 ⟨rfl,hb1⟩;have HB1:=jr HB0 hb1;clear hb1;go_wp2;go_ret;exact⟨rfl,HB1⟩
def MC(T:TypeId):Nat:=if T=239 then 362 else if T=301 then 363 else if T=304 then 364 else 368
def ME(w:World)(FC:Nat)(rc cp:Array Value)(u:Value)(b:Bool):Prop :=
 ∃(T:TypeId) (a:Value),u=.iface T a/\(T=239/\(∃c,a=.agg #[.bool c])\/(T=301\/T=304\/T=306)/\∃ad n cap,a=.agg #[.slice ad n cap])/\∀w1:World,ae w w1->Calls prog (MC T) #[a,.func (Fn.func FC) rc cp] w1 fun e w'=>e=.returned (.bool b)/\ae w1 w'
def xY {T : TypeId} {a : Value} (h : T = 239 ∧ (∃ c, a = .agg #[.bool c]) ∨ (T = 301 ∨ T = 304 ∨ T = 306) ∧ ∃ ad n cap, a = .agg #[.slice ad n cap]) (m : Nat) (w : World) : (method (m + 1) T a "loop.example/g00297/impl.follows").run Tryz.prog w = .ok (MC T, a) w := by
 rcases h with⟨rfl,c,rfl⟩|⟨rfl|rfl|rfl,ad,n,cap,rfl⟩<;>kernel_rfl
def Tj {T : TypeId} {a : Value} (h : T = 239 ∧ (∃ c, a = .agg #[.bool c]) ∨ (T = 301 ∨ T = 304 ∨ T = 306) ∧ ∃ ad n cap, a = .agg #[.slice ad n cap]) (m : Nat) (w : World) : (nilAhead (m + 1) T a "loop.example/g00297/impl.follows").run Tryz.prog w = .ok (some false) w := by
 rcases h with⟨rfl,c,rfl⟩|⟨rfl|rfl|rfl,ad,n,cap,rfl⟩<;>kernel_rfl
def Vw(T:TypeId)(a:Value):Prop:=T=239/\(∃c,a=.agg #[.bool c])\/(T=301\/T=304\/T=306)/\∃ad n cap,a=.agg #[.slice ad n cap]
def AX{T:TypeId}{a:Value}(h:Vw T a)(ys:Array Value)(u:ag):(callFunc (MC T) ys).run prog u=.ok (.enter (MC T) ys) u:=by
 rcases h with⟨rfl,-⟩|⟨rfl|rfl|rfl,-⟩<;>kernel_rfl
def Tk{w:ag}{FC:Nat}{rc cp:Array Value}{u:Value}{b:Bool}(h:ME w FC rc cp u b){w1:ag}(hb:ae w w1){g:Nat}(hc:w1.cell? (am g)=some (.func (Fn.func FC) rc cp)):
  Calls prog 366 #[u,.pointer<|some<|am g] w1 (a8 w1<|.bool b):=by
 obtain ⟨T,a,rfl,hk,hcall⟩:=h;have hm : ∀ (m : Nat) (x : World), (method (m + 1) T a "loop.example/g00297/impl.follows").run Tryz.prog x = .ok (MC T, a) x := fun m x => xY hk m x;have HRUN:=ah<|AX hk;have HC:=ah<|hcall w1 hb;clear hk hcall hb;go_enter func366,ntmps366;go_wp2_with fail;rw [HRUN.out,Oper.upon_enter];refine HC.mono ?_;rintro e w2 ⟨rfl,hb2⟩;have HB2:=ah hb2;clear hb2 hc hm;go_wp2;go_ret;exact ⟨rfl,HB2⟩
def PO{w:ag}{FC:Nat}{rc cp:Array Value}{u:Value}{b:Bool}(h:ME w FC rc cp u b){w1:ag}(hb:ae w w1){g:Nat}(hc:w1.cell? (am g)=some (.func (Fn.func FC) rc cp)):
  Calls prog 369 #[u,.pointer<|some<|am g] w1 (a8 w1<|.bool<|!b):=by
 obtain ⟨T,a,rfl,hk,hcall⟩:=h;have hm : ∀ (m : Nat) (x : World), (method (m + 1) T a "loop.example/g00297/impl.follows").run Tryz.prog x = .ok (MC T, a) x := fun m x => xY hk m x;have HRUN:=ah<|AX hk;have HC:=ah<|hcall w1 hb;clear hk hcall hb;go_enter func369,ntmps369;go_wp2_with fail;rw [HRUN.out,Oper.upon_enter];refine HC.mono ?_;rintro e w2 ⟨rfl,hb2⟩;have HB2:=ah hb2;clear hb2 hc hm;go_wp2;go_ret;exact ⟨rfl,HB2⟩
def Ww(xs:Array Value)(u:ag):(callFunc 366 xs).run prog u=.ok (.enter 366 xs) u:=cw
def Wx(xs:Array Value)(u:ag):(callFunc 369 xs).run prog u=.ok (.enter 369 xs) u:=cw
def Wy(w:World)(FC:Nat)(rc cp:Array Value)(ad:Q02)(bs:List Bool):Prop:=bs=[] \/ ∃g,ad=some ⟨g,0,none⟩/\g<w.heap.size/\∀(i:Nat) (h:i<bs.length),∃u,w.cell? ⟨g,i,none⟩=some u/\ME w FC rc cp u bs[i]
def Tm{w:ag}{FC:Nat}{rc cp:Array Value}{ad:Q02}{bs:List Bool}(cap:Nat)(hl:bs.length<=1000)(hs:Wy w FC rc cp ad bs)(w1:ag)(hb:ae w w1):
  Calls prog 364 #[.agg #[.slice ad bs.length cap],.func (Fn.func FC) rc cp] w1 (a8 w1<|.bool<|bs.any id):=by
 obtain⟨W0,hW0⟩:=eQx<|(w1.alloc<|.cells #[.slice ad bs.length cap] 304).alloc<|.cells #[.func (Fn.func FC) rc cp] 119;have HB0:O (ae w1 W0):=by show Below _ _ _;rw[hW0];exact((XL _ _).alloc (XK _) _).alloc ct _
 have c0:W0.cell? (am<|w1.heap.size+1)=some (.func (Fn.func FC) rc cp):=by rw[hW0];simp
 have cl:=ax c0;have Y9:O (ae w W0):=hb.trans<|HB0.mono hb.size;have HC:=ah (uU 366 #[] #[.pointer (some<|am<|w1.heap.size+1)] bs ad cap W0 (by simpa using hl) Ww (by
  rcases hs with h|⟨g,e,h1,h2⟩
  ·exact .inl (by first|exact h|(rw[h];rfl))
  refine .inr ⟨g,e,XJ h1 Y9.size,fun i hi=>?_⟩;obtain⟨u,hu,hf⟩:=h2 i (by simpa using hi);refine⟨u,az Y9.out h1 hu,fun w2 hb2=>?_⟩;have h:=Tk hf (Y9.trans<|hb2.mono Y9.size)<|az hb2 cl c0;simpa using h))
 clear hs hb;go_enter func364,ntmps364;go_wp2_with fail;rw[<-hW0];clear hW0 c0 cl;refine HC.mono ?_;rintro e w2 ⟨rfl,hb2⟩;have HB2:=jr HB0 hb2;clear hb2;go_wp2;go_ret;exact⟨rfl,HB2⟩
def Tn{w:ag}{FC:Nat}{rc cp:Array Value}{ad:Q02}{bs:List Bool}(cap:Nat)(hl:bs.length<=1000)(hs:Wy w FC rc cp ad bs)(w1:ag)(hb:ae w w1):
  Calls prog 368 #[.agg #[.slice ad bs.length cap],.func (Fn.func FC) rc cp] w1 (a8 w1<|.bool<|bs.all id):=by
 obtain⟨W0,hW0⟩:=eQx<|(w1.alloc<|.cells #[.slice ad bs.length cap] 306).alloc<|.cells #[.func (Fn.func FC) rc cp] 119;have HB0:O (ae w1 W0):=by show Below _ _ _;rw[hW0];exact((XL _ _).alloc (XK _) _).alloc ct _
 have c0:W0.cell? (am<|w1.heap.size+1)=some (.func (Fn.func FC) rc cp):=by rw[hW0];simp
 have cl:=ax c0;have Y9:O (ae w W0):=hb.trans<|HB0.mono hb.size;have HC:=ah (uU 369 #[] #[.pointer (some<|am<|w1.heap.size+1)] (bs.map (!·)) ad cap W0 (by simpa using hl) Wx (by
  rcases hs with h|⟨g,e,h1,h2⟩
  ·exact .inl (by first|exact h|(rw[h];rfl))
  refine .inr ⟨g,e,XJ h1 Y9.size,fun i hi=>?_⟩;obtain⟨u,hu,hf⟩:=h2 i (by simpa using hi);refine⟨u,az Y9.out h1 hu,fun w2 hb2=>?_⟩;have h:=PO hf (Y9.trans<|hb2.mono Y9.size)<|az hb2 cl c0;simpa using h))
 have hlm:(bs.map (!·)).length=bs.length:=Yp _;rw[hlm]at HC;have HE:O ((bs.map (!·)).any id=!(bs.all id)):=by
  show _=_;clear HC hs hl hlm hW0 c0 cl Y9 HB0
  induction bs with
  | nil=>rfl
  | cons b bs ih=>rw[YT,YP,ih,List.all_cons];cases b<;>simp
 clear hs hb;go_enter func368,ntmps368;go_wp2_with fail;rw[<-hW0];clear hW0 c0 cl;refine HC.mono ?_;rintro e w2 ⟨rfl,hb2⟩;have HB2:=jr HB0 hb2;clear hb2;rw[HE];go_wp2;go_ret;exact⟨ct,HB2⟩
def ME.below{w w':ag}{FC:Nat}{rc cp:Array Value}{u:Value}{b:Bool}(h:ME w FC rc cp u b)(hb:ae w w'):ME w' FC rc cp u b:=by
 obtain⟨T,a,e,hk,hc⟩:=h;exact⟨T,a,e,hk,fun w1 h1=>hc w1<|hb.trans<|h1.mono hb.size⟩
def JU{FC:Nat}{rc cp:Array Value}{K:Fc->Bool}{S:Nat->Prop}:∀(n:Nat) (w:ag) (v:Value) (G:Ru),KnF w FC rc cp K->aG w S n v G->ME w FC rc cp v (G K)
 | 0,_,_,_,_,h=>h.elim
 | n+1,w,v,G,hK,h=>by
  have row:∀{ad:Q02} {Gs:List Ru},qM w S (aG w S n) ad Gs->Wy w FC rc cp ad (Gs.map fun H=>H K):=fun {ad Gs} h=>by
   rcases h with h|⟨g,e,h1,h2,h3⟩
   ·exact .inl (by rw[h];rfl)
   refine .inr ⟨g,e,h2,fun i hi=>?_⟩;obtain⟨u,hu,hp⟩:=h3 i (by simpa using hi);refine⟨u,hu,?_⟩;rw[List.getElem_map];exact JU n w u _ hK hp
  rcases h with⟨b,rfl,rfl⟩|⟨ad,cap,fs,rfl,hz,h1,h2,h3,rfl⟩|⟨ad,cap,Gs,rfl,h1,h2,rfl⟩|⟨ad,cap,Gs,rfl,h1,h2,rfl⟩
  ·exact⟨_,_,rfl,.inl ⟨rfl,_,rfl⟩,fun w1 hb=>JS b _ w1⟩
  ·exact⟨_,_,rfl,.inr ⟨.inl rfl,_,_,_,rfl⟩,fun w1 hb=>UY (hK.below hb) (by have:=h2.1;omega) (h1.below hb) h3⟩
  ·refine⟨_,_,rfl,.inr ⟨.inr<|.inl rfl,_,_,_,rfl⟩,fun w1 hb=>?_⟩;have h:=Tm cap (by rw[Yp];omega) (row h2) w1 hb;rw[Yp,List.any_map]at h;exact h
  refine⟨_,_,rfl,.inr ⟨.inr<|.inr rfl,_,_,_,rfl⟩,fun w1 hb=>?_⟩;have h:=Tn cap (by rw[Yp];omega) (row h2) w1 hb;rw[Yp,List.all_map]at h;exact h
section
variable  [DecidableEq Fc]
def Eg(ad:Q02)(cap:Nat)(fs:Q04)(w:ag)(hl:a7 fs)(hs:jX w ad fs)(hf:∀x∈fs,x.fits):
  Calls prog 153 #[.slice ad fs.length cap] w fun e w'=>(∃b n,e=.returned (.map<|some b)/\aL dM prog 52 w' b n (vV fs))/\ae w w':=by
 have hmm:=@run_makeMap prog;obtain⟨W0,hW0⟩:=eQx<|w.alloc<|.map #[] 0;have HB0:=lX hW0;have HV0:O (aL dM prog 52 W0 w.heap.size 0<|vV<|fs.take 0):=by
  have h:=jL dM prog 52 w;show aL _ _ _ _ _ _ _;rw[hW0];exact h
 have hz0:w.heap.size<W0.heap.size:=by rw[hW0];simp
 have HS:=ah hs;have HF:=ah hf;clear hs hf;go_enter func153,ntmps153;go_wp2_with fail;rw[<-hW0];clear hW0 hmm;go_loopw[9] (fun i wr=>∃k:Nat,k<=fs.length/\i=.int .i64 k/\O (aL dM prog 52 wr w.heap.size k<|vV<|fs.take k)/\O (ae w wr)/\O (w.heap.size<wr.heap.size)) (fun i _=>fs.length-(intOf i).toNat);case atStart=>exact⟨0,XP _,rfl,HV0,HB0,hz0⟩
 clear HV0 HB0 hz0;obtain⟨k,hk,rfl,HV,HB,HZ⟩:=hrel;by_cases hlt:k<fs.length
 ·obtain⟨b,off,YW,⟨t0,t1,t2,t3,t4⟩,hbl⟩:=jX.at0 (HS.below HB) hlt;have hi1:=bG k;have hi2:(k:Int)<(fs.length:Int):=cq;have HT:O (fs.take (k+1)=fs.take k++[fs[k]]):=XM hlt;obtain⟨kl,hkl⟩:=lN fs[k]<|HF _<|XI hlt;obtain⟨x,hx⟩:=eQx<|fs[k];rw[<-hx]at t0 t1 t2 t3 t4 HT hkl;have ZY:=ah hkl;clear hx hkl;obtain⟨W1,hW1⟩:=eQx<|wr.alloc<|.cells (cf x) 52;have ZF:=lX hW1;have HV1:=ah<|HV.below ZF;have HB1:=ah<|HB.trans<|ZF.mono HB.size;have hz1:cX w W1:=XJ HZ ZF.size;subst YW;clear HV HB ZF;go_wp2_with(at_mapUpdate;rw[<-hW1];clear hW1;refine jw _ rfl _ _ _ 115 rfl 52 107 oO nM underlying115 w.heap.size k _ rfl HV1 cy x kl rfl ZY (.agg #[]) rfl ?_);intro w2 hM2 hg2;have HV2:O (aL dM prog 52 w2 w.heap.size (k+1)<|vV<|fs.take<|k+1):=by show aL _ _ _ _ _ _ _;rw[HT,<-He];exact hM2
  have HB2:O (ae w w2):=HB1.grown hg2 HB1.size (fun g hg=>by injection hg with hg;omega);have HZ2:O (w.heap.size<w2.heap.size):=XJ hz1 hg2.size;clear hM2 hg2 t0 t1 t2 t3 t4;go_wp2;go_roundw;case rel=>exact⟨k+1,cq,cx,HV2,HB2,HZ2⟩
  simp[intOf]<;>omega
 have HVE:O (aL dM prog 52 wr w.heap.size k<|vV fs):=by
  have h:=HV.out;rw[Yj cq]at h;exact h
 go_wp2;go_ret;exact⟨⟨_,_,rfl,HVE⟩,HB⟩
end
section
variable  [DecidableEq Fc]
def qR{st:Q00}{rs:Q06}{ts:Q05}(hfr:∀r∈rs,r.fits)(hft:∀x∈ts,x.fits):∀x∈aA st rs ts,x.fits:=fun x hx=>by
 cases hr:aQ (fU rs) rs ts;case false=>rw[fV hr]at hx;cases hx
 rw[dZ hr]at hx;have h1:=(kw st rs ts (fA ts) (dA ts) _).sub x hx;unfold Aj at h1;obtain⟨o,ho,h1⟩:=XZ.1 h1;obtain⟨k,hk,h1⟩:=XZ.1 h1;unfold jH at h1;obtain⟨u,hu,rfl⟩:=XW.1 h1;exact⟨(ik hft o ho).1,(ik hft o ho).2,mU hfr k hk,(gy hft u hu).1,(gy hft u hu).2⟩
end
def okB(f:Fc):Bool:=cZ f.a f.b f.r f.c f.d ⟨#[]⟩
def JV(f:Fc)(w:ag):
  Calls prog 140 #[.agg (cf f)] w (a8 w<|.agg #[.string f.a,.string f.b,.string f.r,.string f.c,.string f.d,.string ⟨#[]⟩]):=by
 go_enter func140,ntmps140;go_wp2;exact bodyPost_ret (v:=.agg #[.string f.a,.string f.b,.string f.r,.string f.c,.string f.d,.string ⟨#[]⟩]) (by simp[results,Tryz.results140,go_sem, *]) rfl ⟨rfl,by
  repeat(first|exact XL _ _|refine Below.setCell ?_ (by first|(simp;done)|(simp;omega)) _|refine Below.alloc ?_ (by first|(simp;done)|(simp;omega)) _)⟩
def MF(f:Fc)(w:ag)(hf:f.fits):
  Calls prog 74 #[.agg (cf f)] w (a8 w<|.bool<|okB f):=by
 obtain⟨W0,hW0⟩:=eQx<|w.alloc<|.cells (cf f) 52;have HB0:=lX hW0;have HC:=ah<|JV f W0;have HF:=ah hf;clear hf;go_enter func74,ntmps74;go_wp2_with fail;rw[<-hW0];clear hW0;refine HC.mono ?_;rintro e w1 ⟨rfl,hb1⟩;have HB1:=ah<|HB0.trans<|hb1.mono HB0.size;clear hb1;go_wp2_with fail;refine(fZ f.a f.b f.r f.c f.d ⟨#[]⟩ _ HF.1 HF.2.1 HF.2.2.1 HF.2.2.2.1 HF.2.2.2.2 cv).mono ?_;rintro e w2 ⟨rfl,hb2⟩;have HB2:=ah<|HB1.trans<|hb2.mono HB1.size;clear hb2;go_wp2;go_ret;exact⟨rfl,HB2⟩
def cO(rs:Q06)(ts:Q05)(out:Q04)(f:Fc):Ru:=gN ts (aH (ai rs) f.a f.r) out f (aH (ai rs) f.a f.r).length<|(aH (ai rs) f.a f.r).length-1
section
variable  {rs:Q06}{P D br bp bt bK nK:Nat}{n1:Int}{nr:Nat}{Mr:KL->Option Value}{Er:List (KL×RR)}{ts:Q05}{xo xu:Q0a}{np:Nat}{Mp:K3->Option Value}{vo vu:Value}{out:Q04}{f:Fc}{ZG:Q02}{Za:Nat}
def Dw{w:ag}{ad:Q02}(hP:PrM w P D ZG Za out bK nK)(hD:DatA w rs D br bp bt n1 nr Mr Er (bB ts) xo xu np Mp vo vu)(hf:f.fits)(hts:∀t∈ts,t.fits)(htl:ts.length<=40)(hsh:bz (ai rs)=true)(hs:kI w ad rs):
  Calls prog 75 #[.pointer (some<|am P),.agg<|cf f] w fun e w'=>(∃v n,e=.returned v/\aG w' (jo w.heap.size) n v (cO rs ts out f)/\n<=8)/\ae w w':=by
 obtain⟨kl,hkl⟩:=j5 (f.a,f.r) hf.1 hf.2.2.1;obtain⟨W0,hW0⟩:=eQx<|w.alloc<|.cells (cf f) 52;have HB0:=lX hW0;have c0:W0.cell? (aE w)=some (.string f.a):=by rw[hW0];simp
 have c1:W0.cell? (a6 w 1)=some (.string f.b):=by rw[hW0];simp
 have c2:W0.cell? (a6 w 2)=some (.string f.r):=by rw[hW0];simp
 have c3:W0.cell? (a6 w 3)=some (.string f.c):=by rw[hW0];simp
 have c4:W0.cell? (a6 w 4)=some (.string f.d):=by rw[hW0];simp
 have d0:=HB0.cell (p:=⟨D,0,none⟩) hD.dat.lt |>.trans hD.dat.c0;have p0:=az HB0.out hP.lt hP.c0;have hlk0:∀m,(Instr.lookup 102 (.map<|some bt) (.agg #[.string f.a,.string f.r]) true).run prog (W0.drewN m)=.ok (.tuple #[(qD rs (f.a,f.r)).getD (.slice none 0 0),.bool (qD rs (f.a,f.r)).isSome]) (W0.drewN m):=fun m =>
  ((hD.tab.below HB0).below<|below_drewN (XL _ _) m).look_ok (t:=102) (e:=37) ji underlying102 (pz _) (x:=(f.a,f.r)) hkl
 cases htab:qD rs (f.a,f.r) with
 | none =>
  have hrel:fI (ai rs) f.a f.r=none:=(qE hsh).no _ htab;have HG:O (cO rs ts out f=fun _=>false):=by show _=_;unfold cO aH;rw[hrel];rfl
  have hlk:=hlk0;rw[htab]at hlk;simp only[Option.getD_none,Option.isSome_none]at hlk;clear hlk0 hD hP hs hkl htab hrel hf;go_enter func75,ntmps75;go_wp2_with fail;rw[<-hW0];clear hW0;go_quiet (fail);clear d0 p0 hlk c0 c1 c2 c3 c4;go_wp2;go_ret;exact⟨⟨_,1,rfl,qN false HG,cq⟩,below_drewN HB0 _⟩
 | some v0 =>
  obtain⟨t,htm,q,hq,-,hv0,hrelp,-⟩:=(qE hsh).yes _ v0 htab;have hsp:aS (au q.rows)=true:=((bI hsh).2.2 t htm q hq).1;have hrx:au q.rows=aH (ai rs) f.a f.r:=by unfold aH;rw[show fI (ai rs) f.a f.r=some (au q.rows) from hrelp];rfl
  obtain⟨hN,hr1⟩:=AU hsp;have hnb:=iY hsp;have htr:=Ol hsp;have hr15:q.rows.length<=15:=by
   have h:=hsp;unfold aS at h;simp only[XN,XU]at h;have:=h.1.1.1.1.2;rw[aX]at this;exact this
  have HFR:oZ rs q.ad q.rows:=.inr ⟨t,htm,q,hq,rfl,rfl⟩;obtain⟨YY,hadE⟩:∃a,a=q.ad:=⟨_,rfl⟩;obtain⟨capE,hcapE⟩:∃a,a=q.cap:=⟨_,rfl⟩;obtain⟨rows,hrows⟩:∃a,a=q.rows:=⟨_,rfl⟩;have hsl:v0=.slice YY rows.length capE:=by rw[hv0,hadE,hcapE,hrows];rfl
  rw[<-hrows]at hN hnb hr1 hrx hr15 htr;rw[<-hrows,<-hadE]at HFR;have hlk:=hlk0;rw[htab,hsl]at hlk;simp only[Yv,Option.isSome_some]at hlk;have hr1000:=hN.len;have hwr:IntKind.i64.wrap ((rows.length:Int)-1)=((rows.length-1:Nat):Int):=by rw[IntKind.wrap_i64];omega
  have HC:O (∀nq,Calls prog 162 #[.pointer (some<|am P),.slice YY rows.length capE,.int .i64 ((rows.length-1:Nat):Int),.agg<|cf f] (W0.drewN nq) fun e w'=>(∃v,e=.returned v/\aG w' (jo w.heap.size) 8 v (cO rs ts out f))/\Below (W0.drewN nq).heap.size (W0.drewN nq) w'):=fun nq=>by
   have hb:ae w (W0.drewN nq):=below_drewN HB0 nq;have h:=xM (capE:=capE) hN hnb hf hts htl htr rows.length 8 (rows.length-1) (W0.drewN nq) cq cq (by have:=htr (rows.length-1) (by rw[aX];omega);omega) (hP.below hb) (hD.below hb) (HFR.sl<|hs.below hb);unfold cO;rw[<-hrx,aX];exact h.mono fun e w' ⟨⟨v,he,hr⟩,hb2⟩=>⟨⟨v,he,hr.old hb.size<|XK _⟩,hb2⟩
  clear hlk0 hD hP hs hsp hkl htab hsl hN hnb htr hf hadE hcapE hrows HFR hrx hv0 hrelp;go_enter func75,ntmps75;go_wp2_with fail;rw[<-hW0];clear hW0;go_quiet (fail);clear d0 p0 hlk;go_wp2_with fail;refine(HC _).mono ?_;rintro e w1 ⟨⟨v,rfl,hr⟩,hb1⟩;have HB1:=ah<|(below_drewN HB0 _).trans<|hb1.mono HB0.size;have HR:=ah hr;clear hb1 hr c0 c1 c2 c3 c4;go_wp2;go_ret;exact⟨⟨v,_,rfl,HR,XK _⟩,HB1⟩
end
open Go.Sort
def Tq(f:Fc):okB f=((dY f.a f.b&&aW f.r)&&dY f.c f.d):=by
 unfold okB cZ;have:ve ⟨#[]⟩=true:=by unfold ve;rw[Go.ByteArray.toList_eq];rfl
 rw[this,Bool.and_true]
def MG(f:Fc)(w:ag)(hf:f.fits):
  Calls prog 160 #[.agg #[.string f.a,.string f.b,.string f.r,.string f.c,.string f.d]] w fun e w'=>e=.returned (.bool<|okB f)/\ae w w':=by
 rw[Tq];obtain⟨W0,hW0⟩:=eQx<|w.alloc<|.cells #[.string f.a,.string f.b,.string f.r,.string f.c,.string f.d] 52;have HB0:=lX hW0;have HK0:=ah (show W0.cell? ⟨w.heap.size,0,none⟩=some (.string f.a)/\W0.cell? ⟨w.heap.size,1,none⟩=some (.string f.b)/\W0.cell? ⟨w.heap.size,2,none⟩=some (.string f.r)/\W0.cell? ⟨w.heap.size,3,none⟩=some (.string f.c)/\W0.cell? ⟨w.heap.size,4,none⟩=some (.string f.d)/\ae w W0 from by refine⟨?_,?_,?_,?_,?_,HB0⟩<;>rw[hW0]<;>simp);have HF:=ah hf;clear hf;go_enter func160,ntmps160;go_wp2_with fail;rw[<-hW0];clear hW0 HB0;refine(eG f.a f.b _ HF.1 HF.2.1).mono ?_;rintro e w1 ⟨rfl,hb1⟩;have HK1:=ah<|vY HK0 hb1;clear hb1 HK0;cases h1:dY f.a f.b;case false=>
  go_wp2;go_ret;exact⟨by simp[h1],HK1.2.2.2.2.2⟩
 obtain⟨c0,c1,c2,c3,c4,-⟩:=HK1.out;go_wp2_with fail;refine(aZ f.r _ HF.2.2.1).mono ?_;rintro e w2 ⟨rfl,rfl⟩;cases h2:aW f.r;case false=>
  clear c0 c1 c2 c3 c4;go_wp2;go_ret;exact⟨by simp[h1,h2],HK1.2.2.2.2.2⟩
 go_wp2_with fail;refine(eG f.c f.d _ HF.2.2.2.1 HF.2.2.2.2).mono ?_;rintro e w3 ⟨rfl,hb3⟩;have HK3:=ah<|vY HK1 hb3;clear hb3 c0 c1 c2 c3 c4;go_wp2;go_ret;exact⟨by simp[h1,h2],HK3.2.2.2.2.2⟩
def rz(rs:Q06)(ts:Q05)(truth known:Q04)(f:Fc):Bool:=dC ts (aH (ai rs) f.a f.r) truth f (aH (ai rs) f.a f.r).length known<|(aH (ai rs) f.a f.r).length-1
def pX(rs:Q06)(ts:Q05)(truth known:Q04)(f:Fc):cO rs ts truth f (aR known)=rz rs ts truth known f:=RO _ _ _ _ _ _ _
def Eh(ad:Q02)(cap:Nat)(rs:Q06)(Y8:Q02)(cap':Nat)(ts:Q05)(adK:Q02)(capK:Nat)(known:Q04)(ZV:Q02)(Zn:Nat)(truth:Q04)(f:Fc)(w:ag)(hlen:rs.length<=1048576)(hs:kI w ad rs)(hl:∀r∈rs,r.light)(hsh:bz (ai rs)=true)(hlt:ts.length<=1048576)(hst:Sl w Y8 ts)(hkl:known.length<=1048576)(hk:jX w adK known)(htl:truth.length<=1048576)(htr:jX w ZV truth):
  Calls prog 161 #[.slice ad rs.length cap,.slice Y8 ts.length cap',.slice adK known.length capK,.slice ZV truth.length Zn,.agg #[.string f.a,.string f.b,.string f.r,.string f.c,.string f.d]] w fun e w'=>e=.returned (.bool<|rz rs ts truth known f)/\ae w w':=by
 obtain⟨W0,hW0⟩:=eQx<|w.alloc<|.cells #[.string f.a,.string f.b,.string f.r,.string f.c,.string f.d] 52;have HB0:=lX hW0;have c0:W0.cell? ⟨w.heap.size,0,none⟩=some (.string f.a):=by rw[hW0];simp
 have c1:W0.cell? ⟨w.heap.size,1,none⟩=some (.string f.b):=by rw[hW0];simp
 have c2:W0.cell? ⟨w.heap.size,2,none⟩=some (.string f.r):=by rw[hW0];simp
 have c3:W0.cell? ⟨w.heap.size,3,none⟩=some (.string f.c):=by rw[hW0];simp
 have c4:W0.cell? ⟨w.heap.size,4,none⟩=some (.string f.d):=by rw[hW0];simp
 have HR:=ah<|jb ad cap rs f.a f.r W0 hlen (hs.below HB0) hl;have HS:=ah<|hs.below HB0;have HHW:O (∀YY rows,iE W0 YY rows->HW W0 Y8 ts YY rows adK known ZV truth):=fun YY rows h=>⟨hst.below HB0,h,hk.below HB0,htr.below HB0⟩;clear hs hst hk htr;go_enter func161,ntmps161;go_wp2_with fail;rw[<-hW0];clear hW0;refine HR.mono ?_;rintro e w1 ⟨⟨rows,YY,capE,rfl,hrx,hsE,-⟩,rfl⟩;have HRX:O (au rows=aH (ai rs) f.a f.r):=hrx;have HSE:=ah hsE;clear hrx hsE HR;by_cases hz:rows.length=0
 ·have HN:O (rz rs ts truth known f=false):=by
   show _=_;unfold rz;rw[<-HRX,aX,hz];rfl
  obtain rfl:rows=[]:=X0.1 hz;clear hz HRX;go_wp2;go_ret;exact⟨by rw[HN];rfl,HB0⟩
 obtain⟨ZQ,hr1⟩:O (NodOk rows)/\1<=rows.length:=by
  have h0:(fI (ai rs) f.a f.r)≠none:=fun h=>by
   have h1:=HRX.out;unfold aH at h1;rw[h]at h1;have:=congrArg List.length h1;rw[aX]at this;exact hz this
  cases hp:fI (ai rs) f.a f.r with
  | none=>exact absurd hp h0
  | some es =>
   have hk:(f.a,f.r)∈ay (ai rs):=by
    cases ht:qD rs (f.a,f.r) with
    | none=>have:=(qE hsh).no _ ht;rw[show fI (ai rs) f.a f.r=none from this]at hp;cases hp
    | some v =>
     obtain⟨t,htm,q,hq,e1,-,-,-⟩:=(qE hsh).yes _ v ht;rw[e1];unfold ay jN;exact XZ.2 ⟨t.p,XW.2 ⟨t,htm,rfl⟩,XW.2 ⟨q.p,XW.2 ⟨q,hq,rfl⟩,rfl⟩⟩
   obtain⟨t,htm,q,hq,-,h2,h3⟩:=Nq hsh hk;have e3:au rows=au q.rows:=by rw[HRX,h2]
   rw[<-e3]at h3;exact AU h3
 have hr1000:=ZQ.len;have hz2:decide ((0:Int)<(rows.length:Int))=true:=by simp;omega
 have hz3:(0:Int)<(rows.length:Int):=cq;have hwr:IntKind.i64.wrap ((rows.length:Int)-1)=((rows.length-1:Nat):Int):=by rw[IntKind.wrap_i64];omega
 have HC:O (Calls prog 146 #[.slice ad rs.length cap,.slice Y8 ts.length cap',.slice YY rows.length capE,.int .i64 ((rows.length-1:Nat):Int),.slice adK known.length capK,.slice ZV truth.length Zn,.agg #[.string f.a,.string f.b,.string f.r,.string f.c,.string f.d]] w1 fun e w'=>e=.returned (.bool<|rz rs ts truth known f)/\ae w1 w'):=by
  have h:=sD (.slice ad rs.length cap) Y8 cap' ts YY capE rows ZV Zn truth f hlt ZQ htl rows.length (rows.length-1) adK capK known w1 cq cq hkl<|HHW _ _ HSE;have e:rz rs ts truth known f=dC ts (au rows) truth f rows.length known (rows.length-1):=by unfold rz;rw[<-HRX,aX]
  rw[e];exact h
 clear hz HRX HSE HHW;go_wp2_with fail;refine HC.mono ?_;rintro e w2 ⟨rfl,hb2⟩;have HB2:=ah<|HB0.trans<|hb2.mono HB0.size;clear hb2 c0 c1 c2 c3 c4;go_wp2;go_ret;exact⟨ct,HB2⟩
section
variable  [DecidableEq Fc]
end
def oQ(rs:Q06)(ts:Q05)(truth L:Q04)(k:Nat):Bool:=(List.range k).all fun i=>match L[i]? with
 | none=>true
 | some x=>okB x&&rz rs ts truth (L.take i) x
def F5(rs:Q06)(ts:Q05)(truth:Q04){L:Q04}{k:Nat}(h:k<L.length):oQ rs ts truth L (k+1)=(oQ rs ts truth L k&&(okB L[k]&&rz rs ts truth (L.take k) L[k])):=by
 unfold oQ;rw[List.range_succ,YQ];simp[XQ h]
def JW(rs:Q06)(ts:Q05)(truth:Q04){L:Q04}{k:Nat}(h:k<L.length)(hn:(okB L[k]&&rz rs ts truth (L.take k) L[k])=false):oQ rs ts truth L L.length=false:=by
 unfold oQ;rw[List.all_eq_false];exact⟨k,List.mem_range.2 h,by rw[XQ h];simpa using hn⟩
def jX.takeF{w:ag}{ad:Q02}{L:Q04}(h:jX w ad L)(k:Nat):jX w ad (L.take k):=by
 rcases h with h|⟨b,off,e,hb,hr⟩
 ·exact .inl (by rw[h];simp)
 refine .inr ⟨b,off,e,hb,fun i hi=>?_⟩;have h1:i<L.length:=by rw[Yc]at hi;omega
 rw[List.getElem_take];exact hr i h1
def Wz{w W w':ag}{n i0 i1 i2 i3 i4:Nat}{x0 x1 x2 x3 x4:Value}(h:W.cell? ⟨n,i0,none⟩=some x0/\W.cell? ⟨n,i1,none⟩=some x1/\W.cell? ⟨n,i2,none⟩=some x2/\W.cell? ⟨n,i3,none⟩=some x3/\W.cell? ⟨n,i4,none⟩=some x4/\ae w W)(hb:ae W w'):w'.cell? ⟨n,i0,none⟩=some x0/\w'.cell? ⟨n,i1,none⟩=some x1/\w'.cell? ⟨n,i2,none⟩=some x2/\w'.cell? ⟨n,i3,none⟩=some x3/\w'.cell? ⟨n,i4,none⟩=some x4/\ae w w':=by
 obtain⟨h0,h1,h2,h3,h4,hB⟩:=h;exact⟨az hb (ax h0) h0,az hb (ax h1) h1,az hb (ax h2) h2,az hb (ax h3) h3,az hb (ax h4) h4,hB.trans<|hb.mono hB.size⟩
theorem Tt(ad:Q02)(cap:Nat)(rs:Q06)(Y8:Q02)(cap':Nat)(ts:Q05)(ZV:Q02)(Zn:Nat)(truth:Q04)(Zo:Q02)(Y0:Nat)(L:Q04)(w:ag)(hlen:rs.length<=1048576)(hs:kI w ad rs)(hl:∀r∈rs,r.light)(hsh:bz (ai rs)=true)(hlt:ts.length<=1048576)(hst:Sl w Y8 ts)(hLl:L.length<=1048576)(hcL:L.length<=Y0)(hL:jX w Zo L)(hLf:∀x∈L,x.fits)(htl:truth.length<=1048576)(htr:jX w ZV truth):
    Calls prog 72 #[.slice ad rs.length cap,.slice Y8 ts.length cap',.slice ZV truth.length Zn,.slice Zo L.length Y0] w fun e w'=>e=.returned (.bool (oQ rs ts truth L L.length))/\ae w w':=by
  have HF5:O (∀(k:Nat) (x:Fc) (W':World),ae w W'->Calls prog 161 #[.slice ad rs.length cap,.slice Y8 ts.length cap',.slice Zo (L.take k).length Y0,.slice ZV truth.length Zn,.agg #[.string x.a,.string x.b,.string x.r,.string x.c,.string x.d]] W' fun e w'=>e=.returned (.bool (rz rs ts truth (L.take k) x))/\ae W' w'):=fun k x W' hb =>
    Eh ad cap rs Y8 cap' ts Zo Y0 (L.take k) ZV Zn truth x W' hlen (hs.below hb) hl hsh hlt (hst.below hb) (by rw[Yc];omega) ((hL.below hb).takeF k) htl (htr.below hb)
  have HL:=ah hL;have HLF:=ah hLf;clear hs hst hL htr hLf;go_enter func72,ntmps72;go_wp2_with fail;go_loopw[9] (fun i wr=>∃k:Nat,k<=L.length/\i=.int .i64 k/\O (oQ rs ts truth L k=true)/\O (ae w wr)) (fun i _=>L.length-(intOf i).toNat);case atStart=>exact⟨0,XP _,rfl,rfl,XL _ _⟩
  obtain⟨k,hk,rfl,HP,HB⟩:=hrel;by_cases hlk:k<L.length
  · obtain⟨b,off,YW,ht,hbl⟩:=jX.at0 (HL.out.below HB.out) hlk;have hi1:=bG k;have hi2:(k:Int)<(L.length:Int):=by omega
    have hi3:(k:Int)<=(Y0:Int):=by omega
    have hi4:k<=Y0:=by omega
    have HSU:=ah (F5 rs ts truth hlk);have HHI:O ((okB L[k]&&rz rs ts truth (L.take k) L[k])=false->oQ rs ts truth L L.length=false):=JW rs ts truth hlk;have HXF:=ah (HLF.out _ (XI hlk));have hlt2:(L.take k).length=k:=by rw[Yc];omega
    have HC5:O (∀W':World,ae wr W'->Calls prog 161 #[.slice ad rs.length cap,.slice Y8 ts.length cap',.slice Zo k Y0,.slice ZV truth.length Zn,.agg #[.string L[k].a,.string L[k].b,.string L[k].r,.string L[k].c,.string L[k].d]] W' fun e w'=>e=.returned (.bool (rz rs ts truth (L.take k) L[k]))/\ae W' w'):=fun W' h=>by
      have h2:=HF5.out k L[k] W' (HB.out.trans (h.mono HB.out.size));rw[hlt2]at h2;exact h2
    obtain⟨x,hx⟩:=eQx (L[k]);rw[<-hx]at ht HSU HHI HXF HC5;have HT5:=ah ht;have HL4:O (∀W':World,Calls prog 160 #[.agg #[.string x.a,.string x.b,.string x.r,.string x.c,.string x.d]] W' fun e w'=>e=.returned (.bool (okB x))/\ae W' w'):=fun W'=>MG x W' HXF.out;clear hx ht hlt2;subst YW;cases hq:okB x;case true=>
      rw[hq]at HL4 HSU HHI;obtain⟨v,hv⟩:∃v,rz rs ts truth (L.take k) x=v:=⟨_,rfl⟩;rw[hv]at HC5 HSU HHI;obtain⟨t0,t1,t2,t3,t4⟩:=HT5.out;clear hq hv;go_wp2_with fail
      go_region_held3 (fun w'=>w'.cell? ⟨b,off+k*5,none⟩=some (.string x.a)/\w'.cell? ⟨b,off+k*5+1,none⟩=some (.string x.b)/\w'.cell? ⟨b,off+k*5+2,none⟩=some (.string x.r)/\w'.cell? ⟨b,off+k*5+3,none⟩=some (.string x.c)/\w'.cell? ⟨b,off+k*5+4,none⟩=some (.string x.d)/\ae wr w')
        (first|assumption|exact Wz (by assumption) hbx|exact⟨t0,t1,t2,t3,t4,(XL _ _).drew⟩)
        (first
         | (go_at_call 160;refine(HL4.out _).mono ?_;rintro e w2 ⟨rfl,hbx⟩)
         | (go_at_call 161;refine(HC5.out _ (And.right (And.right (And.right (And.right (And.right (by assumption))))))).mono ?_;rintro e w3 ⟨rfl,hbx⟩))
      all_goals
        rename_i hJ;have HG:=ah (HB.out.trans (hJ.2.2.2.2.2.mono HB.out.size));clear hJ;cases v;case true=>
          have Zc:O (oQ rs ts truth L (k+1)=true):=by show _=_;rw[HSU.out,HP.out];rfl
          go_wp2;go_roundw;case rel=>exact⟨k+1,by omega,by go_num,Zc,HG⟩
          simp[intOf]<;>omega
        have HN:=ah (HHI.out rfl);go_wp2;go_ret;exact⟨by rw[HN.out];rfl,HG.out⟩
    rw[hq]at HL4 HSU HHI;have HN:=ah (HHI.out rfl);clear hq;go_wp2_with fail;refine ll 20 (fun n=>(u16::u17::u18::u19::u20::u21::u22::u23::u24::u25::u26::u27::u28::u29::u30::u31::u32::u33::u34::u35::[]).getD n undef) (fun fq=>{ tmps:=List.toArray (Value.slice ad rs.length cap::.slice Y8 ts.length cap'::.slice ZV truth.length Zn::.slice (some ⟨b,off,none⟩) L.length Y0::undef::undef::undef::undef::u8::.int .i64 k::.int .i64 k::.slice (some ⟨b,off,none⟩) L.length Y0::.int .i64 L.length::.bool true::u14::u15::fq 0::fq 1::fq 2::fq 3::fq 4::fq 5::fq 6::fq 7::fq 8::fq 9::fq 10::fq 11::fq 12::fq 13::fq 14::fq 15::fq 16::fq 17::fq 18::fq 19::[]),defers:=[] }) (fun n v _=>v=(Value.slice (some ⟨b,off,none⟩) L.length Y0::.int .i64 k::.pointer (some ⟨b,off+k*5,none⟩)::.agg #[.string x.a,.string x.b,.string x.r,.string x.c,.string x.d]::.bool false::.bool true::.bool true::undef::undef::undef::undef::undef::undef::undef::undef::undef::undef::undef::undef::.bool true::[]).getD n undef) (fun w'=>ae wr w') (by kernel_rfl) rfl (by kernel_rfl) rfl (XL _ _).drew ?stepA ?finA;case stepA =>
      rintro i hi o ho fq w' hG hpre;have HG:O (ae wr w'):=hG;have b0:=az HG.out hbl HT5.out.1;have b1:=az HG.out hbl HT5.out.2.1;have b2:=az HG.out hbl HT5.out.2.2.1;have b3:=az HG.out hbl HT5.out.2.2.2.1;have b4:=az HG.out hbl HT5.out.2.2.2.2;have HM:O (∀e∈o.after,Region.binds .any e=true->_):=hpre;clear hG hpre;have hc:=WO (i:=i) (by omega);clear hi
      repeat' rcases hc with rfl|hc
      iterate 4
        · cases ho;have hm:=HM.out
          try simp[Region.binds]at hm
          clear HM;refine wpOp_step rfl (fun K hK=>?_);have HK:O (∀a w,_->K a w):=hK;clear hK
          try simp only[hm]
          go_simp;exact HK.out _ _ ⟨_,by simp[upd, *],HG.out,rfl,fun k u hu=>hu⟩
      · cases ho;have e3:fq 3=.agg #[.string x.a,.string x.b,.string x.r,.string x.c,.string x.d]:=HM.out ⟨3,.data⟩ (by simp) rfl;clear HM;refine wpOp_step rfl (fun K hK=>?_);have HK:O (∀a w,_->K a w):=hK;clear hK;simp only[e3];go_simp;refine(HL4.out _).mono ?_;rintro e w9 ⟨rfl,hb9⟩;have HG9:=jr HG hb9;clear hb9;go_wp2_with fail;exact HK.out _ _ ⟨Value.bool false,by simp[upd,e3],HG9.out,rfl,fun k u hu=>hu⟩
      iterate 15
        · cases ho;have hm:=HM.out
          try simp[Region.binds]at hm
          clear HM;refine wpOp_step rfl (fun K hK=>?_);have HK:O (∀a w,_->K a w):=hK;clear hK
          try simp only[hm]
          go_simp;exact HK.out _ _ ⟨_,by simp[upd, *],HG.out,rfl,fun k u hu=>hu⟩
    case finA =>
      rintro fq w' hG hall;have e19:fq 19=.bool true:=hall 19 (by omega);have HG:O (ae wr w'):=hG;clear hG hall;rw[e19];go_wp2;go_ret;exact⟨by rw[HN.out];rfl,HB.out.trans (HG.out.mono HB.out.size)⟩
  · have HE:O (oQ rs ts truth L L.length=true):=by
      have e:k=L.length:=by omega
      show _=_;rw[<-e];exact HP.out
    go_wp2;go_ret;exact⟨by rw[HE.out];rfl,HB.out⟩
def eY(rs:Q06)(ts:Q05)(Q:Q04)(i:Nat)(kept:Q04):Bool:=oQ rs ts Q (Q.take i++kept) (Q.take i++kept).length
def kD(rs:Q06)(ts:Q05)(Q:Q04)(f:Fc)(k:Nat):List Fc:=ja (eY rs ts Q) Q k [f]
def F6(x y:Q04):av (x++y)=av x++av y:=by simp[av]
def WA(rs:Q06)(ts:Q05)(Q:Q04)(f:Fc)(w:World)(e:Ending)(w':World):Prop:=(aR Q f=false/\e=.returned (.tuple #[.slice none 0 0,.bool false]) \/ ∃(k:Nat) (h:k<Q.length) (gP capP:Nat),Q[k]=f/\f ∉ Q.take k/\e=.returned (.tuple #[.slice (some ⟨gP,0,none⟩) (kD rs ts Q f k).length capP,.bool true])/\w'.ownsRow w.heap.size 52 5 (.slice (some ⟨gP,0,none⟩) (kD rs ts Q f k).length capP) (kD rs ts Q f k).length (av<|kD rs ts Q f k))/\ae w w'
section
variable  [DecidableEq Fc]
def Ap(st:Q00)(ad:Q02)(cap:Nat)(rs:Q06)(Y8:Q02)(cap':Nat)(ts:Q05)(f:Fc)(w:ag)(hlen:a7 rs)(hs:kI w ad rs)(hl:∀r∈rs,r.light)(hfr:∀r∈rs,r.fits)(hlt:a7 ts)(hst:Sl w Y8 ts)(hft:∀x∈ts,x.fits)(hff:∀x∈aA st rs ts,x.fits)(hle:aN (ai rs)=true->Least (ai rs) st):
  Calls prog 19 #[.slice ad rs.length cap,.slice Y8 ts.length cap',.agg<|cf f] w (WA rs ts (aA st rs ts) f w):=by
 obtain⟨iR,hiR,zR0,zR1,zR2⟩:=mI;have Zk:O (prog.info? 52=some iR/\iR.zero=some (.agg ar)/\iR.size=5/\iR.bytes=80):=⟨hiR,zR0,zR1,zR2⟩;have hQl:=jJ st (rs:=rs) (ts:=ts);obtain⟨W0,hW0⟩:=eQx<|w.alloc<|.cells (cf f) 52;have hB0:ae w W0:=by rw[hW0];exact(XL _ _).alloc (XK _) _
 have Zv:O (kC W0 w.heap.size f):=by show kC _ _ _;rw[hW0];exact World.alloc_heap_new w _
 have HCC:=ah<|Ef st ad cap rs Y8 cap' ts f W0 hlen (hs.below hB0) hl hfr hlt (hst.below hB0) hft hle
 have HAC:O (aQ (fU rs) rs ts=true->(∀ W':World,ae w W'->Calls prog 61 #[.slice ad rs.length cap,.slice Y8 ts.length cap'] W' fun e w'=>(∃ v,e=.returned v/\bj W' w' 52 5 v (aA st rs ts).length (av<|aA st rs ts))/\ae W' w') /\
   (∀(W':World) (ZV:Q02) (Zn:Nat) (Zo:Q02) (Y0:Nat) (L:Q04),ae w W'->jX W' ZV (aA st rs ts)->L.length<=1048576->L.length<=Y0->jX W' Zo L->(∀x∈L,x.fits)->Calls prog 72 #[.slice ad rs.length cap,.slice Y8 ts.length cap',.slice ZV (aA st rs ts).length Zn,.slice Zo L.length Y0] W' fun e w'=>e=.returned (.bool<|oQ rs ts (aA st rs ts) L L.length)/\ae W' w')):=fun hr=>by
  have hsd:aN (ai rs)=true/\ts.length<=40:=by
   unfold aQ dW at hr;simp only[XN,XU]at hr;exact⟨hr.1.1,hr.1.2.1⟩
  refine⟨fun W' hb=>?_,fun W' ZV Zn Zo Y0 L hb hsR hLl hcL hL hLf=>?_⟩
  ·have:=yU st ad cap rs Y8 cap' ts W' (bf.1 hsd.1) (hle hsd.1) (hs.below hb) hl hsd.2<|hst.below hb;rw[<-dZ hr]at this;exact this
  exact Tt ad cap rs Y8 cap' ts ZV Zn (aA st rs ts) Zo Y0 L W' hlen (hs.below hb) hl (bf.1 hsd.1).1 hlt (hst.below hb) hLl hcL hL hLf cq hsR
 have HB0:=ah hB0;have HFF:=ah hff;have HNR:O (aR (aA st rs ts) f=true->aQ (fU rs) rs ts=true):=fun h=>by
  cases hr:aQ (fU rs) rs ts;case true=>rfl
  rw[fV hr]at h;cases h
 clear hs hl hfr hst hft hle hB0 hff hiR zR0 zR1 zR2;obtain⟨Q,hQ⟩:=eQx<|aA st rs ts;rw[<-hQ]at hQl HCC HAC HFF HNR ⊢;clear hQ;go_enter func19,ntmps19;obtain⟨c0,c1,c2,c3,c4,cl⟩:=Zv.c;go_wp2_with fail;rw[<-hW0];clear hW0;refine HCC.mono ?_;rintro e w1 ⟨rfl,hb1⟩;have HB1:=jr HB0 hb1;have HX1:=ah<|Zv.bel hb1;clear hb1 HCC c0 c1 c2 c3 c4 cl HB0 Zv;cases hq:aR Q f;case false=>
  have HQ:=ah hq;clear hq HAC HFF HNR;go_wp2;exact bodyPost_ret (v:=.tuple #[.slice none 0 0,.bool false]) (by simp[results,Tryz.results19,go_sem]) rfl ⟨.inl ⟨HQ,rfl⟩,HB1⟩
 have HA:=ah (HAC<|HNR hq).1;have H5:=ah (HAC<|HNR hq).2;have HMEM:O (f∈Q):=aU.1 hq;clear hq HAC HNR;go_wp2_with fail;refine(HA _ HB1).mono ?_;rintro e w2 ⟨⟨vR,rfl,hownR⟩,hb2⟩;obtain⟨ZV,Zn,rfl,hsR⟩:=gV hownR;have HSR:=ah hsR;have HB2:=jr HB1 hb2;have HX2:=ah<|HX1.bel hb2;clear hownR hsR hb2 HB1 HX1 HA;obtain⟨W3,hW3⟩:=eQx<|w2.alloc<|.cells #[] 52;have HB3:=lX hW3;have Zq:O (bj w2 W3 52 5 (.slice (some<|aE w2) 0 0) 0<|av<|Q.take 0):=by
  show World.ownsRow _ _ _ _ _ _ _;rw[hW3];exact World.ownsRow_lit w2 #[] 0 (XK _) cy ct
 go_wp2_with fail;rw[<-hW3];clear hW3;go_loopw[9,10] (fun v i wr=>∃(k:Nat),k<=Q.length/\i=.int .i64 k/\(∃g c,v=.slice (some<|am g) k c)/\O (bj w2 wr 52 5 v k<|av<|Q.take k)/\O (f ∉ Q.take k)/\O (ae w2 wr)) (fun _ i _=>Q.length-(intOf i).toNat);case atStart=>exact⟨0,XP _,rfl,⟨w2.heap.size,0,rfl⟩,Zq,by show f ∉ Q.take 0;simp,HB3⟩
 clear Zq HB3;obtain⟨k,hk,rfl,⟨g,c,rfl⟩,HO,ZQ,HB⟩:=hrel;by_cases hkl:k<Q.length
 ·obtain⟨b,off,YW,⟨t0,t1,t2,t3,t4⟩,hbl⟩:=jX.at0 (HSR.below HB) hkl;have hk1:=bG k;have hk2:(k:Int)<(Q.length:Int):=cq;obtain⟨x,hx⟩:=eQx<|Q[k];rw[<-hx]at t0 t1 t2 t3 t4;have HTK:O (Q.take (k+1)=Q.take k++[x]):=by show _=_;rw[hx];exact XM hkl
  have HXE:=ah hx;have HBWr:O (ae w wr):=HB2.trans<|HB.mono HB2.size;obtain⟨W4,Zw⟩:=eQx<|wr.alloc<|.cells (cf x) 52;have Zg:O (bj w2 W4 52 5 (.slice (some<|am g) k c) k<|av<|Q.take k):=by show World.ownsRow _ _ _ _ _ _ _;rw[Zw];exact HO.alloc _
  have HNW:O (∀j u,x.row[j]?=some u->W4.cell? ((⟨wr.heap.size,0,none⟩:Addr).add j)=some u):=by show ∀j u,_;rw[Zw];exact xm wr x
  have Z7:O (ae w2 W4):=by show Below _ _ _;rw[Zw];exact HB.alloc HB.size _
  have hz4:cY w2 W4:=Z7.size;subst YW;clear hx HO HB HBWr;go_wp2_with(at_builtin;go_must (rw[<-Zw];clear Zw;refine wpList_append_own_at _ rfl _ _ 44 rfl w2.heap.size 52 iR (.agg ar) 5 80 underlying44 Zk.1 Zk.2.1 Zk.2.2.1 Zk.2.2.2 rfl cv _ k (av<|Q.take k) rfl Zg ⟨wr.heap.size,0,none⟩ 1 1 x.row rfl rfl HNW (by simp[Fc.row,Value.oneCell']) cy cq hz4 ?_));intro v5 w5 hown5 hgr5 _ _;have Ze:O (bj w2 w5 52 5 v5 (k+1)<|av<|Q.take<|k+1):=by show World.ownsRow _ _ _ _ _ _ _;rw[HTK,kX];exact hown5
  have HB5:O (ae w2 w5):=Z7.grown hgr5 Z7.size fun z hz=>(Zg.lt z hz).1;obtain⟨ad5,cap5,hv5⟩:=qG Ze;subst hv5;obtain⟨g5,hg5,-⟩:=pM Ze cq;subst hg5;have HC5:=ah<|xq Ze;clear hown5 hgr5 Zg HNW Z7 hz4 t0 t1 t2 t3 t4;obtain⟨b',off',hadr',⟨t0,t1,t2,t3,t4⟩,hbl'⟩:=jX.at0 (HSR.below HB5) hkl;injection hadr' with hadr';injection hadr' with e1 e2;subst e1 e2;rw[<-HXE]at t0 t1 t2 t3 t4;obtain⟨c0,c1,c2,c3,c4,cl⟩:=(HX2.bel HB5).c;cases hq:pI x f;case false=>
   have heq:=r9 x f (v:=false) hq;have HNO2:O (f ∉ Q.take (k+1)):=fun hm=>by
    rw[HTK]at hm;rcases XV.1 hm with hm|hm
    ·exact ZQ hm
    rw[<-XX.1 hm,iU.2 rfl]at hq;cases hq
   clear hq;go_wp2_with fail;go_quiet (fail);clear t0 t1 t2 t3 t4 c0 c1 c2 c3 c4 heq;have ZI:O ((w5.drewN nq).ownsRow w2.heap.size 52 5 (.slice (some<|am g5) (k+1) cap5) (k+1)<|av<|Q.take<|k+1):=gW Ze fun z hz=>rfl;go_wp2;go_roundw;case rel=>exact⟨k+1,cq,cx,⟨g5,cap5,cx⟩,ZI,HNO2,below_drewN HB5 _⟩
   simp[intOf]<;>omega
  have heq:=r9 x f (v:=true) hq;have HXF:O (x=f):=iU.1 hq;clear hq;go_wp2_with fail;go_quiet (fail);clear t0 t1 t2 t3 t4 c0 c1 c2 c3 c4 heq;have ZI:O ((w5.drewN nq).ownsRow w2.heap.size 52 5 (.slice (some<|am g5) (k+1) cap5) (k+1)<|av<|Q.take<|k+1):=gW Ze fun z hz=>rfl;have HB6:=ah<|below_drewN HB5 nq;obtain⟨w6,hw6⟩:∃w6,w5.drewN nq=w6:=⟨_,rfl⟩;rw[hw6]at ZI HB6 ⊢;clear hw6 Ze HB5;have HIN:O (f∈Q):=HMEM;have HEQ:O ((Q.take<|k+1)=Q.take k++[f]):=by show _=_;rw[HTK,HXF]
  have HGT:O (Q[k]=f):=by show _=_;rw[<-HXE];exact HXF
  rw[HEQ]at ZI;clear HTK HXE HXF HEQ;go_wp2_with fail;go_loopw[9,11] (fun v i wr=>∃(j:Nat) (kept:Q04) (g c:Nat),j<=k/\i=.int .i64 ((j:Int)-1)/\v=.slice (some<|am g) (j+kept.length) c/\1<=kept.length/\j+kept.length<=k+1/\O (bj w2 wr 52 5 (.slice (some<|am g) (j+kept.length) c) (j+kept.length)<|av<|Q.take j++kept)/\O (ja (eY rs ts Q) Q j kept=kD rs ts Q f k)/\O (∀x∈kept,x∈Q)/\O (ae w2 wr)) (fun _ i _=>(intOf i+1).toNat);case atStart=>exact⟨k,[f],g5,cap5,XK _,cx,ct,ct,ct,ZI,rfl,fun x hx=>by rw[XX.1 hx];exact HIN,HB6⟩
  clear ZI HB6 HC5;obtain⟨j,kept,g,c,hjk,rfl,rfl,hk1,hk2,HO,HND,HKI,HB⟩:=hrel;have hcap:=xq HO;cases j with
  | zero =>
   have hneg:¬(0:Int)<=((0:Nat):Int)-1:=cq;have hl0:(0:Nat)+kept.length=kept.length:=Yg _;have HSE:O (bj w wr 52 5 (.slice (some<|am g) kept.length c) kept.length<|av kept):=by
    show World.ownsRow _ _ _ _ _ _ _;exact pO (by have:=HO.out;simpa using this) HB2.size
   rw[hl0]at *
   have HBE:O (ae w wr):=HB2.trans<|HB.mono HB2.size;have HRES:O (kD rs ts Q f k=kept):=HND.symm;clear HO HND HB;go_wp2;exact bodyPost_ret (v:=.tuple #[.slice (some<|am g) kept.length c,.bool true]) (by simp[results,Tryz.results19,go_sem]) rfl ⟨.inr ⟨k,hkl,g,c,HGT,ZQ,by rw[HRES],by rw[HRES];exact HSE⟩,HBE⟩
  | succ m =>
   have hmq:m<Q.length:=cq;have hm0:=bG m;have e0:(((m+1:Nat)):Int)-1=(m:Int):=cq;rw[e0];obtain⟨N,hN⟩:=eQx<|m+1+kept.length;have hN1:N<=m+1+kept.length:=cq;have hN2:m+1+kept.length<=N:=cq;have HOx:=HO.out;rw[<-hN]at HOx hcap ⊢;have HO:=ah HOx;clear HOx e0 hN;have HXT:O ((Q.take (m+1)++kept).take m=Q.take m):=by
    show _=_;rw[List.take_append_of_le_length (by rw[Yc];omega),List.take_take,Nat.min_eq_left cq]
   have HXD:O ((Q.take (m+1)++kept).drop (m+1)=kept):=by
    show _=_;rw[List.drop_append_of_le_length (by rw[Yc];omega),Ya<|by rw[Yc];omega,YI]
   obtain⟨W7,hW7⟩:=eQx<|wr.alloc<|.cells #[] 52;have Zz:O (bj wr W7 52 5 (.slice (some<|aE wr) 0 0) 0 []):=by
    show World.ownsRow _ _ _ _ _ _ _;rw[hW7];exact World.ownsRow_lit wr #[] 0 (XK _) cy ct
   have HB7:=lX hW7;have HR7:O (bj w2 W7 52 5 (.slice (some<|am g) N c) N<|av<|Q.take (m+1)++kept):=gW HO fun z hz=>HB7.block z (HO.lt z hz).2;have hz7:cY wr W7:=HB7.size;have hgl:cW g wr:=(HO.lt g rfl).2;have hmc:(m:Int)<=(c:Int):=cq
   have hmN:(m:Int)<=(N:Int):=cq;have hmn:m<=N:=cq;have hmc':m<=c:=cq;go_wp2_with(at_builtin;go_must (rw[<-hW7];clear hW7;refine wpList_append_own_at _ rfl _ _ 44 rfl wr.heap.size 52 iR (.agg ar) 5 80 underlying44 Zk.1 Zk.2.1 Zk.2.2.1 Zk.2.2.2 rfl cv _ 0 [] rfl Zz ⟨g,0,none⟩ m c (av<|(Q.take (m+1)++kept).take m) rfl (by rw[fe,Yc];congr 1;rw[XT,Yc];omega) (qH HR7 m hmn) (kv _) cy cq hz7 ?_));intro v8 w8 Zy hgr8 _ _;have HO8:O (bj wr w8 52 5 v8 m<|av<|Q.take m):=by
    show World.ownsRow _ _ _ _ _ _ _;rw[HXT]at Zy
    first|exact Zy|(rw[Yg,YI]at Zy;exact Zy)|simpa using Zy
   have HB8:O (ae wr w8):=HB7.grown hgr8 HB7.size (fun z hz=>by simp[Value.ownBlock]at hz;omega);have hz8:cY wr w8:=HB8.size;have HR8:O (bj w2 w8 52 5 (.slice (some<|am g) N c) N<|av<|Q.take (m+1)++kept):=gW HO fun z hz=>HB8.block z (HO.lt z hz).2;clear Zy hgr8 Zz HB7 HR7 hz7;have hq1:(0:Int)<=(m:Int)+1:=cq
   have hq2:(m:Int)+1<=(N:Int):=cq;have hq3:¬(c=m+1):=cq;have hq4:¬(m+1=c):=cq;have hwr:IntKind.i64.wrap ((m:Int)+1)=(m:Int)+1:=by rw[IntKind.wrap_i64];omega
   go_wp2_with(at_builtin;go_must (refine wpList_append_own_at _ rfl _ _ 44 rfl wr.heap.size 52 iR (.agg ar) 5 80 underlying44 Zk.1 Zk.2.1 Zk.2.2.1 Zk.2.2.2 rfl cv v8 m (av<|Q.take m) rfl HO8 ⟨g,(m+1)*5,none⟩ (N-(m+1)) (c-(m+1)) (av<|(Q.take (m+1)++kept).drop<|m+1) rfl (by rw[fe,YD];congr 1;rw[XT,Yc];omega) (vQ HR8 (m+1) cq) (kv _) cy cq hz8 ?_));intro v9 w9 hown9 hgr9 _ _;have hNk:m+(N-(m+1))=m+kept.length:=cq
   have HO9:O (bj wr w9 52 5 v9 (m+kept.length)<|av<|Q.take m++kept):=by
    show World.ownsRow _ _ _ _ _ _ _;rw[HXD,hNk]at hown9;rw[F6];exact hown9
   have HB9:O (ae wr w9):=HB8.grown hgr9 HB8.size fun z hz=>(HO8.lt z hz).1;clear hown9 hgr9 HO8 HB8 HR8 hz8 hq1 hq2 hq3 hq4 hwr hmc hmN hmn hmc';obtain⟨ad9,cap9,hv9⟩:=qG HO9;subst hv9;obtain⟨g9,hg9,-⟩:=pM HO9 cq;subst hg9;have HC9:=ah<|xq HO9;have hLl:(Q.take m++kept).length=m+kept.length:=by rw[XT,Yc];omega
   have HS9:O (jX w9 (some<|am g9)<|Q.take m++kept):=by
    obtain⟨adX,capX,heX,hsX⟩:=gV (fs:=Q.take m++kept) (by rw[hLl];exact HO9);injection heX with e1 e2 e3;subst e1;exact hsX
   have HB9w2:O (ae w2 w9):=HB.trans<|HB9.mono HB.size;have HC5:=ah (H5 w9 _ Zn (some<|am g9) cap9 (Q.take m++kept) (HB2.trans<|HB9w2.mono HB2.size) (HSR.below HB9w2) cq (by rw [hLl];exact HC9) HS9 (fun x hx=>by
    rcases XV.1 hx with hx|hx
    ·exact HFF x<|List.mem_of_mem_take hx
    exact HFF x<|HKI x hx))
   rw[hLl]at HC5;clear HS9 hLl;go_wp2_with fail;refine HC5.mono ?_;rintro e w10 ⟨rfl,hb10⟩;have HTQ:O (oQ rs ts Q (Q.take m++kept) (m+kept.length)=eY rs ts Q m kept):=by
    show _=_;unfold eY;rw[XT,Yc,Nat.min_eq_left cq]
   rw[HTQ];have HB10:=jr HB9w2 hb10;have HO10:O (bj w2 w10 52 5 (.slice (some<|am g9) (m+kept.length) cap9) (m+kept.length)<|av<|Q.take m++kept):=pO (gW HO9 fun z hz=>hb10.block z (HO9.lt z hz).2) HB.size;have HOL:O (bj w2 w10 52 5 (.slice (some<|am g) N c) N<|av<|Q.take (m+1)++kept):=gW HO fun z hz=>(hb10.block z<|XJ (HO.lt z hz).2 HB9.size).trans<|HB9.block z (HO.lt z hz).2;clear hb10 HC5 HO9 HB9 HB9w2 HO HC9;cases hq:eY rs ts Q m kept;case true=>
    have HN2:O (ja (eY rs ts Q) Q m kept=kD rs ts Q f k):=by show _=_;rw[<-HND,pV hmq hq]
    clear hq HOL HND;go_wp2;go_roundw;case rel=>exact⟨m,kept,g9,cap9,cq,cx,rfl,hk1,cq,HO10,HN2,HKI,HB10⟩
    simp[intOf]<;>omega
   have HN2:O (ja (eY rs ts Q) Q m (Q[m]::kept)=kD rs ts Q f k):=by show _=_;rw[<-HND,sI hmq hq]
   have HNN:O (N=m+(Q[m]::kept).length):=by show _=_;rw[Yh];omega
   have HOL2:O (bj w2 w10 52 5 (.slice (some<|am g) N c) N<|av<|Q.take m++(Q[m]::kept)):=by
    have:=HOL.out;rw[XM hmq,Ye]at this;exact this
   have HKI2:O (∀x∈Q[m]::kept,x∈Q):=fun x hx=>by
    rcases X7.1 hx with rfl|hx
    ·exact XI hmq
    exact HKI x hx
   clear hq HOL HND HO10 HKI;go_wp2;go_roundw;case rel=>exact⟨m,Q[m]::kept,g,c,cq,cx,by rw[<-HNN],ct,by rw[Yh];omega,by rw[<-HNN];exact HOL2,HN2,HKI2,HB10⟩
   simp[intOf]<;>omega
 exfalso;have:Q.take k=Q:=Yj cq;exact ZQ (by rw[this];exact HMEM)
end
def sU(n:Nat):Nat:=40*5 ^ n
def PP(n:Nat):sU (n+1)=5*sU n:=by unfold sU;rw[Nat.pow_succ];omega
def Tu(n:Nat):40<=sU n:=by
 unfold sU;have:0<5 ^ n:=Nat.pos_of_ne_zero ct;omega
def UZ:∀{n m:Nat},n<=m->sU n<=sU m
 | n,m,h=>by
  unfold sU;exact Nat.mul_le_mul_left _<|Nat.pow_le_pow_right cq h
def MH{n:Nat}(h:n<=14):sU n<=244140625000:=XR (UZ h) cv
def PQ{w:ag}{b off:Nat}{fs:Q04}(h:WX w b off fs):∀j u,(av fs)[j]?=some u->w.cell? ((⟨b,off,none⟩:Addr).add j)=some u:=by
 intro j u hu;have hl:=fe fs;have hj:j<fs.length*5:=by
  rcases Nat.lt_or_ge j (av fs).length with h|h
  ·omega
  rw[List.getElem?_eq_none h]at hu;cases hu
 have hi:j / 5<fs.length:=cq;have hr:j%5<5:=Nat.mod_lt _ cq;have e:j=j / 5*5+j%5:=cq;rw[e,lQ fs _ hi _ hr]at hu;rw[show((⟨b,off,none⟩:Addr).add j)=⟨b,off+j / 5*5+j%5,none⟩ by rw[show(⟨b,off,none⟩:Addr).add j=⟨b,off+j,none⟩ by simp[Addr.add]];congr 1;omega];obtain⟨c0,c1,c2,c3,c4⟩:=h (j / 5) hi;have h6:j%5=0\/j%5=1\/j%5=2\/j%5=3\/j%5=4:=cq
 rcases h6 with e6|e6|e6|e6|e6<;>rw[e6]at hu ⊢ <;>simp only[Fc.row,List.getElem?_cons_zero,List.getElem?_cons_succ]at hu<;>rw[<-hu]<;>assumption
def Tv{w:ag}{a:Addr}{fs:Q04}(h:jX w (some a) fs):∀j u,(av fs)[j]?=some u->w.cell? (a.add j)=some u:=by
 rcases h with h|⟨b,off,e,-,hr⟩
 ·intro j u hu;rw[h]at hu;simp[av]at hu
 injection e with e;rw[e];exact PQ hr
def WB(S:Nat->Prop)(w:World)(ad:Q02)(fs:Q04):Prop:=fs=[] \/ ∃g,ad=some ⟨g,0,none⟩/\(S g\/w.heap.size<=g)
def WB.old{S:Nat->Prop}{w w':ag}{ad:Q02}{fs:Q04}(h:WB S w' ad fs)(hs:cY w w'):WB S w ad fs:=by
 rcases h with h|⟨g,e,h|h⟩
 ·exact .inl h
 ·exact .inr ⟨g,e,.inl h⟩
 exact .inr ⟨g,e,.inr<|XR hs h⟩
def MI(S:Nat->Prop)(w:World)(H:List Fc->Prop)(m:Nat)(e:Ending)(w':World):Prop:=(∃(ad:Q02) (cap:Nat) (fs:Q04),e=.returned (.slice ad fs.length cap)/\(ad=none->cap=0)/\jX w' ad fs/\H fs/\fs.length<=m/\(∀x∈fs,x.fits)/\WB S w ad fs)/\ae w w'
def sV{S:Nat->Prop}(n:Nat)(hn:n<=14)(IH:∀(w:ag) (v:Value) (G:Ru),aG w S n v G->Calls prog 158 #[v] w (MI S w (iZ G)<|sU n))(ad:Q02)(cap:Nat)(Gs:List Ru)(w:ag)(hl:Gs.length<=5)(hr:qM w S (aG w S n) ad Gs):
  Calls prog 227 #[.slice ad Gs.length cap] w (MI S w (fun fs=>∀G∈Gs,iZ G fs) (sU<|n+1)):=by
 obtain⟨iR,hiR,zR0,zR1,zR2⟩:=mI;have Zk:O (prog.info? 52=some iR/\iR.zero=some (.agg ar)/\iR.size=5/\iR.bytes=80):=⟨hiR,zR0,zR1,zR2⟩;have HR:=ah hr;have HI:=ah IH;have hs0:=MH (n:=n) cq;have HSU:=ah<|PP n;obtain⟨M,hM⟩:=eQx<|sU n;rw[<-hM]at hs0 HSU HI;clear hr IH hiR zR0 zR1 zR2 hM;go_enter func227,ntmps227;go_wp2_with fail;go_loopw[3,8] (fun v i wr=>∃(k:Nat) (fs:Q04),k<=Gs.length/\i=.int .i64 k/\fs.length<=k*M/\O (bj w wr 52 5 v fs.length<|av fs)/\O (∀G∈Gs.take k,iZ G fs)/\O (∀x∈fs,x.fits)/\O (ae w wr)) (fun _ i _=>Gs.length-(intOf i).toNat);case atStart=>exact⟨0,[],XP _,rfl,ct,World.ownsRow_nil _ _ _ _,(fun G hG=>by simp at hG),(fun x hx=>by cases hx),XL _ _⟩
 obtain⟨k,fs,hk,rfl,hfl,HO,HH,HF,HB⟩:=hrel;by_cases hlt:k<Gs.length
 ·have hg:∃g,ad=some (am g)/\∃u,wr.cell? (ap g k)=some u/\g<wr.heap.size/\aG wr S n u Gs[k]:=by
   rcases HR.out with h|⟨g,e,-,h2,h3⟩
   ·rw[h]at hlt;simp at hlt
   obtain⟨u,hu,hp⟩:=h3 k hlt;exact⟨g,e,u,(HB.cell (p:=⟨g,k,none⟩) h2).trans hu,XJ h2 HB.size,hp.below HB⟩
  obtain⟨g,YW,u,hu,hgl,hp⟩:=hg;obtain⟨uT,ua,hue⟩:=hp.is;subst hue;have hi1:=bG k;have hi2:(k:Int)<(Gs.length:Int):=cq;have HC:=ah<|HI wr _ _ hp;have HTK:O (Gs.take (k+1)=Gs.take k++[Gs[k]]):=XM hlt;have hkM:k*M+M<=5*M:=by
   have:(k+1)*M<=5*M:=Nat.mul_le_mul_right _ cq;rw[Nat.add_mul]at this;omega
  subst YW;clear hp;go_wp2_with fail;refine HC.mono ?_;rintro e w2 ⟨⟨ad2,cap2,fs2,rfl,hc2,hs2,hh2,hl2,hf2,-⟩,hb2⟩;have HB2:=jr HB hb2;have YZ:=ah<|aP HO hb2;have HH2:O (∀G∈Gs.take (k+1),iZ G<|fs++fs2):=fun G hG=>by
   rw[HTK]at hG;rcases XV.1 hG with h|h
   ·exact(HH G h).more fun x hx=>YN _ hx
   rw[XX.1 h];exact hh2.more fun x hx=>List.mem_append_right _ hx
  have HF2:O (∀x∈fs++fs2,x.fits):=fun x hx=>by
   rcases XV.1 hx with h|h
   ·exact HF x h
   exact hf2 x h
  have hl3:(fs++fs2).length<=(k+1)*M:=by rw[XT,Nat.add_mul];omega
  have hsz:cY w w2:=HB2.size;cases ad2 with
  | none =>
   have e2:fs2=[]:=by
    rcases hs2 with h|⟨b,off,e,-⟩
    ·exact h
    cases e
   subst e2;obtain rfl:=hc2 rfl;rw[YB]at HH2 HF2 hl3;have HL3:=ah hl3;clear hb2 hs2 hh2 hl2 hf2 HC HO HH HF hl3 hc2 hu;go_wp2_with(at_builtin;go_must (refine wpList_append_own_none rfl _ _ 44 rfl w.heap.size 52 iR 5 underlying44 Zk.1 _ _ _ rfl YZ rfl ?_));go_wp2;go_roundw;case rel=>exact⟨k+1,fs,cq,cx,HL3,YZ,HH2,HF2,HB2⟩
   simp[intOf]<;>omega
  | some a2 =>
   have HS2:=ah hs2;have HL3:=ah hl3;clear hb2 hs2 hh2 hf2 HC HO HH HF hl3 hc2 hu;go_wp2_with(at_builtin;go_must (refine wpList_append_own_at _ rfl _ _ 44 rfl w.heap.size 52 iR (.agg ar) 5 80 underlying44 Zk.1 Zk.2.1 Zk.2.2.1 Zk.2.2.2 rfl cv _ fs.length (av fs) rfl YZ a2 fs2.length cap2 (av fs2) rfl (fe fs2) (Tv HS2) (kv _) cy cq hsz ?_));intro v5 w5 hown5 hgr5 _ _;have Ze:O (bj w w5 52 5 v5 (fs++fs2).length<|av<|fs++fs2):=by
    show World.ownsRow _ _ _ _ _ _ _;have e:av (fs++fs2)=av fs++av fs2:=by simp[av]
    rw[e,XT];exact hown5
   have HB5:O (ae w w5):=HB2.grown hgr5 HB2.size fun z hz=>(YZ.lt z hz).1;clear hown5 hgr5 YZ;go_wp2;go_roundw;case rel=>exact⟨k+1,fs++fs2,cq,cx,HL3,Ze,HH2,HF2,HB5⟩
   simp[intOf]<;>omega
 obtain⟨ad3,cap3,hv3,hs3⟩:=gV HO;have hc3:ad3=none->cap3=0:=fun e=>by
  subst e;rcases HO.out.2 with⟨e2,-⟩|⟨g,c2,cur,e2,-⟩
  ·rw[hv3]at e2;injection e2
  rw[hv3]at e2;cases e2
 subst hv3;have hat3:WB S w ad3 fs:=by
  by_cases hx:fs=[]
  ·exact .inl hx
  rcases HO.out.2 with⟨-,h0⟩|⟨g,cap2,cur,e2,hbg,-⟩
  ·exact absurd (X0.1 h0) hx
  injection e2 with e2;exact .inr ⟨g,e2,.inr hbg⟩
 have HX:O (MI S w (fun fs=>∀G∈Gs,iZ G fs) (sU<|n+1) (.returned<|.slice ad3 fs.length cap3) wr) :=
  ⟨⟨ad3,cap3,fs,rfl,hc3,hs3,fun G hG=>HH G<|by rw[Yj cq];exact hG,by
   rw[HSU];exact XR hfl<|Nat.mul_le_mul_right _ cq,HF,hat3⟩,HB⟩
 clear HO HH HF hs3 hc3 hat3;go_wp2;go_ret;exact HX
def Xn(b:Bool)(w:ag):(Instr.typeAssert (.iface 239<|.agg #[.bool b]) 121 301 true).run prog w=.ok (.tuple #[.agg #[.slice none 0 0],.bool false]) w:=cw
def Xo(b:Bool)(w:ag):(Instr.typeAssert (.iface 239<|.agg #[.bool b]) 121 304 true).run prog w=.ok (.tuple #[.agg #[.slice none 0 0],.bool false]) w:=cw
def Xp(b:Bool)(w:ag):(Instr.typeAssert (.iface 239<|.agg #[.bool b]) 121 306 true).run prog w=.ok (.tuple #[.agg #[.slice none 0 0],.bool false]) w:=cw
def Xq(ad:Q02)(n cap:Nat)(w:ag):(Instr.typeAssert (.iface 301<|.agg #[.slice ad n cap]) 121 301 true).run prog w=.ok (.tuple #[.agg #[.slice ad n cap],.bool true]) w:=cw
def Xr(ad:Q02)(n cap:Nat)(w:ag):(Instr.typeAssert (.iface 304<|.agg #[.slice ad n cap]) 121 301 true).run prog w=.ok (.tuple #[.agg #[.slice none 0 0],.bool false]) w:=cw
def Xt(ad:Q02)(n cap:Nat)(w:ag):(Instr.typeAssert (.iface 304<|.agg #[.slice ad n cap]) 121 304 true).run prog w=.ok (.tuple #[.agg #[.slice ad n cap],.bool true]) w:=cw
def Xu(ad:Q02)(n cap:Nat)(w:ag):(Instr.typeAssert (.iface 306<|.agg #[.slice ad n cap]) 121 301 true).run prog w=.ok (.tuple #[.agg #[.slice none 0 0],.bool false]) w:=cw
def Xv(ad:Q02)(n cap:Nat)(w:ag):(Instr.typeAssert (.iface 306<|.agg #[.slice ad n cap]) 121 304 true).run prog w=.ok (.tuple #[.agg #[.slice none 0 0],.bool false]) w:=cw
def Xw(ad:Q02)(n cap:Nat)(w:ag):(Instr.typeAssert (.iface 306<|.agg #[.slice ad n cap]) 121 306 true).run prog w=.ok (.tuple #[.agg #[.slice ad n cap],.bool true]) w:=cw
def qM.belowR{w w':ag}{S:Nat->Prop}{n:Nat}{ad:Q02}{Gs:List Ru}(h:qM w S (aG w S n) ad Gs)(hb:ae w w'):qM w' S (aG w' S n) ad Gs:=by
 rcases h with h|⟨g,e,h1,h2,h3⟩
 ·exact .inl h
 refine .inr ⟨g,e,h1,XJ h2 hb.size,fun i hi=>?_⟩;obtain⟨u,hu,hp⟩:=h3 i hi;exact⟨u,(hb.cell (p:=⟨g,i,none⟩) h2).trans hu,hp.below hb⟩
def zb{S:Nat->Prop}:∀(n:Nat),n<=15->∀(w:ag) (v:Value) (G:Ru),aG w S n v G->Calls prog 158 #[v] w (MI S w (iZ G)<|sU n)
 | 0,_,_,_,_,h=>h.elim
 | n+1,hn,w,v,G,h=>by
  rcases h with⟨b,rfl,rfl⟩|⟨ad,cap,fs,rfl,hz,h1,⟨h2,h2c⟩,h3,rfl⟩|⟨ad,cap,Gs,rfl,h1,h2,rfl⟩|⟨ad,cap,Gs,rfl,h1,h2,rfl⟩
  ·have r1:=Xn b;have r2:=Xo b;have r3:=Xp b;go_enter func158,ntmps158;go_wp2;go_ret;exact⟨⟨none,0,[],rfl,fun _=>rfl,.inl rfl,OZ b,XP _,fun x hx=>(by cases hx),.inl rfl⟩,XL _ _⟩
  ·obtain⟨W0,hW0⟩:=eQx<|w.alloc<|.cells #[.slice ad fs.length cap] 301;have hB0:ae w W0:=by rw[hW0];exact(XL _ _).alloc (XK _) _
   have hat:WB S w ad fs:=by
    rcases hz with h|⟨g,e,h⟩
    ·exact .inl h
    exact .inr ⟨g,e,.inl h⟩
   have HX:O (MI S w (iZ fun K=>fs.any K) (sU<|n+1) (.returned<|.slice ad fs.length cap) W0):=⟨⟨ad,cap,fs,rfl,h2c,h1.below hB0,O0 fs,by have:=Tu<|n+1;omega,h3,hat⟩,hB0⟩;have r1:=Xq ad fs.length cap;have c0:W0.cell? (aE w)=some (.slice ad fs.length cap):=by rw[hW0];simp
   clear hz h1 h2 h2c h3 hB0 hat;go_enter func158,ntmps158;go_wp2;rw[<-hW0];go_ret;exact HX
  ·have r1:=Xr ad Gs.length cap;have r2:=Xt ad Gs.length cap;have HH:O (Gs.length<=5/\qM w S (aG w S n) ad Gs):=⟨h1,h2⟩;clear h1 h2;obtain⟨W0,hW0⟩:=eQx<|w.alloc<|.cells #[.slice ad Gs.length cap] 304;have HB0:=lX hW0;have HX:=ah<|sV n cq (fun w v G h=>zb n cq w v G h) ad cap Gs W0 HH.1 (HH.2.belowR HB0);have c0:W0.cell? (aE w)=some (.slice ad Gs.length cap):=by rw[hW0];simp
   go_enter func158,ntmps158;go_wp2_with fail;rw[<-hW0];clear hW0;refine HX.mono ?_;rintro e w1 ⟨⟨ad1,cap1,fs,rfl,hc,hs,hh,hl,hf⟩,hb1⟩;have HR:O (MI S w (iZ fun K=>Gs.any fun H=>H K) (sU<|n+1) (.returned<|.slice ad1 fs.length cap1) w1):=⟨⟨ad1,cap1,fs,rfl,hc,hs,O1 hh,hl,hf.1,hf.2.old HB0.size⟩,HB0.trans<|hb1.mono HB0.size⟩;clear hc hs hh hl hf hb1 HX c0;go_wp2;go_ret;exact HR
  have r1:=Xu ad Gs.length cap;have r2:=Xv ad Gs.length cap;have r3:=Xw ad Gs.length cap;have HH:O (Gs.length<=5/\qM w S (aG w S n) ad Gs):=⟨h1,h2⟩;clear h1 h2;obtain⟨W0,hW0⟩:=eQx<|w.alloc<|.cells #[.slice ad Gs.length cap] 306;have HB0:=lX hW0;have HX:=ah<|sV n cq (fun w v G h=>zb n cq w v G h) ad cap Gs W0 HH.1 (HH.2.belowR HB0);have c0:W0.cell? (aE w)=some (.slice ad Gs.length cap):=by rw[hW0];simp
  go_enter func158,ntmps158;go_wp2_with fail;rw[<-hW0];clear hW0;refine HX.mono ?_;rintro e w1 ⟨⟨ad1,cap1,fs,rfl,hc,hs,hh,hl,hf⟩,hb1⟩;have HR:O (MI S w (iZ fun K=>Gs.all fun H=>H K) (sU<|n+1) (.returned<|.slice ad1 fs.length cap1) w1):=⟨⟨ad1,cap1,fs,rfl,hc,hs,O3 hh,hl,hf.1,hf.2.old HB0.size⟩,HB0.trans<|hb1.mono HB0.size⟩;clear hc hs hh hl hf hb1 HX c0;go_wp2;go_ret;exact HR
section
variable  [DecidableEq Fc]
def Xx(st:Q00)(rs:Q06)(ts:Q05)(w:World)(e:Ending)(w':World):Prop :=
 ae w w'/\((aQ (fU rs) rs ts=false/\e=.returned (.tuple #[.pointer none,.bool false])) \/
  (aQ (fU rs) rs ts=true/\∃ (P D br bp bt nr np:Nat) (n1:Int) (Mr:KL->Option Value) (Er:List<|KL×RR) (Mp:K3->Option Value) (vo vu:Value) (ZG:Q02) (Za bK nK:Nat),e=.returned (.tuple #[.pointer (some ⟨P,0,none⟩),.bool true])/\PrM w' P D ZG Za (aA st rs ts) bK nK /\
   DatA w' rs D br bp bt n1 nr Mr Er (bB ts) (fA ts) (dA ts) np Mp vo vu))
def MJ(st:Q00)(rs:Q06)(ts:Q05)(w:World)(e:Ending)(w':World):Prop :=
 ae w w'/\((aQ (fU rs) rs ts=false/\e=.returned (.tuple #[.pointer none,.bool false])) \/
  (aQ (fU rs) rs ts=true/\∃ (P D br bp bt nr np:Nat) (n1:Int) (Mr:KL->Option Value) (Er:List<|KL×RR) (Mp:K3->Option Value) (vo vu:Value) (ZG:Q02) (Za bK nK:Nat),e=.returned (.tuple #[.pointer (some ⟨P,0,none⟩),.bool true])/\PrM w' P D ZG Za (aA st rs ts) bK nK /\
   DatA w' rs D br bp bt n1 nr Mr Er (bB ts) (fA ts) (dA ts) np Mp vo vu/\(aA st rs ts).length<=Za))
def xZ(st:Q00)(ad:Q02)(cap:Nat)(rs:Q06)(Y8:Q02)(cap':Nat)(ts:Q05)(w:ag)(hlen:a7 rs)(hs:kI w ad rs)(hl:∀r∈rs,r.light)(hfr:∀r∈rs,r.fits)(hcp:∀r∈rs,r.caps)(hlt:a7 ts)(hst:Sl w Y8 ts)(hft:∀x∈ts,x.fits)(hle:aN (ai rs)=true->Least (ai rs) st):
  Calls prog 68 #[.slice ad rs.length cap,.slice Y8 ts.length cap'] w (MJ st rs ts w):=by
 have HC:=ah<|CB (fU rs) ad cap rs Y8 cap' ts w hlen hs hl hfr (xR ad cap rs w hlen hs hl hfr hcp) (fun h t ht=>yZ h ht) hlt hst hft;have HS:=ah hs;have Zd:=ah hft;have HFR:=ah hfr;have ZH:=ah hle;clear hs hl hfr hcp hst hft hle;go_enter func68,ntmps68;go_wp2_with fail;refine HC.mono ?_;rintro e w1 ⟨hb1,⟨hr,rfl⟩|⟨hr,D,br,bp,bt,nr,np,Mr,Mp,vo,vu,f,rfl,hbt,hLf,hDA⟩⟩
 ·have HP:O (MJ st rs ts w (.returned<|.tuple #[.pointer none,.bool false]) w1):=⟨hb1,.inl ⟨hr,rfl⟩⟩;clear hb1 HC hr;go_wp2;exact bodyPost_ret (v:=.tuple #[.pointer none,.bool false]) (by simp[results,Tryz.results68,go_sem]) rfl HP
 have hsd:aN (ai rs)=true/\ts.length<=40:=by
  unfold aQ dW at hr;simp only[XN,XU]at hr;exact⟨hr.1.1,hr.1.2.1⟩
 obtain⟨hsd,ht40⟩:=hsd;have hSP:=bf.1 hsd;obtain⟨h6,hr6,-⟩:=bI hSP.1;have hE36:=xB h6 hr6;have hfk:∀k∈ay (ai rs),f k+1<=(ay<|ai rs).length:=fun k hk=>by
  obtain⟨g,hg,hb⟩:=hLf.sol.few<|lK hSP.2.1;have h1:=hLf.low k hk g hg;have h2:=hb k hk;omega
 have hc0:0<=ig (dP f rs):=(xS (dP f rs) 0).1;have hcl:ig (dP f rs)<=(ay<|ai rs).length:=Hl _ _ _ cq fun x hx=>by
  obtain⟨k,hk,e,-⟩:=SF hx;rw[e];exact hfk k hk
 obtain⟨N,hN⟩:∃N:Nat,ig (dP f rs)=N:=⟨(ig<|dP f rs).toNat,cq⟩;have hkN:∀k∈ay (ai rs),f k<(N:Int):=fun k hk=>by
  obtain⟨x,hx,e⟩:=Nw (f:=f) hk;have h2:=(xS (dP f rs) 0).2 x hx;have h3:x.1.2+1<=ig (dP f rs):=h2;rw[e,hN]at h3;omega
 have hLs:iV (ai rs) ts f (fA ts) (dA ts) N=aA st rs ts:=by
  rw[dZ hr];unfold qL;rw[<-uf (fun k hk=>hLf.same (ZH hsd) k hk)];exact(Fg hkN _ cq).symm
 rw [hN]at hDA;have Z8:=ah (FV w1 rs ad D br bp bt N nr Mr f ts (fA ts) (dA ts) np Mp vo vu hDA (HS.below hb1) cq (by have:=kY ts;omega) (by have:=jI ts;omega) hE36 (fun k=>by
  have:(G.lookL (dP f rs) k).length<=(dP f rs).length:=YM _ _;rw[Ny]at this;omega) hSP.1 Zd cq (ik Zd) (gy Zd) (mU HFR))
 rw[hLs]at Z8;have hGO:=kw f rs ts (fA ts) (dA ts) N;rw[hLs]at hGO;have HB1:=ah hb1;have hll:=hGO.len (by have:=kY ts;omega) hE36 (by have:=jI ts;omega);have HFF:O (∀x∈aA st rs ts,x.fits):=fun x hx=>by
  have h1:=hGO.sub x hx;unfold Aj at h1;obtain⟨o,ho,h1⟩:=XZ.1 h1;obtain⟨k,hk,h1⟩:=XZ.1 h1;obtain⟨u,hu,rfl⟩:=XW.1 h1;exact⟨(ik Zd o ho).1,(ik Zd o ho).2,mU HFR k hk,(gy Zd u hu).1,(gy Zd u hu).2⟩
 obtain⟨L0,hL0⟩:=eQx<|aA st rs ts;rw[<-hL0]at Z8 hll HFF;have HL0:=ah hL0;have HDA:=ah hDA;have HRI:=ah hr;clear HC hb1 hDA hLf hfk hc0 hcl hN hkN hLs hGO hSP hsd h6 hr6 hE36 hr hbt hL0;go_wp2_with fail;refine Z8.mono ?_;rintro e w2 ⟨⟨v,rfl,hown⟩,hb2⟩;have HB2:=ah<|HB1.trans<|hb2.mono HB1.size;have HD2:=ah<|HDA.below hb2;obtain⟨ZG,Za,rfl,hsF⟩:=gV hown;have hcp:=Nu hown;have HSF:=ah hsF;clear Z8 hown hb2 HB1 HDA hsF;go_wp2_with fail;refine(Eg ZG Za L0 _ cq HSF HFF).mono ?_;rintro e w3 ⟨⟨bK,nK,rfl,hV⟩,hb3⟩;obtain⟨W4,Zw⟩:=eQx<|w3.alloc<|.cells #[.pointer (some<|am D),.slice ZG L0.length Za,.map<|some bK] 117;have hb4:ae w3 W4:=by rw[Zw];exact(XL _ _).alloc (XK _) _
 have hb34:ae w2 W4:=hb3.trans<|hb4.mono hb3.size;have HP:O (MJ st rs ts w (.returned<|.tuple #[.pointer (some<|aE w3),.bool true]) W4):=by
  refine⟨HB2.trans<|hb34.mono HB2.size,.inr ⟨HRI,w3.heap.size,D,br,bp,bt,nr,np,_,Mr,_,Mp,vo,vu,ZG,Za,bK,nK,rfl,?_,HD2.below hb34,by rw[<-HL0];exact hcp⟩⟩;rw[<-HL0];exact⟨by rw[Zw];simp,by rw[Zw];simp,by rw[Zw];simp,by rw[Zw];simp,HSF.below hb34,hV.below hb4⟩
 clear hb3 hb4 hb34 hV;go_wp2;rw[<-Zw];exact bodyPost_ret (v:=.tuple #[.pointer (some<|aE w3),.bool true]) (by simp[results,Tryz.results68,go_sem]) rfl HP
def Hw(st:Q00)(ad:Q02)(cap:Nat)(rs:Q06)(Y8:Q02)(cap':Nat)(ts:Q05)(w:ag)(hlen:a7 rs)(hs:kI w ad rs)(hl:∀r∈rs,r.light)(hfr:∀r∈rs,r.fits)(hcp:∀r∈rs,r.caps)(hlt:a7 ts)(hst:Sl w Y8 ts)(hft:∀x∈ts,x.fits)(hle:aN (ai rs)=true->Least (ai rs) st):
  Calls prog 68 #[.slice ad rs.length cap,.slice Y8 ts.length cap'] w (Xx st rs ts w) :=
 (xZ st ad cap rs Y8 cap' ts w hlen hs hl hfr hcp hlt hst hft hle).mono fun e w' ⟨hb,h⟩=>⟨hb,h.imp id fun⟨hr,P,D,br,bp,bt,nr,np,n1,Mr,Er,Mp,vo,vu,ZG,Za,bK,nK,he,h1,h2,_⟩=>⟨hr,P,D,br,bp,bt,nr,np,n1,Mr,Er,Mp,vo,vu,ZG,Za,bK,nK,he,h1,h2⟩⟩
def aG.kind{w:ag}{S:Nat->Prop}{n:Nat}{v:Value}{G:Ru}(h:aG w S n v G):∃T a,v=.iface T a/\Vw T a:=by
 match n,h with
 | 0,h=>exact h.elim
 | n+1,h =>
  rcases h with⟨b,e,-⟩|⟨ad,cap,fs,e,-⟩|⟨ad,cap,Gs,e,-⟩|⟨ad,cap,Gs,e,-⟩
  ·exact⟨_,_,e,.inl ⟨rfl,_,rfl⟩⟩
  ·exact⟨_,_,e,.inr ⟨.inl rfl,_,_,_,rfl⟩⟩
  ·exact⟨_,_,e,.inr ⟨.inr<|.inl rfl,_,_,_,rfl⟩⟩
  exact⟨_,_,e,.inr ⟨.inr<|.inr rfl,_,_,_,rfl⟩⟩
def U0(xs:Array Value)(u:ag):(callFunc 76 xs).run prog u=.ok (.enter 76 xs) u:=cw
def U1{w:ag}{b n:Nat}{fs:Q04}(h:aL dM prog 52 w b n<|vV fs):KnF w 76 #[.map (some b)] #[] (aR fs) :=
 ⟨U0,fun x hx w1 hb=>by simpa using sw b n fs x w1 hx (h.below hb)⟩
def JX{w:ag}{T:TypeId}{a:Value}{S:Nat->Prop}{n:Nat}{G:Ru}{FC:Nat}{rc cp:Array Value}{K:Fc->Bool}(hr:aG w S n (.iface T a) G)(hK:KnF w FC rc cp K):Calls prog (MC T) #[a,.func (Fn.func FC) rc cp] w (a8 w<|.bool<|G K):=by
 obtain⟨T',a',e,-,hc⟩:=JU n w _ G hK hr;injection e with e1 e2;subst e1 e2;exact hc w<|XL _ _
end
def jW(P:Fc->Option Nat)(g:Fc):Option Value:=(P g).map fun i=>.int .i64 (i:Int)
def ze(P:Fc->Option Nat)(p:Nat)(g:Fc):Bool:=match P g with
 | some i=>decide (i<p)
 | none=>false
def U2(xs:Array Value)(u:ag):(callFunc 155 xs).run prog u=.ok (.enter 155 xs) u:=cw
def MK(xs:Array Value)(u:ag):(callFunc 154 xs).run prog u=.ok (.enter 154 xs) u:=cw
def PR{w:ag}{pb sb bm n p:Nat}{P:Fc->Option Nat}(hpb:w.cell? (am pb)=some (.map<|some bm))(hpl:cW pb w)(hsb:w.cell? (am sb)=some (.int .i64 (p:Int)))(hsl:cW sb w)(hV:aL dM prog 52 w bm n<|jW P):
  KnF w 155 #[] #[.pointer (some<|am pb),.pointer<|some<|am sb] (ze P p):=by
 refine⟨U2,fun x hx w1 hb=>?_⟩;obtain⟨kl,hkl⟩:=lN x hx;have ZY:=ah hkl;obtain⟨W0,hW0⟩:=eQx<|w1.alloc<|.cells (cf x) 52;have hB0:ae w1 W0:=by rw[hW0];exact(XL _ _).alloc (XK _) _
 have hBB:ae w W0:=hb.trans<|hB0.mono hb.size;have HV:=ah<|hV.below hBB;have c0:W0.cell? (aE w1)=some (.string x.a):=by rw[hW0];simp
 have c1:W0.cell? (a6 w1 1)=some (.string x.b):=by rw[hW0];simp
 have c2:W0.cell? (a6 w1 2)=some (.string x.r):=by rw[hW0];simp
 have c3:W0.cell? (a6 w1 3)=some (.string x.c):=by rw[hW0];simp
 have c4:W0.cell? (a6 w1 4)=some (.string x.d):=by rw[hW0];simp
 have d0:=(hb.cell (p:=⟨pb,0,none⟩) hpl).trans hpb;have d0l:cW pb w1:=XJ hpl hb.size;have d1:=(hBB.cell (p:=⟨sb,0,none⟩) hsl).trans hsb;have HB0:=ah hB0;clear hb hV hkl hB0 hBB hpb hsb;show Calls prog 155 #[.agg (cf x),.pointer<|some<|am pb,.pointer<|some<|am sb] w1 _;go_enter func155,ntmps155;cases hp:P x with
 | none =>
  have HM:O (jW P x=none):=by show _=_;unfold jW;rw[hp];rfl
  have HK:O (ze P p x=false):=by show _=_;unfold ze;rw[hp]
  clear hp;go_wp2_with(at_lookup;rw[<-hW0];clear hW0;refine dm _ rfl _ _ 224 rfl 52 3 oO underlying224 (z:=.int .i64 0) (Tryz.zeroValue3 _) bm n (jW P) rfl HV x kl rfl ZY ?_;rw[HM]);go_wp2;go_ret;exact⟨by rw[HK];rfl,HB0⟩
 | some i =>
  have HM:O (jW P x=some (.int .i64 (i:Int))):=by show _=_;unfold jW;rw[hp];rfl
  have HK:O (ze P p x=decide (i<p)):=by show _=_;unfold ze;rw[hp]
  clear hp;go_wp2_with(at_lookup;rw[<-hW0];clear hW0;refine dm _ rfl _ _ 224 rfl 52 3 oO underlying224 (z:=.int .i64 0) (Tryz.zeroValue3 _) bm n (jW P) rfl HV x kl rfl ZY ?_;rw[HM]);go_wp2;go_ret;exact⟨by rw[HK];simp,HB0⟩
def MM(FC:Nat)(rc cp:Array Value)(ps:List Bool)(ad:Q02)(cap:Nat)(w:ag)(hlen:ps.length<=1000000000000000)
  (hrun:∀(ys:Array Value) (u:World),(callFunc FC ys).run prog u=.ok (.enter FC ys) u)
  (hs:ps=[] \/ ∃g,ad=some (am g)/\g<w.heap.size/\∀(i:Nat) (h:i<ps.length),∃u v,w.cell? (ap g<|i*2)=some u/\w.cell? (ap g<|i*2+1)=some v/\u.oneCell'=true/\v.oneCell'=true/\∀w1:World,ae w w1->Calls prog FC (rc.push (.agg #[u,v])++cp) w1 (a8 w1<|.bool ps[i])) :
  Calls prog 226 #[.slice ad ps.length cap,.func (Fn.func FC) rc cp] w fun e w'=>(∃r:Int,e=.returned (.int .i64 r)/\decide (0<=r)=ps.any id)/\ae w w':=by
 have HS:=ah hs;have HRUN:=ah hrun;clear hs hrun;have HD:O (∀k (h:k<ps.length),(ps.drop k).any id=(ps[k] || (ps.drop<|k+1).any id)):=fun k h=>F4 h;go_enter func226,ntmps226;go_wp2_with fail;go_loopw[8] (fun i wr=>∃k:Nat,k<=ps.length/\i=.int .i64 k/\O ((ps.drop k).any id=ps.any id)/\O (ae w wr)) (fun i _=>ps.length-(intOf i).toNat);case atStart=>exact⟨0,XP _,rfl,rfl,XL _ _⟩
 obtain⟨k,hk,rfl,HQ,HB⟩:=hrel;by_cases hlt:k<ps.length
 ·rcases HS.out with hnil|⟨g,YW,hg,hrow⟩
  ·rw[hnil]at hlt;simp at hlt
  obtain⟨u,v,hu,hv,hu1,hv1,hcall⟩:=hrow k hlt;have HC:=ah<|hcall wr HB;have t0:=az HB.out hg hu;have t1:=az HB.out hg hv;have hk1:=bG k;have hk2:(k:Int)<(ps.length:Int):=cq;have HD2:=ah<|HD k hlt;subst YW;clear hrow hu hv hcall;go_wp2_with fail;rw[HRUN.out,Oper.upon_enter];refine HC.mono ?_;rintro e w1 ⟨rfl,hb1⟩;have HB1:=jr HB hb1;clear hb1 t0 t1;cases he:ps[k];case true=>
   have HN:O (ps.any id=true):=by show _=_;rw[<-HQ,HD2,he];rfl
   go_wp2;go_ret;exact⟨⟨k,rfl,by rw[HN];simp⟩,HB1⟩
  have HQ2:O ((ps.drop<|k+1).any id=ps.any id):=by show _=_;rw[<-HQ,HD2,he];rfl
  go_wp2;go_roundw;case rel=>exact⟨k+1,cq,cx,HQ2,HB1⟩
  simp[intOf]<;>omega
 have HN:O (ps.any id=false):=by show _=_;rw[<-HQ,Ya cq];rfl
 go_wp2;go_ret;exact⟨⟨-1,rfl,by rw[HN];simp⟩,HB⟩
def oU(FC:Nat)(rc cp:Array Value)(ps:List Bool)(ad:Q02)(cap:Nat)(w:ag)(hlen:ps.length<=1000000000000000)
  (hrun:∀(ys:Array Value) (u:World),(callFunc FC ys).run prog u=.ok (.enter FC ys) u)
  (hs:ps=[] \/ ∃g,ad=some (am g)/\g<w.heap.size/\∀(i:Nat) (h:i<ps.length),∃u v,w.cell? (ap g<|i*2)=some u/\w.cell? (ap g<|i*2+1)=some v/\u.oneCell'=true/\v.oneCell'=true/\∀w1:World,ae w w1->Calls prog FC (rc.push (.agg #[u,v])++cp) w1 (a8 w1<|.bool ps[i])) :
  Calls prog 157 #[.slice ad ps.length cap,.func (Fn.func FC) rc cp] w (a8 w<|.bool<|ps.any id):=by
 have HC:=ah<|MM FC rc cp ps ad cap w hlen hrun hs;clear hs hrun;go_enter func157,ntmps157;go_wp2_with fail;refine HC.mono ?_;rintro e w' ⟨⟨r,rfl,hr⟩,hbx⟩;have HR:=ah hr;clear hr;go_wp2;go_ret;exact⟨by rw[<-HR];rfl,hbx⟩
section
variable  [DecidableEq Fc]
theorem PS{w:ag}{pb bm n m p:Nat}{P:Fc->Option Nat}{S:Nat->Prop}{v:Value}{G:Ru}(hpb:w.cell? ⟨pb,0,none⟩=some (.map (some bm)))(hpl:pb<w.heap.size)(hV:aL dM prog 52 w bm n (jW P))(hru:aG w S m v G):
  Calls prog 154 #[.agg #[.int .i64 (p:Int),v],.pointer (some ⟨pb,0,none⟩)] w fun e w'=>e=.returned (.bool (!G (ze P p)))/\ae w w':=by
 obtain⟨T,a,rfl,hkd⟩:=hru.kind;obtain⟨W0,hW0⟩:=eQx (w.alloc (.cells #[.int .i64 (p:Int),.iface T a] 226));have hB0:ae w W0:=by rw[hW0];exact(XL _ _).alloc (XK _) _
 have c0:W0.cell? ⟨w.heap.size,0,none⟩=some (.int .i64 (p:Int)):=by rw[hW0];simp
 have c1:W0.cell? ⟨w.heap.size,1,none⟩=some (.iface T a):=by rw[hW0];simp
 have hsl:w.heap.size<W0.heap.size:=by rw[hW0];simp
 have hKn:=PR (p:=p) (P:=P) ((hB0.cell (p:=⟨pb,0,none⟩) hpl).trans hpb) (XJ hpl hB0.size) c0 hsl (hV.below hB0);have hm:=xY hkd;have hna:=Tj hkd;have HRUN:=ah (AX hkd);have HFC:=ah (JX (hru.below hB0) hKn);have HB0:=ah hB0;clear hru hkd hKn hB0 hV hpb;go_enter func154,ntmps154;go_wp2_with fail
 first|rw[<-hW0]|skip
 clear hW0;rw[HRUN.out,Oper.upon_enter];refine HFC.out.mono ?_;rintro e w1 ⟨rfl,hb1⟩;have HB1:=jr HB0 hb1;clear hb1 hm hna HRUN HFC;go_wp2;go_ret;exact⟨rfl,HB1.out⟩
end
end Go.Proofs.YtojjoblnpldniaaGreat
