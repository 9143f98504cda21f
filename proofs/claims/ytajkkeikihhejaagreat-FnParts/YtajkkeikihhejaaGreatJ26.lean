/- The key of a fact: five strings; is a fact in a set of facts? -/
import Derived.Test.YtajkkeikihhejaaGreatSq
import Derived.Test.YtajkkeikihhejaaGreatJ19
open Go.Proofs.Tryz
set_option maxHeartbeats 80000000
namespace Go.Proofs.YtajkkeikihhejaaGreat
open Go.ChangeShapes Go.WideShapes Go.ChangeAt Go.RowKit Go.Maps
def Fc.fits (t:Fc):Prop:=t.a.size<=maxLen/\t.b.size<=maxLen/\t.r.size<=maxLen/\t.c.size<=maxLen/\t.d.size<=maxLen
def oF (k:Fc):Value:=.agg #[.string k.a,.string k.b,.string k.r,.string k.c,.string k.d]
theorem Pw (x y:Fc)(h:oF x=oF y):x=y:=by
 unfold oF at h;injection h with h;have h1:=congrArg Array.toList h;simp at h1;obtain ⟨xa,xb,xr,xc,xd⟩:=x;obtain ⟨ya,yb,yr,yc,yd⟩:=y;simp only at h1;obtain ⟨rfl,rfl,rfl,rfl,rfl⟩:=h1;rfl
theorem Px:laidOutB prog=true:=by kernel_rfl
theorem SN:(29:TypeId)<prog.types.size:=of_decide_eq_true (by kernel_rfl)
theorem QX:(match prog.underlying 29 with|some (.array _ _)|some (.struct _)=>true|_=>false)=true:=by rw [underlying29]
set_option maxRecDepth 100000 in
theorem QY:WideMaps.KeyLaw prog 29:=deep_law_laid Px (m:=3) (by omega) SN (by kernel_rfl) QX
theorem Py:Keyed prog 29:=Keyed.of_law QY
theorem QZ:prog.keyType 29=true:=by kernel_rfl
theorem GH:prog.cellsOf 29=5:=by kernel_rfl
theorem Ms:prog.cellsOf 27=2:=by kernel_rfl
theorem Mt:prog.cellsOf 9=1:=by kernel_rfl
theorem Mv:2<=prog.types.size:=of_decide_eq_true (by kernel_rfl)
theorem Jz:∃ n,prog.types.size=n+2:=⟨prog.types.size-2,by have:=Mv;omega⟩
set_option maxRecDepth 100000 in
theorem GI (k:Fc)(h:k.fits):∃ kl,keyOf prog 29 (oF k)=some kl:=by
 obtain ⟨n,hn⟩:=Jz;obtain ⟨h0,h1,h2,h3,h4⟩:=h;refine ⟨.string (keyBytes [.string k.a.data.toList,.string k.b.data.toList,.string k.r.data.toList,.string k.c.data.toList,.string k.d.data.toList]),?_⟩;unfold keyOf;rw [underlying29];simp only [QZ,oF,Value.formed,underlying29,GH,hn,Value.cells];simp +decide [Program.keyLits,underlying29,underlying27,underlying9,GH,Ms,Mt,h0,h1,h2,h3,h4]
theorem Pz (w:af):(zeroValue 113).run prog w=.ok (.agg #[]) w:=by kernel_rfl
theorem GJ (b n:Nat)(M:Fc->Option Value)(f:Fc)(w:af)(hf:f.fits)(hV:aO oF prog 29 w b n M)(hM:∀ v,M f=some v->v=.agg #[]) :
  Calls prog 65 #[.map (some b),.agg #[.string f.a,.string f.b,.string f.r,.string f.c,.string f.d]] w fun e w'=>e=.returned (.bool (M f).isSome)/\ag w w':=by
 obtain ⟨kl,hkl⟩:=GI f hf;have VD:Hid (keyOf prog 29 (oF f)=some kl):=hkl;have HM:Hid ((M f).getD (.agg #[])=.agg #[]):=by
  show _=_;cases e:M f with
  | none=>rfl
  | some v=>exact hM v e
 obtain ⟨W,hW⟩:∃ W,W=w.alloc (.cells #[.string f.a,.string f.b,.string f.r,.string f.c,.string f.d] 29):=⟨_,rfl⟩;have HB:=rV hW;have HV:=aA (hV.below HB.out);have HB2:Hid (ag w (W.alloc (.cells #[] 113))):=HB.out.alloc HB.out.size _;clear hkl hV hM;go_enter func65,ntmps65;go_wp2_with (at_lookup;rw [<-hW];clear hW;refine cu _ rfl _ _ 107 rfl 29 113 Py underlying107 (Pz _) b n M rfl HV.out f kl rfl VD.out ?_;rw [HM.out]);go_ret;exact ⟨rfl,HB2.out⟩
open Pl
set_option linter.unusedVariables false
set_option maxRecDepth 100000
theorem EO (v0:Value)(Wx:Option Addr)(V5:Nat)(ts:List Tp)(UO:Option Addr)(capE:Nat)(rows:List ER)(n:Nat)(adK:Option Addr)(capK:Nat)(known:List Fc)(Wy:Option Addr)(V6:Nat)(truth:List Fc)(f:Fc)(w:af)(hW:HW w Wx ts UO rows adK known Wy truth)(hn:n<rows.length)(hre:rows.length<=1000)(hkl:known.length<=1048576)(htl:ts.length<=1048576)(hk:rows[n].e.kind=3) :
  Calls prog 98 #[v0,.slice Wx ts.length V5,.slice UO rows.length capE,.int .i64 (n:Int),.slice adK known.length capK,.slice Wy truth.length V6,.agg #[.string f.a,.string f.b,.string f.r,.string f.c,.string f.d]] w fun e w'=>e=.returned (.bool (fU ts known rows[n].e.over rows[n].e.name f))/\ag w w':=by
 obtain ⟨b,off,UT,⟨t0,t1,t2,t3,t4⟩,hbl,-⟩:=iC.at0 hW.ex hn;have HW0:=aD hW;obtain ⟨W0,hW0⟩:∃ W0,W0=Gn w f rows[n]:=⟨_,rfl⟩;have HB0:Hid (ag w W0):=by show Below _ _ _;rw [hW0];exact jV _ _ _
 have WT:Hid (EnB W0 w.heap.size f rows[n]):=by show EnB _ _ _ _;rw [hW0];exact om _ _ _
 have hk1:(rows[n].e.kind==1)=false:=by rw [hk];rfl
 have hk2:(rows[n].e.kind==2)=false:=by rw [hk];rfl
 have hk3:(rows[n].e.kind==3)=true:=by rw [hk];rfl
 have hn1:=bF n;have hn2:(n:Int)<(rows.length:Int):=by omega
 unfold Gn at hW0;rw [UT];clear UT hW hk;go_enter func98,ntmps98;go_wp2_with fail;rw [<-hW0];clear hW0 t0 t1 t2 t3 t4;go_loopw [18] (fun i wr=>∃ k:Nat,k<=ts.length/\i=.int .i64 k/\Hid (fU (ts.drop k) known rows[n].e.over rows[n].e.name f=fU ts known rows[n].e.over rows[n].e.name f)/\Hid (ag W0 wr)) (fun i _=>ts.length-(intOf i).toNat);case atStart=>exact ⟨0,Ui _,rfl,rfl,Uf _ _⟩
 obtain ⟨k,hk,rfl,HP,HB⟩:=hrel;have UU:Hid (ag w wr):=HB0.out.trans (HB.out.mono HB0.out.size);by_cases hlt:k<ts.length
 ·obtain ⟨bT,offT,Vk,⟨a0,a1,a2,a3,a4,a5⟩,hbT⟩:=Sl.at0 (HW0.out.tup.below UU.out) hlt;have hE:=WT.out.below HB.out;have e0:=hE.f0;have e1:=hE.f1;have e2:=hE.f2;have e3:=hE.f3;have e4:=hE.f4;have el:w.heap.size<wr.heap.size:=by have:=hE.lt;omega
  have el2:w.heap.size+1<wr.heap.size:=hE.lt;have g2:=hE.x2;have g3:=hE.x3;have hi1:=bF k;have hi2:(k:Int)<(ts.length:Int):=by omega
  obtain ⟨W1,hW1⟩:∃ W1,W1=wr.alloc (.cells #[.string ts[k].a,.string ts[k].b,.string ts[k].r,.string ts[k].c,.string ts[k].d,.string ts[k].s] 46):=⟨_,rfl⟩;have V4:=rV hW1;have HB1:Hid (ag W0 W1):=HB.out.trans (V4.out.mono HB.out.size);have VG:Hid (ag w W1):=UU.out.trans (V4.out.mono UU.out.size);have HD:Hid (fU ts known rows[n].e.over rows[n].e.name f=(mW known rows[n].e.over rows[n].e.name f ts[k] || fU (ts.drop (k+1)) known rows[n].e.over rows[n].e.name f)):=by show _=_;rw [<-HP.out];exact Je hlt known _ _ f
  rw [Vk];clear Vk hE;cases ho:uk ts[k].a ts[k].b f.a f.b;case false=>
   have hoeq:=iq _ _ _ _ ho;have UW:Hid (fU (ts.drop (k+1)) known rows[n].e.over rows[n].e.name f=fU ts known rows[n].e.over rows[n].e.name f):=by
    show _=_;unfold uk at ho;rw [HD.out];unfold mW;rw [ho];rfl
   clear ho;go_wp2;rw [<-hW1];clear hW1;go_roundw;case rel=>exact ⟨k+1,by omega,by go_num,UW,HB1⟩
   simp [intOf] <;> omega
  have hoeq:=iq _ _ _ _ ho;have HO:Hid (uk ts[k].a ts[k].b f.a f.b=true):=ho;clear ho;cases hr:(ts[k].r.toList==rows[n].e.over.toList);case false=>
   have UW:Hid (fU (ts.drop (k+1)) known rows[n].e.over rows[n].e.name f=fU ts known rows[n].e.over rows[n].e.name f):=by
    show _=_;have h2:=HO.out;unfold uk at h2;rw [HD.out];unfold mW;rw [h2,hr];rfl
   go_wp2;rw [<-hW1];clear hW1;go_roundw;case rel=>exact ⟨k+1,by omega,by go_num,UW,HB1⟩
   simp [intOf] <;> omega
  have HT2:Hid (mW known rows[n].e.over rows[n].e.name f ts[k]=bn known ⟨ts[k].c,ts[k].d,rows[n].e.name,f.c,f.d⟩):=by
   show _=_;have h2:=HO.out;unfold uk at h2;unfold mW;rw [h2,hr];rfl
  go_wp2_with fail;rw [<-hW1];clear hW1;refine (ol adK capK known ⟨ts[k].c,ts[k].d,rows[n].e.name,f.c,f.d⟩ W1 hkl (HW0.out.kn.below VG.out)).mono ?_;rintro e w2 ⟨rfl,hb2⟩;have HB2:=jP HB1 hb2;have Y4:=jP VG hb2;clear hb2;cases hh:bn known ⟨ts[k].c,ts[k].d,rows[n].e.name,f.c,f.d⟩;case true=>
   have HN:Hid (fU ts known rows[n].e.over rows[n].e.name f=true):=by show _=_;rw [HD.out,HT2.out,hh];rfl
   go_wp2;go_ret;exact ⟨by rw [HN.out];rfl,Y4.out⟩
  have UW:Hid (fU (ts.drop (k+1)) known rows[n].e.over rows[n].e.name f=fU ts known rows[n].e.over rows[n].e.name f):=by show _=_;rw [HD.out,HT2.out,hh];rfl
  go_wp2;go_roundw;case rel=>exact ⟨k+1,by omega,by go_num,UW,HB2⟩
  simp [intOf] <;> omega
 have HN:Hid (fU ts known rows[n].e.over rows[n].e.name f=false):=by show _=_;rw [<-HP.out,List.drop_of_length_le (by omega)];rfl
 go_wp2;go_ret;exact ⟨by rw [HN.out];rfl,UU.out⟩
end Go.Proofs.YtajkkeikihhejaaGreat
