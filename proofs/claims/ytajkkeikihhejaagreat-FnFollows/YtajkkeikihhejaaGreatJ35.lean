/- Contract of the document's function that tells whether a tuple fits a schema. -/
import Derived.Test.YtajkkeikihhejaaGreatSq
import Derived.Test.YtajkkeikihhejaaGreatJ29
import Derived.Test.YtajkkeikihhejaaGreatRuleT
import Derived.Test.YtajkkeikihhejaaGreatJ32
open Go.Proofs.Tryz
set_option maxHeartbeats 80000000
namespace Go.Proofs.YtajkkeikihhejaaGreat
open ChangeShapes WideShapes ChangeAt RowKit Maps
open Pl
set_option maxRecDepth 100000 in
theorem FK(ad:Q02)(cap:Nat)(rs:Q06)(oa ob r c d s:bQ)(w:af)(hlen:rs.length<=1048576)(hs:kU w ad rs)(hl:∀r∈rs,r.light)(hf:∀r∈rs,r.fits)(ha:oa.size<=maxLen)(hb:ob.size<=maxLen)(hr:r.size<=maxLen)(hc:c.size<=maxLen)(hd:d.size<=maxLen)(hz:s.size<=maxLen):
  Calls prog 87 #[.slice ad rs.length cap,.agg #[.string oa,.string ob,.string r,.string c,.string d,.string s]] w fun e w'=>e=.returned (.bool (Ec (ag rs) oa ob r c d s))/\ae w w':=by
 have HS:=aC hs;have HL:=aC hl;have Wl:=aC hf;clear hs hl hf;obtain⟨W0,hW0⟩:∃W0,W0=w.alloc (.cells #[.string oa,.string ob,.string r,.string c,.string d,.string s] 46):=⟨_,rfl⟩;have hal:ae w W0:=by rw[hW0];exact(UV _ _).alloc (UU _) _
 have HB0:=aC hal;have hw0:w.heap.size<W0.heap.size:=by rw[hW0];simp
 have c0:W0.cell? ⟨w.heap.size,0,none⟩=some (.string oa):=by rw[hW0];simp
 have c1:W0.cell? ⟨w.heap.size,1,none⟩=some (.string ob):=by rw[hW0];simp
 have c2:W0.cell? ⟨w.heap.size,2,none⟩=some (.string r):=by rw[hW0];simp
 have c3:W0.cell? ⟨w.heap.size,3,none⟩=some (.string c):=by rw[hW0];simp
 have c4:W0.cell? ⟨w.heap.size,4,none⟩=some (.string d):=by rw[hW0];simp
 have c5:W0.cell? ⟨w.heap.size,5,none⟩=some (.string s):=by rw[hW0];simp
 clear hal;go_enter func87,ntmps87;go_wp2_with fail;rw[<-hW0];clear hW0;refine(j5 ad cap rs _ hlen (HS.out.below HB0.out) HL.out Wl.out).mono ?_;rintro e w1 ⟨rfl,hb1⟩;have HB1:=jR HB0 hb1;have hw1:w.heap.size<w1.heap.size:=UT hw0 hb1.size;replace c0:=aH hb1 hw0 c0;replace c1:=aH hb1 hw0 c1;replace c2:=aH hb1 hw0 c2;replace c3:=aH hb1 hw0 c3;replace c4:=aH hb1 hw0 c4;replace c5:=aH hb1 hw0 c5;clear hb1 hw0;cases hd5:aM (ag rs);case false=>
  have HN:Hid (Ec (ag rs) oa ob r c d s=false):=by show _=_;unfold Ec;rw[hd5];rfl
  go_wp2;go_ret;exact⟨by rw[HN.out];rfl,HB1.out⟩
 have HN:Hid (Ec (ag rs) oa ob r c d s=sW (ag rs) oa ob r c d s):=by show _=_;unfold Ec;rw[hd5];rfl
 go_wp2_with fail;refine(BP ad cap rs oa ob r c d s _ hlen (HS.out.below HB1.out) HL.out ha hb hr hc hd hz).mono ?_;rintro e w2 ⟨rfl,hb2⟩;have HB2:=jR HB1 hb2;clear hb2;go_wp2;go_ret;exact⟨by rw[HN.out];rfl,HB2.out⟩
set_option linter.unusedVariables false
set_option maxRecDepth 100000
structure KnF(w:World)(FC:Nat)(rc cp:Array Value)(K:Fc->Bool):Prop where
 run:∀(ys:Array Value) (u:World),(callFunc FC ys).run prog u=.ok (.enter FC ys) u
 says:∀x:Fc,x.fits->∀w1:World,ae w w1->Calls prog FC (rc.push (.agg #[.string x.a,.string x.b,.string x.r,.string x.c,.string x.d])++cp) w1 fun e w'=>e=.returned (.bool (K x))/\ae w1 w'
theorem KnF.below{w w':af}{FC:Nat}{rc cp:Array Value}{K:Fc->Bool}(h:KnF w FC rc cp K)(hb:ae w w'):KnF w' FC rc cp K :=
 ⟨h.run,fun x hx w1 h1=>h.says x hx w1 (hb.trans (h1.mono hb.size))⟩
theorem NJ{ps:List Bool}{k:Nat}(h:k<ps.length):(ps.drop k).any id=(ps[k] || (ps.drop (k+1)).any id):=by rw[Vl h];rfl
theorem Kw(FC:Nat)(rc cp:Array Value)(ps:List Bool)(ad:Q02)(cap:Nat)(w:af)(hlen:ps.length<=1000)
  (hrun:∀(ys:Array Value) (u:World),(callFunc FC ys).run prog u=.ok (.enter FC ys) u)
  (hs:ps=[] \/ ∃g,ad=some ⟨g,0,none⟩/\g<w.heap.size/\∀(i:Nat) (h:i<ps.length),∃u,w.cell? ⟨g,i,none⟩=some u/\∀w1:World,ae w w1->Calls prog FC (rc.push u++cp) w1 fun e w'=>e=.returned (.bool ps[i])/\ae w1 w') :
  Calls prog 277 #[.slice ad ps.length cap,.func (Fn.func FC) rc cp] w fun e w'=>(∃r:Int,e=.returned (.int .i64 r)/\decide (0<=r)=ps.any id)/\ae w w':=by
 have HS:=aj hs;have YV:=aj hrun;clear hs hrun;have HD:Hid (∀k (h:k<ps.length),(ps.drop k).any id=(ps[k] || (ps.drop (k+1)).any id)):=fun k h=>NJ h;go_enter func277,ntmps277;go_wp2_with fail;go_loopw[8] (fun i wr=>∃k:Nat,k<=ps.length/\i=.int .i64 k/\Hid ((ps.drop k).any id=ps.any id)/\Hid (ae w wr)) (fun i _=>ps.length-(intOf i).toNat);case atStart=>exact⟨0,UY _,rfl,rfl,UV _ _⟩
 obtain⟨k,hk,rfl,HQ,HB⟩:=hrel;by_cases hlt:k<ps.length
 ·rcases HS.out with hnil|⟨g,V6,hg,hrow⟩
  ·rw[hnil]at hlt;simp at hlt
  obtain⟨u,hu,hcall⟩:=hrow k hlt;have HC:=aj (hcall wr HB.out);have t0:=aJ HB.out hg hu;have hk1:=bG k;have hk2:(k:Int)<(ps.length:Int):=by omega
  have HD2:=aj (HD.out k hlt);subst V6;clear hrow hu hcall;go_wp2_with fail;rw[YV.out,Oper.upon_enter];refine HC.out.mono ?_;rintro e w1 ⟨rfl,hb1⟩;have HB1:=jR HB hb1;clear hb1 t0;cases he:ps[k];case true=>
   have HN:Hid (ps.any id=true):=by show _=_;rw[<-HQ.out,HD2.out,he];rfl
   go_wp2;go_ret;exact⟨⟨k,rfl,by rw[HN.out];simp⟩,HB1.out⟩
  have HQ2:Hid ((ps.drop (k+1)).any id=ps.any id):=by show _=_;rw[<-HQ.out,HD2.out,he];rfl
  go_wp2;go_roundw;case rel=>exact⟨k+1,by omega,by go_num,HQ2,HB1⟩
  simp[intOf]<;>omega
 have HN:Hid (ps.any id=false):=by show _=_;rw[<-HQ.out,Vf (by omega)];rfl
 go_wp2;go_ret;exact⟨⟨-1,rfl,by rw[HN.out];simp⟩,HB.out⟩
theorem tC(FC:Nat)(rc cp:Array Value)(ps:List Bool)(ad:Q02)(cap:Nat)(w:af)(hlen:ps.length<=1000)
  (hrun:∀(ys:Array Value) (u:World),(callFunc FC ys).run prog u=.ok (.enter FC ys) u)
  (hs:ps=[] \/ ∃g,ad=some ⟨g,0,none⟩/\g<w.heap.size/\∀(i:Nat) (h:i<ps.length),∃u,w.cell? ⟨g,i,none⟩=some u/\∀w1:World,ae w w1->Calls prog FC (rc.push u++cp) w1 fun e w'=>e=.returned (.bool ps[i])/\ae w1 w') :
  Calls prog 275 #[.slice ad ps.length cap,.func (Fn.func FC) rc cp] w fun e w'=>e=.returned (.bool (ps.any id))/\ae w w':=by
 have HC:=aj (Kw FC rc cp ps ad cap w hlen hrun hs);clear hs hrun;go_enter func275,ntmps275;go_wp2_with fail;refine HC.out.mono ?_;rintro e w' ⟨⟨r,rfl,hr⟩,hbx⟩;have HR:=aj hr;clear hr;go_wp2;go_ret;exact⟨by rw[<-HR.out];rfl,hbx⟩
theorem Ip(b:Bool)(fv:Value)(w:af):
  Calls prog 272 #[.agg #[.bool b],fv] w fun e w'=>e=.returned (.bool b)/\ae w w':=by
 have HB:Hid (ae w (w.alloc (.cells #[.bool b] 183))):=(UV _ _).alloc (UU _) _;go_enter func272,ntmps272;go_wp2;go_ret;exact⟨rfl,HB.out⟩
theorem Si{FC:Nat}{rc cp:Array Value}{K:Fc->Bool}{ad:Q02}{cap:Nat}{fs:Q04}{w:af}(hK:KnF w FC rc cp K)(hl:fs.length<=1000)(hs:o8 w ad fs)(hf:∀x∈fs,x.fits):
  Calls prog 273 #[.agg #[.slice ad fs.length cap],.func (Fn.func FC) rc cp] w fun e w'=>e=.returned (.bool (fs.any K))/\ae w w':=by
 obtain⟨W0,hW0⟩:∃W0,W0=w.alloc (.cells #[.slice ad fs.length cap] 242):=⟨_,rfl⟩;have HB0:=mI hW0;have HC:=aj (ru FC rc cp K ad cap fs W0 (by omega) (hs.below HB0.out) hK.run (fun x hx w1 hb=>hK.says x (hf x hx) w1 (HB0.out.trans (hb.mono HB0.out.size))));clear hK hs hf;go_enter func273,ntmps273;go_wp2_with fail;rw[<-hW0];clear hW0;refine HC.out.mono ?_;rintro e w1 ⟨rfl,hb1⟩;have HB1:=jR HB0 hb1;clear hb1;go_wp2;go_ret;exact⟨rfl,HB1.out⟩
def Kz(T:TypeId):Nat:=if T=183 then 272 else if T=242 then 273 else if T=247 then 274 else 278
def KA(w:World)(FC:Nat)(rc cp:Array Value)(u:Value)(b:Bool):Prop :=
 ∃(T:TypeId) (a:Value),u=.iface T a/\(T=183/\(∃c,a=.agg #[.bool c])\/(T=242\/T=247\/T=248)/\∃ad n cap,a=.agg #[.slice ad n cap])/\∀w1:World,ae w w1->Calls prog (Kz T) #[a,.func (Fn.func FC) rc cp] w1 fun e w'=>e=.returned (.bool b)/\ae w1 w'
theorem Ca {T : TypeId} {a : Value} (h : T = 183 ∧ (∃ c, a = .agg #[.bool c]) ∨ (T = 242 ∨ T = 247 ∨ T = 248) ∧ ∃ ad n cap, a = .agg #[.slice ad n cap]) (m : Nat) (w : World) : (method (m + 1) T a "loop.example/g00297/impl.follows").run Tryz.prog w = .ok (Kz T, a) w := by
 rcases h with⟨rfl,c,rfl⟩|⟨rfl|rfl|rfl,ad,n,cap,rfl⟩<;>kernel_rfl
theorem QJ {T : TypeId} {a : Value} (h : T = 183 ∧ (∃ c, a = .agg #[.bool c]) ∨ (T = 242 ∨ T = 247 ∨ T = 248) ∧ ∃ ad n cap, a = .agg #[.slice ad n cap]) (m : Nat) (w : World) : (nilAhead (m + 1) T a "loop.example/g00297/impl.follows").run Tryz.prog w = .ok (some false) w := by
 rcases h with⟨rfl,c,rfl⟩|⟨rfl|rfl|rfl,ad,n,cap,rfl⟩<;>kernel_rfl
def SV(T:TypeId)(a:Value):Prop:=T=183/\(∃c,a=.agg #[.bool c])\/(T=242\/T=247\/T=248)/\∃ad n cap,a=.agg #[.slice ad n cap]
theorem FL{T:TypeId}{a:Value}(h:SV T a)(ys:Array Value)(u:af):(callFunc (Kz T) ys).run prog u=.ok (.enter (Kz T) ys) u:=by
 rcases h with⟨rfl,-⟩|⟨rfl|rfl|rfl,-⟩<;>kernel_rfl
theorem QK{w:af}{FC:Nat}{rc cp:Array Value}{u:Value}{b:Bool}(h:KA w FC rc cp u b){w1:af}(hb:ae w w1){g:Nat}(hc:w1.cell? ⟨g,0,none⟩=some (.func (Fn.func FC) rc cp)):
  Calls prog 276 #[u,.pointer (some ⟨g,0,none⟩)] w1 fun e w'=>e=.returned (.bool b)/\ae w1 w':=by
 obtain ⟨T,a,rfl,hk,hcall⟩:=h;have hm : ∀ (m : Nat) (x : World), (method (m + 1) T a "loop.example/g00297/impl.follows").run Tryz.prog x = .ok (Kz T, a) x := fun m x => Ca hk m x;have YV:=aj (FL hk);have HC:=aj (hcall w1 hb);clear hk hcall hb;go_enter func276,ntmps276;go_wp2_with fail;rw [YV.out,Oper.upon_enter];refine HC.out.mono ?_;rintro e w2 ⟨rfl,hb2⟩;have HB2:=aj hb2;clear hb2 hc hm;go_wp2;go_ret;exact ⟨rfl,HB2.out⟩
theorem NK{w:af}{FC:Nat}{rc cp:Array Value}{u:Value}{b:Bool}(h:KA w FC rc cp u b){w1:af}(hb:ae w w1){g:Nat}(hc:w1.cell? ⟨g,0,none⟩=some (.func (Fn.func FC) rc cp)):
  Calls prog 279 #[u,.pointer (some ⟨g,0,none⟩)] w1 fun e w'=>e=.returned (.bool (!b))/\ae w1 w':=by
 obtain ⟨T,a,rfl,hk,hcall⟩:=h;have hm : ∀ (m : Nat) (x : World), (method (m + 1) T a "loop.example/g00297/impl.follows").run Tryz.prog x = .ok (Kz T, a) x := fun m x => Ca hk m x;have YV:=aj (FL hk);have HC:=aj (hcall w1 hb);clear hk hcall hb;go_enter func279,ntmps279;go_wp2_with fail;rw [YV.out,Oper.upon_enter];refine HC.out.mono ?_;rintro e w2 ⟨rfl,hb2⟩;have HB2:=aj hb2;clear hb2 hc hm;go_wp2;go_ret;exact ⟨rfl,HB2.out⟩
theorem TV(xs:Array Value)(u:af):(callFunc 276 xs).run prog u=.ok (.enter 276 xs) u:=by kernel_rfl
theorem TW(xs:Array Value)(u:af):(callFunc 279 xs).run prog u=.ok (.enter 279 xs) u:=by kernel_rfl
def TY(w:World)(FC:Nat)(rc cp:Array Value)(ad:Q02)(bs:List Bool):Prop:=bs=[] \/ ∃g,ad=some ⟨g,0,none⟩/\g<w.heap.size/\∀(i:Nat) (h:i<bs.length),∃u,w.cell? ⟨g,i,none⟩=some u/\KA w FC rc cp u bs[i]
theorem QL{w:af}{FC:Nat}{rc cp:Array Value}{ad:Q02}{bs:List Bool}(cap:Nat)(hl:bs.length<=1000)(hs:TY w FC rc cp ad bs)(w1:af)(hb:ae w w1):
  Calls prog 274 #[.agg #[.slice ad bs.length cap],.func (Fn.func FC) rc cp] w1 fun e w'=>e=.returned (.bool (bs.any id))/\ae w1 w':=by
 obtain⟨W0,hW0⟩:∃W0,W0=(w1.alloc (.cells #[.slice ad bs.length cap] 247)).alloc (.cells #[.func (Fn.func FC) rc cp] 108):=⟨_,rfl⟩;have HB0:Hid (ae w1 W0):=by show Below _ _ _;rw[hW0];exact((UV _ _).alloc (UU _) _).alloc (by simp) _
 have c0:W0.cell? ⟨w1.heap.size+1,0,none⟩=some (.func (Fn.func FC) rc cp):=by rw[hW0];simp
 have cl:=aF c0;have V9:Hid (ae w W0):=hb.trans (HB0.out.mono hb.size);have HC:=aj (tC 276 #[] #[.pointer (some ⟨w1.heap.size+1,0,none⟩)] bs ad cap W0 (by simpa using hl) TV (by
  rcases hs with h|⟨g,e,h1,h2⟩
  ·exact .inl (by first|exact h|(rw[h];rfl))
  refine .inr ⟨g,e,UT h1 V9.out.size,fun i hi=>?_⟩;obtain⟨u,hu,hf⟩:=h2 i (by simpa using hi);refine⟨u,aJ V9.out h1 hu,fun w2 hb2=>?_⟩;have h:=QK hf (V9.out.trans (hb2.mono V9.out.size)) (aJ hb2 cl c0);simpa using h))
 clear hs hb;go_enter func274,ntmps274;go_wp2_with fail;rw[<-hW0];clear hW0 c0 cl;refine HC.out.mono ?_;rintro e w2 ⟨rfl,hb2⟩;have HB2:=jR HB0 hb2;clear hb2;go_wp2;go_ret;exact⟨rfl,HB2.out⟩
theorem QM{w:af}{FC:Nat}{rc cp:Array Value}{ad:Q02}{bs:List Bool}(cap:Nat)(hl:bs.length<=1000)(hs:TY w FC rc cp ad bs)(w1:af)(hb:ae w w1):
  Calls prog 278 #[.agg #[.slice ad bs.length cap],.func (Fn.func FC) rc cp] w1 fun e w'=>e=.returned (.bool (bs.all id))/\ae w1 w':=by
 obtain⟨W0,hW0⟩:∃W0,W0=(w1.alloc (.cells #[.slice ad bs.length cap] 248)).alloc (.cells #[.func (Fn.func FC) rc cp] 108):=⟨_,rfl⟩;have HB0:Hid (ae w1 W0):=by show Below _ _ _;rw[hW0];exact((UV _ _).alloc (UU _) _).alloc (by simp) _
 have c0:W0.cell? ⟨w1.heap.size+1,0,none⟩=some (.func (Fn.func FC) rc cp):=by rw[hW0];simp
 have cl:=aF c0;have V9:Hid (ae w W0):=hb.trans (HB0.out.mono hb.size);have HC:=aj (tC 279 #[] #[.pointer (some ⟨w1.heap.size+1,0,none⟩)] (bs.map (!·)) ad cap W0 (by simpa using hl) TW (by
  rcases hs with h|⟨g,e,h1,h2⟩
  ·exact .inl (by first|exact h|(rw[h];rfl))
  refine .inr ⟨g,e,UT h1 V9.out.size,fun i hi=>?_⟩;obtain⟨u,hu,hf⟩:=h2 i (by simpa using hi);refine⟨u,aJ V9.out h1 hu,fun w2 hb2=>?_⟩;have h:=NK hf (V9.out.trans (hb2.mono V9.out.size)) (aJ hb2 cl c0);simpa using h))
 have hlm:(bs.map (!·)).length=bs.length:=Vt _;rw[hlm]at HC;have HE:Hid ((bs.map (!·)).any id=!(bs.all id)):=by
  show _=_;clear HC hs hl hlm hW0 c0 cl V9 HB0
  induction bs with
  | nil=>rfl
  | cons b bs ih=>rw[VX,VY,ih,List.all_cons];cases b<;>simp
 clear hs hb;go_enter func278,ntmps278;go_wp2_with fail;rw[<-hW0];clear hW0 c0 cl;refine HC.out.mono ?_;rintro e w2 ⟨rfl,hb2⟩;have HB2:=jR HB0 hb2;clear hb2;rw[HE.out];go_wp2;go_ret;exact⟨by simp,HB2.out⟩
theorem KA.below{w w':af}{FC:Nat}{rc cp:Array Value}{u:Value}{b:Bool}(h:KA w FC rc cp u b)(hb:ae w w'):KA w' FC rc cp u b:=by
 obtain⟨T,a,e,hk,hc⟩:=h;exact⟨T,a,e,hk,fun w1 h1=>hc w1 (hb.trans (h1.mono hb.size))⟩
theorem Iq{FC:Nat}{rc cp:Array Value}{K:Fc->Bool}{S:Nat->Prop}:∀(n:Nat) (w:af) (v:Value) (G:Ru),KnF w FC rc cp K->aN w S n v G->KA w FC rc cp v (G K)
 | 0,_,_,_,_,h=>h.elim
 | n+1,w,v,G,hK,h=>by
  have row:∀{ad:Q02} {Gs:List Ru},BR w S (aN w S n) ad Gs->TY w FC rc cp ad (Gs.map fun H=>H K):=fun {ad Gs} h=>by
   rcases h with h|⟨g,e,h1,h2,h3⟩
   ·exact .inl (by rw[h];rfl)
   refine .inr ⟨g,e,h2,fun i hi=>?_⟩;obtain⟨u,hu,hp⟩:=h3 i (by simpa using hi);refine⟨u,hu,?_⟩;rw[List.getElem_map];exact Iq n w u _ hK hp
  rcases h with⟨b,rfl,rfl⟩|⟨ad,cap,fs,rfl,hz,h1,h2,h3,rfl⟩|⟨ad,cap,Gs,rfl,h1,h2,rfl⟩|⟨ad,cap,Gs,rfl,h1,h2,rfl⟩
  ·exact⟨_,_,rfl,.inl ⟨rfl,_,rfl⟩,fun w1 hb=>Ip b _ w1⟩
  ·exact⟨_,_,rfl,.inr ⟨.inl rfl,_,_,_,rfl⟩,fun w1 hb=>Si (hK.below hb) (by have:=h2.1;omega) (h1.below hb) h3⟩
  ·refine⟨_,_,rfl,.inr ⟨.inr (.inl rfl),_,_,_,rfl⟩,fun w1 hb=>?_⟩;have h:=QL cap (by rw[Vt];omega) (row h2) w1 hb;rw[Vt,List.any_map]at h;exact h
  refine⟨_,_,rfl,.inr ⟨.inr (.inr rfl),_,_,_,rfl⟩,fun w1 hb=>?_⟩;have h:=QM cap (by rw[Vt];omega) (row h2) w1 hb;rw[Vt,List.all_map]at h;exact h
section
variable  [DecidableEq Fc]
theorem tF(ad:Q02)(cap:Nat)(fs:Q04)(w:af)(hl:fs.length<=1048576)(hs:o8 w ad fs)(hf:∀x∈fs,x.fits):
  Calls prog 67 #[.slice ad fs.length cap] w fun e w'=>(∃b n,e=.returned (.map (some b))/\aK jO prog 29 w' b n (wL fs))/\ae w w':=by
 have hmm:=@run_makeMap prog;obtain⟨W0,hW0⟩:∃W0,W0=w.alloc (.map #[] 0):=⟨_,rfl⟩;have HB0:=mI hW0;have HV0:Hid (aK jO prog 29 W0 w.heap.size 0 (wL (fs.take 0))):=by
  have h:=lK jO prog 29 w;show aK _ _ _ _ _ _ _;rw[hW0];exact h
 have hz0:w.heap.size<W0.heap.size:=by rw[hW0];simp
 have HS:=aj hs;have HF:=aj hf;clear hs hf;go_enter func67,ntmps67;go_wp2_with fail;rw[<-hW0];clear hW0 hmm;go_loopw[9] (fun i wr=>∃k:Nat,k<=fs.length/\i=.int .i64 k/\Hid (aK jO prog 29 wr w.heap.size k (wL (fs.take k)))/\Hid (ae w wr)/\Hid (w.heap.size<wr.heap.size)) (fun i _=>fs.length-(intOf i).toNat);case atStart=>exact⟨0,UY _,rfl,HV0,HB0,hz0⟩
 clear HV0 HB0 hz0;obtain⟨k,hk,rfl,HV,HB,HZ⟩:=hrel;by_cases hlt:k<fs.length
 ·obtain⟨b,off,V6,⟨t0,t1,t2,t3,t4⟩,hbl⟩:=o8.at0 (HS.out.below HB.out) hlt;have hi1:=bG k;have hi2:(k:Int)<(fs.length:Int):=by omega
  have HT:Hid (fs.take (k+1)=fs.take k++[fs[k]]):=UX hlt;obtain⟨kl,hkl⟩:=BG fs[k] (HF.out _ (UR hlt));obtain⟨x,hx⟩:∃x,x=fs[k]:=⟨_,rfl⟩;rw[<-hx]at t0 t1 t2 t3 t4 HT hkl;have Xh:=aj hkl;clear hx hkl;obtain⟨W1,hW1⟩:∃W1,W1=wr.alloc (.cells #[.string x.a,.string x.b,.string x.r,.string x.c,.string x.d] 29):=⟨_,rfl⟩;have WM:=mI hW1;have HV1:=aj (HV.out.below WM.out);have HB1:=aj (HB.out.trans (WM.out.mono HB.out.size));have hz1:w.heap.size<W1.heap.size:=UT HZ.out WM.out.size;subst V6;clear HV HB WM;go_wp2_with(at_mapUpdate;rw[<-hW1];clear hW1;refine ku _ rfl _ _ _ 107 rfl 29 113 J3 Hl underlying107 w.heap.size k _ rfl HV1.out (by unfold maxLen;omega) x kl rfl Xh.out (.agg #[]) rfl ?_);intro w2 hM2 hg2;have Z5:Hid (aK jO prog 29 w2 w.heap.size (k+1) (wL (fs.take (k+1)))):=by show aK _ _ _ _ _ _ _;rw[HT.out,<-Lh];exact hM2
  have HB2:Hid (ae w w2):=HB1.out.grown hg2 HB1.out.size (fun g hg=>by injection hg with hg;omega);have HZ2:Hid (w.heap.size<w2.heap.size):=UT hz1 hg2.size;clear hM2 hg2 t0 t1 t2 t3 t4;go_wp2;go_roundw;case rel=>exact⟨k+1,by omega,by go_num,Z5,HB2,HZ2⟩
  simp[intOf]<;>omega
 have HVE:Hid (aK jO prog 29 wr w.heap.size k (wL fs)):=by
  have h:=HV.out;rw[Vs (by omega)]at h;exact h
 go_wp2;go_ret;exact⟨⟨_,_,rfl,HVE.out⟩,HB.out⟩
end
end Go.Proofs.YtajkkeikihhejaaGreat
