/- Contracts: lists of tuples looked at, whatever slice leads to them; two rows of the same tuples held against one another. -/
import Derived.Test.YtajkkeikihhejaaGreatSq
import Derived.Test.YtajkkeikihhejaaGreatJ22
import Derived.Test.YtajkkeikihhejaaGreatDrawTuple
import Derived.Test.YtajkkeikihhejaaGreatJ16
open Go.Proofs.Tryz
set_option maxHeartbeats 80000000
namespace Go.Proofs.YtajkkeikihhejaaGreat
open Go.Sort
open Go.ChangeShapes Go.WideShapes Go.ChangeAt Go.RowKit
open Pl
attribute [local go_sem ↓] Go.wp_at_zero Go.wp_at_succ
theorem wE (ad:Option Addr) (cap:Nat) (w:af) :
  Calls prog 93 #[.slice ad 0 cap] w fun e w'=>e=.returned (.bool (dJ []))∧ag w w':=by
 go_enter func93,ntmps93;go_wp2;go_loopw [3] (fun i wr=>∃ k:Nat,k=0∧i=.int .i64 k∧ag w wr) (fun i _=>(intOf i).toNat);case atStart=>exact ⟨0,rfl,rfl,TT _ _⟩
 obtain ⟨k,rfl,rfl,hB⟩:=hrel;go_wp2;go_ret;exact ⟨rfl,hB⟩
theorem wF (ad:Option Addr) (cap:Nat) (w:af) :
  Calls prog 99 #[.slice ad 0 cap] w fun e w'=>e=.returned (.bool (dJ []))∧ag w w':=by
 go_enter func99,ntmps99;go_wp2;go_loopw [10] (fun i wr=>∃ k:Nat,k=0∧i=.int .i64 k∧ag w wr) (fun i _=>(intOf i).toNat);case atStart=>exact ⟨0,rfl,rfl,TT _ _⟩
 obtain ⟨k,rfl,rfl,hB⟩:=hrel;go_wp2;go_ret;exact ⟨rfl,hB⟩
theorem nX (ad:Option Addr) (cap:Nat) (ts:List Tp) (w:af) (hlen:ts.length≤maxLen) (hs:Sl w ad ts) (hf:∀ t ∈ ts,t.fits) :
  Calls prog 93 #[.slice ad ts.length cap] w fun e w'=>e=.returned (.bool (dJ ts))∧ag w w':=by
 rcases hs with rfl | ⟨b,off,rfl,hb,hr⟩
 ·exact wE ad cap w
 exact wC b off cap ts w hlen hr hb hf
theorem wG (ad:Option Addr) (cap:Nat) (ts:List Tp) (w:af) (hlen:ts.length≤maxLen) (hs:Sl w ad ts) (hf:∀ t ∈ ts,t.fits) :
  Calls prog 99 #[.slice ad ts.length cap] w fun e w'=>e=.returned (.bool (dJ ts))∧ag w w':=by
 rcases hs with rfl | ⟨b,off,rfl,hb,hr⟩
 ·exact wF ad cap w
 exact wD b off cap ts w hlen hr hb hf
end Go.Proofs.YtajkkeikihhejaaGreat
namespace Go.Proofs.YtajkkeikihhejaaGreat
open Go.ChangeShapes Go.WideShapes Go.ChangeAt Go.RowKit Go.Maps
open Pl
def rW (ts:List Tp) (t:Tp):Bool:=dJ ts && t.ok && !mq ts t && !(ts.length == 40)
def BH (ts:List Tp) (t:Tp):List Tp:=if rW ts t then jL ts t else []
theorem Ar {ts:List Tp} {t:Tp} (h:rW ts t=true):BH ts t=jL ts t:=by simp [BH,h]
theorem rH {ts:List Tp} {t:Tp} (h:rW ts t=false):BH ts t=[]:=by simp [BH,h]
def Sm (w w':World) (e:Ending) (L:List Tp) (f:Bool):Prop:=∃ v:Value,e=.returned (.tuple #[v,.bool f])∧w'.ownsRow w.heap.size 46 6 v L.length (bF L)∧ag w w'
theorem sw (b off cap:Nat) (ts:List Tp) (t:Tp) (w:af) (hlen:ts.length≤1048576) (hcap:ts.length≤cap) (hs:kL w b off ts) (hb:b < w.heap.size) (hf:∀ x ∈ ts,x.fits) (ht:t.fits) :
  Calls prog 88 #[.slice (some ⟨b,off,none⟩) ts.length cap,.agg #[.string t.a,.string t.b,.string t.r,.string t.c,.string t.d,.string t.s]] w fun e w'=>Sm w w' e (BH ts t) (rW ts t):=by
 have HF:=fE hf;have UL:=fE ht;obtain ⟨W0,hW0⟩:∃ W0,W0=w.alloc (.cells #[.string t.a,.string t.b,.string t.r,.string t.c,.string t.d,.string t.s] 46):=⟨_,rfl⟩;have HB0:=qZ hW0;have HX0:Hid (ug W0 w.heap.size t):=by show ug _ _ _; rw [hW0]; exact Ez w t _
 have HS:=fE hs;have SL:Hid (∀ W:World,ag w W→Sl W (some ⟨b,off,none⟩) ts):=fun W hB=>.inr ⟨b,off,rfl,TP hb hB.size,HS.out.below hB hb⟩;have U6:ts.length≤maxLen:=by unfold maxLen; omega
 have HT:=fE (nX (some ⟨b,off,none⟩) cap ts W0 U6 (SL.out _ HB0.out) hf);clear hs hf U6 ht;go_enter func88,ntmps88;go_wp2_with fail;rw [← hW0]; clear hW0;refine HT.out.mono ?_;rintro e w1 ⟨he,hb1⟩;have HB1:=jP HB0 hb1;have WF:=az (HX0.out.below hb1);clear HT HX0 HB0 hb1;cases h1:dJ ts;case false=>
  rw [h1] at he; subst he;have HR:Hid (rW ts t=false):=by show _=_; simp [rW,h1]
  have HL:Hid (BH ts t=[]):=rH HR.out;clear h1;go_wp2
  go_ret2
  exact ⟨.slice none 0 0,by rw [HR.out]; rfl,by rw [HL.out]; exact World.ownsRow_nil _ _ _ _,HB1.out⟩
 rw [h1] at he; subst he;obtain ⟨x0,x1,x2,x3,x4,x5,xl⟩:=WF.out;have H1:=fE h1;obtain ⟨e0,e1,e2,e3,e4,e5⟩:=UL.out;have HH:=fE (dY t.a t.b t.r t.c t.d t.s w1 e0 e1 e2 e3 e4 e5);clear h1 e0 e1 e2 e3 e4 e5;go_wp2_with fail;refine HH.out.mono ?_;rintro e w2 ⟨he,hb2⟩;have HB2:=jP HB1 hb2;have Xm:=az (WF.out.below hb2);clear HH WF HB1 hb2 x0 x1 x2 x3 x4 x5 xl;cases h2:t.ok;case false=>
  have h2':bI t.a t.b t.r t.c t.d t.s=false:=h2;rw [h2'] at he; subst he;have HR:Hid (rW ts t=false):=by show _=_; simp [rW,H1.out,h2]
  have HL:Hid (BH ts t=[]):=rH HR.out;clear h2 h2';go_wp2
  go_ret2
  exact ⟨.slice none 0 0,by rw [HR.out]; rfl,by rw [HL.out]; exact World.ownsRow_nil _ _ _ _,HB2.out⟩
 have h2':bI t.a t.b t.r t.c t.d t.s=true:=h2;rw [h2'] at he; subst he;have H2:=fE h2;obtain ⟨x0,x1,x2,x3,x4,x5,xl⟩:=Xm.out;have HH:=fE (L6 (some ⟨b,off,none⟩) cap ts t w2 hlen (SL.out _ HB2.out));clear h2 h2';go_wp2_with fail;refine HH.out.mono ?_;rintro e w3 ⟨he,hb3⟩;have HB3:=jP HB2 hb3;have HX3:=az (Xm.out.below hb3);clear HH Xm HB2 hb3 x0 x1 x2 x3 x4 x5 xl;cases h3:mq ts t;case true=>
  rw [h3] at he; subst he;have HR:Hid (rW ts t=false):=by show _=_; simp [rW,H1.out,H2.out,h3]
  have HL:Hid (BH ts t=[]):=rH HR.out;clear h3;go_wp2
  go_ret2
  exact ⟨.slice none 0 0,by rw [HR.out]; rfl,by rw [HL.out]; exact World.ownsRow_nil _ _ _ _,HB3.out⟩
 rw [h3] at he; subst he;have H3:=fE h3;clear h3;by_cases h4:ts.length=40
 ·have HR:Hid (rW ts t=false):=by show _=_; simp [rW,H1.out,H2.out,H3.out,h4]
  have HL:Hid (BH ts t=[]):=rH HR.out;have h5:((ts.length:Int) == 40)=true:=by simp; omega
  have H4:=fE h4;clear h4;go_wp2
  go_ret2
  exact ⟨.slice none 0 0,by rw [HR.out]; rfl,by rw [HL.out]; exact World.ownsRow_nil _ _ _ _,HB3.out⟩
 have HR:Hid (rW ts t=true):=by show _=_; simp [rW,H1.out,H2.out,H3.out,h4]
 have HL:Hid (BH ts t=jL ts t):=Ar HR.out;have h5:((ts.length:Int) == 40)=false:=by simp; omega
 have h40:=LW H1.out;obtain ⟨x0,x1,x2,x3,x4,x5,xl⟩:=HX3.out;have HP:=fE (LZ b off cap ts t w3 (by omega) hcap (HS.out.below HB3.out hb) (TP hb HB3.out.size) HF.out UL.out);clear HX3;go_wp2_with fail;refine HP.out.mono ?_;rintro e w4 ⟨v4,rfl,hs4,hb4⟩;have HS4:=fE hs4;clear hs4 HP x0 x1 x2 x3 x4 x5 xl;go_wp2
 go_ret2
 exact ⟨v4,by rw [HR.out]; rfl,by rw [HL.out]; exact fB HS4.out HB3.out.size,HB3.out.trans (hb4.mono HB3.out.size)⟩
def Tp.short (t:Tp):Prop:=t.a.size≤20∧t.b.size≤20∧t.r.size≤20∧t.c.size≤20∧t.d.size≤20∧t.s.size≤20
theorem Tp.short.fits {t:Tp} (h:t.short):t.fits:=by unfold Tp.short at h; unfold Tp.fits maxLen; omega
def qH (ts:List Tp):Prop:=∀ t ∈ ts,t.short
theorem qH.fits {ts:List Tp} (h:qH ts):∀ t ∈ ts,t.fits:=fun t ht=>(h t ht).fits
theorem L8:qH []:=fun t ht=>by cases ht
theorem rJ (ts:List Tp) (t:Tp):(jL ts t).length=ts.length + 1:=by
 induction ts with
 | nil=>rfl
 | cons x xs ih =>
  unfold jL;split
  ·simp [ih]
  simp
theorem qH.put {ts:List Tp} {t:Tp} (h:qH ts) (ht:t.short):qH (jL ts t):=fun x hx=>by
 rcases (OI ts t x).1 hx with rfl | k
 ·exact ht
 exact h x k
theorem nY {w w':af} {R base n:Nat} {v:Value} {xs:List Value} (h:w.ownsRow base 46 6 v n xs) (hR:R < base) (hO:Only R w w'):w'.ownsRow base 46 6 v n xs :=
 h.kept hO (.inr fun e=>by have:=(h.lt R e).1; omega)
theorem mV {w:af} {base g n c:Nat} {ts:List Tp} (h:w.ownsRow base 46 6 (.slice (some ⟨g,0,none⟩) n c) n (bF ts)) (hn:n=ts.length):kL w g 0 ts∧g < w.heap.size∧n≤c∧base≤g:=by
 have hlt:=h.lt g rfl;refine ⟨?_,hlt.2,?_,hlt.1⟩
 ·subst hn;intro i hi;have key:∀ j,j < 6→w.cell? ⟨g,0 + i * 6 + j,none⟩=(ts[i]).row[j]?:=fun j hj=>by
   rw [h.cellAt (0 + i * 6 + j) (by have:=jf ts; omega),← uU ts i hi j hj,Um]
  exact ⟨key 0 (by omega),key 1 (by omega),key 2 (by omega),key 3 (by omega),key 4 (by omega),key 5 (by omega)⟩
 rcases h.2 with ⟨e,-⟩ | ⟨g',cap',cur,e,-,-,hle,-⟩
 ·cases e
 injection e with e1 e2 e3; omega
theorem sD {W:af} {base:Nat} {e:TypeId} {size:Nat} {v:Value} {k:Nat} {xs:List Value} (h:W.ownsRow base e size v (k + 1) xs):∃ g cap,v=.slice (some ⟨g,0,none⟩) (k + 1) cap:=by
 rcases h.2 with ⟨_,h0⟩ | ⟨g,cap,_,rfl,_⟩
 ·omega
 exact ⟨g,cap,rfl⟩
theorem Rd.grown {w w':af} {R:Nat} {ad:Option Addr} {len cap:Nat} {row:Option Nat} (h:Rd w R ad len cap) (hg:w.grownBy w' row) (hR:some R ≠ row) (hb:0 < len→∀ b off,ad=some ⟨b,off,none⟩→some b ≠ row):Rd w' R ad len cap where
 lt:=TP h.lt hg.size
 code:=hg.cell h.code hR
 place:=by obtain ⟨p,hp,hl⟩:=h.place; exact ⟨p,hg.cell hp hR,hl⟩
 free:=(World.frozen?_of_block (w:=w) (a:=⟨R,1,none⟩) (hg.block R h.lt hR)).trans h.free
 bytes h0:=by
  obtain ⟨b,off,e,hne,hbl,hc⟩:=h.bytes h0;refine ⟨b,off,e,hne,TP hbl hg.size,fun i hi=>?_⟩;obtain ⟨c,c0,c1,hcc⟩:=hc i hi;exact ⟨c,c0,c1,hg.cell hcc (hb h0 b off e)⟩
 small:=h.small
theorem lG (w:af):(zeroValue 33).run prog w=.ok (.slice none 0 0) w:=by kernel_rfl
theorem yL (b n:Nat) (M:ByteArray × ByteArray→Option Value) (t r:bH) (w:af) (ht:t.size≤maxLen) (hr:r.size≤maxLen) (hV:aM dQ prog 94 w b n M) :
  Calls prog 184 #[.map (some b),.string t,.string r] w fun e w'=>e=.returned (.bool (M (t,r)).isSome)∧w'=w:=by
 obtain ⟨kl,hkl⟩:=jC (t,r) ht hr;have HV:Hid (aM dQ prog 94 w b n M):=hV;have Vo:Hid (keyOf prog 94 (dQ (t,r))=some kl):=hkl;clear hkl hV;go_enter func184,ntmps184;go_wp2_with (first | (at_lookup; refine bZ _ rfl _ _ 91 rfl 94 33 ic underlying91 (lG _) b n M rfl HV.out (t,r) kl rfl Vo.out ?_) | go_in);go_ret;exact ⟨rfl,rfl⟩
theorem Da (a:Al) (w:af) :
  Calls prog 243 #[.agg #[.string a.t,.string a.s]] w fun e w'=>e=.returned (.bool (!a.s.toList.isEmpty))∧ag w w':=by
 cases h:a.s.toList.isEmpty;case true=>
  go_enter func243,ntmps243;go_wp2;go_ret;exact ⟨rfl,(TT _ _).alloc (TS _) _⟩
 go_enter func243,ntmps243;go_wp2;go_ret;exact ⟨rfl,(TT _ _).alloc (TS _) _⟩
theorem xV (xs:List Al) (k:Nat) (h:k < xs.length):(xs.drop k).any (fun a=>!a.s.toList.isEmpty)=((!xs[k].s.toList.isEmpty) || (xs.drop (k + 1)).any (fun a=>!a.s.toList.isEmpty)):=by
 rw [Un h]; rfl
theorem BI (ad:Option Addr) (cap:Nat) (xs:List Al) (w:af) (hlen:xs.length≤1048576) (hs:jM w ad xs) :
  Calls prog 253 #[.slice ad xs.length cap,.func (Fn.func 243) #[] #[]] w fun e w'=>(∃ r:Int,e=.returned (.int .i64 r)∧decide (0≤r)=xs.any (fun a=>!a.s.toList.isEmpty))∧ag w w':=by
 have HS:=az hs;clear hs;go_enter func253,ntmps253;go_wp2_with fail;go_loopw [8] (fun i wr=>∃ k:Nat,k≤xs.length∧i=.int .i64 k∧Hid ((xs.drop k).any (fun a=>!a.s.toList.isEmpty)=xs.any (fun a=>!a.s.toList.isEmpty))∧Hid (ag w wr)) (fun i _=>xs.length - (intOf i).toNat);case atStart=>exact ⟨0,TW _,rfl,rfl,TT _ _⟩
 obtain ⟨k,hk,rfl,HP,HB⟩:=hrel;by_cases hlt:k < xs.length
 ·rcases HS.out.below HB.out with rfl | ⟨b,off,rfl,hb,hr⟩
  ·simp at hlt
  obtain ⟨t0,t1⟩:=hr k hlt;have hk1:=bB k;have hk2:(k:Int) < (xs.length:Int):=by omega
  clear hr;cases he:xs[k].s.toList.isEmpty;case false=>
   have HN:Hid (xs.any (fun a=>!a.s.toList.isEmpty)=true):=by show _=_; rw [← HP.out,xV _ _ hlt,he]; rfl
   go_wp2_with (go_at_call 243; refine (Da xs[k] _).mono ?_; rintro e w' ⟨he2,hbx⟩; rw [he] at he2; subst he2);go_ret;exact ⟨⟨k,rfl,by rw [HN.out]; simp⟩,HB.out.trans (hbx.mono HB.out.size)⟩
  have UI:Hid ((xs.drop (k + 1)).any (fun a=>!a.s.toList.isEmpty)=xs.any (fun a=>!a.s.toList.isEmpty)):=by show _=_; rw [← HP.out,xV _ _ hlt,he]; rfl
  go_wp2_with (go_at_call 243; refine (Da xs[k] _).mono ?_; rintro e w' ⟨he2,hbx⟩; rw [he] at he2; subst he2);go_roundw;case rel=>exact ⟨k + 1,by omega,by go_num,UI,HB.out.trans (hbx.mono HB.out.size)⟩
  simp [intOf] <;> omega
 have HN:Hid (xs.any (fun a=>!a.s.toList.isEmpty)=false):=by show _=_; rw [← HP.out,List.drop_of_length_le (by omega)]; rfl
 go_wp2;go_ret;exact ⟨⟨-1,rfl,by rw [HN.out]; simp⟩,HB.out⟩
theorem wH (ad:Option Addr) (cap:Nat) (xs:List Al) (w:af) (hlen:xs.length≤1048576) (hs:jM w ad xs) :
  Calls prog 242 #[.slice ad xs.length cap,.func (Fn.func 243) #[] #[]] w fun e w'=>e=.returned (.bool (xs.any (fun a=>!a.s.toList.isEmpty)))∧ag w w':=by
 go_enter func242,ntmps242;go_wp2_with fail;refine (BI ad cap xs _ hlen hs).mono ?_;rintro e w' ⟨⟨r,rfl,hr⟩,hbx⟩;have HR:Hid (decide (0≤r)=xs.any (fun a=>!a.s.toList.isEmpty)):=hr;clear hr hs;go_wp2;go_ret;exact ⟨by rw [← HR.out]; rfl,hbx⟩
theorem OL (xs:List Al):(!xs.any fun a=>!a.s.toList.isEmpty)=xs.all fun a=>a.s.toList.isEmpty:=by
 induction xs with
 | nil=>rfl
 | cons a xs ih=>simp only [List.any_cons,List.all_cons,Bool.not_or,Bool.not_not,ih]
set_option maxRecDepth 100000 in
theorem uW (ad:Option Addr) (cap:Nat) (rs:List ER) (w:af) (hlen:rs.length≤1048576) (hs:iH w ad rs) (hl:∀ r ∈ rs,r.e.light) :
  Calls prog 224 #[.slice ad rs.length cap] w fun e w'=>e=.returned (.bool (bu (ak rs)))∧ag w w':=by
 by_cases h1:rs.length=1
 ·obtain ⟨r,rfl⟩:∃ r,rs=[r]:=List.length_eq_one_iff.1 h1;rcases hs with h | ⟨b,off,rfl,hb,hr,hok⟩
  ·cases h
  obtain ⟨t0,t1,t2,t3,t4⟩:=hr 0 (by simp);simp only [Nat.zero_mul,Nat.add_zero,List.getElem_cons_zero] at t0 t1 t2 t3 t4;have VF:Hid (r.ok w):=hok r (by simp);obtain ⟨lg,-⟩:=hl r (by simp);clear hr hok h1;simp only [List.length_cons,List.length_nil,Um];by_cases hq:r.e.kind=1
  ·have HD:Hid (bu (ak [r])=!r.e.allow.any fun a=>!a.s.toList.isEmpty):=by show _=_; rw [OL]; simp [bu,ak,hq]
   have Y0:(r.e.kind == 1)=true:=by simpa using hq
   go_enter func224,ntmps224;go_wp2_with (go_at_call 242; refine (wH _ _ r.e.allow _ lg (VF.out.1.below ((TT _ _)))).mono ?_; rintro e w' ⟨rfl,hbx⟩);go_ret;exact ⟨by rw [HD.out]; rfl,hbx⟩
  have HD:Hid (bu (ak [r])=false):=by show _=_; simp [bu,ak,hq]
  have Y0:(r.e.kind == 1)=false:=by simpa using hq
  go_enter func224,ntmps224;go_wp2;go_ret;exact ⟨by rw [HD.out]; rfl,TT _ _⟩
 have HD:Hid (bu (ak rs)=false):=by
  show _=_;rcases rs with _ | ⟨r,_ | ⟨r2,rs⟩⟩
  ·rfl
  ·simp at h1
  rfl
 have h2:((rs.length:Int) == 1)=false:=by
  have:¬ ((rs.length:Int)=1):=by omega
  simpa using this
 clear hs;go_enter func224,ntmps224;go_wp2;go_ret;exact ⟨by rw [HD.out]; rfl,TT _ _⟩
def gy (ts:List Ty) (ty over rel:ByteArray):List ByteArray:=if bu (aA ts ty over) then ig ts ty over rel else []
theorem L9:(prog.info? 9).map (fun i=>(i.zero,i.size,i.bytes))=some (some (.string ⟨#[]⟩),1,16):=by kernel_rfl
theorem I9 (r:ER) (h:bu (ak [r])=true):aU (ak [r])=r.e.allow∧r.e.kind=1:=by
 simp only [ak,List.map_cons,List.map_nil,bu,TU,Ud] at h;exact ⟨by simp [ak,aU,h.1],h.1⟩
theorem Ja {rows:List ER} (h:bu (ak rows)=true):∃ r,rows=[r]:=by
 rcases rows with _ | ⟨r,_ | ⟨r2,rs⟩⟩
 ·simp [ak,bu] at h
 ·exact ⟨r,rfl⟩
 simp [ak,bu] at h
set_option maxRecDepth 100000 in
theorem xW (b n:Nat) (rs:List TR) (ad:Option Addr) (M:ByteArray × ByteArray→Option Value) (typ:bH) (x:ER) (w:af) (hV:aM dQ prog 94 w b n M) (hT:Tab rs M) (hs:kX w ad rs) (hl:∀ r ∈ rs,r.light) (hf:∀ r ∈ rs,r.fits) (ht:typ.size≤maxLen) (ho:x.e.over.size≤maxLen) (hn:x.e.name.size≤maxLen) :
  Calls prog 185 #[.map (some b),.string typ,x.val] w fun e w'=>(∃ (UJ:Option Addr) (cap':Nat),e=.returned (.slice UJ (gy (ae rs) typ x.e.over x.e.name).length cap')∧R6 w' UJ (gy (ae rs) typ x.e.over x.e.name)∧∀ p,UJ=some p→w.heap.size≤p.block)∧ag w w':=by
 have HV:Hid (aM dQ prog 94 w b n M):=hV;have HT:=az hT;have HS:=az hs;have HL:=az hl;have UL:=az hf;obtain ⟨kl,hkl⟩:=jC (typ,x.e.over) ht ho;have Vo:Hid (keyOf prog 94 (dQ (typ,x.e.over))=some kl):=hkl;clear hkl hV hT hs hl hf;obtain ⟨i0,hi,hz0,hz1,hz2⟩:=info_parts L9;obtain ⟨W0,hW0⟩:∃ W0,W0=w.alloc (.cells #[.int .i64 x.e.kind,.slice x.adA x.e.allow.length x.capA,.string x.e.over,.string x.e.name,.slice x.adK x.e.kids.length x.capK] 39):=⟨_,rfl⟩;have hal:ag w W0:=by rw [hW0]; exact (TT _ _).alloc (TS _) _
 have HB0:=az hal;have ZY:=az (HV.out.below hal);have c3:W0.cell? ⟨w.heap.size,3,none⟩=some (.string x.e.name):=by rw [hW0]; simp
 have hg0:w.heap.size < W0.heap.size:=by rw [hW0]; simp
 -- what lies in the table
 obtain ⟨rows,UD,capE,HM,HE,HF,HFL⟩:∃ (rows:List ER) (UD:Option Addr) (capE:Nat),Hid ((M (typ,x.e.over)).getD (.slice none 0 0)=.slice UD rows.length capE)∧Hid (ak rows=aA (ae rs) typ x.e.over)∧Hid (pO rs UD rows)∧Hid (∀ q ∈ rows,q.e.fits):=by
  cases e:M (typ,x.e.over) with
  | none=>exact ⟨[],none,0,rfl,by show _=_; unfold aA; rw [HT.out.no _ e]; rfl,.inl rfl,by show ∀ _,_; simp⟩
  | some v =>
   obtain ⟨t,ZZ,q,hq,-,rfl,e1,-⟩:=HT.out.yes _ v e;exact ⟨q.rows,q.ad,q.cap,rfl,by show _=_; unfold aA; rw [e1]; rfl,.inr ⟨t,ZZ,q,hq,rfl,rfl⟩,((UL.out t ZZ).2.2 q hq).2.2⟩
 have WK:Hid (iH W0 UD rows):=HF.out.sl (HS.out.below hal);have Vl:=HF.out.light HL.out;have HLE1:rows.length≤1048576:=Vl.1;have HLE2:Hid (∀ q ∈ rows,q.e.light):=Vl.2;clear Vl hal;go_enter func185,ntmps185;unfold ER.val;go_wp2_with (at_lookup; rw [← hW0]; refine jB _ rfl _ _ 91 rfl 94 33 ic underlying91 (lG _) b n M rfl ZY.out (typ,x.e.over) kl rfl Vo.out ?_; rw [HM.out]; clear hW0);refine (uW UD capE rows _ HLE1 WK.out HLE2.out).mono ?_;rintro e w1 ⟨rfl,hb1⟩;have HB1:=jP HB0 hb1;have HNM:Hid (w1.cell? ⟨w.heap.size,3,none⟩=some (.string x.e.name)∧w.heap.size < w1.heap.size):=⟨aG hb1 hg0 c3,TP hg0 hb1.size⟩;clear hb1 c3 hg0;cases hd:bu (ak rows);case false=>
  have HG:Hid (gy (ae rs) typ x.e.over x.e.name=[]):=by show _=_; unfold gy; rw [← HE.out,hd]; rfl
  go_wp2;go_ret;refine ⟨⟨none,0,by rw [HG.out]; rfl,by rw [HG.out]; exact .inl rfl,fun p hp=>by cases hp⟩,HB1.out⟩
 obtain ⟨r,rfl⟩:=Ja hd;have HG:Hid (gy (ae rs) typ x.e.over x.e.name=gl (ae rs) x.e.name r.e.allow):=by
  show _=_;unfold gy ig;rw [← HE.out,hd,if_pos rfl,(I9 r hd).1]
 rcases WK.out with h | ⟨bE,offE,rfl,hbE,Z0,hokE⟩
 ·cases h
 have HSW:Hid (iH w1 (some ⟨bE,offE,none⟩) [r]):=HF.out.sl (HS.out.below HB1.out);rcases HSW.out with h | ⟨bE',offE',heE,hbE1,hrE1,hokE1⟩
 ·cases h
 injection heE with heE; injection heE with heE1 heE2; subst heE1; subst heE2;obtain ⟨s0,s1,s2,s3,s4⟩:=hrE1 0 (by simp);simp only [Nat.zero_mul,Nat.add_zero,List.getElem_cons_zero] at s0 s1 s2 s3 s4;have HOKR:Hid (r.ok w):=by
  have h1:=HF.out.sl HS.out;exact h1.mem (by simp)
 have lgA:r.e.allow.length≤1048576:=(HLE2.out r (by simp)).1;have HFA:Hid (∀ a ∈ r.e.allow,a.fits):=(HFL.out r (by simp)).1;have hone:([r]:List ER).length=1:=rfl;rw [hone];clear Z0 hokE hrE1 hokE1 HE HM hd hbE;go_wp2_with fail;go_loopw [8,25] (fun v i wr=>∃ k:Nat,k≤r.e.allow.length∧i=.int .i64 k∧Hid (wr.ownsRow w.heap.size 9 1 v (gl (ae rs) x.e.name (r.e.allow.take k)).length (qo (gl (ae rs) x.e.name (r.e.allow.take k))))∧Hid (ag w wr)∧Hid (wr.cell? ⟨w.heap.size,3,none⟩=some (.string x.e.name)∧w.heap.size < wr.heap.size∧v.ownBlock ≠ some w.heap.size)) (fun _ i _=>r.e.allow.length - (intOf i).toNat);case atStart=>exact ⟨0,TW _,rfl,World.ownsRow_nil _ _ _ _,HB1,HNM.out.1,HNM.out.2,by simp [Value.ownBlock]⟩
 clear HB1 HNM s0 s1 s2 s3 s4;obtain ⟨k,hk,rfl,HOW,HB,HC⟩:=hrel;by_cases hlt:k < r.e.allow.length
 ·rcases (HOKR.out.1).below HB.out with hnil | ⟨ba,Wx,had,Yq,hra⟩
  ·rw [hnil] at hlt; simp at hlt
  obtain ⟨t0,t1⟩:=hra k hlt;have hk1:=bB k;have hk2:(k:Int) < (r.e.allow.length:Int):=by omega
  have zA:=HFA.out _ (TQ hlt);have z1:r.e.allow[k].t.size≤maxLen:=zA.1;obtain ⟨hc3,hcl,hco⟩:=HC.out;obtain ⟨W1,hW1⟩:∃ W1,W1=wr.alloc (.cells #[.string r.e.allow[k].t,.string r.e.allow[k].s] 43):=⟨_,rfl⟩;have hal:ag wr W1:=by rw [hW1]; exact (TT _ _).alloc (TS _) _
  have UG:=jP HB hal;have HVW:=az (HV.out.below UG.out);have WG:Hid (W1.ownsRow w.heap.size 9 1 u8 (gl (ae rs) x.e.name (r.e.allow.take k)).length (qo (gl (ae rs) x.e.name (r.e.allow.take k)))):=own_below HOW.out hal;have g0:W1.cell? ⟨wr.heap.size,0,none⟩=some (.string r.e.allow[k].t):=by rw [hW1]; simp
  have g3:=aG hal hcl hc3;have hgl1:wr.heap.size < W1.heap.size:=by rw [hW1]; simp
  have hgl:=Iw (ae rs) x.e.name (r.e.allow.take k);rw [Ut] at hgl;have HI:=HT.out.some_iff (r.e.allow[k].t,x.e.name);have hwsz:w.heap.size≤W1.heap.size:=UG.out.size;rw [had];clear hra hal HC HOW;go_wp2_with fail;rw [← hW1];refine (yL b n M r.e.allow[k].t x.e.name _ z1 hn HVW.out).mono ?_;rintro e w' ⟨rfl,hw'⟩;rw [hw'];clear hw' w' hW1 t0 t1 hc3;cases hz:(M (r.e.allow[k].t,x.e.name)).isSome;case false=>
   have HE:Hid (gl (ae rs) x.e.name (r.e.allow.take (k + 1))=gl (ae rs) x.e.name (r.e.allow.take k)):=by
    refine Rs _ _ _ _ hlt ?_;rw [hz] at HI;simpa using HI.symm
   clear HI;go_wp2;go_roundw;case rel=>exact ⟨k + 1,by omega,by go_num,by rw [HE.out]; exact WG,UG,g3,by omega,hco⟩
   simp [intOf] <;> omega
  have HX:Hid (gl (ae rs) x.e.name (r.e.allow.take (k + 1))=gl (ae rs) x.e.name (r.e.allow.take k) ++ [r.e.allow[k].t]):=by
   refine NS _ _ _ _ hlt ?_;rw [hz] at HI;simpa using HI.symm
  clear HI;go_wp2_with (at_builtin; refine wpList_append_own_at _ rfl _ _ 142 rfl w.heap.size 9 i0 (.string ⟨#[]⟩) 1 16 underlying142 hi hz0 hz1 hz2 rfl (by decide) _ _ _ rfl (WG.out.alloc _) ⟨W1.heap.size,0,none⟩ 1 1 [.string r.e.allow[k].t] rfl rfl (cell_one_new _ _ _) (by intro u hu; simp at hu; subst hu; rfl) (by unfold maxLen; omega) (by omega) (by simp; omega) ?_);intro v' w3 hown3 hgrow _ hloc;have hb3:Hid (ag w w3):=(UG.out.alloc UG.out.size _).grown hgrow (by simp; omega) (fun i hi=>(WG.out.lt i hi).1);have UY:Hid (w3.ownsRow w.heap.size 9 1 v' (gl (ae rs) x.e.name (r.e.allow.take (k + 1))).length (qo (gl (ae rs) x.e.name (r.e.allow.take (k + 1))))):=by
   show World.ownsRow _ _ _ _ _ _ _;rw [HX.out];simpa [qo] using hown3
  have XF:Hid (w3.cell? ⟨w.heap.size,3,none⟩=some (.string x.e.name)∧w.heap.size < w3.heap.size∧v'.ownBlock ≠ some w.heap.size):=by
   refine ⟨?_,?_,?_⟩
   ·rw [hgrow.cell_far _ (by simp; omega) (Ne.symm hco)]; exact aG ((TT _ _).alloc (TS _) _) (by omega) g3
   ·have:=hgrow.size; simp at this; omega
   rcases hloc with e | e
   ·rw [e]; exact hco
   rw [e]; simp; omega
  clear hown3 hgrow hloc WG g0 g3;go_wp2;go_roundw;case rel=>exact ⟨k + 1,by omega,by go_num,UY,hb3,XF⟩
  simp [intOf] <;> omega
 obtain rfl:k=r.e.allow.length:=by omega
 have hown:=HOW.out;rw [Ug] at hown;obtain ⟨UJ,cp,rfl,hS',hN'⟩:=NT hown;have HS2:=az hS';have V9:Hid (∀ p,UJ=some p→w.heap.size≤p.block):=hN';clear hown HOW hS' hN' HC;go_wp2;go_ret;refine ⟨⟨UJ,cp,by rw [HG.out]; rfl,by rw [HG.out]; exact HS2.out,V9.out⟩,HB.out⟩
theorem Db (x y:Al):jQ x y=jQ y x:=by
 unfold jQ;rw [Bool.eq_iff_iff];simp only [TU,beq_iff_eq];exact ⟨fun h=>⟨h.1.symm,h.2.symm⟩,fun h=>⟨h.1.symm,h.2.symm⟩⟩
theorem Ma (ad:Option Addr) (n cap:Nat) (xs:List Al) (v:Al) (w:af) (hn:n≤xs.length) (hlen:xs.length≤1048576) (hs:jM w ad xs) :
  Calls prog 197 #[.slice ad n cap,.agg #[.string v.t,.string v.s]] w fun e w'=>(∃ r:Int,e=.returned (.int .i64 r)∧decide (0≤r)=dF xs n v)∧ag w w':=by
 obtain ⟨W,hW⟩:∃ W,W=w.alloc (.cells #[.string v.t,.string v.s] 43):=⟨_,rfl⟩;have HB0:Hid (ag w W):=by show Below _ _ _; rw [hW]; exact (TT w.heap.size w).alloc (TS _) _
 have hz:w.heap.size < W.heap.size:=by rw [hW]; simp
 have b0:W.cell? ⟨w.heap.size,0,none⟩=some (.string v.t):=by rw [hW]; simp
 have b1:W.cell? ⟨w.heap.size,1,none⟩=some (.string v.s):=by rw [hW]; simp
 have HS:=az (hs.below HB0.out);clear hs;go_enter func197,ntmps197;go_wp2_with fail;rw [← hW];clear hW;go_loopw [8] (fun i wr=>∃ k:Nat,k≤n∧i=.int .i64 k∧Hid (dF xs k v=false)∧ag W wr) (fun i _=>n - (intOf i).toNat);case atStart=>exact ⟨0,TW _,rfl,sO _ _,TT _ _⟩
 obtain ⟨k,hk,rfl,HP,hB⟩:=hrel;have a0:=kept hB hz b0;have a1:=kept hB hz b1;by_cases hlt:k < n
 ·have hltx:k < xs.length:=by omega
  rcases HS.out.below hB with rfl | ⟨b,off,rfl,hb,hr⟩
  ·simp at hltx
  obtain ⟨t0,t1⟩:=hr k hltx;have hk1:=bB k;have hk2:(k:Int) < (n:Int):=by omega
  clear hr;cases hq:jQ v xs[k];case true=>
   have HE:=D9 v xs[k] hq;have HN:Hid (dF xs n v=true):=Cn hlt hltx (by rw [Db]; exact hq);go_wp2_with fail;go_quiet (fail);go_wp2;go_ret;exact ⟨⟨_,rfl,by rw [HN.out]; simp⟩,HB0.out.trans (below_drewN (hB.mono HB0.out.size) _)⟩
  have HE:=D9 v xs[k] hq;have UI:Hid (dF xs (k + 1) v=false):=by show _=_; rw [sN _ _ _ hltx,HP.out,Db,hq]; rfl
  go_wp2_with fail;go_quiet (fail);go_wp2;go_roundw;case rel=>exact ⟨k + 1,by omega,by go_num,UI,below_drewN hB _⟩
  simp [intOf] <;> omega
 obtain rfl:k=n:=by omega
 go_wp2;go_ret;exact ⟨⟨-1,rfl,by rw [HP.out]; rfl⟩,HB0.out.trans (hB.mono HB0.out.size)⟩
theorem uX (ad:Option Addr) (n cap:Nat) (xs:List Al) (v:Al) (w:af) (hn:n≤xs.length) (hlen:xs.length≤1048576) (hs:jM w ad xs) :
  Calls prog 142 #[.slice ad n cap,.agg #[.string v.t,.string v.s]] w fun e w'=>e=.returned (.bool (dF xs n v))∧ag w w':=by
 have HB0:Hid (ag w (w.alloc (.cells #[.string v.t,.string v.s] 43))):=(TT w.heap.size w).alloc (TS _) _;have HS:=az hs;clear hs;go_enter func142,ntmps142;go_wp2_with fail;refine (Ma ad n cap xs v _ hn hlen (HS.out.below HB0.out)).mono ?_;rintro e w1 ⟨⟨r,rfl,hr⟩,hb1⟩;have HR:Hid (decide (0≤r)=dF xs n v):=hr;have HB1:=jP HB0 hb1;clear hr hb1;go_wp2;go_ret;exact ⟨ah HR.out,HB1.out⟩
set_option maxRecDepth 8000 in
theorem ED (r:ER) (w:af) (hf:r.e.fits) (h1:r.e.kind ≠ 1) :
  Calls prog 239 #[r.val] w fun e w'=>e=.returned (.bool (ax r.e))∧ag w w':=by
 obtain ⟨⟨kind,allow,over,name,kids⟩,adA,capA,adK,capK⟩:=r;obtain ⟨f1,f2,f3,f4,f5⟩:=hf;simp only at f1 f2 f3 f4 f5 h1;simp only [ER.val];unfold maxLen at f4 f5;by_cases h2:kind=2
 ·subst h2;clear h1;go_enter func239,ntmps239;go_wp2_with fail;go_quiet (fail);go_wp2_with (go_at_call 162; refine (aL _ _ (by assumption)).mono ?_; rintro e w' ⟨rfl,rfl⟩)
  all_goals go_ret
  all_goals exact ⟨ah (by first | (simp [ax, *]; done) | (simp [ax, *]; omega) | (simp [ax, *]; rw [Bool.eq_iff_iff]; simp; done) | (simp [ax, *]; rw [Bool.eq_iff_iff]; simp; omega)),below_drewN ((TT w.heap.size w).alloc (TS _) _) _⟩
 by_cases h3:kind=3
 ·subst h3;clear h1;go_enter func239,ntmps239;go_wp2_with fail;go_quiet (fail);go_wp2_with (go_at_call 162; refine (aL _ _ (by assumption)).mono ?_; rintro e w' ⟨rfl,rfl⟩)
  all_goals go_ret
  all_goals exact ⟨ah (by first | (simp [ax, *]; done) | (simp [ax, *]; omega) | (simp [ax, *]; rw [Bool.eq_iff_iff]; simp; done) | (simp [ax, *]; rw [Bool.eq_iff_iff]; simp; omega)),below_drewN ((TT w.heap.size w).alloc (TS _) _) _⟩
 by_cases h4:kind=4
 ·subst h4;clear h1;go_enter func239,ntmps239;go_wp2_with fail;go_quiet (fail);go_wp2_with (go_at_call 162; refine (aL _ _ (by assumption)).mono ?_; rintro e w' ⟨rfl,rfl⟩)
  all_goals go_ret
  all_goals exact ⟨ah (by first | (simp [ax, *]; done) | (simp [ax, *]; omega) | (simp [ax, *]; rw [Bool.eq_iff_iff]; simp; done) | (simp [ax, *]; rw [Bool.eq_iff_iff]; simp; omega)),below_drewN ((TT w.heap.size w).alloc (TS _) _) _⟩
 by_cases h5:kind=5
 ·subst h5;clear h1;go_enter func239,ntmps239;go_wp2_with fail;go_quiet (fail);go_wp2_with (go_at_call 162; refine (aL _ _ (by assumption)).mono ?_; rintro e w' ⟨rfl,rfl⟩)
  all_goals go_ret
  all_goals exact ⟨ah (by first | (simp [ax, *]; done) | (simp [ax, *]; omega) | (simp [ax, *]; rw [Bool.eq_iff_iff]; simp; done) | (simp [ax, *]; rw [Bool.eq_iff_iff]; simp; omega)),below_drewN ((TT w.heap.size w).alloc (TS _) _) _⟩
 by_cases h6:kind=6
 ·subst h6;clear h1;go_enter func239,ntmps239;go_wp2_with fail;go_quiet (fail);go_wp2_with (go_at_call 162; refine (aL _ _ (by assumption)).mono ?_; rintro e w' ⟨rfl,rfl⟩)
  all_goals go_ret
  all_goals exact ⟨ah (by first | (simp [ax, *]; done) | (simp [ax, *]; omega) | (simp [ax, *]; rw [Bool.eq_iff_iff]; simp; done) | (simp [ax, *]; rw [Bool.eq_iff_iff]; simp; omega)),below_drewN ((TT w.heap.size w).alloc (TS _) _) _⟩
 go_enter func239,ntmps239;go_wp2_with fail;go_quiet (fail);go_wp2_with (go_at_call 162; refine (aL _ _ (by assumption)).mono ?_; rintro e w' ⟨rfl,rfl⟩)
 all_goals go_ret
 all_goals exact ⟨ah (by first | (simp [ax, *]; done) | (simp [ax, *]; omega) | (simp [ax, *]; rw [Bool.eq_iff_iff]; simp; done) | (simp [ax, *]; rw [Bool.eq_iff_iff]; simp; omega)),below_drewN ((TT w.heap.size w).alloc (TS _) _) _⟩
end Go.Proofs.YtajkkeikihhejaaGreat
