/- A change of right tuples, as the program does it: a new row, or a refusal that holds a copy of the old one. -/
import Derived.Test.YteoflgocljfgeaaGreatDoorJ32
import Derived.Test.YteoflgocljfgeaaGreatDoorConcatT
open Go.Proofs.Tryz
set_option maxHeartbeats 80000000
namespace Go.Proofs.YteoflgocljfgeaaGreatDoor
set_option maxRecDepth 100000
set_option linter.unusedVariables false
open Go.ChangeShapes Go.WideShapes Go.ChangeAt Go.RowKit
open Pl
def Sv (w:World) (ad:Option Addr) (cap:Nat) (ts:List Tp):Prop:=(ad=none∧cap=0∧ts=[]) ∨ ∃ b off,ad=some ⟨b,off,none⟩∧b < w.heap.size∧ts.length≤cap∧dL w b off ts
theorem Sv.sl {w:World} {ad:Option Addr} {cap:Nat} {ts:List Tp} (h:Sv w ad cap ts):Sl w ad ts:=by
 rcases h with ⟨_,_,h⟩ | ⟨b,off,e,hl,_,hr⟩
 ·exact .inl h
 ·exact .inr ⟨b,off,e,hl,hr⟩
theorem Sv.below {w w':World} {ad:Option Addr} {cap:Nat} {ts:List Tp} (h:Sv w ad cap ts) (hb:Below w.heap.size w w'):Sv w' ad cap ts:=by
 rcases h with h | ⟨b,off,e,hl,hc,hr⟩
 ·exact .inl h
 ·exact .inr ⟨b,off,e,Nat.lt_of_lt_of_le hl hb.size,hc,hr.below hb hl⟩
def L8 (w:World) (fit:Tp→Bool) (ts:List Tp) (k:Int) (t:Tp) (e:Ending) (w':World):Prop :=
  Below w.heap.size w w' ∧
  ((aP fit ts k t=0∧∃ v,e=.returned (.tuple #[v,.nilIface])∧w'.ownsRow w.heap.size 41 6 v (bX ts k t).length (aB (bX ts k t))) ∨
   (aP fit ts k t ≠ 0∧∃ (g:Nat) (T:TypeId) (u v:Value),e=.returned (.tuple #[.slice none 0 0,.iface 70 (.pointer (some ⟨g,0,none⟩))])∧w.heap.size≤g∧w'.cell? ⟨g,0,none⟩=some (.iface T u)∧w.cell? ⟨(aP fit ts k t).toNat,0,none⟩=some (.iface T u)∧w'.cell? ⟨g,1,none⟩=some v∧w'.ownsRow w.heap.size 41 6 v ts.length (aB ts)))
def V6 (L:Value) (n:Nat) (s1 s2:Value) (p1 p2:Pt) (B:Nat) (N:List Tp):Nat→Value→World→Prop
 | 0,v,_=>v=L
 | 1,v,_=>v=.int .i64 n
 | 2,v,_=>v=s1
 | 3,v,_=>v=L
 | 4,v,_=>v=.int .i64 n
 | 5,v,_=>v=.int .i64 ((n:Int) + 1)
 | 6,v,_=>v=s2
 | 7,v,w=>∃ g,v=.slice (some ⟨g,0,none⟩) 2 2∧PtsAt w g [p1,p2]
 | 8,v,w=>w.ownsRow B 41 6 v N.length (aB N)
 | 9,v,w=>w.ownsRow B 41 6 v N.length (aB N)
 | _,v,_=>v=.nilIface
theorem V6.below {L:Value} {n:Nat} {s1 s2:Value} {p1 p2:Pt} {B:Nat} {N:List Tp} {w w':World} (hb:Below w.heap.size w w'):∀ {k:Nat} {u:Value},V6 L n s1 s2 p1 p2 B N k u w→V6 L n s1 s2 p1 p2 B N k u w'
 | 0,_,h=>h
 | 1,_,h=>h
 | 2,_,h=>h
 | 3,_,h=>h
 | 4,_,h=>h
 | 5,_,h=>h
 | 6,_,h=>h
 | 7,_,⟨g,e,h⟩=>⟨g,e,h.below hb⟩
 | 8,_,h=>bi h hb
 | 9,_,h=>bi h hb
 | _ + 10,_,h=>h
def V7 (L:Value) (n:Nat) (s1 P1 s3:Value) (p1 p3:Pt) (B:Nat) (t:Tp) (N:List Tp):Nat→Value→World→Prop
 | 0,v,_=>v=L
 | 1,v,_=>v=.int .i64 n
 | 2,v,_=>v=s1
 | 3,v,_=>v=P1
 | 4,v,_=>v=.agg #[.string t.a,.string t.b,.string t.r,.string t.c,.string t.d,.string t.s]
 | 5,v,w=>∃ g,v=.slice (some ⟨g,0,none⟩) 1 1∧g < w.heap.size∧dL w g 0 [t]
 | 6,v,_=>v=L
 | 7,v,_=>v=.int .i64 n
 | 8,v,_=>v=s3
 | 9,v,w=>∃ g gt,v=.slice (some ⟨g,0,none⟩) 3 3∧PtsAt w g [p1,⟨some ⟨gt,0,none⟩,1,[t]⟩,p3]
 | 10,v,w=>w.ownsRow B 41 6 v N.length (aB N)
 | 11,v,w=>w.ownsRow B 41 6 v N.length (aB N)
 | _,v,_=>v=.nilIface
theorem V7.below {L:Value} {n:Nat} {s1 P1 s3:Value} {p1 p3:Pt} {B:Nat} {t:Tp} {N:List Tp} {w w':World} (hb:Below w.heap.size w w'):∀ {k:Nat} {u:Value},V7 L n s1 P1 s3 p1 p3 B t N k u w→V7 L n s1 P1 s3 p1 p3 B t N k u w'
 | 0,_,h=>h
 | 1,_,h=>h
 | 2,_,h=>h
 | 3,_,h=>h
 | 4,_,h=>h
 | 5,_,⟨g,e,hl,h⟩=>⟨g,e,Nat.lt_of_lt_of_le hl hb.size,h.below hb hl⟩
 | 6,_,h=>h
 | 7,_,h=>h
 | 8,_,h=>h
 | 9,_,⟨g,gt,e,h⟩=>⟨g,gt,e,h.below hb⟩
 | 10,_,h=>bi h hb
 | 11,_,h=>bi h hb
 | _ + 12,_,h=>h
theorem Cx {w w':World} {p1 p2:Pt} {s1 s2:Value} (h1:p1.ok w) (h2:p2.ok w) (e1:p1.v=s1) (e2:p2.v=s2) (hb:Below w.heap.size w w') (T:TypeId):PtsAt (w'.alloc (.cells #[s1,s2] T)) w'.heap.size [p1,p2]:=by
 have hb2:Below w.heap.size w (w'.alloc (.cells #[s1,s2] T)):=hb.alloc hb.size _;refine ⟨by simp,fun i hi=>?_,fun p hp=>?_⟩
 ·match i,hi with
  | 0,_=>simp [e1]
  | 1,_=>simp [e2]
 ·simp at hp;rcases hp with rfl | rfl
  ·exact h1.below hb2
  ·exact h2.below hb2
theorem yg {w w':World} {p1 p3:Pt} {s1 s3:Value} {gt:Nat} {t:Tp} (h1:p1.ok w) (h3:p3.ok w) (e1:p1.v=s1) (e3:p3.v=s3) (hb:Below w.heap.size w w') (hg:gt < w'.heap.size∧dL w' gt 0 [t]) (T:TypeId):PtsAt (w'.alloc (.cells #[s1,.slice (some ⟨gt,0,none⟩) 1 1,s3] T)) w'.heap.size [p1,⟨some ⟨gt,0,none⟩,1,[t]⟩,p3]:=by
 have hb1:Below w'.heap.size w' (w'.alloc (.cells #[s1,.slice (some ⟨gt,0,none⟩) 1 1,s3] T)):=(Below.refl _ _).alloc (Nat.le_refl _) _;have hb2:Below w.heap.size w (w'.alloc (.cells #[s1,.slice (some ⟨gt,0,none⟩) 1 1,s3] T)):=hb.alloc hb.size _;refine ⟨by simp,fun i hi=>?_,fun p hp=>?_⟩
 ·match i,hi with
  | 0,_=>simp [e1]
  | 1,_=>simp [Pt.v]
  | 2,_=>simp [e3]
 ·simp at hp;rcases hp with rfl | rfl | rfl
  ·exact h1.below hb2
  ·exact .inr ⟨gt,0,rfl,fun _=>Nat.lt_of_lt_of_le hg.1 hb1.size,hg.2.below hb1 hg.1⟩
  ·exact h3.below hb2
theorem yh (w:World) (t:Tp) (T:TypeId):w.heap.size < (w.alloc (.cells #[.string t.a,.string t.b,.string t.r,.string t.c,.string t.d,.string t.s] T)).heap.size∧dL (w.alloc (.cells #[.string t.a,.string t.b,.string t.r,.string t.c,.string t.d,.string t.s] T)) w.heap.size 0 [t]:=by
 refine ⟨by simp,fun i hi=>?_⟩
 match i,hi with
 | 0,_=>refine ⟨?_,?_,?_,?_,?_,?_⟩ <;> simp
theorem rZ {w:World} {b off n:Nat} {ts:List Tp} (h:dL w b off ts):dL w b off (ts.take n):=fun i hi=>by
 rw [List.getElem_take];exact h i (by rw [List.length_take] at hi; omega)
theorem Cy {w:World} {b off n:Nat} {ts:List Tp} (h:dL w b off ts):dL w b (off + n * 6) (ts.drop n):=fun i hi=>by
 rw [List.getElem_drop];have:=h (n + i) (by rw [List.length_drop] at hi; omega);rwa [show off + (n + i) * 6=off + n * 6 + i * 6 by omega] at this
theorem Cz {w:World} {b off:Nat} {ts:List Tp} (h:ts=[]):dL w b off ts:=fun i hi=>by rw [h] at hi; simp at hi
theorem CE (tv:Value) (fit:Tp→Bool) (ad:Option Addr) (cap:Nat) (ts:List Tp) (k:Int) (t:Tp) (w:World) (hE:GX w)
  (hfit:∀ w1:World,t.ok=true→Below w.heap.size w w1→Calls prog 42 #[tv,.agg #[.string t.a,.string t.b,.string t.r,.string t.c,.string t.d,.string t.s]] w1 fun e w'=>e=.returned (.bool (fit t))∧Below w1.heap.size w1 w')
  (hlen:ts.length≤40) (hs:Sv w ad cap ts) (hf:∀ x ∈ ts,x.fits) (hu:Up ts) (hok:∀ x ∈ ts,x.ok=true) (ht:t.fits) :
  Calls prog 56 #[tv,.slice ad ts.length cap,.agg #[.int .i64 k,.string t.a,.string t.b,.string t.r,.string t.c,.string t.d,.string t.s]] w (L8 w fit ts k t):=by
 obtain ⟨iT,h0,h1,h2,h3⟩:=yf;have HIT:=aM (And.intro h0 (And.intro h1 (And.intro h2 h3)));have HE:=aC hE;have HFT:=aC hfit;have HS:=aC hs;have HF:=aC hf;have HU:=aC hu;have HOK:=aC hok;have HT:=aC ht;clear hE hfit hs hf hu hok ht h0 h1 h2 h3;obtain ⟨W0,hW0⟩:∃ W0,W0=w.alloc (.cells #[.int .i64 k,.string t.a,.string t.b,.string t.r,.string t.c,.string t.d,.string t.s] 43):=⟨_,rfl⟩;have HX0:Hid (lN W0 w.heap.size k t):=by show lN _ _ _ _; rw [hW0]; refine ⟨?_,?_,?_,?_,?_,?_,?_,?_⟩ <;> simp
 have HB0:=Be hW0;go_enter func56,ntmps56;go_wp2_with fail;rw [← hW0];clear hW0;refine (Ev tv fit ad cap ts k t _ (HE.out.below HB0.out) (fun w1 h hb=>HFT.out w1 h (HB0.out.trans (hb.mono HB0.out.size))) hlen (HS.out.below HB0.out).sl HT.out).mono ?_;rintro e w1 ⟨hz,hb1⟩;have HB1:=aC (HB0.out.trans (hb1.mono HB0.out.size));have HX1:=aC (HX0.out.below hb1);rcases hz with ⟨hz,rfl⟩ | ⟨g,T,u,hz,hg2,hg6,hc,rfl⟩
 ·have HZ:=aC hz;clear hz hb1 HX0 HB0;obtain ⟨x0,x1,x2,x3,x4,x5,x6,xl⟩:=HX1.out;have HCZ:=aC (lM HZ.out);go_wp2_with fail;refine (Cu ad cap ts t _ (by omega) (HS.out.below HB1.out).sl HF.out HT.out HU.out HOK.out HCZ.out.1).mono ?_;rintro e w2 ⟨⟨n,q,rfl,hlow⟩,hb2⟩;have HB2:=aC (HB1.out.trans (hb2.mono HB1.out.size));have HX2:=aC (HX1.out.below hb2);have HLOW:=aC hlow;have hnl:n≤ts.length:=hlow.le;clear hb2 HX1 x0 x1 x2 x3 x4 x5 x6 xl hlow;obtain ⟨x0,x1,x2,x3,x4,x5,x6,xl⟩:=HX2.out;rcases HCZ.out.2 with ⟨rfl,hm⟩ | ⟨rfl,hft,hnm,h40⟩
  ·rcases HS.out.below HB2.out with ⟨-,-,hnil⟩ | ⟨b,off,rfl,hb,hcap,hr⟩
   ·rw [hnil] at hm; cases hm
   obtain ⟨hn,hni⟩:=JD HLOW.out HU.out hm;have HNX:Hid (bX ts 2 t=ts.take n ++ ts.drop (n + 1)):=by show _=_; unfold bX; rw [if_pos rfl]; exact JE HLOW.out HU.out hm
   have HR:=aC hr;clear hr hni hm;by_cases hcn:cap=n + 1
   ·have HCN:=aC hcn;have HP1:Hid (Pt.ok w2 ⟨some ⟨b,off,none⟩,cap,ts.take n⟩):=.inr ⟨b,off,rfl,fun _=>hb,rZ HR.out⟩;have HP2:Hid (Pt.ok w2 ⟨some ⟨b,off,none⟩,cap - (n + 1),ts.drop (n + 1)⟩):=.inr ⟨b,off,rfl,fun _=>hb,Cz (List.drop_eq_nil_of_le (by omega))⟩;have HV1:Hid (Pt.v ⟨some ⟨b,off,none⟩,cap,ts.take n⟩=Value.slice (some ⟨b,off,none⟩) n cap):=by show _=_; unfold Pt.v; simp only [List.length_take]; rw [Nat.min_eq_left hnl]
    have HV2:Hid (Pt.v ⟨some ⟨b,off,none⟩,cap - (n + 1),ts.drop (n + 1)⟩=Value.slice (some ⟨b,off,none⟩) (ts.length - (n + 1)) (cap - (n + 1))):=by show _=_; unfold Pt.v; simp only [List.length_drop]
    have HJ:Hid (df [⟨some ⟨b,off,none⟩,cap,ts.take n⟩,⟨some ⟨b,off,none⟩,cap - (n + 1),ts.drop (n + 1)⟩]=ts.take n ++ ts.drop (n + 1)):=by show _=_; simp [df]
    have HNL:Hid ((bX ts 2 t).length≤ts.length):=by show _≤_; rw [HNX.out,List.length_append,List.length_take,List.length_drop]; omega
    have hnl1:(0:Int)≤(n:Int) + 1:=by omega
    have hnl2:(n:Int) + 1≤(ts.length:Int):=by omega
    have hnl3:(n:Int)≤(cap:Int):=by omega
    have hite:∀ x y:Option Addr,(if cap=n + 1 then x else y)=x:=fun x y=>if_pos hcn;have hwr:IntKind.i64.wrap ((n:Int) + 1)=(n:Int) + 1:=by rw [IntKind.wrap_i64]; omega
    clear hcn;go_wp2_with fail;refine ax 11 (fun n=>(undef::undef::undef::undef::undef::undef::undef::undef::undef::.slice none 0 0::Value.nilIface::[]).getD n undef) (fun fq=>{ tmps:=List.toArray (tv::.slice (some ⟨b,off,none⟩) ts.length cap::.agg #[.int .i64 2,.string t.a,.string t.b,.string t.r,.string t.c,.string t.d,.string t.s]::undef::undef::.pointer (some ⟨w.heap.size,0,none⟩)::(fq 9)::(fq 10)::Value.nilIface::.int .i64 n::.bool q::tv::.slice (some ⟨b,off,none⟩) ts.length cap::.agg #[.int .i64 2,.string t.a,.string t.b,.string t.r,.string t.c,.string t.d,.string t.s]::Value.nilIface::Value.nilIface::.bool false::undef::undef::undef::undef::undef::undef::.tuple #[.int .i64 n,.bool q]::.slice (some ⟨b,off,none⟩) ts.length cap::.pointer (some ⟨w.heap.size,1,none⟩)::.agg #[.string t.a,.string t.b,.string t.r,.string t.c,.string t.d,.string t.s]::.tuple #[.int .i64 n,.bool q]::.int .i64 n::.bool q::.pointer (some ⟨w.heap.size,0,none⟩)::.int .i64 2::.bool true::(fq 0)::(fq 1)::(fq 2)::(fq 3)::(fq 4)::(fq 5)::(fq 6)::(fq 7)::(fq 8)::undef::undef::undef::undef::undef::undef::undef::undef::undef::undef::undef::[]),defers:=[] }) (V6 (Value.slice (some ⟨b,off,none⟩) ts.length cap) n (Value.slice (some ⟨b,off,none⟩) n cap) (Value.slice (some ⟨b,off,none⟩) (ts.length - (n + 1)) (cap - (n + 1))) ⟨some ⟨b,off,none⟩,cap,ts.take n⟩ ⟨some ⟨b,off,none⟩,cap - (n + 1),ts.drop (n + 1)⟩ w.heap.size (bX ts 2 t)) (fun w'=>Below w2.heap.size w2 w') (by kernel_rfl) rfl (by kernel_rfl) rfl (Below.refl _ _).drew ?stepA ?finA;case stepA =>
     rintro i hi o ho fq w' hG hpre;have HG:Hid (Below w2.heap.size w2 w'):=hG;have HM:Hid (∀ e ∈ o.after,Region.binds .any e=true→_):=hpre;have HX':=aC (HX2.out.below hG);clear hG hpre x0 x1 x2 x3 x4 x5 x6 xl;obtain ⟨x0,x1,x2,x3,x4,x5,x6,xl⟩:=HX'.out;have hc:=Bf (i:=i) (by omega);clear hi
     repeat' rcases hc with rfl | hc
     ·obtain rfl:=Option.some.inj ho;clear ho HM;refine aa rfl fun K HK=>?_;go_simp;exact HK.out _ _ ⟨Value.slice (some ⟨b,off,none⟩) ts.length cap,by simp [upd],HG.out,rfl,fun k u hu=>hu⟩
     ·obtain rfl:=Option.some.inj ho;clear ho HM;refine aa rfl fun K HK=>?_;go_simp;exact HK.out _ _ ⟨Value.int .i64 n,by simp [upd],HG.out,rfl,fun k u hu=>hu⟩
     ·obtain rfl:=Option.some.inj ho;have e0:fq 0=.slice (some ⟨b,off,none⟩) ts.length cap:=HM.out ⟨0,.data⟩ (by simp) rfl;have e1:fq 1=.int .i64 n:=HM.out ⟨1,.data⟩ (by simp) rfl;clear ho HM;refine aa rfl fun K HK=>?_;simp only [e0,e1];go_simp;exact HK.out _ _ ⟨Value.slice (some ⟨b,off,none⟩) n cap,by simp [upd,e0,e1],HG.out,rfl,fun k u hu=>hu⟩
     ·obtain rfl:=Option.some.inj ho;clear ho HM;refine aa rfl fun K HK=>?_;go_simp;exact HK.out _ _ ⟨Value.slice (some ⟨b,off,none⟩) ts.length cap,by simp [upd],HG.out,rfl,fun k u hu=>hu⟩
     ·obtain rfl:=Option.some.inj ho;clear ho HM;refine aa rfl fun K HK=>?_;go_simp;exact HK.out _ _ ⟨Value.int .i64 n,by simp [upd],HG.out,rfl,fun k u hu=>hu⟩
     ·obtain rfl:=Option.some.inj ho;have e4:fq 4=.int .i64 n:=HM.out ⟨4,.data⟩ (by simp) rfl;clear ho HM;refine aa rfl fun K HK=>?_;simp only [e4];go_simp;exact HK.out _ _ ⟨Value.int .i64 ((n:Int) + 1),by simp [upd,e4],HG.out,rfl,fun k u hu=>hu⟩
     ·obtain rfl:=Option.some.inj ho;have e3:fq 3=.slice (some ⟨b,off,none⟩) ts.length cap:=HM.out ⟨3,.data⟩ (by simp) rfl;have e5:fq 5=.int .i64 ((n:Int) + 1):=HM.out ⟨5,.data⟩ (by simp) rfl;clear ho HM;refine aa rfl fun K HK=>?_;simp only [e3,e5];go_simp;exact HK.out _ _ ⟨Value.slice (some ⟨b,off,none⟩) (ts.length - (n + 1)) (cap - (n + 1)),by simp [upd,e3,e5],HG.out,rfl,fun k u hu=>hu⟩
     ·obtain rfl:=Option.some.inj ho;have e2:fq 2=.slice (some ⟨b,off,none⟩) n cap:=HM.out ⟨2,.data⟩ (by simp) rfl;have e6:fq 6=.slice (some ⟨b,off,none⟩) (ts.length - (n + 1)) (cap - (n + 1)):=HM.out ⟨6,.data⟩ (by simp) rfl;clear ho HM;refine aa rfl fun K HK=>?_;simp only [e2,e6];go_simp;exact HK.out _ _ ⟨_,by simp [upd,e2,e6],HG.out.alloc HG.out.size _,⟨w'.heap.size,rfl,Cx HP1.out HP2.out HV1.out HV2.out HG.out _⟩,fun k u hu=>V6.below ((Below.refl _ _).alloc (Nat.le_refl _) _) hu⟩
     ·obtain rfl:=Option.some.inj ho;have q7:=HM.out ⟨7,.data⟩ (by simp) rfl;obtain ⟨gb,e7,hPt⟩:=q7;clear ho HM;refine aa rfl fun K HK=>?_;simp only [e7];go_simp;refine (jA gb 2 _ w' hPt (by simp) (by rw [HJ.out,← HNX.out]; have:=HNL.out; omega)).mono ?_;rintro e w3 ⟨v,rfl,hown,hbx⟩;have hown2:=eY hown (Nat.le_trans HB2.out.size HG.out.size);rw [HJ.out,← HNX.out] at hown2;exact HK.out _ _ ⟨v,by simp [upd,e7],HG.out.trans (hbx.mono HG.out.size),hown2,fun k u hu=>V6.below hbx hu⟩
     ·obtain rfl:=Option.some.inj ho;have q8:=HM.out ⟨8,.data⟩ (by simp) rfl;clear ho HM;refine aa rfl fun K HK=>?_;go_simp;exact HK.out _ _ ⟨fq 8,by simp [upd],HG.out,q8,fun k u hu=>hu⟩
     ·obtain rfl:=Option.some.inj ho;clear ho HM;refine aa rfl fun K HK=>?_;go_simp;exact HK.out _ _ ⟨Value.nilIface,by simp [upd],HG.out,rfl,fun k u hu=>hu⟩
    case finA =>
     rintro fq w' hG hall;have q9:=hall 9 (by omega);have e10:fq 10=.nilIface:=hall 10 (by omega);have HO:=aC q9;have HBE:=gW HB2 hG;clear hall hG q9;rw [e10];go_wp2;exact bodyPost_ret (v:=.tuple #[fq 9,.nilIface]) (by simp [results,Tryz.results56,go_sem]) rfl ⟨HBE.out,.inl ⟨HZ.out,_,rfl,HO.out⟩⟩
   ·have HP1:Hid (Pt.ok w2 ⟨some ⟨b,off,none⟩,cap,ts.take n⟩):=.inr ⟨b,off,rfl,fun _=>hb,rZ HR.out⟩;have HP2:Hid (Pt.ok w2 ⟨some ⟨b,off + (n + 1) * 6,none⟩,cap - (n + 1),ts.drop (n + 1)⟩):=.inr ⟨b,off + (n + 1) * 6,rfl,fun _=>hb,Cy HR.out⟩;have HV1:Hid (Pt.v ⟨some ⟨b,off,none⟩,cap,ts.take n⟩=Value.slice (some ⟨b,off,none⟩) n cap):=by show _=_; unfold Pt.v; simp only [List.length_take]; rw [Nat.min_eq_left hnl]
    have HV2:Hid (Pt.v ⟨some ⟨b,off + (n + 1) * 6,none⟩,cap - (n + 1),ts.drop (n + 1)⟩=Value.slice (some ⟨b,off + (n + 1) * 6,none⟩) (ts.length - (n + 1)) (cap - (n + 1))):=by show _=_; unfold Pt.v; simp only [List.length_drop]
    have HJ:Hid (df [⟨some ⟨b,off,none⟩,cap,ts.take n⟩,⟨some ⟨b,off + (n + 1) * 6,none⟩,cap - (n + 1),ts.drop (n + 1)⟩]=ts.take n ++ ts.drop (n + 1)):=by show _=_; simp [df]
    have HNL:Hid ((bX ts 2 t).length≤ts.length):=by show _≤_; rw [HNX.out,List.length_append,List.length_take,List.length_drop]; omega
    have hnl1:(0:Int)≤(n:Int) + 1:=by omega
    have hnl2:(n:Int) + 1≤(ts.length:Int):=by omega
    have hnl3:(n:Int)≤(cap:Int):=by omega
    have hwr:IntKind.i64.wrap ((n:Int) + 1)=(n:Int) + 1:=by rw [IntKind.wrap_i64]; omega
    go_wp2_with fail;refine ax 11 (fun n=>(undef::undef::undef::undef::undef::undef::undef::undef::undef::.slice none 0 0::Value.nilIface::[]).getD n undef) (fun fq=>{ tmps:=List.toArray (tv::.slice (some ⟨b,off,none⟩) ts.length cap::.agg #[.int .i64 2,.string t.a,.string t.b,.string t.r,.string t.c,.string t.d,.string t.s]::undef::undef::.pointer (some ⟨w.heap.size,0,none⟩)::(fq 9)::(fq 10)::Value.nilIface::.int .i64 n::.bool q::tv::.slice (some ⟨b,off,none⟩) ts.length cap::.agg #[.int .i64 2,.string t.a,.string t.b,.string t.r,.string t.c,.string t.d,.string t.s]::Value.nilIface::Value.nilIface::.bool false::undef::undef::undef::undef::undef::undef::.tuple #[.int .i64 n,.bool q]::.slice (some ⟨b,off,none⟩) ts.length cap::.pointer (some ⟨w.heap.size,1,none⟩)::.agg #[.string t.a,.string t.b,.string t.r,.string t.c,.string t.d,.string t.s]::.tuple #[.int .i64 n,.bool q]::.int .i64 n::.bool q::.pointer (some ⟨w.heap.size,0,none⟩)::.int .i64 2::.bool true::(fq 0)::(fq 1)::(fq 2)::(fq 3)::(fq 4)::(fq 5)::(fq 6)::(fq 7)::(fq 8)::undef::undef::undef::undef::undef::undef::undef::undef::undef::undef::undef::[]),defers:=[] }) (V6 (Value.slice (some ⟨b,off,none⟩) ts.length cap) n (Value.slice (some ⟨b,off,none⟩) n cap) (Value.slice (some ⟨b,off + (n + 1) * 6,none⟩) (ts.length - (n + 1)) (cap - (n + 1))) ⟨some ⟨b,off,none⟩,cap,ts.take n⟩ ⟨some ⟨b,off + (n + 1) * 6,none⟩,cap - (n + 1),ts.drop (n + 1)⟩ w.heap.size (bX ts 2 t)) (fun w'=>Below w2.heap.size w2 w') (by kernel_rfl) rfl (by kernel_rfl) rfl (Below.refl _ _).drew ?jI ?finB;case jI =>
     rintro i hi o ho fq w' hG hpre;have HG:Hid (Below w2.heap.size w2 w'):=hG;have HM:Hid (∀ e ∈ o.after,Region.binds .any e=true→_):=hpre;have HX':=aC (HX2.out.below hG);clear hG hpre x0 x1 x2 x3 x4 x5 x6 xl;obtain ⟨x0,x1,x2,x3,x4,x5,x6,xl⟩:=HX'.out;have hc:=Bf (i:=i) (by omega);clear hi
     repeat' rcases hc with rfl | hc
     ·obtain rfl:=Option.some.inj ho;clear ho HM;refine aa rfl fun K HK=>?_;go_simp;exact HK.out _ _ ⟨Value.slice (some ⟨b,off,none⟩) ts.length cap,by simp [upd],HG.out,rfl,fun k u hu=>hu⟩
     ·obtain rfl:=Option.some.inj ho;clear ho HM;refine aa rfl fun K HK=>?_;go_simp;exact HK.out _ _ ⟨Value.int .i64 n,by simp [upd],HG.out,rfl,fun k u hu=>hu⟩
     ·obtain rfl:=Option.some.inj ho;have e0:fq 0=.slice (some ⟨b,off,none⟩) ts.length cap:=HM.out ⟨0,.data⟩ (by simp) rfl;have e1:fq 1=.int .i64 n:=HM.out ⟨1,.data⟩ (by simp) rfl;clear ho HM;refine aa rfl fun K HK=>?_;simp only [e0,e1];go_simp;exact HK.out _ _ ⟨Value.slice (some ⟨b,off,none⟩) n cap,by simp [upd,e0,e1],HG.out,rfl,fun k u hu=>hu⟩
     ·obtain rfl:=Option.some.inj ho;clear ho HM;refine aa rfl fun K HK=>?_;go_simp;exact HK.out _ _ ⟨Value.slice (some ⟨b,off,none⟩) ts.length cap,by simp [upd],HG.out,rfl,fun k u hu=>hu⟩
     ·obtain rfl:=Option.some.inj ho;clear ho HM;refine aa rfl fun K HK=>?_;go_simp;exact HK.out _ _ ⟨Value.int .i64 n,by simp [upd],HG.out,rfl,fun k u hu=>hu⟩
     ·obtain rfl:=Option.some.inj ho;have e4:fq 4=.int .i64 n:=HM.out ⟨4,.data⟩ (by simp) rfl;clear ho HM;refine aa rfl fun K HK=>?_;simp only [e4];go_simp;exact HK.out _ _ ⟨Value.int .i64 ((n:Int) + 1),by simp [upd,e4],HG.out,rfl,fun k u hu=>hu⟩
     ·obtain rfl:=Option.some.inj ho;have e3:fq 3=.slice (some ⟨b,off,none⟩) ts.length cap:=HM.out ⟨3,.data⟩ (by simp) rfl;have e5:fq 5=.int .i64 ((n:Int) + 1):=HM.out ⟨5,.data⟩ (by simp) rfl;clear ho HM;refine aa rfl fun K HK=>?_;simp only [e3,e5];go_simp;exact HK.out _ _ ⟨Value.slice (some ⟨b,off + (n + 1) * 6,none⟩) (ts.length - (n + 1)) (cap - (n + 1)),by simp [upd,e3,e5],HG.out,rfl,fun k u hu=>hu⟩
     ·obtain rfl:=Option.some.inj ho;have e2:fq 2=.slice (some ⟨b,off,none⟩) n cap:=HM.out ⟨2,.data⟩ (by simp) rfl;have e6:fq 6=.slice (some ⟨b,off + (n + 1) * 6,none⟩) (ts.length - (n + 1)) (cap - (n + 1)):=HM.out ⟨6,.data⟩ (by simp) rfl;clear ho HM;refine aa rfl fun K HK=>?_;simp only [e2,e6];go_simp;exact HK.out _ _ ⟨_,by simp [upd,e2,e6],HG.out.alloc HG.out.size _,⟨w'.heap.size,rfl,Cx HP1.out HP2.out HV1.out HV2.out HG.out _⟩,fun k u hu=>V6.below ((Below.refl _ _).alloc (Nat.le_refl _) _) hu⟩
     ·obtain rfl:=Option.some.inj ho;have q7:=HM.out ⟨7,.data⟩ (by simp) rfl;obtain ⟨gb,e7,hPt⟩:=q7;clear ho HM;refine aa rfl fun K HK=>?_;simp only [e7];go_simp;refine (jA gb 2 _ w' hPt (by simp) (by rw [HJ.out,← HNX.out]; have:=HNL.out; omega)).mono ?_;rintro e w3 ⟨v,rfl,hown,hbx⟩;have hown2:=eY hown (Nat.le_trans HB2.out.size HG.out.size);rw [HJ.out,← HNX.out] at hown2;exact HK.out _ _ ⟨v,by simp [upd,e7],HG.out.trans (hbx.mono HG.out.size),hown2,fun k u hu=>V6.below hbx hu⟩
     ·obtain rfl:=Option.some.inj ho;have q8:=HM.out ⟨8,.data⟩ (by simp) rfl;clear ho HM;refine aa rfl fun K HK=>?_;go_simp;exact HK.out _ _ ⟨fq 8,by simp [upd],HG.out,q8,fun k u hu=>hu⟩
     ·obtain rfl:=Option.some.inj ho;clear ho HM;refine aa rfl fun K HK=>?_;go_simp;exact HK.out _ _ ⟨Value.nilIface,by simp [upd],HG.out,rfl,fun k u hu=>hu⟩
    case finB =>
     rintro fq w' hG hall;have q9:=hall 9 (by omega);have e10:fq 10=.nilIface:=hall 10 (by omega);have HO:=aC q9;have HBE:=gW HB2 hG;clear hall hG q9;rw [e10];go_wp2;exact bodyPost_ret (v:=.tuple #[fq 9,.nilIface]) (by simp [results,Tryz.results56,go_sem]) rfl ⟨HBE.out,.inl ⟨HZ.out,_,rfl,HO.out⟩⟩
  ·have HNX:Hid (bX ts 1 t=ts.take n ++ t::ts.drop n):=by show _=_; unfold bX; rw [if_neg (by decide)]; exact K9 HLOW.out
   have HNL:Hid ((bX ts 1 t).length=ts.length + 1):=by show _=_; unfold bX; rw [if_neg (by decide),xY]
   rcases HS.out.below HB2.out with ⟨rfl,rfl,rfl⟩ | ⟨b,off,rfl,hb,hcap,hr⟩
   ·obtain rfl:n=0:=by simpa using hnl
    have HP1:Hid (Pt.ok w2 ⟨none,0,([]:List Tp).take 0⟩):=.inl ⟨rfl,rfl,rfl⟩;have HP3:Hid (Pt.ok w2 ⟨none,0,([]:List Tp).drop 0⟩):=.inl ⟨rfl,rfl,rfl⟩;have HV1:Hid (Pt.v ⟨none,0,([]:List Tp).take 0⟩=Value.slice none 0 0):=rfl;have HV3:Hid (Pt.v ⟨none,0,([]:List Tp).drop 0⟩=Value.slice none 0 0):=rfl;have HJ:Hid (∀ gt:Nat,df [⟨none,0,([]:List Tp).take 0⟩,⟨some ⟨gt,0,none⟩,1,[t]⟩,⟨none,0,([]:List Tp).drop 0⟩]=([]:List Tp).take 0 ++ t::([]:List Tp).drop 0):=fun gt=>by simp [df]
    go_wp2_with fail;refine ax 13 (fun n=>(undef::undef::undef::undef::undef::undef::undef::undef::undef::undef::undef::.slice none 0 0::Value.nilIface::[]).getD n undef) (fun fq=>{ tmps:=List.toArray (tv::.slice none 0 0::.agg #[.int .i64 1,.string t.a,.string t.b,.string t.r,.string t.c,.string t.d,.string t.s]::undef::undef::.pointer (some ⟨w.heap.size,0,none⟩)::(fq 11)::(fq 12)::Value.nilIface::.int .i64 ((0:Nat):Int)::.bool q::tv::.slice none 0 0::.agg #[.int .i64 1,.string t.a,.string t.b,.string t.r,.string t.c,.string t.d,.string t.s]::Value.nilIface::Value.nilIface::.bool false::undef::undef::undef::undef::undef::undef::.tuple #[.int .i64 ((0:Nat):Int),.bool q]::.slice none 0 0::.pointer (some ⟨w.heap.size,1,none⟩)::.agg #[.string t.a,.string t.b,.string t.r,.string t.c,.string t.d,.string t.s]::.tuple #[.int .i64 ((0:Nat):Int),.bool q]::.int .i64 ((0:Nat):Int)::.bool q::.pointer (some ⟨w.heap.size,0,none⟩)::.int .i64 1::.bool false::undef::undef::undef::undef::undef::undef::undef::undef::undef::(fq 0)::(fq 1)::(fq 2)::(fq 3)::(fq 4)::(fq 5)::(fq 6)::(fq 7)::(fq 8)::(fq 9)::(fq 10)::[]),defers:=[] }) (V7 (Value.slice none 0 0) 0 (Value.slice (none) 0 (0)) (Value.pointer (some ⟨w.heap.size,1,none⟩)) (Value.slice (none) (0) (0)) ⟨none,0,([]:List Tp).take 0⟩ ⟨none,0,([]:List Tp).drop 0⟩ w.heap.size t (bX [] 1 t)) (fun w'=>Below w2.heap.size w2 w') (by kernel_rfl) rfl (by kernel_rfl) rfl (Below.refl _ _).drew ?stepC ?finC;case stepC =>
     rintro i hi o ho fq w' hG hpre;have HG:Hid (Below w2.heap.size w2 w'):=hG;have HM:Hid (∀ e ∈ o.after,Region.binds .any e=true→_):=hpre;have HX':=aC (HX2.out.below hG);clear hG hpre x0 x1 x2 x3 x4 x5 x6 xl;obtain ⟨x0,x1,x2,x3,x4,x5,x6,xl⟩:=HX'.out;have hc:=Ho (i:=i) (by omega);clear hi
     repeat' rcases hc with rfl | hc
     ·obtain rfl:=Option.some.inj ho;clear ho HM;refine aa rfl fun K HK=>?_;go_simp;exact HK.out _ _ ⟨Value.slice none 0 0,by simp [upd],HG.out,rfl,fun k u hu=>hu⟩
     ·obtain rfl:=Option.some.inj ho;clear ho HM;refine aa rfl fun K HK=>?_;go_simp;exact HK.out _ _ ⟨Value.int .i64 ((0:Nat):Int),by simp [upd],HG.out,rfl,fun k u hu=>hu⟩
     ·obtain rfl:=Option.some.inj ho;have e0:fq 0=.slice none 0 0:=HM.out ⟨0,.data⟩ (by simp) rfl;have e1:fq 1=.int .i64 ((0:Nat):Int):=HM.out ⟨1,.data⟩ (by simp) rfl;clear ho HM;refine aa rfl fun K HK=>?_;simp only [e0,e1];go_simp;exact HK.out _ _ ⟨Value.slice (none) 0 (0),by simp [upd,e0,e1],HG.out,rfl,fun k u hu=>hu⟩
     ·obtain rfl:=Option.some.inj ho;clear ho HM;refine aa rfl fun K HK=>?_;go_simp;exact HK.out _ _ ⟨Value.pointer (some ⟨w.heap.size,1,none⟩),by simp [upd],HG.out,rfl,fun k u hu=>hu⟩
     ·obtain rfl:=Option.some.inj ho;have e3:fq 3=.pointer (some ⟨w.heap.size,1,none⟩):=HM.out ⟨3,.data⟩ (by simp) rfl;clear ho HM;refine aa rfl fun K HK=>?_;simp only [e3];go_simp;exact HK.out _ _ ⟨Value.agg #[.string t.a,.string t.b,.string t.r,.string t.c,.string t.d,.string t.s],by simp [upd,e3],HG.out,rfl,fun k u hu=>hu⟩
     ·obtain rfl:=Option.some.inj ho;have e4:fq 4=.agg #[.string t.a,.string t.b,.string t.r,.string t.c,.string t.d,.string t.s]:=HM.out ⟨4,.data⟩ (by simp) rfl;clear ho HM;refine aa rfl fun K HK=>?_;simp only [e4];go_simp;exact HK.out _ _ ⟨_,by simp [upd,e4],HG.out.alloc HG.out.size _,⟨w'.heap.size,rfl,yh w' t _⟩,fun k u hu=>V7.below ((Below.refl _ _).alloc (Nat.le_refl _) _) hu⟩
     ·obtain rfl:=Option.some.inj ho;clear ho HM;refine aa rfl fun K HK=>?_;go_simp;exact HK.out _ _ ⟨Value.slice none 0 0,by simp [upd],HG.out,rfl,fun k u hu=>hu⟩
     ·obtain rfl:=Option.some.inj ho;clear ho HM;refine aa rfl fun K HK=>?_;go_simp;exact HK.out _ _ ⟨Value.int .i64 ((0:Nat):Int),by simp [upd],HG.out,rfl,fun k u hu=>hu⟩
     ·obtain rfl:=Option.some.inj ho;have e6:fq 6=.slice none 0 0:=HM.out ⟨6,.data⟩ (by simp) rfl;have e7:fq 7=.int .i64 ((0:Nat):Int):=HM.out ⟨7,.data⟩ (by simp) rfl;clear ho HM;refine aa rfl fun K HK=>?_;simp only [e6,e7];go_simp;exact HK.out _ _ ⟨Value.slice (none) (0) (0),by simp [upd,e6,e7],HG.out,rfl,fun k u hu=>hu⟩
     ·obtain rfl:=Option.some.inj ho;have e2:fq 2=.slice (none) 0 (0):=HM.out ⟨2,.data⟩ (by simp) rfl;have q5:=HM.out ⟨5,.data⟩ (by simp) rfl;have e8:fq 8=.slice (none) (0) (0):=HM.out ⟨8,.data⟩ (by simp) rfl;obtain ⟨gt,e5,hgt⟩:=q5;clear ho HM;refine aa rfl fun K HK=>?_;simp only [e2,e8,e5];go_simp;exact HK.out _ _ ⟨_,by simp [upd,e2,e5,e8],HG.out.alloc HG.out.size _,⟨w'.heap.size,gt,rfl,yg HP1.out HP3.out HV1.out HV3.out HG.out hgt _⟩,fun k u hu=>V7.below ((Below.refl _ _).alloc (Nat.le_refl _) _) hu⟩
     ·obtain rfl:=Option.some.inj ho;have q9:=HM.out ⟨9,.data⟩ (by simp) rfl;obtain ⟨gb,gt,e9,hPt⟩:=q9;clear ho HM;refine aa rfl fun K HK=>?_;simp only [e9];go_simp;refine (jA gb 3 _ w' hPt (by simp) (by rw [HJ.out gt,← HNX.out,HNL.out]; omega)).mono ?_;rintro e w3 ⟨v,rfl,hown,hbx⟩;have hown2:=eY hown (Nat.le_trans HB2.out.size HG.out.size);rw [HJ.out gt,← HNX.out] at hown2;exact HK.out _ _ ⟨v,by simp [upd,e9],HG.out.trans (hbx.mono HG.out.size),hown2,fun k u hu=>V7.below hbx hu⟩
     ·obtain rfl:=Option.some.inj ho;have q10:=HM.out ⟨10,.data⟩ (by simp) rfl;clear ho HM;refine aa rfl fun K HK=>?_;go_simp;exact HK.out _ _ ⟨fq 10,by simp [upd],HG.out,q10,fun k u hu=>hu⟩
     ·obtain rfl:=Option.some.inj ho;clear ho HM;refine aa rfl fun K HK=>?_;go_simp;exact HK.out _ _ ⟨Value.nilIface,by simp [upd],HG.out,rfl,fun k u hu=>hu⟩
    case finC =>
     rintro fq w' hG hall;have q11:=hall 11 (by omega);have e12:fq 12=.nilIface:=hall 12 (by omega);have HO:=aC q11;have HBE:=gW HB2 hG;clear hall hG q11;rw [e12];go_wp2;exact bodyPost_ret (v:=.tuple #[fq 11,.nilIface]) (by simp [results,Tryz.results56,go_sem]) rfl ⟨HBE.out,.inl ⟨HZ.out,_,rfl,HO.out⟩⟩
   ·have HR:=aC hr;clear hr;by_cases hcn:cap=n
    ·subst hcn;have hlz:ts.length - cap=0:=by omega
     have HP1:Hid (Pt.ok w2 ⟨some ⟨b,off,none⟩,cap,ts.take cap⟩):=.inr ⟨b,off,rfl,fun _=>hb,rZ HR.out⟩;have HP3:Hid (Pt.ok w2 ⟨some ⟨b,off,none⟩,0,ts.drop cap⟩):=.inr ⟨b,off,rfl,fun _=>hb,Cz (List.drop_eq_nil_of_le (by omega))⟩;have HV1:Hid (Pt.v ⟨some ⟨b,off,none⟩,cap,ts.take cap⟩=Value.slice (some ⟨b,off,none⟩) cap cap):=by show _=_; unfold Pt.v; simp only [List.length_take]; rw [Nat.min_eq_left hnl]
     have HV3:Hid (Pt.v ⟨some ⟨b,off,none⟩,0,ts.drop cap⟩=Value.slice (some ⟨b,off,none⟩) 0 0):=by show _=_; unfold Pt.v; simp only [List.length_drop]; rw [hlz]
     have HJ:Hid (∀ gt:Nat,df [⟨some ⟨b,off,none⟩,cap,ts.take cap⟩,⟨some ⟨gt,0,none⟩,1,[t]⟩,⟨some ⟨b,off,none⟩,0,ts.drop cap⟩]=ts.take cap ++ t::ts.drop cap):=fun gt=>by simp [df]
     have hnl2:(cap:Int)≤(ts.length:Int):=by omega
     go_wp2_with fail;refine ax 13 (fun n=>(undef::undef::undef::undef::undef::undef::undef::undef::undef::undef::undef::.slice none 0 0::Value.nilIface::[]).getD n undef) (fun fq=>{ tmps:=List.toArray (tv::.slice (some ⟨b,off,none⟩) ts.length cap::.agg #[.int .i64 1,.string t.a,.string t.b,.string t.r,.string t.c,.string t.d,.string t.s]::undef::undef::.pointer (some ⟨w.heap.size,0,none⟩)::(fq 11)::(fq 12)::Value.nilIface::.int .i64 cap::.bool q::tv::.slice (some ⟨b,off,none⟩) ts.length cap::.agg #[.int .i64 1,.string t.a,.string t.b,.string t.r,.string t.c,.string t.d,.string t.s]::Value.nilIface::Value.nilIface::.bool false::undef::undef::undef::undef::undef::undef::.tuple #[.int .i64 cap,.bool q]::.slice (some ⟨b,off,none⟩) ts.length cap::.pointer (some ⟨w.heap.size,1,none⟩)::.agg #[.string t.a,.string t.b,.string t.r,.string t.c,.string t.d,.string t.s]::.tuple #[.int .i64 cap,.bool q]::.int .i64 cap::.bool q::.pointer (some ⟨w.heap.size,0,none⟩)::.int .i64 1::.bool false::undef::undef::undef::undef::undef::undef::undef::undef::undef::(fq 0)::(fq 1)::(fq 2)::(fq 3)::(fq 4)::(fq 5)::(fq 6)::(fq 7)::(fq 8)::(fq 9)::(fq 10)::[]),defers:=[] }) (V7 (Value.slice (some ⟨b,off,none⟩) ts.length cap) cap (Value.slice (some ⟨b,off,none⟩) cap (cap)) (Value.pointer (some ⟨w.heap.size,1,none⟩)) (Value.slice (some ⟨b,off,none⟩) (0) (0)) ⟨some ⟨b,off,none⟩,cap,ts.take cap⟩ ⟨some ⟨b,off,none⟩,0,ts.drop cap⟩ w.heap.size t (bX ts 1 t)) (fun w'=>Below w2.heap.size w2 w') (by kernel_rfl) rfl (by kernel_rfl) rfl (Below.refl _ _).drew ?stepD ?finD;case stepD =>
      rintro i hi o ho fq w' hG hpre;have HG:Hid (Below w2.heap.size w2 w'):=hG;have HM:Hid (∀ e ∈ o.after,Region.binds .any e=true→_):=hpre;have HX':=aC (HX2.out.below hG);clear hG hpre x0 x1 x2 x3 x4 x5 x6 xl;obtain ⟨x0,x1,x2,x3,x4,x5,x6,xl⟩:=HX'.out;have hc:=Ho (i:=i) (by omega);clear hi
      repeat' rcases hc with rfl | hc
      ·obtain rfl:=Option.some.inj ho;clear ho HM;refine aa rfl fun K HK=>?_;go_simp;exact HK.out _ _ ⟨Value.slice (some ⟨b,off,none⟩) ts.length cap,by simp [upd],HG.out,rfl,fun k u hu=>hu⟩
      ·obtain rfl:=Option.some.inj ho;clear ho HM;refine aa rfl fun K HK=>?_;go_simp;exact HK.out _ _ ⟨Value.int .i64 cap,by simp [upd],HG.out,rfl,fun k u hu=>hu⟩
      ·obtain rfl:=Option.some.inj ho;have e0:fq 0=.slice (some ⟨b,off,none⟩) ts.length cap:=HM.out ⟨0,.data⟩ (by simp) rfl;have e1:fq 1=.int .i64 cap:=HM.out ⟨1,.data⟩ (by simp) rfl;clear ho HM;refine aa rfl fun K HK=>?_;simp only [e0,e1];go_simp;exact HK.out _ _ ⟨Value.slice (some ⟨b,off,none⟩) cap (cap),by simp [upd,e0,e1],HG.out,rfl,fun k u hu=>hu⟩
      ·obtain rfl:=Option.some.inj ho;clear ho HM;refine aa rfl fun K HK=>?_;go_simp;exact HK.out _ _ ⟨Value.pointer (some ⟨w.heap.size,1,none⟩),by simp [upd],HG.out,rfl,fun k u hu=>hu⟩
      ·obtain rfl:=Option.some.inj ho;have e3:fq 3=.pointer (some ⟨w.heap.size,1,none⟩):=HM.out ⟨3,.data⟩ (by simp) rfl;clear ho HM;refine aa rfl fun K HK=>?_;simp only [e3];go_simp;exact HK.out _ _ ⟨Value.agg #[.string t.a,.string t.b,.string t.r,.string t.c,.string t.d,.string t.s],by simp [upd,e3],HG.out,rfl,fun k u hu=>hu⟩
      ·obtain rfl:=Option.some.inj ho;have e4:fq 4=.agg #[.string t.a,.string t.b,.string t.r,.string t.c,.string t.d,.string t.s]:=HM.out ⟨4,.data⟩ (by simp) rfl;clear ho HM;refine aa rfl fun K HK=>?_;simp only [e4];go_simp;exact HK.out _ _ ⟨_,by simp [upd,e4],HG.out.alloc HG.out.size _,⟨w'.heap.size,rfl,yh w' t _⟩,fun k u hu=>V7.below ((Below.refl _ _).alloc (Nat.le_refl _) _) hu⟩
      ·obtain rfl:=Option.some.inj ho;clear ho HM;refine aa rfl fun K HK=>?_;go_simp;exact HK.out _ _ ⟨Value.slice (some ⟨b,off,none⟩) ts.length cap,by simp [upd],HG.out,rfl,fun k u hu=>hu⟩
      ·obtain rfl:=Option.some.inj ho;clear ho HM;refine aa rfl fun K HK=>?_;go_simp;exact HK.out _ _ ⟨Value.int .i64 cap,by simp [upd],HG.out,rfl,fun k u hu=>hu⟩
      ·obtain rfl:=Option.some.inj ho;have e6:fq 6=.slice (some ⟨b,off,none⟩) ts.length cap:=HM.out ⟨6,.data⟩ (by simp) rfl;have e7:fq 7=.int .i64 cap:=HM.out ⟨7,.data⟩ (by simp) rfl;clear ho HM;refine aa rfl fun K HK=>?_;simp only [e6,e7];go_simp;exact HK.out _ _ ⟨Value.slice (some ⟨b,off,none⟩) (0) (0),by simp [upd,e6,e7],HG.out,rfl,fun k u hu=>hu⟩
      ·obtain rfl:=Option.some.inj ho;have e2:fq 2=.slice (some ⟨b,off,none⟩) cap (cap):=HM.out ⟨2,.data⟩ (by simp) rfl;have q5:=HM.out ⟨5,.data⟩ (by simp) rfl;have e8:fq 8=.slice (some ⟨b,off,none⟩) (0) (0):=HM.out ⟨8,.data⟩ (by simp) rfl;obtain ⟨gt,e5,hgt⟩:=q5;clear ho HM;refine aa rfl fun K HK=>?_;simp only [e2,e8,e5];go_simp;exact HK.out _ _ ⟨_,by simp [upd,e2,e5,e8],HG.out.alloc HG.out.size _,⟨w'.heap.size,gt,rfl,yg HP1.out HP3.out HV1.out HV3.out HG.out hgt _⟩,fun k u hu=>V7.below ((Below.refl _ _).alloc (Nat.le_refl _) _) hu⟩
      ·obtain rfl:=Option.some.inj ho;have q9:=HM.out ⟨9,.data⟩ (by simp) rfl;obtain ⟨gb,gt,e9,hPt⟩:=q9;clear ho HM;refine aa rfl fun K HK=>?_;simp only [e9];go_simp;refine (jA gb 3 _ w' hPt (by simp) (by rw [HJ.out gt,← HNX.out,HNL.out]; omega)).mono ?_;rintro e w3 ⟨v,rfl,hown,hbx⟩;have hown2:=eY hown (Nat.le_trans HB2.out.size HG.out.size);rw [HJ.out gt,← HNX.out] at hown2;exact HK.out _ _ ⟨v,by simp [upd,e9],HG.out.trans (hbx.mono HG.out.size),hown2,fun k u hu=>V7.below hbx hu⟩
      ·obtain rfl:=Option.some.inj ho;have q10:=HM.out ⟨10,.data⟩ (by simp) rfl;clear ho HM;refine aa rfl fun K HK=>?_;go_simp;exact HK.out _ _ ⟨fq 10,by simp [upd],HG.out,q10,fun k u hu=>hu⟩
      ·obtain rfl:=Option.some.inj ho;clear ho HM;refine aa rfl fun K HK=>?_;go_simp;exact HK.out _ _ ⟨Value.nilIface,by simp [upd],HG.out,rfl,fun k u hu=>hu⟩
     case finD =>
      rintro fq w' hG hall;have q11:=hall 11 (by omega);have e12:fq 12=.nilIface:=hall 12 (by omega);have HO:=aC q11;have HBE:=gW HB2 hG;clear hall hG q11;rw [e12];go_wp2;exact bodyPost_ret (v:=.tuple #[fq 11,.nilIface]) (by simp [results,Tryz.results56,go_sem]) rfl ⟨HBE.out,.inl ⟨HZ.out,_,rfl,HO.out⟩⟩
    ·have HP1:Hid (Pt.ok w2 ⟨some ⟨b,off,none⟩,cap,ts.take n⟩):=.inr ⟨b,off,rfl,fun _=>hb,rZ HR.out⟩;have HP3:Hid (Pt.ok w2 ⟨some ⟨b,off + n * 6,none⟩,cap - n,ts.drop n⟩):=.inr ⟨b,off + n * 6,rfl,fun _=>hb,Cy HR.out⟩;have HV1:Hid (Pt.v ⟨some ⟨b,off,none⟩,cap,ts.take n⟩=Value.slice (some ⟨b,off,none⟩) n cap):=by show _=_; unfold Pt.v; simp only [List.length_take]; rw [Nat.min_eq_left hnl]
     have HV3:Hid (Pt.v ⟨some ⟨b,off + n * 6,none⟩,cap - n,ts.drop n⟩=Value.slice (some ⟨b,off + n * 6,none⟩) (ts.length - n) (cap - n)):=by show _=_; unfold Pt.v; simp only [List.length_drop]
     have HJ:Hid (∀ gt:Nat,df [⟨some ⟨b,off,none⟩,cap,ts.take n⟩,⟨some ⟨gt,0,none⟩,1,[t]⟩,⟨some ⟨b,off + n * 6,none⟩,cap - n,ts.drop n⟩]=ts.take n ++ t::ts.drop n):=fun gt=>by simp [df]
     have hnl2:(n:Int)≤(ts.length:Int):=by omega
     have hnl3:(n:Int)≤(cap:Int):=by omega
     go_wp2_with fail;refine ax 13 (fun n=>(undef::undef::undef::undef::undef::undef::undef::undef::undef::undef::undef::.slice none 0 0::Value.nilIface::[]).getD n undef) (fun fq=>{ tmps:=List.toArray (tv::.slice (some ⟨b,off,none⟩) ts.length cap::.agg #[.int .i64 1,.string t.a,.string t.b,.string t.r,.string t.c,.string t.d,.string t.s]::undef::undef::.pointer (some ⟨w.heap.size,0,none⟩)::(fq 11)::(fq 12)::Value.nilIface::.int .i64 n::.bool q::tv::.slice (some ⟨b,off,none⟩) ts.length cap::.agg #[.int .i64 1,.string t.a,.string t.b,.string t.r,.string t.c,.string t.d,.string t.s]::Value.nilIface::Value.nilIface::.bool false::undef::undef::undef::undef::undef::undef::.tuple #[.int .i64 n,.bool q]::.slice (some ⟨b,off,none⟩) ts.length cap::.pointer (some ⟨w.heap.size,1,none⟩)::.agg #[.string t.a,.string t.b,.string t.r,.string t.c,.string t.d,.string t.s]::.tuple #[.int .i64 n,.bool q]::.int .i64 n::.bool q::.pointer (some ⟨w.heap.size,0,none⟩)::.int .i64 1::.bool false::undef::undef::undef::undef::undef::undef::undef::undef::undef::(fq 0)::(fq 1)::(fq 2)::(fq 3)::(fq 4)::(fq 5)::(fq 6)::(fq 7)::(fq 8)::(fq 9)::(fq 10)::[]),defers:=[] }) (V7 (Value.slice (some ⟨b,off,none⟩) ts.length cap) n (Value.slice (some ⟨b,off,none⟩) n (cap)) (Value.pointer (some ⟨w.heap.size,1,none⟩)) (Value.slice (some ⟨b,off + n * 6,none⟩) (ts.length - n) (cap - n)) ⟨some ⟨b,off,none⟩,cap,ts.take n⟩ ⟨some ⟨b,off + n * 6,none⟩,cap - n,ts.drop n⟩ w.heap.size t (bX ts 1 t)) (fun w'=>Below w2.heap.size w2 w') (by kernel_rfl) rfl (by kernel_rfl) rfl (Below.refl _ _).drew ?stepE ?finE;case stepE =>
      rintro i hi o ho fq w' hG hpre;have HG:Hid (Below w2.heap.size w2 w'):=hG;have HM:Hid (∀ e ∈ o.after,Region.binds .any e=true→_):=hpre;have HX':=aC (HX2.out.below hG);clear hG hpre x0 x1 x2 x3 x4 x5 x6 xl;obtain ⟨x0,x1,x2,x3,x4,x5,x6,xl⟩:=HX'.out;have hc:=Ho (i:=i) (by omega);clear hi
      repeat' rcases hc with rfl | hc
      ·obtain rfl:=Option.some.inj ho;clear ho HM;refine aa rfl fun K HK=>?_;go_simp;exact HK.out _ _ ⟨Value.slice (some ⟨b,off,none⟩) ts.length cap,by simp [upd],HG.out,rfl,fun k u hu=>hu⟩
      ·obtain rfl:=Option.some.inj ho;clear ho HM;refine aa rfl fun K HK=>?_;go_simp;exact HK.out _ _ ⟨Value.int .i64 n,by simp [upd],HG.out,rfl,fun k u hu=>hu⟩
      ·obtain rfl:=Option.some.inj ho;have e0:fq 0=.slice (some ⟨b,off,none⟩) ts.length cap:=HM.out ⟨0,.data⟩ (by simp) rfl;have e1:fq 1=.int .i64 n:=HM.out ⟨1,.data⟩ (by simp) rfl;clear ho HM;refine aa rfl fun K HK=>?_;simp only [e0,e1];go_simp;exact HK.out _ _ ⟨Value.slice (some ⟨b,off,none⟩) n (cap),by simp [upd,e0,e1],HG.out,rfl,fun k u hu=>hu⟩
      ·obtain rfl:=Option.some.inj ho;clear ho HM;refine aa rfl fun K HK=>?_;go_simp;exact HK.out _ _ ⟨Value.pointer (some ⟨w.heap.size,1,none⟩),by simp [upd],HG.out,rfl,fun k u hu=>hu⟩
      ·obtain rfl:=Option.some.inj ho;have e3:fq 3=.pointer (some ⟨w.heap.size,1,none⟩):=HM.out ⟨3,.data⟩ (by simp) rfl;clear ho HM;refine aa rfl fun K HK=>?_;simp only [e3];go_simp;exact HK.out _ _ ⟨Value.agg #[.string t.a,.string t.b,.string t.r,.string t.c,.string t.d,.string t.s],by simp [upd,e3],HG.out,rfl,fun k u hu=>hu⟩
      ·obtain rfl:=Option.some.inj ho;have e4:fq 4=.agg #[.string t.a,.string t.b,.string t.r,.string t.c,.string t.d,.string t.s]:=HM.out ⟨4,.data⟩ (by simp) rfl;clear ho HM;refine aa rfl fun K HK=>?_;simp only [e4];go_simp;exact HK.out _ _ ⟨_,by simp [upd,e4],HG.out.alloc HG.out.size _,⟨w'.heap.size,rfl,yh w' t _⟩,fun k u hu=>V7.below ((Below.refl _ _).alloc (Nat.le_refl _) _) hu⟩
      ·obtain rfl:=Option.some.inj ho;clear ho HM;refine aa rfl fun K HK=>?_;go_simp;exact HK.out _ _ ⟨Value.slice (some ⟨b,off,none⟩) ts.length cap,by simp [upd],HG.out,rfl,fun k u hu=>hu⟩
      ·obtain rfl:=Option.some.inj ho;clear ho HM;refine aa rfl fun K HK=>?_;go_simp;exact HK.out _ _ ⟨Value.int .i64 n,by simp [upd],HG.out,rfl,fun k u hu=>hu⟩
      ·obtain rfl:=Option.some.inj ho;have e6:fq 6=.slice (some ⟨b,off,none⟩) ts.length cap:=HM.out ⟨6,.data⟩ (by simp) rfl;have e7:fq 7=.int .i64 n:=HM.out ⟨7,.data⟩ (by simp) rfl;clear ho HM;refine aa rfl fun K HK=>?_;simp only [e6,e7];go_simp;exact HK.out _ _ ⟨Value.slice (some ⟨b,off + n * 6,none⟩) (ts.length - n) (cap - n),by simp [upd,e6,e7],HG.out,rfl,fun k u hu=>hu⟩
      ·obtain rfl:=Option.some.inj ho;have e2:fq 2=.slice (some ⟨b,off,none⟩) n (cap):=HM.out ⟨2,.data⟩ (by simp) rfl;have q5:=HM.out ⟨5,.data⟩ (by simp) rfl;have e8:fq 8=.slice (some ⟨b,off + n * 6,none⟩) (ts.length - n) (cap - n):=HM.out ⟨8,.data⟩ (by simp) rfl;obtain ⟨gt,e5,hgt⟩:=q5;clear ho HM;refine aa rfl fun K HK=>?_;simp only [e2,e8,e5];go_simp;exact HK.out _ _ ⟨_,by simp [upd,e2,e5,e8],HG.out.alloc HG.out.size _,⟨w'.heap.size,gt,rfl,yg HP1.out HP3.out HV1.out HV3.out HG.out hgt _⟩,fun k u hu=>V7.below ((Below.refl _ _).alloc (Nat.le_refl _) _) hu⟩
      ·obtain rfl:=Option.some.inj ho;have q9:=HM.out ⟨9,.data⟩ (by simp) rfl;obtain ⟨gb,gt,e9,hPt⟩:=q9;clear ho HM;refine aa rfl fun K HK=>?_;simp only [e9];go_simp;refine (jA gb 3 _ w' hPt (by simp) (by rw [HJ.out gt,← HNX.out,HNL.out]; omega)).mono ?_;rintro e w3 ⟨v,rfl,hown,hbx⟩;have hown2:=eY hown (Nat.le_trans HB2.out.size HG.out.size);rw [HJ.out gt,← HNX.out] at hown2;exact HK.out _ _ ⟨v,by simp [upd,e9],HG.out.trans (hbx.mono HG.out.size),hown2,fun k u hu=>V7.below hbx hu⟩
      ·obtain rfl:=Option.some.inj ho;have q10:=HM.out ⟨10,.data⟩ (by simp) rfl;clear ho HM;refine aa rfl fun K HK=>?_;go_simp;exact HK.out _ _ ⟨fq 10,by simp [upd],HG.out,q10,fun k u hu=>hu⟩
      ·obtain rfl:=Option.some.inj ho;clear ho HM;refine aa rfl fun K HK=>?_;go_simp;exact HK.out _ _ ⟨Value.nilIface,by simp [upd],HG.out,rfl,fun k u hu=>hu⟩
     case finE =>
      rintro fq w' hG hall;have q11:=hall 11 (by omega);have e12:fq 12=.nilIface:=hall 12 (by omega);have HO:=aC q11;have HBE:=gW HB2 hG;clear hall hG q11;rw [e12];go_wp2;exact bodyPost_ret (v:=.tuple #[fq 11,.nilIface]) (by simp [results,Tryz.results56,go_sem]) rfl ⟨HBE.out,.inl ⟨HZ.out,_,rfl,HO.out⟩⟩
 ·have HZ:Hid (aP fit ts k t ≠ 0):=by show _ ≠ _; rw [hz]; omega
  have HCE:Hid (w.cell? ⟨(aP fit ts k t).toNat,0,none⟩=some (.iface T u)):=by
   show _=_;rw [hz,Int.toNat_natCast];exact (HB0.out.cell (p:=⟨g,0,none⟩) (HE.out g hg2 hg6).1).symm.trans hc
  clear hz hc hb1 HX0 HB0;have hsz1:w.heap.size≤w1.heap.size:=HB1.out.size;rcases HS.out.below HB1.out with ⟨rfl,rfl,rfl⟩ | ⟨b,off,rfl,hb,hcap,hr⟩
  ·obtain ⟨w4,hw4⟩:∃ w4,w4=w1.alloc (.cells #[.iface T u,.slice none 0 0] 74):=⟨_,rfl⟩;have HBE:Hid (Below w.heap.size w w4):=by show Below _ _ _; rw [hw4]; exact HB1.out.alloc hsz1 _
   have HC4:Hid (w4.cell? ⟨w1.heap.size,0,none⟩=some (.iface T u)∧w4.cell? ⟨w1.heap.size,1,none⟩=some (.slice none 0 0)):=by show _∧_; rw [hw4]; constructor <;> simp
   go_wp2_with (at_builtin; refine wpList_append_own_none rfl _ _ 33 rfl w1.heap.size 41 iT 6 underlying33 HIT.out.1 _ _ _ rfl (World.ownsRow_nil _ _ _ _) rfl ?_);go_wp2;rw [← hw4];exact bodyPost_ret (v:=.tuple #[.slice none 0 0,.iface 70 (.pointer (some ⟨w1.heap.size,0,none⟩))]) (by simp [results,Tryz.results56,go_sem]) rfl ⟨HBE.out,.inr ⟨HZ.out,w1.heap.size,T,u,_,rfl,hsz1,HC4.out.1,HCE.out,HC4.out.2,World.ownsRow_nil _ _ _ _⟩⟩
  ·have HR:=aC hr;clear hr;go_wp2_with (at_builtin; refine wpList_append_own _ rfl _ _ 33 rfl w.heap.size 41 iT (.agg #[.string ⟨#[]⟩,.string ⟨#[]⟩,.string ⟨#[]⟩,.string ⟨#[]⟩,.string ⟨#[]⟩,.string ⟨#[]⟩]) 6 96 underlying33 HIT.out.1 HIT.out.2.1 HIT.out.2.2.1 HIT.out.2.2.2 rfl (by decide) _ 0 (aB []) rfl (World.ownsRow_nil _ _ _ _) ⟨b,off,none⟩ ts.length cap (aB ts) rfl (dR ts) (iX HR.out) (iY _) (by unfold maxLen; omega) (by omega) hsz1 ?_);intro v' w3 hown hgr _;have HO3:Hid (w3.ownsRow w.heap.size 41 6 v' ts.length (aB ts)):=by
    show World.ownsRow _ _ _ _ _ _ _;simpa [aB] using hown
   have HB3:Hid (Below w.heap.size w w3):=HB1.out.grown hgr hsz1 (fun g hg=>by simp [Value.ownBlock] at hg);have hsz3:w.heap.size≤w3.heap.size:=HB3.out.size;obtain ⟨adv,cv,hv⟩:∃ a c,v'=.slice a ts.length c:=by
    rcases HO3.out.2 with ⟨e,h0⟩ | ⟨g,c,cur,e,-⟩
    ·exact ⟨none,0,by rw [e,h0]⟩
    ·exact ⟨_,_,e⟩
   subst hv;obtain ⟨w4,hw4⟩:∃ w4,w4=w3.alloc (.cells #[.iface T u,.slice adv ts.length cv] 74):=⟨_,rfl⟩;have HBE:Hid (Below w.heap.size w w4):=by show Below _ _ _; rw [hw4]; exact HB3.out.alloc hsz3 _
   have HC4:Hid (w4.cell? ⟨w3.heap.size,0,none⟩=some (.iface T u)∧w4.cell? ⟨w3.heap.size,1,none⟩=some (.slice adv ts.length cv)):=by show _∧_; rw [hw4]; constructor <;> simp
   have HO4:Hid (w4.ownsRow w.heap.size 41 6 (.slice adv ts.length cv) ts.length (aB ts)):=by show World.ownsRow _ _ _ _ _ _ _; rw [hw4]; exact HO3.out.alloc _
   clear hown hgr;go_wp2;rw [← hw4];exact bodyPost_ret (v:=.tuple #[.slice none 0 0,.iface 70 (.pointer (some ⟨w3.heap.size,0,none⟩))]) (by simp [results,Tryz.results56,go_sem]) rfl ⟨HBE.out,.inr ⟨HZ.out,w3.heap.size,T,u,_,rfl,hsz3,HC4.out.1,HCE.out,HC4.out.2,HO4.out⟩⟩
end Go.Proofs.YteoflgocljfgeaaGreatDoor
