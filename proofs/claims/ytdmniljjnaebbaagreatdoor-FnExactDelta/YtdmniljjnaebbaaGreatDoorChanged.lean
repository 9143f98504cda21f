/- A change of right tuples, as the program does it: a new row, or a refusal that holds a copy of the old one. -/
import Derived.Test.YtdmniljjnaebbaaGreatDoorSq
import Derived.Test.YtdmniljjnaebbaaGreatDoorJ17
open Go.Proofs.Tryz
set_option maxHeartbeats 80000000
namespace Go.Proofs.YtdmniljjnaebbaaGreatDoor
set_option maxRecDepth 100000
set_option linter.unusedVariables false
open Go.ChangeShapes Go.WideShapes Go.ChangeAt Go.RowKit
open Pl
def Sv (w:World) (ad:Option Addr) (cap:Nat) (ts:List Tp):Prop:=(ad=none∧cap=0∧ts=[]) ∨ ∃ b off,ad=some ⟨b,off,none⟩∧b < w.heap.size∧ts.length≤cap∧dF w b off ts
theorem Sv.sl {w:af} {ad:Option Addr} {cap:Nat} {ts:List Tp} (h:Sv w ad cap ts):Sl w ad ts:=by
 rcases h with ⟨_,_,h⟩ | ⟨b,off,e,hl,_,hr⟩
 ·exact .inl h
 exact .inr ⟨b,off,e,hl,hr⟩
theorem Sv.below {w w':af} {ad:Option Addr} {cap:Nat} {ts:List Tp} (h:Sv w ad cap ts) (hb:aa w w'):Sv w' ad cap ts:=by
 rcases h with h | ⟨b,off,e,hl,hc,hr⟩
 ·exact .inl h
 exact .inr ⟨b,off,e,Sg hl hb.size,hc,hr.below hb hl⟩
def Qc (w:World) (fit:Tp→Bool) (ts:List Tp) (k:Int) (t:Tp) (e:Ending) (w':World):Prop :=
  aa w w' ∧
  ((bf fit ts k t=0∧∃ v,e=.returned (.tuple #[v,.nilIface])∧w'.ownsRow w.heap.size 42 6 v (fo ts k t).length (aD (fo ts k t))) ∨
   (bf fit ts k t ≠ 0∧∃ (g:Nat) (T:TypeId) (u v:Value),e=.returned (.tuple #[.slice none 0 0,.iface 101 (.pointer (some ⟨g,0,none⟩))])∧w.heap.size≤g∧w'.cell? ⟨g,0,none⟩=some (.iface T u)∧w.cell? ⟨(bf fit ts k t).toNat,0,none⟩=some (.iface T u)∧w'.cell? ⟨g,1,none⟩=some v∧w'.ownsRow w.heap.size 42 6 v ts.length (aD ts)))
def V6 (L:Value) (n:Nat) (s1 s2:Value) (p1 p2:Pt) (B:Nat) (N:List Tp):Nat→Value→World→Prop
 | 0,v,_=>v=L
 | 1,v,_=>v=.int .i64 n
 | 2,v,_=>v=s1
 | 3,v,_=>v=L
 | 4,v,_=>v=.int .i64 n
 | 5,v,_=>v=.int .i64 ((n:Int) + 1)
 | 6,v,_=>v=s2
 | 7,v,w=>∃ g,v=.slice (some ⟨g,0,none⟩) 2 2∧PtsAt w g [p1,p2]
 | 8,v,w=>w.ownsRow B 42 6 v N.length (aD N)
 | 9,v,w=>w.ownsRow B 42 6 v N.length (aD N)
 | _,v,_=>v=.nilIface
theorem V6.below {L:Value} {n:Nat} {s1 s2:Value} {p1 p2:Pt} {B:Nat} {N:List Tp} {w w':af} (hb:aa w w'):∀ {k:Nat} {u:Value},V6 L n s1 s2 p1 p2 B N k u w→V6 L n s1 s2 p1 p2 B N k u w'
 | 0,_,h=>h
 | 1,_,h=>h
 | 2,_,h=>h
 | 3,_,h=>h
 | 4,_,h=>h
 | 5,_,h=>h
 | 6,_,h=>h
 | 7,_,⟨g,e,h⟩=>⟨g,e,h.below hb⟩
 | 8,_,h=>aB h hb
 | 9,_,h=>aB h hb
 | _ + 10,_,h=>h
def V7 (L:Value) (n:Nat) (s1 P1 s3:Value) (p1 p3:Pt) (B:Nat) (t:Tp) (N:List Tp):Nat→Value→World→Prop
 | 0,v,_=>v=L
 | 1,v,_=>v=.int .i64 n
 | 2,v,_=>v=s1
 | 3,v,_=>v=P1
 | 4,v,_=>v=.agg #[.string t.a,.string t.b,.string t.r,.string t.c,.string t.d,.string t.s]
 | 5,v,w=>∃ g,v=.slice (some ⟨g,0,none⟩) 1 1∧g < w.heap.size∧dF w g 0 [t]
 | 6,v,_=>v=L
 | 7,v,_=>v=.int .i64 n
 | 8,v,_=>v=s3
 | 9,v,w=>∃ g gt,v=.slice (some ⟨g,0,none⟩) 3 3∧PtsAt w g [p1,⟨some ⟨gt,0,none⟩,1,[t]⟩,p3]
 | 10,v,w=>w.ownsRow B 42 6 v N.length (aD N)
 | 11,v,w=>w.ownsRow B 42 6 v N.length (aD N)
 | _,v,_=>v=.nilIface
theorem V7.below {L:Value} {n:Nat} {s1 P1 s3:Value} {p1 p3:Pt} {B:Nat} {t:Tp} {N:List Tp} {w w':af} (hb:aa w w'):∀ {k:Nat} {u:Value},V7 L n s1 P1 s3 p1 p3 B t N k u w→V7 L n s1 P1 s3 p1 p3 B t N k u w'
 | 0,_,h=>h
 | 1,_,h=>h
 | 2,_,h=>h
 | 3,_,h=>h
 | 4,_,h=>h
 | 5,_,⟨g,e,hl,h⟩=>⟨g,e,Sg hl hb.size,h.below hb hl⟩
 | 6,_,h=>h
 | 7,_,h=>h
 | 8,_,h=>h
 | 9,_,⟨g,gt,e,h⟩=>⟨g,gt,e,h.below hb⟩
 | 10,_,h=>aB h hb
 | 11,_,h=>aB h hb
 | _ + 12,_,h=>h
theorem ET {w w':af} {p1 p2:Pt} {s1 s2:Value} (h1:p1.ok w) (h2:p2.ok w) (e1:p1.v=s1) (e2:p2.v=s2) (hb:aa w w') (T:TypeId):PtsAt (w'.alloc (.cells #[s1,s2] T)) w'.heap.size [p1,p2]:=by
 have hb2:aa w (w'.alloc (.cells #[s1,s2] T)):=hb.alloc hb.size _;refine ⟨by simp,fun i hi=>?_,fun p hp=>?_⟩
 ·match i,hi with
  | 0,_=>simp [e1]
  | 1,_=>simp [e2]
 simp at hp;rcases hp with rfl | rfl
 ·exact h1.below hb2
 exact h2.below hb2
theorem yY {w w':af} {p1 p3:Pt} {s1 s3:Value} {gt:Nat} {t:Tp} (h1:p1.ok w) (h3:p3.ok w) (e1:p1.v=s1) (e3:p3.v=s3) (hb:aa w w') (hg:gt < w'.heap.size∧dF w' gt 0 [t]) (T:TypeId):PtsAt (w'.alloc (.cells #[s1,.slice (some ⟨gt,0,none⟩) 1 1,s3] T)) w'.heap.size [p1,⟨some ⟨gt,0,none⟩,1,[t]⟩,p3]:=by
 have hb1:aa w' (w'.alloc (.cells #[s1,.slice (some ⟨gt,0,none⟩) 1 1,s3] T)):=(Si _ _).alloc (Sj _) _;have hb2:aa w (w'.alloc (.cells #[s1,.slice (some ⟨gt,0,none⟩) 1 1,s3] T)):=hb.alloc hb.size _;refine ⟨by simp,fun i hi=>?_,fun p hp=>?_⟩
 ·match i,hi with
  | 0,_=>simp [e1]
  | 1,_=>simp [Pt.v]
  | 2,_=>simp [e3]
 simp at hp;rcases hp with rfl | rfl | rfl
 ·exact h1.below hb2
 ·exact .inr ⟨gt,0,rfl,fun _=>Sg hg.1 hb1.size,hg.2.below hb1 hg.1⟩
 exact h3.below hb2
theorem yZ (w:af) (t:Tp) (T:TypeId):w.heap.size < (w.alloc (.cells #[.string t.a,.string t.b,.string t.r,.string t.c,.string t.d,.string t.s] T)).heap.size∧dF (w.alloc (.cells #[.string t.a,.string t.b,.string t.r,.string t.c,.string t.d,.string t.s] T)) w.heap.size 0 [t]:=by
 refine ⟨by simp,fun i hi=>?_⟩
 match i,hi with
 | 0,_=>refine ⟨?_,?_,?_,?_,?_,?_⟩ <;> simp
theorem sJ {w:af} {b off n:Nat} {ts:List Tp} (h:dF w b off ts):dF w b off (ts.take n):=fun i hi=>by
 rw [List.getElem_take];exact h i (by rw [SL] at hi; omega)
theorem EU {w:af} {b off n:Nat} {ts:List Tp} (h:dF w b off ts):dF w b (off + n * 6) (ts.drop n):=fun i hi=>by
 rw [List.getElem_drop];have:=h (n + i) (by rw [List.length_drop] at hi; omega);rwa [show off + (n + i) * 6=off + n * 6 + i * 6 by omega] at this
theorem EW {w:af} {b off:Nat} {ts:List Tp} (h:ts=[]):dF w b off ts:=fun i hi=>by rw [h] at hi; simp at hi
theorem EX (tv:Value) (fit:Tp→Bool) (ad:Option Addr) (cap:Nat) (ts:List Tp) (k:Int) (t:Tp) (w:af) (hE:Ku w)
  (hfit:∀ w1:World,t.ok=true→aa w w1→Calls prog 94 #[tv,.agg #[.string t.a,.string t.b,.string t.r,.string t.c,.string t.d,.string t.s]] w1 fun e w'=>e=.returned (.bool (fit t))∧aa w1 w')
  (hlen:ts.length≤40) (hs:Sv w ad cap ts) (hf:∀ x ∈ ts,x.fits) (hu:Up ts) (hok:∀ x ∈ ts,x.ok=true) (ht:t.fits) :
  Calls prog 72 #[tv,.slice ad ts.length cap,.agg #[.int .i64 k,.string t.a,.string t.b,.string t.r,.string t.c,.string t.d,.string t.s]] w (Qc w fit ts k t):=by
 obtain ⟨iT,h0,h1,h2,h3⟩:=yV;have HIT:=au (And.intro h0 (And.intro h1 (And.intro h2 h3)));have HE:=aA hE;have Tv:=aA hfit;have HS:=aA hs;have HF:=aA hf;have HU:=aA hu;have TS:=aA hok;have HT:=aA ht;clear hE hfit hs hf hu hok ht h0 h1 h2 h3;obtain ⟨W0,hW0⟩:∃ W0,W0=w.alloc (.cells #[.int .i64 k,.string t.a,.string t.b,.string t.r,.string t.c,.string t.d,.string t.s] 44):=⟨_,rfl⟩;have HX0:Hid (lN W0 w.heap.size k t):=by show lN _ _ _ _; rw [hW0]; refine ⟨?_,?_,?_,?_,?_,?_,?_,?_⟩ <;> simp
 have HB0:=mY hW0;go_enter func72,ntmps72;go_wp2_with fail;rw [← hW0];clear hW0;refine (Hz tv fit ad cap ts k t _ (HE.out.below HB0.out) (fun w1 h hb=>Tv.out w1 h (HB0.out.trans (hb.mono HB0.out.size))) hlen (HS.out.below HB0.out).sl HT.out).mono ?_;rintro e w1 ⟨hz,hb1⟩;have HB1:=aA (HB0.out.trans (hb1.mono HB0.out.size));have UA:=aA (HX0.out.below hb1);rcases hz with ⟨hz,rfl⟩ | ⟨g,T,u,hz,hg2,WZ,hc,rfl⟩
 ·have HZ:=aA hz;clear hz hb1 HX0 HB0;obtain ⟨x0,x1,x2,x3,x4,x5,x6,xl⟩:=UA.out;have HCZ:=aA (BA HZ.out);go_wp2_with fail;refine (EP ad cap ts t _ (by omega) (HS.out.below HB1.out).sl HF.out HT.out HU.out TS.out HCZ.out.1).mono ?_;rintro e w2 ⟨⟨n,q,rfl,hlow⟩,hb2⟩;have HB2:=aA (HB1.out.trans (hb2.mono HB1.out.size));have Ud:=aA (UA.out.below hb2);have Xy:=aA hlow;have hnl:n≤ts.length:=hlow.le;clear hb2 UA x0 x1 x2 x3 x4 x5 x6 xl hlow;obtain ⟨x0,x1,x2,x3,x4,x5,x6,xl⟩:=Ud.out;rcases HCZ.out.2 with ⟨rfl,hm⟩ | ⟨rfl,hft,hnm,h40⟩
  ·rcases HS.out.below HB2.out with ⟨-,-,hnil⟩ | ⟨b,off,rfl,hb,hcap,hr⟩
   ·rw [hnil] at hm; cases hm
   obtain ⟨hn,hni⟩:=Nb Xy.out HU.out hm;have Vn:Hid (fo ts 2 t=ts.take n ++ ts.drop (n + 1)):=by show _=_; unfold fo; rw [if_pos rfl]; exact Nc Xy.out HU.out hm
   have HR:=aA hr;clear hr hni hm;by_cases hcn:cap=n + 1
   ·have TE:=aA hcn;have ZK:Hid (Pt.ok w2 ⟨some ⟨b,off,none⟩,cap,ts.take n⟩):=.inr ⟨b,off,rfl,fun _=>hb,sJ HR.out⟩;have Tu:Hid (Pt.ok w2 ⟨some ⟨b,off,none⟩,cap - (n + 1),ts.drop (n + 1)⟩):=.inr ⟨b,off,rfl,fun _=>hb,EW (List.drop_eq_nil_of_le (by omega))⟩;have UQ:Hid (Pt.v ⟨some ⟨b,off,none⟩,cap,ts.take n⟩=Value.slice (some ⟨b,off,none⟩) n cap):=by show _=_; unfold Pt.v; simp only [SL]; rw [Nat.min_eq_left hnl]
    have UR:Hid (Pt.v ⟨some ⟨b,off,none⟩,cap - (n + 1),ts.drop (n + 1)⟩=Value.slice (some ⟨b,off,none⟩) (ts.length - (n + 1)) (cap - (n + 1))):=by show _=_; unfold Pt.v; simp only [List.length_drop]
    have HJ:Hid (dx [⟨some ⟨b,off,none⟩,cap,ts.take n⟩,⟨some ⟨b,off,none⟩,cap - (n + 1),ts.drop (n + 1)⟩]=ts.take n ++ ts.drop (n + 1)):=by show _=_; simp [dx]
    have HNL:Hid ((fo ts 2 t).length≤ts.length):=by show _≤_; rw [Vn.out,Sr,SL,List.length_drop]; omega
    have hnl1:(0:Int)≤(n:Int) + 1:=by omega
    have Zy:(n:Int) + 1≤(ts.length:Int):=by omega
    have hnl3:(n:Int)≤(cap:Int):=by omega
    have hite:∀ x y:Option Addr,(if cap=n + 1 then x else y)=x:=fun x y=>if_pos hcn;have hwr:IntKind.i64.wrap ((n:Int) + 1)=(n:Int) + 1:=by rw [IntKind.wrap_i64]; omega
    clear hcn;go_wp2_with fail;refine dH 11 (fun n=>(undef::undef::undef::undef::undef::undef::undef::undef::undef::.slice none 0 0::Value.nilIface::[]).getD n undef) (fun fq=>{ tmps:=List.toArray (tv::.slice (some ⟨b,off,none⟩) ts.length cap::.agg #[.int .i64 2,.string t.a,.string t.b,.string t.r,.string t.c,.string t.d,.string t.s]::undef::undef::.pointer (some ⟨w.heap.size,0,none⟩)::(fq 9)::(fq 10)::Value.nilIface::.int .i64 n::.bool q::tv::.slice (some ⟨b,off,none⟩) ts.length cap::.agg #[.int .i64 2,.string t.a,.string t.b,.string t.r,.string t.c,.string t.d,.string t.s]::Value.nilIface::Value.nilIface::.bool false::undef::undef::undef::undef::undef::undef::.tuple #[.int .i64 n,.bool q]::.slice (some ⟨b,off,none⟩) ts.length cap::.pointer (some ⟨w.heap.size,1,none⟩)::.agg #[.string t.a,.string t.b,.string t.r,.string t.c,.string t.d,.string t.s]::.tuple #[.int .i64 n,.bool q]::.int .i64 n::.bool q::.pointer (some ⟨w.heap.size,0,none⟩)::.int .i64 2::.bool true::(fq 0)::(fq 1)::(fq 2)::(fq 3)::(fq 4)::(fq 5)::(fq 6)::(fq 7)::(fq 8)::undef::undef::undef::undef::undef::undef::undef::undef::undef::undef::undef::[]),defers:=[] }) (V6 (Value.slice (some ⟨b,off,none⟩) ts.length cap) n (Value.slice (some ⟨b,off,none⟩) n cap) (Value.slice (some ⟨b,off,none⟩) (ts.length - (n + 1)) (cap - (n + 1))) ⟨some ⟨b,off,none⟩,cap,ts.take n⟩ ⟨some ⟨b,off,none⟩,cap - (n + 1),ts.drop (n + 1)⟩ w.heap.size (fo ts 2 t)) (fun w'=>aa w2 w') (by kernel_rfl) rfl (by kernel_rfl) rfl (Si _ _).drew ?stepA ?finA;case stepA =>
     rintro i hi o ho fq w' hG hpre;have HG:Hid (aa w2 w'):=hG;have HM:Hid (∀ e ∈ o.after,Region.binds .any e=true→_):=hpre;have ZL:=aA (Ud.out.below hG);clear hG hpre x0 x1 x2 x3 x4 x5 x6 xl;obtain ⟨x0,x1,x2,x3,x4,x5,x6,xl⟩:=ZL.out;have hc:=IW (i:=i) (by omega);clear hi
     repeat' rcases hc with rfl | hc
     ·cases ho;clear HM;refine ae rfl fun K HK=>?_;go_simp;exact HK.out _ _ ⟨Value.slice (some ⟨b,off,none⟩) ts.length cap,by simp [upd],HG.out,rfl,fun k u hu=>hu⟩
     ·cases ho;clear HM;refine ae rfl fun K HK=>?_;go_simp;exact HK.out _ _ ⟨Value.int .i64 n,by simp [upd],HG.out,rfl,fun k u hu=>hu⟩
     ·cases ho;have e0:fq 0=.slice (some ⟨b,off,none⟩) ts.length cap:=HM.out ⟨0,.data⟩ (by simp) rfl;have e1:fq 1=.int .i64 n:=HM.out ⟨1,.data⟩ (by simp) rfl;clear HM;refine ae rfl fun K HK=>?_;simp only [e0,e1];go_simp;exact HK.out _ _ ⟨Value.slice (some ⟨b,off,none⟩) n cap,by simp [upd,e0,e1],HG.out,rfl,fun k u hu=>hu⟩
     ·cases ho;clear HM;refine ae rfl fun K HK=>?_;go_simp;exact HK.out _ _ ⟨Value.slice (some ⟨b,off,none⟩) ts.length cap,by simp [upd],HG.out,rfl,fun k u hu=>hu⟩
     ·cases ho;clear HM;refine ae rfl fun K HK=>?_;go_simp;exact HK.out _ _ ⟨Value.int .i64 n,by simp [upd],HG.out,rfl,fun k u hu=>hu⟩
     ·cases ho;have e4:fq 4=.int .i64 n:=HM.out ⟨4,.data⟩ (by simp) rfl;clear HM;refine ae rfl fun K HK=>?_;simp only [e4];go_simp;exact HK.out _ _ ⟨Value.int .i64 ((n:Int) + 1),by simp [upd,e4],HG.out,rfl,fun k u hu=>hu⟩
     ·cases ho;have e3:fq 3=.slice (some ⟨b,off,none⟩) ts.length cap:=HM.out ⟨3,.data⟩ (by simp) rfl;have e5:fq 5=.int .i64 ((n:Int) + 1):=HM.out ⟨5,.data⟩ (by simp) rfl;clear HM;refine ae rfl fun K HK=>?_;simp only [e3,e5];go_simp;exact HK.out _ _ ⟨Value.slice (some ⟨b,off,none⟩) (ts.length - (n + 1)) (cap - (n + 1)),by simp [upd,e3,e5],HG.out,rfl,fun k u hu=>hu⟩
     ·cases ho;have e2:fq 2=.slice (some ⟨b,off,none⟩) n cap:=HM.out ⟨2,.data⟩ (by simp) rfl;have e6:fq 6=.slice (some ⟨b,off,none⟩) (ts.length - (n + 1)) (cap - (n + 1)):=HM.out ⟨6,.data⟩ (by simp) rfl;clear HM;refine ae rfl fun K HK=>?_;simp only [e2,e6];go_simp;exact HK.out _ _ ⟨_,by simp [upd,e2,e6],HG.out.alloc HG.out.size _,⟨w'.heap.size,rfl,ET ZK.out Tu.out UQ.out UR.out HG.out _⟩,fun k u hu=>V6.below ((Si _ _).alloc (Sj _) _) hu⟩
     ·cases ho;have q7:=HM.out ⟨7,.data⟩ (by simp) rfl;obtain ⟨gb,e7,ZM⟩:=q7;clear HM;refine ae rfl fun K HK=>?_;simp only [e7];go_simp;refine (jK gb 2 _ w' ZM (by simp) (by rw [HJ.out,← Vn.out]; have:=HNL.out; omega)).mono ?_;rintro e w3 ⟨v,rfl,hown,hbx⟩;have hown2:=fJ hown (Sq HB2.out.size HG.out.size);rw [HJ.out,← Vn.out] at hown2;exact HK.out _ _ ⟨v,by simp [upd,e7],HG.out.trans (hbx.mono HG.out.size),hown2,fun k u hu=>V6.below hbx hu⟩
     ·cases ho;have q8:=HM.out ⟨8,.data⟩ (by simp) rfl;clear HM;refine ae rfl fun K HK=>?_;go_simp;exact HK.out _ _ ⟨fq 8,by simp [upd],HG.out,q8,fun k u hu=>hu⟩
     cases ho;clear HM;refine ae rfl fun K HK=>?_;go_simp;exact HK.out _ _ ⟨Value.nilIface,by simp [upd],HG.out,rfl,fun k u hu=>hu⟩
    case finA =>
     rintro fq w' hG hall;have q9:=hall 9 (by omega);have e10:fq 10=.nilIface:=hall 10 (by omega);have HO:=aA q9;have Va:=jb HB2 hG;clear hall hG q9;rw [e10];go_wp2;exact bodyPost_ret (v:=.tuple #[fq 9,.nilIface]) (by simp [results,Tryz.results72,go_sem]) rfl ⟨Va.out,.inl ⟨HZ.out,_,rfl,HO.out⟩⟩
   have ZK:Hid (Pt.ok w2 ⟨some ⟨b,off,none⟩,cap,ts.take n⟩):=.inr ⟨b,off,rfl,fun _=>hb,sJ HR.out⟩;have Tu:Hid (Pt.ok w2 ⟨some ⟨b,off + (n + 1) * 6,none⟩,cap - (n + 1),ts.drop (n + 1)⟩):=.inr ⟨b,off + (n + 1) * 6,rfl,fun _=>hb,EU HR.out⟩;have UQ:Hid (Pt.v ⟨some ⟨b,off,none⟩,cap,ts.take n⟩=Value.slice (some ⟨b,off,none⟩) n cap):=by show _=_; unfold Pt.v; simp only [SL]; rw [Nat.min_eq_left hnl]
   have UR:Hid (Pt.v ⟨some ⟨b,off + (n + 1) * 6,none⟩,cap - (n + 1),ts.drop (n + 1)⟩=Value.slice (some ⟨b,off + (n + 1) * 6,none⟩) (ts.length - (n + 1)) (cap - (n + 1))):=by show _=_; unfold Pt.v; simp only [List.length_drop]
   have HJ:Hid (dx [⟨some ⟨b,off,none⟩,cap,ts.take n⟩,⟨some ⟨b,off + (n + 1) * 6,none⟩,cap - (n + 1),ts.drop (n + 1)⟩]=ts.take n ++ ts.drop (n + 1)):=by show _=_; simp [dx]
   have HNL:Hid ((fo ts 2 t).length≤ts.length):=by show _≤_; rw [Vn.out,Sr,SL,List.length_drop]; omega
   have hnl1:(0:Int)≤(n:Int) + 1:=by omega
   have Zy:(n:Int) + 1≤(ts.length:Int):=by omega
   have hnl3:(n:Int)≤(cap:Int):=by omega
   have hwr:IntKind.i64.wrap ((n:Int) + 1)=(n:Int) + 1:=by rw [IntKind.wrap_i64]; omega
   go_wp2_with fail;refine dH 11 (fun n=>(undef::undef::undef::undef::undef::undef::undef::undef::undef::.slice none 0 0::Value.nilIface::[]).getD n undef) (fun fq=>{ tmps:=List.toArray (tv::.slice (some ⟨b,off,none⟩) ts.length cap::.agg #[.int .i64 2,.string t.a,.string t.b,.string t.r,.string t.c,.string t.d,.string t.s]::undef::undef::.pointer (some ⟨w.heap.size,0,none⟩)::(fq 9)::(fq 10)::Value.nilIface::.int .i64 n::.bool q::tv::.slice (some ⟨b,off,none⟩) ts.length cap::.agg #[.int .i64 2,.string t.a,.string t.b,.string t.r,.string t.c,.string t.d,.string t.s]::Value.nilIface::Value.nilIface::.bool false::undef::undef::undef::undef::undef::undef::.tuple #[.int .i64 n,.bool q]::.slice (some ⟨b,off,none⟩) ts.length cap::.pointer (some ⟨w.heap.size,1,none⟩)::.agg #[.string t.a,.string t.b,.string t.r,.string t.c,.string t.d,.string t.s]::.tuple #[.int .i64 n,.bool q]::.int .i64 n::.bool q::.pointer (some ⟨w.heap.size,0,none⟩)::.int .i64 2::.bool true::(fq 0)::(fq 1)::(fq 2)::(fq 3)::(fq 4)::(fq 5)::(fq 6)::(fq 7)::(fq 8)::undef::undef::undef::undef::undef::undef::undef::undef::undef::undef::undef::[]),defers:=[] }) (V6 (Value.slice (some ⟨b,off,none⟩) ts.length cap) n (Value.slice (some ⟨b,off,none⟩) n cap) (Value.slice (some ⟨b,off + (n + 1) * 6,none⟩) (ts.length - (n + 1)) (cap - (n + 1))) ⟨some ⟨b,off,none⟩,cap,ts.take n⟩ ⟨some ⟨b,off + (n + 1) * 6,none⟩,cap - (n + 1),ts.drop (n + 1)⟩ w.heap.size (fo ts 2 t)) (fun w'=>aa w2 w') (by kernel_rfl) rfl (by kernel_rfl) rfl (Si _ _).drew ?vO ?finB;case vO =>
    rintro i hi o ho fq w' hG hpre;have HG:Hid (aa w2 w'):=hG;have HM:Hid (∀ e ∈ o.after,Region.binds .any e=true→_):=hpre;have ZL:=aA (Ud.out.below hG);clear hG hpre x0 x1 x2 x3 x4 x5 x6 xl;obtain ⟨x0,x1,x2,x3,x4,x5,x6,xl⟩:=ZL.out;have hc:=IW (i:=i) (by omega);clear hi
    repeat' rcases hc with rfl | hc
    ·cases ho;clear HM;refine ae rfl fun K HK=>?_;go_simp;exact HK.out _ _ ⟨Value.slice (some ⟨b,off,none⟩) ts.length cap,by simp [upd],HG.out,rfl,fun k u hu=>hu⟩
    ·cases ho;clear HM;refine ae rfl fun K HK=>?_;go_simp;exact HK.out _ _ ⟨Value.int .i64 n,by simp [upd],HG.out,rfl,fun k u hu=>hu⟩
    ·cases ho;have e0:fq 0=.slice (some ⟨b,off,none⟩) ts.length cap:=HM.out ⟨0,.data⟩ (by simp) rfl;have e1:fq 1=.int .i64 n:=HM.out ⟨1,.data⟩ (by simp) rfl;clear HM;refine ae rfl fun K HK=>?_;simp only [e0,e1];go_simp;exact HK.out _ _ ⟨Value.slice (some ⟨b,off,none⟩) n cap,by simp [upd,e0,e1],HG.out,rfl,fun k u hu=>hu⟩
    ·cases ho;clear HM;refine ae rfl fun K HK=>?_;go_simp;exact HK.out _ _ ⟨Value.slice (some ⟨b,off,none⟩) ts.length cap,by simp [upd],HG.out,rfl,fun k u hu=>hu⟩
    ·cases ho;clear HM;refine ae rfl fun K HK=>?_;go_simp;exact HK.out _ _ ⟨Value.int .i64 n,by simp [upd],HG.out,rfl,fun k u hu=>hu⟩
    ·cases ho;have e4:fq 4=.int .i64 n:=HM.out ⟨4,.data⟩ (by simp) rfl;clear HM;refine ae rfl fun K HK=>?_;simp only [e4];go_simp;exact HK.out _ _ ⟨Value.int .i64 ((n:Int) + 1),by simp [upd,e4],HG.out,rfl,fun k u hu=>hu⟩
    ·cases ho;have e3:fq 3=.slice (some ⟨b,off,none⟩) ts.length cap:=HM.out ⟨3,.data⟩ (by simp) rfl;have e5:fq 5=.int .i64 ((n:Int) + 1):=HM.out ⟨5,.data⟩ (by simp) rfl;clear HM;refine ae rfl fun K HK=>?_;simp only [e3,e5];go_simp;exact HK.out _ _ ⟨Value.slice (some ⟨b,off + (n + 1) * 6,none⟩) (ts.length - (n + 1)) (cap - (n + 1)),by simp [upd,e3,e5],HG.out,rfl,fun k u hu=>hu⟩
    ·cases ho;have e2:fq 2=.slice (some ⟨b,off,none⟩) n cap:=HM.out ⟨2,.data⟩ (by simp) rfl;have e6:fq 6=.slice (some ⟨b,off + (n + 1) * 6,none⟩) (ts.length - (n + 1)) (cap - (n + 1)):=HM.out ⟨6,.data⟩ (by simp) rfl;clear HM;refine ae rfl fun K HK=>?_;simp only [e2,e6];go_simp;exact HK.out _ _ ⟨_,by simp [upd,e2,e6],HG.out.alloc HG.out.size _,⟨w'.heap.size,rfl,ET ZK.out Tu.out UQ.out UR.out HG.out _⟩,fun k u hu=>V6.below ((Si _ _).alloc (Sj _) _) hu⟩
    ·cases ho;have q7:=HM.out ⟨7,.data⟩ (by simp) rfl;obtain ⟨gb,e7,ZM⟩:=q7;clear HM;refine ae rfl fun K HK=>?_;simp only [e7];go_simp;refine (jK gb 2 _ w' ZM (by simp) (by rw [HJ.out,← Vn.out]; have:=HNL.out; omega)).mono ?_;rintro e w3 ⟨v,rfl,hown,hbx⟩;have hown2:=fJ hown (Sq HB2.out.size HG.out.size);rw [HJ.out,← Vn.out] at hown2;exact HK.out _ _ ⟨v,by simp [upd,e7],HG.out.trans (hbx.mono HG.out.size),hown2,fun k u hu=>V6.below hbx hu⟩
    ·cases ho;have q8:=HM.out ⟨8,.data⟩ (by simp) rfl;clear HM;refine ae rfl fun K HK=>?_;go_simp;exact HK.out _ _ ⟨fq 8,by simp [upd],HG.out,q8,fun k u hu=>hu⟩
    cases ho;clear HM;refine ae rfl fun K HK=>?_;go_simp;exact HK.out _ _ ⟨Value.nilIface,by simp [upd],HG.out,rfl,fun k u hu=>hu⟩
   case finB =>
    rintro fq w' hG hall;have q9:=hall 9 (by omega);have e10:fq 10=.nilIface:=hall 10 (by omega);have HO:=aA q9;have Va:=jb HB2 hG;clear hall hG q9;rw [e10];go_wp2;exact bodyPost_ret (v:=.tuple #[fq 9,.nilIface]) (by simp [results,Tryz.results72,go_sem]) rfl ⟨Va.out,.inl ⟨HZ.out,_,rfl,HO.out⟩⟩
  have Vn:Hid (fo ts 1 t=ts.take n ++ t::ts.drop n):=by show _=_; unfold fo; rw [if_neg (by decide)]; exact O6 Xy.out
  have HNL:Hid ((fo ts 1 t).length=ts.length + 1):=by show _=_; unfold fo; rw [if_neg (by decide),yT]
  rcases HS.out.below HB2.out with ⟨rfl,rfl,rfl⟩ | ⟨b,off,rfl,hb,hcap,hr⟩
  ·obtain rfl:n=0:=by simpa using hnl
   have ZK:Hid (Pt.ok w2 ⟨none,0,([]:List Tp).take 0⟩):=.inl ⟨rfl,rfl,rfl⟩;have HP3:Hid (Pt.ok w2 ⟨none,0,([]:List Tp).drop 0⟩):=.inl ⟨rfl,rfl,rfl⟩;have UQ:Hid (Pt.v ⟨none,0,([]:List Tp).take 0⟩=Value.slice none 0 0):=rfl;have WA:Hid (Pt.v ⟨none,0,([]:List Tp).drop 0⟩=Value.slice none 0 0):=rfl;have HJ:Hid (∀ gt:Nat,dx [⟨none,0,([]:List Tp).take 0⟩,⟨some ⟨gt,0,none⟩,1,[t]⟩,⟨none,0,([]:List Tp).drop 0⟩]=([]:List Tp).take 0 ++ t::([]:List Tp).drop 0):=fun gt=>by simp [dx]
   go_wp2_with fail;refine dH 13 (fun n=>(undef::undef::undef::undef::undef::undef::undef::undef::undef::undef::undef::.slice none 0 0::Value.nilIface::[]).getD n undef) (fun fq=>{ tmps:=List.toArray (tv::.slice none 0 0::.agg #[.int .i64 1,.string t.a,.string t.b,.string t.r,.string t.c,.string t.d,.string t.s]::undef::undef::.pointer (some ⟨w.heap.size,0,none⟩)::(fq 11)::(fq 12)::Value.nilIface::.int .i64 ((0:Nat):Int)::.bool q::tv::.slice none 0 0::.agg #[.int .i64 1,.string t.a,.string t.b,.string t.r,.string t.c,.string t.d,.string t.s]::Value.nilIface::Value.nilIface::.bool false::undef::undef::undef::undef::undef::undef::.tuple #[.int .i64 ((0:Nat):Int),.bool q]::.slice none 0 0::.pointer (some ⟨w.heap.size,1,none⟩)::.agg #[.string t.a,.string t.b,.string t.r,.string t.c,.string t.d,.string t.s]::.tuple #[.int .i64 ((0:Nat):Int),.bool q]::.int .i64 ((0:Nat):Int)::.bool q::.pointer (some ⟨w.heap.size,0,none⟩)::.int .i64 1::.bool false::undef::undef::undef::undef::undef::undef::undef::undef::undef::(fq 0)::(fq 1)::(fq 2)::(fq 3)::(fq 4)::(fq 5)::(fq 6)::(fq 7)::(fq 8)::(fq 9)::(fq 10)::[]),defers:=[] }) (V7 (Value.slice none 0 0) 0 (Value.slice (none) 0 (0)) (Value.pointer (some ⟨w.heap.size,1,none⟩)) (Value.slice (none) (0) (0)) ⟨none,0,([]:List Tp).take 0⟩ ⟨none,0,([]:List Tp).drop 0⟩ w.heap.size t (fo [] 1 t)) (fun w'=>aa w2 w') (by kernel_rfl) rfl (by kernel_rfl) rfl (Si _ _).drew ?stepC ?finC;case stepC =>
    rintro i hi o ho fq w' hG hpre;have HG:Hid (aa w2 w'):=hG;have HM:Hid (∀ e ∈ o.after,Region.binds .any e=true→_):=hpre;have ZL:=aA (Ud.out.below hG);clear hG hpre x0 x1 x2 x3 x4 x5 x6 xl;obtain ⟨x0,x1,x2,x3,x4,x5,x6,xl⟩:=ZL.out;have hc:=LC (i:=i) (by omega);clear hi
    repeat' rcases hc with rfl | hc
    ·cases ho;clear HM;refine ae rfl fun K HK=>?_;go_simp;exact HK.out _ _ ⟨Value.slice none 0 0,by simp [upd],HG.out,rfl,fun k u hu=>hu⟩
    ·cases ho;clear HM;refine ae rfl fun K HK=>?_;go_simp;exact HK.out _ _ ⟨Value.int .i64 ((0:Nat):Int),by simp [upd],HG.out,rfl,fun k u hu=>hu⟩
    ·cases ho;have e0:fq 0=.slice none 0 0:=HM.out ⟨0,.data⟩ (by simp) rfl;have e1:fq 1=.int .i64 ((0:Nat):Int):=HM.out ⟨1,.data⟩ (by simp) rfl;clear HM;refine ae rfl fun K HK=>?_;simp only [e0,e1];go_simp;exact HK.out _ _ ⟨Value.slice (none) 0 (0),by simp [upd,e0,e1],HG.out,rfl,fun k u hu=>hu⟩
    ·cases ho;clear HM;refine ae rfl fun K HK=>?_;go_simp;exact HK.out _ _ ⟨Value.pointer (some ⟨w.heap.size,1,none⟩),by simp [upd],HG.out,rfl,fun k u hu=>hu⟩
    ·cases ho;have e3:fq 3=.pointer (some ⟨w.heap.size,1,none⟩):=HM.out ⟨3,.data⟩ (by simp) rfl;clear HM;refine ae rfl fun K HK=>?_;simp only [e3];go_simp;exact HK.out _ _ ⟨Value.agg #[.string t.a,.string t.b,.string t.r,.string t.c,.string t.d,.string t.s],by simp [upd,e3],HG.out,rfl,fun k u hu=>hu⟩
    ·cases ho;have e4:fq 4=.agg #[.string t.a,.string t.b,.string t.r,.string t.c,.string t.d,.string t.s]:=HM.out ⟨4,.data⟩ (by simp) rfl;clear HM;refine ae rfl fun K HK=>?_;simp only [e4];go_simp;exact HK.out _ _ ⟨_,by simp [upd,e4],HG.out.alloc HG.out.size _,⟨w'.heap.size,rfl,yZ w' t _⟩,fun k u hu=>V7.below ((Si _ _).alloc (Sj _) _) hu⟩
    ·cases ho;clear HM;refine ae rfl fun K HK=>?_;go_simp;exact HK.out _ _ ⟨Value.slice none 0 0,by simp [upd],HG.out,rfl,fun k u hu=>hu⟩
    ·cases ho;clear HM;refine ae rfl fun K HK=>?_;go_simp;exact HK.out _ _ ⟨Value.int .i64 ((0:Nat):Int),by simp [upd],HG.out,rfl,fun k u hu=>hu⟩
    ·cases ho;have e6:fq 6=.slice none 0 0:=HM.out ⟨6,.data⟩ (by simp) rfl;have e7:fq 7=.int .i64 ((0:Nat):Int):=HM.out ⟨7,.data⟩ (by simp) rfl;clear HM;refine ae rfl fun K HK=>?_;simp only [e6,e7];go_simp;exact HK.out _ _ ⟨Value.slice (none) (0) (0),by simp [upd,e6,e7],HG.out,rfl,fun k u hu=>hu⟩
    ·cases ho;have e2:fq 2=.slice (none) 0 (0):=HM.out ⟨2,.data⟩ (by simp) rfl;have q5:=HM.out ⟨5,.data⟩ (by simp) rfl;have e8:fq 8=.slice (none) (0) (0):=HM.out ⟨8,.data⟩ (by simp) rfl;obtain ⟨gt,e5,hgt⟩:=q5;clear HM;refine ae rfl fun K HK=>?_;simp only [e2,e8,e5];go_simp;exact HK.out _ _ ⟨_,by simp [upd,e2,e5,e8],HG.out.alloc HG.out.size _,⟨w'.heap.size,gt,rfl,yY ZK.out HP3.out UQ.out WA.out HG.out hgt _⟩,fun k u hu=>V7.below ((Si _ _).alloc (Sj _) _) hu⟩
    ·cases ho;have q9:=HM.out ⟨9,.data⟩ (by simp) rfl;obtain ⟨gb,gt,e9,ZM⟩:=q9;clear HM;refine ae rfl fun K HK=>?_;simp only [e9];go_simp;refine (jK gb 3 _ w' ZM (by simp) (by rw [HJ.out gt,← Vn.out,HNL.out]; omega)).mono ?_;rintro e w3 ⟨v,rfl,hown,hbx⟩;have hown2:=fJ hown (Sq HB2.out.size HG.out.size);rw [HJ.out gt,← Vn.out] at hown2;exact HK.out _ _ ⟨v,by simp [upd,e9],HG.out.trans (hbx.mono HG.out.size),hown2,fun k u hu=>V7.below hbx hu⟩
    ·cases ho;have q10:=HM.out ⟨10,.data⟩ (by simp) rfl;clear HM;refine ae rfl fun K HK=>?_;go_simp;exact HK.out _ _ ⟨fq 10,by simp [upd],HG.out,q10,fun k u hu=>hu⟩
    cases ho;clear HM;refine ae rfl fun K HK=>?_;go_simp;exact HK.out _ _ ⟨Value.nilIface,by simp [upd],HG.out,rfl,fun k u hu=>hu⟩
   case finC =>
    rintro fq w' hG hall;have q11:=hall 11 (by omega);have e12:fq 12=.nilIface:=hall 12 (by omega);have HO:=aA q11;have Va:=jb HB2 hG;clear hall hG q11;rw [e12];go_wp2;exact bodyPost_ret (v:=.tuple #[fq 11,.nilIface]) (by simp [results,Tryz.results72,go_sem]) rfl ⟨Va.out,.inl ⟨HZ.out,_,rfl,HO.out⟩⟩
  have HR:=aA hr;clear hr;by_cases hcn:cap=n
  ·subst hcn;have hlz:ts.length - cap=0:=by omega
   have ZK:Hid (Pt.ok w2 ⟨some ⟨b,off,none⟩,cap,ts.take cap⟩):=.inr ⟨b,off,rfl,fun _=>hb,sJ HR.out⟩;have HP3:Hid (Pt.ok w2 ⟨some ⟨b,off,none⟩,0,ts.drop cap⟩):=.inr ⟨b,off,rfl,fun _=>hb,EW (List.drop_eq_nil_of_le (by omega))⟩;have UQ:Hid (Pt.v ⟨some ⟨b,off,none⟩,cap,ts.take cap⟩=Value.slice (some ⟨b,off,none⟩) cap cap):=by show _=_; unfold Pt.v; simp only [SL]; rw [Nat.min_eq_left hnl]
   have WA:Hid (Pt.v ⟨some ⟨b,off,none⟩,0,ts.drop cap⟩=Value.slice (some ⟨b,off,none⟩) 0 0):=by show _=_; unfold Pt.v; simp only [List.length_drop]; rw [hlz]
   have HJ:Hid (∀ gt:Nat,dx [⟨some ⟨b,off,none⟩,cap,ts.take cap⟩,⟨some ⟨gt,0,none⟩,1,[t]⟩,⟨some ⟨b,off,none⟩,0,ts.drop cap⟩]=ts.take cap ++ t::ts.drop cap):=fun gt=>by simp [dx]
   have Zy:(cap:Int)≤(ts.length:Int):=by omega
   go_wp2_with fail;refine dH 13 (fun n=>(undef::undef::undef::undef::undef::undef::undef::undef::undef::undef::undef::.slice none 0 0::Value.nilIface::[]).getD n undef) (fun fq=>{ tmps:=List.toArray (tv::.slice (some ⟨b,off,none⟩) ts.length cap::.agg #[.int .i64 1,.string t.a,.string t.b,.string t.r,.string t.c,.string t.d,.string t.s]::undef::undef::.pointer (some ⟨w.heap.size,0,none⟩)::(fq 11)::(fq 12)::Value.nilIface::.int .i64 cap::.bool q::tv::.slice (some ⟨b,off,none⟩) ts.length cap::.agg #[.int .i64 1,.string t.a,.string t.b,.string t.r,.string t.c,.string t.d,.string t.s]::Value.nilIface::Value.nilIface::.bool false::undef::undef::undef::undef::undef::undef::.tuple #[.int .i64 cap,.bool q]::.slice (some ⟨b,off,none⟩) ts.length cap::.pointer (some ⟨w.heap.size,1,none⟩)::.agg #[.string t.a,.string t.b,.string t.r,.string t.c,.string t.d,.string t.s]::.tuple #[.int .i64 cap,.bool q]::.int .i64 cap::.bool q::.pointer (some ⟨w.heap.size,0,none⟩)::.int .i64 1::.bool false::undef::undef::undef::undef::undef::undef::undef::undef::undef::(fq 0)::(fq 1)::(fq 2)::(fq 3)::(fq 4)::(fq 5)::(fq 6)::(fq 7)::(fq 8)::(fq 9)::(fq 10)::[]),defers:=[] }) (V7 (Value.slice (some ⟨b,off,none⟩) ts.length cap) cap (Value.slice (some ⟨b,off,none⟩) cap (cap)) (Value.pointer (some ⟨w.heap.size,1,none⟩)) (Value.slice (some ⟨b,off,none⟩) (0) (0)) ⟨some ⟨b,off,none⟩,cap,ts.take cap⟩ ⟨some ⟨b,off,none⟩,0,ts.drop cap⟩ w.heap.size t (fo ts 1 t)) (fun w'=>aa w2 w') (by kernel_rfl) rfl (by kernel_rfl) rfl (Si _ _).drew ?stepD ?finD;case stepD =>
    rintro i hi o ho fq w' hG hpre;have HG:Hid (aa w2 w'):=hG;have HM:Hid (∀ e ∈ o.after,Region.binds .any e=true→_):=hpre;have ZL:=aA (Ud.out.below hG);clear hG hpre x0 x1 x2 x3 x4 x5 x6 xl;obtain ⟨x0,x1,x2,x3,x4,x5,x6,xl⟩:=ZL.out;have hc:=LC (i:=i) (by omega);clear hi
    repeat' rcases hc with rfl | hc
    ·cases ho;clear HM;refine ae rfl fun K HK=>?_;go_simp;exact HK.out _ _ ⟨Value.slice (some ⟨b,off,none⟩) ts.length cap,by simp [upd],HG.out,rfl,fun k u hu=>hu⟩
    ·cases ho;clear HM;refine ae rfl fun K HK=>?_;go_simp;exact HK.out _ _ ⟨Value.int .i64 cap,by simp [upd],HG.out,rfl,fun k u hu=>hu⟩
    ·cases ho;have e0:fq 0=.slice (some ⟨b,off,none⟩) ts.length cap:=HM.out ⟨0,.data⟩ (by simp) rfl;have e1:fq 1=.int .i64 cap:=HM.out ⟨1,.data⟩ (by simp) rfl;clear HM;refine ae rfl fun K HK=>?_;simp only [e0,e1];go_simp;exact HK.out _ _ ⟨Value.slice (some ⟨b,off,none⟩) cap (cap),by simp [upd,e0,e1],HG.out,rfl,fun k u hu=>hu⟩
    ·cases ho;clear HM;refine ae rfl fun K HK=>?_;go_simp;exact HK.out _ _ ⟨Value.pointer (some ⟨w.heap.size,1,none⟩),by simp [upd],HG.out,rfl,fun k u hu=>hu⟩
    ·cases ho;have e3:fq 3=.pointer (some ⟨w.heap.size,1,none⟩):=HM.out ⟨3,.data⟩ (by simp) rfl;clear HM;refine ae rfl fun K HK=>?_;simp only [e3];go_simp;exact HK.out _ _ ⟨Value.agg #[.string t.a,.string t.b,.string t.r,.string t.c,.string t.d,.string t.s],by simp [upd,e3],HG.out,rfl,fun k u hu=>hu⟩
    ·cases ho;have e4:fq 4=.agg #[.string t.a,.string t.b,.string t.r,.string t.c,.string t.d,.string t.s]:=HM.out ⟨4,.data⟩ (by simp) rfl;clear HM;refine ae rfl fun K HK=>?_;simp only [e4];go_simp;exact HK.out _ _ ⟨_,by simp [upd,e4],HG.out.alloc HG.out.size _,⟨w'.heap.size,rfl,yZ w' t _⟩,fun k u hu=>V7.below ((Si _ _).alloc (Sj _) _) hu⟩
    ·cases ho;clear HM;refine ae rfl fun K HK=>?_;go_simp;exact HK.out _ _ ⟨Value.slice (some ⟨b,off,none⟩) ts.length cap,by simp [upd],HG.out,rfl,fun k u hu=>hu⟩
    ·cases ho;clear HM;refine ae rfl fun K HK=>?_;go_simp;exact HK.out _ _ ⟨Value.int .i64 cap,by simp [upd],HG.out,rfl,fun k u hu=>hu⟩
    ·cases ho;have e6:fq 6=.slice (some ⟨b,off,none⟩) ts.length cap:=HM.out ⟨6,.data⟩ (by simp) rfl;have e7:fq 7=.int .i64 cap:=HM.out ⟨7,.data⟩ (by simp) rfl;clear HM;refine ae rfl fun K HK=>?_;simp only [e6,e7];go_simp;exact HK.out _ _ ⟨Value.slice (some ⟨b,off,none⟩) (0) (0),by simp [upd,e6,e7],HG.out,rfl,fun k u hu=>hu⟩
    ·cases ho;have e2:fq 2=.slice (some ⟨b,off,none⟩) cap (cap):=HM.out ⟨2,.data⟩ (by simp) rfl;have q5:=HM.out ⟨5,.data⟩ (by simp) rfl;have e8:fq 8=.slice (some ⟨b,off,none⟩) (0) (0):=HM.out ⟨8,.data⟩ (by simp) rfl;obtain ⟨gt,e5,hgt⟩:=q5;clear HM;refine ae rfl fun K HK=>?_;simp only [e2,e8,e5];go_simp;exact HK.out _ _ ⟨_,by simp [upd,e2,e5,e8],HG.out.alloc HG.out.size _,⟨w'.heap.size,gt,rfl,yY ZK.out HP3.out UQ.out WA.out HG.out hgt _⟩,fun k u hu=>V7.below ((Si _ _).alloc (Sj _) _) hu⟩
    ·cases ho;have q9:=HM.out ⟨9,.data⟩ (by simp) rfl;obtain ⟨gb,gt,e9,ZM⟩:=q9;clear HM;refine ae rfl fun K HK=>?_;simp only [e9];go_simp;refine (jK gb 3 _ w' ZM (by simp) (by rw [HJ.out gt,← Vn.out,HNL.out]; omega)).mono ?_;rintro e w3 ⟨v,rfl,hown,hbx⟩;have hown2:=fJ hown (Sq HB2.out.size HG.out.size);rw [HJ.out gt,← Vn.out] at hown2;exact HK.out _ _ ⟨v,by simp [upd,e9],HG.out.trans (hbx.mono HG.out.size),hown2,fun k u hu=>V7.below hbx hu⟩
    ·cases ho;have q10:=HM.out ⟨10,.data⟩ (by simp) rfl;clear HM;refine ae rfl fun K HK=>?_;go_simp;exact HK.out _ _ ⟨fq 10,by simp [upd],HG.out,q10,fun k u hu=>hu⟩
    cases ho;clear HM;refine ae rfl fun K HK=>?_;go_simp;exact HK.out _ _ ⟨Value.nilIface,by simp [upd],HG.out,rfl,fun k u hu=>hu⟩
   case finD =>
    rintro fq w' hG hall;have q11:=hall 11 (by omega);have e12:fq 12=.nilIface:=hall 12 (by omega);have HO:=aA q11;have Va:=jb HB2 hG;clear hall hG q11;rw [e12];go_wp2;exact bodyPost_ret (v:=.tuple #[fq 11,.nilIface]) (by simp [results,Tryz.results72,go_sem]) rfl ⟨Va.out,.inl ⟨HZ.out,_,rfl,HO.out⟩⟩
  have ZK:Hid (Pt.ok w2 ⟨some ⟨b,off,none⟩,cap,ts.take n⟩):=.inr ⟨b,off,rfl,fun _=>hb,sJ HR.out⟩;have HP3:Hid (Pt.ok w2 ⟨some ⟨b,off + n * 6,none⟩,cap - n,ts.drop n⟩):=.inr ⟨b,off + n * 6,rfl,fun _=>hb,EU HR.out⟩;have UQ:Hid (Pt.v ⟨some ⟨b,off,none⟩,cap,ts.take n⟩=Value.slice (some ⟨b,off,none⟩) n cap):=by show _=_; unfold Pt.v; simp only [SL]; rw [Nat.min_eq_left hnl]
  have WA:Hid (Pt.v ⟨some ⟨b,off + n * 6,none⟩,cap - n,ts.drop n⟩=Value.slice (some ⟨b,off + n * 6,none⟩) (ts.length - n) (cap - n)):=by show _=_; unfold Pt.v; simp only [List.length_drop]
  have HJ:Hid (∀ gt:Nat,dx [⟨some ⟨b,off,none⟩,cap,ts.take n⟩,⟨some ⟨gt,0,none⟩,1,[t]⟩,⟨some ⟨b,off + n * 6,none⟩,cap - n,ts.drop n⟩]=ts.take n ++ t::ts.drop n):=fun gt=>by simp [dx]
  have Zy:(n:Int)≤(ts.length:Int):=by omega
  have hnl3:(n:Int)≤(cap:Int):=by omega
  go_wp2_with fail;refine dH 13 (fun n=>(undef::undef::undef::undef::undef::undef::undef::undef::undef::undef::undef::.slice none 0 0::Value.nilIface::[]).getD n undef) (fun fq=>{ tmps:=List.toArray (tv::.slice (some ⟨b,off,none⟩) ts.length cap::.agg #[.int .i64 1,.string t.a,.string t.b,.string t.r,.string t.c,.string t.d,.string t.s]::undef::undef::.pointer (some ⟨w.heap.size,0,none⟩)::(fq 11)::(fq 12)::Value.nilIface::.int .i64 n::.bool q::tv::.slice (some ⟨b,off,none⟩) ts.length cap::.agg #[.int .i64 1,.string t.a,.string t.b,.string t.r,.string t.c,.string t.d,.string t.s]::Value.nilIface::Value.nilIface::.bool false::undef::undef::undef::undef::undef::undef::.tuple #[.int .i64 n,.bool q]::.slice (some ⟨b,off,none⟩) ts.length cap::.pointer (some ⟨w.heap.size,1,none⟩)::.agg #[.string t.a,.string t.b,.string t.r,.string t.c,.string t.d,.string t.s]::.tuple #[.int .i64 n,.bool q]::.int .i64 n::.bool q::.pointer (some ⟨w.heap.size,0,none⟩)::.int .i64 1::.bool false::undef::undef::undef::undef::undef::undef::undef::undef::undef::(fq 0)::(fq 1)::(fq 2)::(fq 3)::(fq 4)::(fq 5)::(fq 6)::(fq 7)::(fq 8)::(fq 9)::(fq 10)::[]),defers:=[] }) (V7 (Value.slice (some ⟨b,off,none⟩) ts.length cap) n (Value.slice (some ⟨b,off,none⟩) n (cap)) (Value.pointer (some ⟨w.heap.size,1,none⟩)) (Value.slice (some ⟨b,off + n * 6,none⟩) (ts.length - n) (cap - n)) ⟨some ⟨b,off,none⟩,cap,ts.take n⟩ ⟨some ⟨b,off + n * 6,none⟩,cap - n,ts.drop n⟩ w.heap.size t (fo ts 1 t)) (fun w'=>aa w2 w') (by kernel_rfl) rfl (by kernel_rfl) rfl (Si _ _).drew ?stepE ?finE;case stepE =>
   rintro i hi o ho fq w' hG hpre;have HG:Hid (aa w2 w'):=hG;have HM:Hid (∀ e ∈ o.after,Region.binds .any e=true→_):=hpre;have ZL:=aA (Ud.out.below hG);clear hG hpre x0 x1 x2 x3 x4 x5 x6 xl;obtain ⟨x0,x1,x2,x3,x4,x5,x6,xl⟩:=ZL.out;have hc:=LC (i:=i) (by omega);clear hi
   repeat' rcases hc with rfl | hc
   ·cases ho;clear HM;refine ae rfl fun K HK=>?_;go_simp;exact HK.out _ _ ⟨Value.slice (some ⟨b,off,none⟩) ts.length cap,by simp [upd],HG.out,rfl,fun k u hu=>hu⟩
   ·cases ho;clear HM;refine ae rfl fun K HK=>?_;go_simp;exact HK.out _ _ ⟨Value.int .i64 n,by simp [upd],HG.out,rfl,fun k u hu=>hu⟩
   ·cases ho;have e0:fq 0=.slice (some ⟨b,off,none⟩) ts.length cap:=HM.out ⟨0,.data⟩ (by simp) rfl;have e1:fq 1=.int .i64 n:=HM.out ⟨1,.data⟩ (by simp) rfl;clear HM;refine ae rfl fun K HK=>?_;simp only [e0,e1];go_simp;exact HK.out _ _ ⟨Value.slice (some ⟨b,off,none⟩) n (cap),by simp [upd,e0,e1],HG.out,rfl,fun k u hu=>hu⟩
   ·cases ho;clear HM;refine ae rfl fun K HK=>?_;go_simp;exact HK.out _ _ ⟨Value.pointer (some ⟨w.heap.size,1,none⟩),by simp [upd],HG.out,rfl,fun k u hu=>hu⟩
   ·cases ho;have e3:fq 3=.pointer (some ⟨w.heap.size,1,none⟩):=HM.out ⟨3,.data⟩ (by simp) rfl;clear HM;refine ae rfl fun K HK=>?_;simp only [e3];go_simp;exact HK.out _ _ ⟨Value.agg #[.string t.a,.string t.b,.string t.r,.string t.c,.string t.d,.string t.s],by simp [upd,e3],HG.out,rfl,fun k u hu=>hu⟩
   ·cases ho;have e4:fq 4=.agg #[.string t.a,.string t.b,.string t.r,.string t.c,.string t.d,.string t.s]:=HM.out ⟨4,.data⟩ (by simp) rfl;clear HM;refine ae rfl fun K HK=>?_;simp only [e4];go_simp;exact HK.out _ _ ⟨_,by simp [upd,e4],HG.out.alloc HG.out.size _,⟨w'.heap.size,rfl,yZ w' t _⟩,fun k u hu=>V7.below ((Si _ _).alloc (Sj _) _) hu⟩
   ·cases ho;clear HM;refine ae rfl fun K HK=>?_;go_simp;exact HK.out _ _ ⟨Value.slice (some ⟨b,off,none⟩) ts.length cap,by simp [upd],HG.out,rfl,fun k u hu=>hu⟩
   ·cases ho;clear HM;refine ae rfl fun K HK=>?_;go_simp;exact HK.out _ _ ⟨Value.int .i64 n,by simp [upd],HG.out,rfl,fun k u hu=>hu⟩
   ·cases ho;have e6:fq 6=.slice (some ⟨b,off,none⟩) ts.length cap:=HM.out ⟨6,.data⟩ (by simp) rfl;have e7:fq 7=.int .i64 n:=HM.out ⟨7,.data⟩ (by simp) rfl;clear HM;refine ae rfl fun K HK=>?_;simp only [e6,e7];go_simp;exact HK.out _ _ ⟨Value.slice (some ⟨b,off + n * 6,none⟩) (ts.length - n) (cap - n),by simp [upd,e6,e7],HG.out,rfl,fun k u hu=>hu⟩
   ·cases ho;have e2:fq 2=.slice (some ⟨b,off,none⟩) n (cap):=HM.out ⟨2,.data⟩ (by simp) rfl;have q5:=HM.out ⟨5,.data⟩ (by simp) rfl;have e8:fq 8=.slice (some ⟨b,off + n * 6,none⟩) (ts.length - n) (cap - n):=HM.out ⟨8,.data⟩ (by simp) rfl;obtain ⟨gt,e5,hgt⟩:=q5;clear HM;refine ae rfl fun K HK=>?_;simp only [e2,e8,e5];go_simp;exact HK.out _ _ ⟨_,by simp [upd,e2,e5,e8],HG.out.alloc HG.out.size _,⟨w'.heap.size,gt,rfl,yY ZK.out HP3.out UQ.out WA.out HG.out hgt _⟩,fun k u hu=>V7.below ((Si _ _).alloc (Sj _) _) hu⟩
   ·cases ho;have q9:=HM.out ⟨9,.data⟩ (by simp) rfl;obtain ⟨gb,gt,e9,ZM⟩:=q9;clear HM;refine ae rfl fun K HK=>?_;simp only [e9];go_simp;refine (jK gb 3 _ w' ZM (by simp) (by rw [HJ.out gt,← Vn.out,HNL.out]; omega)).mono ?_;rintro e w3 ⟨v,rfl,hown,hbx⟩;have hown2:=fJ hown (Sq HB2.out.size HG.out.size);rw [HJ.out gt,← Vn.out] at hown2;exact HK.out _ _ ⟨v,by simp [upd,e9],HG.out.trans (hbx.mono HG.out.size),hown2,fun k u hu=>V7.below hbx hu⟩
   ·cases ho;have q10:=HM.out ⟨10,.data⟩ (by simp) rfl;clear HM;refine ae rfl fun K HK=>?_;go_simp;exact HK.out _ _ ⟨fq 10,by simp [upd],HG.out,q10,fun k u hu=>hu⟩
   cases ho;clear HM;refine ae rfl fun K HK=>?_;go_simp;exact HK.out _ _ ⟨Value.nilIface,by simp [upd],HG.out,rfl,fun k u hu=>hu⟩
  case finE =>
   rintro fq w' hG hall;have q11:=hall 11 (by omega);have e12:fq 12=.nilIface:=hall 12 (by omega);have HO:=aA q11;have Va:=jb HB2 hG;clear hall hG q11;rw [e12];go_wp2;exact bodyPost_ret (v:=.tuple #[fq 11,.nilIface]) (by simp [results,Tryz.results72,go_sem]) rfl ⟨Va.out,.inl ⟨HZ.out,_,rfl,HO.out⟩⟩
 have HZ:Hid (bf fit ts k t ≠ 0):=by show _ ≠ _; rw [hz]; omega
 have Vp:Hid (w.cell? ⟨(bf fit ts k t).toNat,0,none⟩=some (.iface T u)):=by
  show _=_;rw [hz,Int.toNat_natCast];exact (HB0.out.cell (p:=⟨g,0,none⟩) (HE.out g hg2 WZ).1).symm.trans hc
 clear hz hc hb1 HX0 HB0;have hsz1:w.heap.size≤w1.heap.size:=HB1.out.size;rcases HS.out.below HB1.out with ⟨rfl,rfl,rfl⟩ | ⟨b,off,rfl,hb,hcap,hr⟩
 ·obtain ⟨w4,hw4⟩:∃ w4,w4=w1.alloc (.cells #[.iface T u,.slice none 0 0] 105):=⟨_,rfl⟩;have Va:Hid (aa w w4):=by show Below _ _ _; rw [hw4]; exact HB1.out.alloc hsz1 _
  have Yb:Hid (w4.cell? ⟨w1.heap.size,0,none⟩=some (.iface T u)∧w4.cell? ⟨w1.heap.size,1,none⟩=some (.slice none 0 0)):=by show _∧_; rw [hw4]; constructor <;> simp
  go_wp2_with (at_builtin; refine wpList_append_own_none rfl _ _ 38 rfl w1.heap.size 42 iT 6 underlying38 HIT.out.1 _ _ _ rfl (World.ownsRow_nil _ _ _ _) rfl ?_);go_wp2;rw [← hw4];exact bodyPost_ret (v:=.tuple #[.slice none 0 0,.iface 101 (.pointer (some ⟨w1.heap.size,0,none⟩))]) (by simp [results,Tryz.results72,go_sem]) rfl ⟨Va.out,.inr ⟨HZ.out,w1.heap.size,T,u,_,rfl,hsz1,Yb.out.1,Vp.out,Yb.out.2,World.ownsRow_nil _ _ _ _⟩⟩
 have HR:=aA hr;clear hr;go_wp2_with (at_builtin; refine wpList_append_own _ rfl _ _ 38 rfl w.heap.size 42 iT (.agg #[.string ⟨#[]⟩,.string ⟨#[]⟩,.string ⟨#[]⟩,.string ⟨#[]⟩,.string ⟨#[]⟩,.string ⟨#[]⟩]) 6 96 underlying38 HIT.out.1 HIT.out.2.1 HIT.out.2.2.1 HIT.out.2.2.2 rfl (by decide) _ 0 (aD []) rfl (World.ownsRow_nil _ _ _ _) ⟨b,off,none⟩ ts.length cap (aD ts) rfl (eT ts) (ji HR.out) (jk _) (by unfold maxLen; omega) (by omega) hsz1 ?_);intro v' w3 hown hgr _;have TD:Hid (w3.ownsRow w.heap.size 42 6 v' ts.length (aD ts)):=by
  show World.ownsRow _ _ _ _ _ _ _;simpa [aD] using hown
 have HB3:Hid (aa w w3):=HB1.out.grown hgr hsz1 (fun g hg=>by simp [Value.ownBlock] at hg);have ZH:w.heap.size≤w3.heap.size:=HB3.out.size;obtain ⟨adv,cv,hv⟩:∃ a c,v'=.slice a ts.length c:=by
  rcases TD.out.2 with ⟨e,h0⟩ | ⟨g,c,cur,e,-⟩
  ·exact ⟨none,0,by rw [e,h0]⟩
  exact ⟨_,_,e⟩
 subst hv;obtain ⟨w4,hw4⟩:∃ w4,w4=w3.alloc (.cells #[.iface T u,.slice adv ts.length cv] 105):=⟨_,rfl⟩;have Va:Hid (aa w w4):=by show Below _ _ _; rw [hw4]; exact HB3.out.alloc ZH _
 have Yb:Hid (w4.cell? ⟨w3.heap.size,0,none⟩=some (.iface T u)∧w4.cell? ⟨w3.heap.size,1,none⟩=some (.slice adv ts.length cv)):=by show _∧_; rw [hw4]; constructor <;> simp
 have TJ:Hid (w4.ownsRow w.heap.size 42 6 (.slice adv ts.length cv) ts.length (aD ts)):=by show World.ownsRow _ _ _ _ _ _ _; rw [hw4]; exact TD.out.alloc _
 clear hown hgr;go_wp2;rw [← hw4];exact bodyPost_ret (v:=.tuple #[.slice none 0 0,.iface 101 (.pointer (some ⟨w3.heap.size,0,none⟩))]) (by simp [results,Tryz.results72,go_sem]) rfl ⟨Va.out,.inr ⟨HZ.out,w3.heap.size,T,u,_,rfl,ZH,Yb.out.1,Vp.out,Yb.out.2,TJ.out⟩⟩
end Go.Proofs.YtdmniljjnaebbaaGreatDoor
