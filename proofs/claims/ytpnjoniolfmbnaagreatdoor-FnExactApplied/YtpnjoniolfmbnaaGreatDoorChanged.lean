/- A change of right tuples, as the program does it: a new row, or a refusal that holds a copy of the old one. -/
import Derived.Test.YtpnjoniolfmbnaaGreatDoorJ8
import Derived.Test.YtpnjoniolfmbnaaGreatDoorJ10
namespace Go.Proofs.YtpnjoniolfmbnaaGreatDoor
set_option maxRecDepth 100000
set_option linter.unusedVariables false
open Go.ChangeShapes Go.WideShapes Go.ChangeAt Go.RowKit
open Pl
def Sv (w:World) (ad:Option Addr) (cap:Nat) (ts:List Tp):Prop:=(ad=none∧cap=0∧ts=[]) ∨ ∃ b off,ad=some ⟨b,off,none⟩∧b < w.heap.size∧ts.length≤cap∧Row6 w b off ts
theorem Sv.sl {w:World} {ad:Option Addr} {cap:Nat} {ts:List Tp} (h:Sv w ad cap ts):Sl w ad ts:=by
 rcases h with ⟨_,_,h⟩ | ⟨b,off,e,hl,_,hr⟩
 ·exact .inl h
 ·exact .inr ⟨b,off,e,hl,hr⟩
theorem Sv.below {w w':World} {ad:Option Addr} {cap:Nat} {ts:List Tp} (h:Sv w ad cap ts) (hb:Below w.heap.size w w'):Sv w' ad cap ts:=by
 rcases h with h | ⟨b,off,e,hl,hc,hr⟩
 ·exact .inl h
 ·exact .inr ⟨b,off,e,Nat.lt_of_lt_of_le hl hb.size,hc,hr.below hb hl⟩
def CPost (w:World) (fit:Tp→Bool) (ts:List Tp) (k:Int) (t:Tp) (e:Ending) (w':World):Prop :=
  Below w.heap.size w w' ∧
  ((codeT fit ts k t=0∧∃ v,e=.returned (.tuple #[v,.nilIface])∧w'.ownsRow w.heap.size 29 6 v (nextT ts k t).length (rows6 (nextT ts k t))) ∨
   (codeT fit ts k t ≠ 0∧∃ (g:Nat) (T:TypeId) (u v:Value),e=.returned (.tuple #[.slice none 0 0,.iface 73 (.pointer (some ⟨g,0,none⟩))])∧w.heap.size≤g∧w'.cell? ⟨g,0,none⟩=some (.iface T u)∧w.cell? ⟨(codeT fit ts k t).toNat,0,none⟩=some (.iface T u)∧w'.cell? ⟨g,1,none⟩=some v∧w'.ownsRow w.heap.size 29 6 v ts.length (rows6 ts)))
def V6 (L:Value) (n:Nat) (s1 s2:Value) (p1 p2:Pt) (B:Nat) (N:List Tp):Nat→Value→World→Prop
 | 0,v,_=>v=L
 | 1,v,_=>v=.int .i64 n
 | 2,v,_=>v=s1
 | 3,v,_=>v=L
 | 4,v,_=>v=.int .i64 n
 | 5,v,_=>v=.int .i64 ((n:Int) + 1)
 | 6,v,_=>v=s2
 | 7,v,w=>∃ g,v=.slice (some ⟨g,0,none⟩) 2 2∧PtsAt w g [p1,p2]
 | 8,v,w=>w.ownsRow B 29 6 v N.length (rows6 N)
 | 9,v,w=>w.ownsRow B 29 6 v N.length (rows6 N)
 | _,v,_=>v=.nilIface
theorem V6.below {L:Value} {n:Nat} {s1 s2:Value} {p1 p2:Pt} {B:Nat} {N:List Tp} {w w':World} (hb:Below w.heap.size w w'):∀ {k:Nat} {u:Value},V6 L n s1 s2 p1 p2 B N k u w→V6 L n s1 s2 p1 p2 B N k u w'
 | 0,_,h=>h
 | 1,_,h=>h
 | 2,_,h=>h
 | 3,_,h=>h
 | 4,_,h=>h
 | 5,_,h=>h
 | 6,_,h=>h
 | 7,_,⟨g,e,h⟩=>⟨g,e,h.below hb⟩
 | 8,_,h=>own_belowA h hb
 | 9,_,h=>own_belowA h hb
 | _ + 10,_,h=>h
def V7 (L:Value) (n:Nat) (s1 P1 s3:Value) (p1 p3:Pt) (B:Nat) (t:Tp) (N:List Tp):Nat→Value→World→Prop
 | 0,v,_=>v=L
 | 1,v,_=>v=.int .i64 n
 | 2,v,_=>v=s1
 | 3,v,_=>v=P1
 | 4,v,_=>v=.agg #[.string t.a,.string t.b,.string t.r,.string t.c,.string t.d,.string t.s]
 | 5,v,w=>∃ g,v=.slice (some ⟨g,0,none⟩) 1 1∧g < w.heap.size∧Row6 w g 0 [t]
 | 6,v,_=>v=L
 | 7,v,_=>v=.int .i64 n
 | 8,v,_=>v=s3
 | 9,v,w=>∃ g gt,v=.slice (some ⟨g,0,none⟩) 3 3∧PtsAt w g [p1,⟨some ⟨gt,0,none⟩,1,[t]⟩,p3]
 | 10,v,w=>w.ownsRow B 29 6 v N.length (rows6 N)
 | 11,v,w=>w.ownsRow B 29 6 v N.length (rows6 N)
 | _,v,_=>v=.nilIface
theorem V7.below {L:Value} {n:Nat} {s1 P1 s3:Value} {p1 p3:Pt} {B:Nat} {t:Tp} {N:List Tp} {w w':World} (hb:Below w.heap.size w w'):∀ {k:Nat} {u:Value},V7 L n s1 P1 s3 p1 p3 B t N k u w→V7 L n s1 P1 s3 p1 p3 B t N k u w'
 | 0,_,h=>h
 | 1,_,h=>h
 | 2,_,h=>h
 | 3,_,h=>h
 | 4,_,h=>h
 | 5,_,⟨g,e,hl,h⟩=>⟨g,e,Nat.lt_of_lt_of_le hl hb.size,h.below hb hl⟩
 | 6,_,h=>h
 | 7,_,h=>h
 | 8,_,h=>h
 | 9,_,⟨g,gt,e,h⟩=>⟨g,gt,e,h.below hb⟩
 | 10,_,h=>own_belowA h hb
 | 11,_,h=>own_belowA h hb
 | _ + 12,_,h=>h
theorem pts_new2 {w w':World} {p1 p2:Pt} {s1 s2:Value} (h1:p1.ok w) (h2:p2.ok w) (e1:p1.v=s1) (e2:p2.v=s2) (hb:Below w.heap.size w w') (T:TypeId):PtsAt (w'.alloc (.cells #[s1,s2] T)) w'.heap.size [p1,p2]:=by
 have hb2:Below w.heap.size w (w'.alloc (.cells #[s1,s2] T)):=hb.alloc hb.size _
 refine ⟨by simp,fun i hi=>?_,fun p hp=>?_⟩
 ·match i,hi with
  | 0,_=>simp [e1]
  | 1,_=>simp [e2]
 ·simp at hp
  rcases hp with rfl | rfl
  ·exact h1.below hb2
  ·exact h2.below hb2
theorem pts_new3 {w w':World} {p1 p3:Pt} {s1 s3:Value} {gt:Nat} {t:Tp} (h1:p1.ok w) (h3:p3.ok w) (e1:p1.v=s1) (e3:p3.v=s3) (hb:Below w.heap.size w w') (hg:gt < w'.heap.size∧Row6 w' gt 0 [t]) (T:TypeId):PtsAt (w'.alloc (.cells #[s1,.slice (some ⟨gt,0,none⟩) 1 1,s3] T)) w'.heap.size [p1,⟨some ⟨gt,0,none⟩,1,[t]⟩,p3]:=by
 have hb1:Below w'.heap.size w' (w'.alloc (.cells #[s1,.slice (some ⟨gt,0,none⟩) 1 1,s3] T)):=(Below.refl _ _).alloc (Nat.le_refl _) _
 have hb2:Below w.heap.size w (w'.alloc (.cells #[s1,.slice (some ⟨gt,0,none⟩) 1 1,s3] T)):=hb.alloc hb.size _
 refine ⟨by simp,fun i hi=>?_,fun p hp=>?_⟩
 ·match i,hi with
  | 0,_=>simp [e1]
  | 1,_=>simp [Pt.v]
  | 2,_=>simp [e3]
 ·simp at hp
  rcases hp with rfl | rfl | rfl
  ·exact h1.below hb2
  ·exact .inr ⟨gt,0,rfl,fun _=>Nat.lt_of_lt_of_le hg.1 hb1.size,hg.2.below hb1 hg.1⟩
  ·exact h3.below hb2
theorem row1_new (w:World) (t:Tp) (T:TypeId):w.heap.size < (w.alloc (.cells #[.string t.a,.string t.b,.string t.r,.string t.c,.string t.d,.string t.s] T)).heap.size∧Row6 (w.alloc (.cells #[.string t.a,.string t.b,.string t.r,.string t.c,.string t.d,.string t.s] T)) w.heap.size 0 [t]:=by
 refine ⟨by simp,fun i hi=>?_⟩
 match i,hi with
 | 0,_=>refine ⟨?_,?_,?_,?_,?_,?_⟩ <;> simp
theorem row_take {w:World} {b off n:Nat} {ts:List Tp} (h:Row6 w b off ts):Row6 w b off (ts.take n):=fun i hi=>by
 rw [List.getElem_take]
 exact h i (by rw [List.length_take] at hi; omega)
theorem row_drop {w:World} {b off n:Nat} {ts:List Tp} (h:Row6 w b off ts):Row6 w b (off + n * 6) (ts.drop n):=fun i hi=>by
 rw [List.getElem_drop]
 have:=h (n + i) (by rw [List.length_drop] at hi; omega)
 rwa [show off + (n + i) * 6=off + n * 6 + i * 6 by omega] at this
theorem row_none {w:World} {b off:Nat} {ts:List Tp} (h:ts=[]):Row6 w b off ts:=fun i hi=>by rw [h] at hi; simp at hi
set_option maxHeartbeats 8000000 in
theorem changed_any (tv:Value) (fit:Tp→Bool) (ad:Option Addr) (cap:Nat) (ts:List Tp) (k:Int) (t:Tp) (w:World) (hE:Errs w)
  (hfit:∀ w1:World,t.ok=true→Below w.heap.size w w1→Calls Tryz.prog 41 #[tv,.agg #[.string t.a,.string t.b,.string t.r,.string t.c,.string t.d,.string t.s]] w1 fun e w'=>e=.returned (.bool (fit t))∧Below w1.heap.size w1 w')
  (hlen:ts.length≤40) (hs:Sv w ad cap ts) (hf:∀ x ∈ ts,x.fits) (hu:Up ts) (hok:∀ x ∈ ts,x.ok=true) (ht:t.fits) :
  Calls Tryz.prog 52 #[tv,.slice ad ts.length cap,.agg #[.int .i64 k,.string t.a,.string t.b,.string t.r,.string t.c,.string t.d,.string t.s]] w (CPost w fit ts k t):=by
 obtain ⟨iT,h0,h1,h2,h3⟩:=infoTup3
 have HIT:=toHC (And.intro h0 (And.intro h1 (And.intro h2 h3)))
 have HE:=toHA hE
 have HFT:=toHA hfit
 have HS:=toHA hs
 have HF:=toHA hf
 have HU:=toHA hu
 have HOK:=toHA hok
 have HT:=toHA ht
 clear hE hfit hs hf hu hok ht h0 h1 h2 h3
 obtain ⟨W0,hW0⟩:∃ W0,W0=w.alloc (.cells #[.int .i64 k,.string t.a,.string t.b,.string t.r,.string t.c,.string t.d,.string t.s] 31):=⟨_,rfl⟩
 have HX0:Hid (Box7 W0 w.heap.size k t):=by show Box7 _ _ _ _; rw [hW0]; refine ⟨?_,?_,?_,?_,?_,?_,?_,?_⟩ <;> simp
 have HB0:Hid (Below w.heap.size w W0):=by show Below _ _ _; rw [hW0]; exact (Below.refl _ _).alloc (Nat.le_refl _) _
 go_enter Tryz.func52,Tryz.ntmps52
 go_wp2_with fail
 rw [← hW0]
 clear hW0
 refine (whyNot_any tv fit ad cap ts k t _ (HE.out.below HB0.out) (fun w1 h hb=>HFT.out w1 h (HB0.out.trans (hb.mono HB0.out.size))) hlen (HS.out.below HB0.out).sl HT.out).mono ?_
 rintro e w1 ⟨hz,hb1⟩
 have HB1:=toHA (HB0.out.trans (hb1.mono HB0.out.size))
 have HX1:=toHA (HX0.out.below hb1)
 rcases hz with ⟨hz,rfl⟩ | ⟨g,T,u,hz,hg2,hg6,hc,rfl⟩
 ·have HZ:=toHA hz
  clear hz hb1 HX0 HB0
  obtain ⟨x0,x1,x2,x3,x4,x5,x6,xl⟩:=HX1.out
  have HCZ:=toHA (code_zero HZ.out)
  go_wp2_with fail
  refine (searchT_any ad cap ts t _ (by omega) (HS.out.below HB1.out).sl HF.out HT.out HU.out HOK.out HCZ.out.1).mono ?_
  rintro e w2 ⟨⟨n,q,rfl,hlow⟩,hb2⟩
  have HB2:=toHA (HB1.out.trans (hb2.mono HB1.out.size))
  have HX2:=toHA (HX1.out.below hb2)
  have HLOW:=toHA hlow
  have hnl:n≤ts.length:=hlow.le
  clear hb2 HX1 x0 x1 x2 x3 x4 x5 x6 xl hlow
  obtain ⟨x0,x1,x2,x3,x4,x5,x6,xl⟩:=HX2.out
  rcases HCZ.out.2 with ⟨rfl,hm⟩ | ⟨rfl,hft,hnm,h40⟩
  ·rcases HS.out.below HB2.out with ⟨-,-,hnil⟩ | ⟨b,off,rfl,hb,hcap,hr⟩
   ·rw [hnil] at hm; cases hm
   obtain ⟨hn,hni⟩:=low_is HLOW.out HU.out hm
   have HNX:Hid (nextT ts 2 t=ts.take n ++ ts.drop (n + 1)):=by show _=_; unfold nextT; rw [if_pos rfl]; exact low_drop HLOW.out HU.out hm
   have HR:=toHA hr
   clear hr hni hm
   by_cases hcn:cap=n + 1
   ·have HCN:=toHA hcn
    have HP1:Hid (Pt.ok w2 ⟨some ⟨b,off,none⟩,cap,ts.take n⟩):=.inr ⟨b,off,rfl,fun _=>hb,row_take HR.out⟩
    have HP2:Hid (Pt.ok w2 ⟨some ⟨b,off,none⟩,cap - (n + 1),ts.drop (n + 1)⟩):=.inr ⟨b,off,rfl,fun _=>hb,row_none (List.drop_eq_nil_of_le (by omega))⟩
    have HV1:Hid (Pt.v ⟨some ⟨b,off,none⟩,cap,ts.take n⟩=Value.slice (some ⟨b,off,none⟩) n cap):=by show _=_; unfold Pt.v; simp only [List.length_take]; rw [Nat.min_eq_left hnl]
    have HV2:Hid (Pt.v ⟨some ⟨b,off,none⟩,cap - (n + 1),ts.drop (n + 1)⟩=Value.slice (some ⟨b,off,none⟩) (ts.length - (n + 1)) (cap - (n + 1))):=by show _=_; unfold Pt.v; simp only [List.length_drop]
    have HJ:Hid (joinP [⟨some ⟨b,off,none⟩,cap,ts.take n⟩,⟨some ⟨b,off,none⟩,cap - (n + 1),ts.drop (n + 1)⟩]=ts.take n ++ ts.drop (n + 1)):=by show _=_; simp [joinP]
    have HNL:Hid ((nextT ts 2 t).length≤ts.length):=by show _≤_; rw [HNX.out,List.length_append,List.length_take,List.length_drop]; omega
    have hnl1:(0:Int)≤(n:Int) + 1:=by omega
    have hnl2:(n:Int) + 1≤(ts.length:Int):=by omega
    have hnl3:(n:Int)≤(cap:Int):=by omega
    have hite:∀ x y:Option Addr,(if cap=n + 1 then x else y)=x:=fun x y=>if_pos hcn
    have hwr:IntKind.i64.wrap ((n:Int) + 1)=(n:Int) + 1:=by rw [IntKind.wrap_i64]; omega
    clear hcn
    go_wp2_with fail
    refine wp_region_all 11 (fun n=>(undef::undef::undef::undef::undef::undef::undef::undef::undef::Value.slice none 0 0::Value.nilIface::[]).getD n undef) (fun fq=>{ tmps:=List.toArray (tv::Value.slice (some { block:=b,off:=off }) ts.length cap::Value.agg #[Value.int IntKind.i64 2,Value.string t.a,Value.string t.b,Value.string t.r,Value.string t.c,Value.string t.d,Value.string t.s]::undef::undef::Value.pointer (some { block:=w.heap.size,off:=0 })::(fq 9)::(fq 10)::Value.nilIface::Value.int IntKind.i64 (n:Int)::Value.bool q::tv::Value.slice (some { block:=b,off:=off }) ts.length cap::Value.agg #[Value.int IntKind.i64 2,Value.string t.a,Value.string t.b,Value.string t.r,Value.string t.c,Value.string t.d,Value.string t.s]::Value.nilIface::Value.nilIface::Value.bool false::undef::undef::undef::undef::undef::undef::Value.tuple #[Value.int IntKind.i64 (n:Int),Value.bool q]::Value.slice (some { block:=b,off:=off }) ts.length cap::Value.pointer (some { block:=w.heap.size,off:=1 })::Value.agg #[Value.string t.a,Value.string t.b,Value.string t.r,Value.string t.c,Value.string t.d,Value.string t.s]::Value.tuple #[Value.int IntKind.i64 (n:Int),Value.bool q]::Value.int IntKind.i64 (n:Int)::Value.bool q::Value.pointer (some { block:=w.heap.size,off:=0 })::Value.int IntKind.i64 2::Value.bool true::(fq 0)::(fq 1)::(fq 2)::(fq 3)::(fq 4)::(fq 5)::(fq 6)::(fq 7)::(fq 8)::undef::undef::undef::undef::undef::undef::undef::undef::undef::undef::undef::[]),defers:=[] }) (V6 (Value.slice (some { block:=b,off:=off }) ts.length cap) n (Value.slice (some { block:=b,off:=off }) n cap) (Value.slice (some ⟨b,off,none⟩) (ts.length - (n + 1)) (cap - (n + 1))) ⟨some ⟨b,off,none⟩,cap,ts.take n⟩ ⟨some ⟨b,off,none⟩,cap - (n + 1),ts.drop (n + 1)⟩ w.heap.size (nextT ts 2 t)) (fun w'=>Below w2.heap.size w2 w') (by kernel_rfl) rfl (by kernel_rfl) rfl (Below.refl _ _).drew ?stepA ?finA
    case stepA =>
     rintro i hi o ho fq w' hG hpre
     have HG:Hid (Below w2.heap.size w2 w'):=hG
     have HM:Hid (∀ e ∈ o.after,Region.binds .any e=true→_):=hpre
     have HX':=toHA (HX2.out.below hG)
     clear hG hpre x0 x1 x2 x3 x4 x5 x6 xl
     obtain ⟨x0,x1,x2,x3,x4,x5,x6,xl⟩:=HX'.out
     have hc:i=0 ∨ i=1 ∨ i=2 ∨ i=3 ∨ i=4 ∨ i=5 ∨ i=6 ∨ i=7 ∨ i=8 ∨ i=9 ∨ i=10:=by omega
     clear hi
     rcases hc with rfl | rfl | rfl | rfl | rfl | rfl | rfl | rfl | rfl | rfl | rfl
     ·obtain rfl:=Option.some.inj ho
      clear ho HM
      refine wpOp_hid rfl fun K HK=>?_
      go_simp
      exact HK.out _ _ ⟨Value.slice (some { block:=b,off:=off }) ts.length cap,by simp [upd],HG.out,rfl,fun k u hu=>hu⟩
     ·obtain rfl:=Option.some.inj ho
      clear ho HM
      refine wpOp_hid rfl fun K HK=>?_
      go_simp
      exact HK.out _ _ ⟨Value.int IntKind.i64 (n:Int),by simp [upd],HG.out,rfl,fun k u hu=>hu⟩
     ·obtain rfl:=Option.some.inj ho
      have e0:fq 0=Value.slice (some { block:=b,off:=off }) ts.length cap:=HM.out { on:=0,ground:=.data } (by simp) rfl
      have e1:fq 1=Value.int IntKind.i64 (n:Int):=HM.out { on:=1,ground:=.data } (by simp) rfl
      clear ho HM
      refine wpOp_hid rfl fun K HK=>?_
      simp only [e0,e1]
      go_simp
      exact HK.out _ _ ⟨Value.slice (some { block:=b,off:=off }) n cap,by simp [upd,e0,e1],HG.out,rfl,fun k u hu=>hu⟩
     ·obtain rfl:=Option.some.inj ho
      clear ho HM
      refine wpOp_hid rfl fun K HK=>?_
      go_simp
      exact HK.out _ _ ⟨Value.slice (some { block:=b,off:=off }) ts.length cap,by simp [upd],HG.out,rfl,fun k u hu=>hu⟩
     ·obtain rfl:=Option.some.inj ho
      clear ho HM
      refine wpOp_hid rfl fun K HK=>?_
      go_simp
      exact HK.out _ _ ⟨Value.int IntKind.i64 (n:Int),by simp [upd],HG.out,rfl,fun k u hu=>hu⟩
     ·obtain rfl:=Option.some.inj ho
      have e4:fq 4=Value.int IntKind.i64 (n:Int):=HM.out { on:=4,ground:=.data } (by simp) rfl
      clear ho HM
      refine wpOp_hid rfl fun K HK=>?_
      simp only [e4]
      go_simp
      exact HK.out _ _ ⟨Value.int IntKind.i64 ((n:Int) + 1),by simp [upd,e4],HG.out,rfl,fun k u hu=>hu⟩
     ·obtain rfl:=Option.some.inj ho
      have e3:fq 3=Value.slice (some { block:=b,off:=off }) ts.length cap:=HM.out { on:=3,ground:=.data } (by simp) rfl
      have e5:fq 5=Value.int IntKind.i64 ((n:Int) + 1):=HM.out { on:=5,ground:=.data } (by simp) rfl
      clear ho HM
      refine wpOp_hid rfl fun K HK=>?_
      simp only [e3,e5]
      go_simp
      exact HK.out _ _ ⟨Value.slice (some ⟨b,off,none⟩) (ts.length - (n + 1)) (cap - (n + 1)),by simp [upd,e3,e5],HG.out,rfl,fun k u hu=>hu⟩
     ·obtain rfl:=Option.some.inj ho
      have e2:fq 2=Value.slice (some { block:=b,off:=off }) n cap:=HM.out { on:=2,ground:=.data } (by simp) rfl
      have e6:fq 6=Value.slice (some ⟨b,off,none⟩) (ts.length - (n + 1)) (cap - (n + 1)):=HM.out { on:=6,ground:=.data } (by simp) rfl
      clear ho HM
      refine wpOp_hid rfl fun K HK=>?_
      simp only [e2,e6]
      go_simp
      exact HK.out _ _ ⟨_,by simp [upd,e2,e6],HG.out.alloc HG.out.size _,⟨w'.heap.size,rfl,pts_new2 HP1.out HP2.out HV1.out HV2.out HG.out _⟩,fun k u hu=>V6.below ((Below.refl _ _).alloc (Nat.le_refl _) _) hu⟩
     ·obtain rfl:=Option.some.inj ho
      have q7:=HM.out { on:=7,ground:=.data } (by simp) rfl
      obtain ⟨gb,e7,hPt⟩:=q7
      clear ho HM
      refine wpOp_hid rfl fun K HK=>?_
      simp only [e7]
      go_simp
      refine (concatT_any gb 2 _ w' hPt (by simp) (by rw [HJ.out,← HNX.out]; have:=HNL.out; omega)).mono ?_
      rintro e w3 ⟨v,rfl,hown,hbx⟩
      have hown2:=own_down hown (Nat.le_trans HB2.out.size HG.out.size)
      rw [HJ.out,← HNX.out] at hown2
      exact HK.out _ _ ⟨v,by simp [upd,e7],HG.out.trans (hbx.mono HG.out.size),hown2,fun k u hu=>V6.below hbx hu⟩
     ·obtain rfl:=Option.some.inj ho
      have q8:=HM.out { on:=8,ground:=.data } (by simp) rfl
      clear ho HM
      refine wpOp_hid rfl fun K HK=>?_
      go_simp
      exact HK.out _ _ ⟨fq 8,by simp [upd],HG.out,q8,fun k u hu=>hu⟩
     ·obtain rfl:=Option.some.inj ho
      clear ho HM
      refine wpOp_hid rfl fun K HK=>?_
      go_simp
      exact HK.out _ _ ⟨Value.nilIface,by simp [upd],HG.out,rfl,fun k u hu=>hu⟩
    case finA =>
     rintro fq w' hG hall
     have q9:=hall 9 (by omega)
     have e10:fq 10=.nilIface:=hall 10 (by omega)
     have HO:=toHA q9
     have HBE:Hid (Below w.heap.size w w'):=HB2.out.trans (hG.mono HB2.out.size)
     clear hall hG q9
     rw [e10]
     go_wp2
     exact bodyPost_ret (v:=.tuple #[fq 9,.nilIface]) (by simp [results,Tryz.results52,go_sem]) rfl ⟨HBE.out,.inl ⟨HZ.out,_,rfl,HO.out⟩⟩
   ·have HP1:Hid (Pt.ok w2 ⟨some ⟨b,off,none⟩,cap,ts.take n⟩):=.inr ⟨b,off,rfl,fun _=>hb,row_take HR.out⟩
    have HP2:Hid (Pt.ok w2 ⟨some ⟨b,off + (n + 1) * 6,none⟩,cap - (n + 1),ts.drop (n + 1)⟩):=.inr ⟨b,off + (n + 1) * 6,rfl,fun _=>hb,row_drop HR.out⟩
    have HV1:Hid (Pt.v ⟨some ⟨b,off,none⟩,cap,ts.take n⟩=Value.slice (some ⟨b,off,none⟩) n cap):=by show _=_; unfold Pt.v; simp only [List.length_take]; rw [Nat.min_eq_left hnl]
    have HV2:Hid (Pt.v ⟨some ⟨b,off + (n + 1) * 6,none⟩,cap - (n + 1),ts.drop (n + 1)⟩=Value.slice (some ⟨b,off + (n + 1) * 6,none⟩) (ts.length - (n + 1)) (cap - (n + 1))):=by show _=_; unfold Pt.v; simp only [List.length_drop]
    have HJ:Hid (joinP [⟨some ⟨b,off,none⟩,cap,ts.take n⟩,⟨some ⟨b,off + (n + 1) * 6,none⟩,cap - (n + 1),ts.drop (n + 1)⟩]=ts.take n ++ ts.drop (n + 1)):=by show _=_; simp [joinP]
    have HNL:Hid ((nextT ts 2 t).length≤ts.length):=by show _≤_; rw [HNX.out,List.length_append,List.length_take,List.length_drop]; omega
    have hnl1:(0:Int)≤(n:Int) + 1:=by omega
    have hnl2:(n:Int) + 1≤(ts.length:Int):=by omega
    have hnl3:(n:Int)≤(cap:Int):=by omega
    have hwr:IntKind.i64.wrap ((n:Int) + 1)=(n:Int) + 1:=by rw [IntKind.wrap_i64]; omega
    go_wp2_with fail
    refine wp_region_all 11 (fun n=>(undef::undef::undef::undef::undef::undef::undef::undef::undef::Value.slice none 0 0::Value.nilIface::[]).getD n undef) (fun fq=>{ tmps:=List.toArray (tv::Value.slice (some { block:=b,off:=off }) ts.length cap::Value.agg #[Value.int IntKind.i64 2,Value.string t.a,Value.string t.b,Value.string t.r,Value.string t.c,Value.string t.d,Value.string t.s]::undef::undef::Value.pointer (some { block:=w.heap.size,off:=0 })::(fq 9)::(fq 10)::Value.nilIface::Value.int IntKind.i64 (n:Int)::Value.bool q::tv::Value.slice (some { block:=b,off:=off }) ts.length cap::Value.agg #[Value.int IntKind.i64 2,Value.string t.a,Value.string t.b,Value.string t.r,Value.string t.c,Value.string t.d,Value.string t.s]::Value.nilIface::Value.nilIface::Value.bool false::undef::undef::undef::undef::undef::undef::Value.tuple #[Value.int IntKind.i64 (n:Int),Value.bool q]::Value.slice (some { block:=b,off:=off }) ts.length cap::Value.pointer (some { block:=w.heap.size,off:=1 })::Value.agg #[Value.string t.a,Value.string t.b,Value.string t.r,Value.string t.c,Value.string t.d,Value.string t.s]::Value.tuple #[Value.int IntKind.i64 (n:Int),Value.bool q]::Value.int IntKind.i64 (n:Int)::Value.bool q::Value.pointer (some { block:=w.heap.size,off:=0 })::Value.int IntKind.i64 2::Value.bool true::(fq 0)::(fq 1)::(fq 2)::(fq 3)::(fq 4)::(fq 5)::(fq 6)::(fq 7)::(fq 8)::undef::undef::undef::undef::undef::undef::undef::undef::undef::undef::undef::[]),defers:=[] }) (V6 (Value.slice (some { block:=b,off:=off }) ts.length cap) n (Value.slice (some { block:=b,off:=off }) n cap) (Value.slice (some ⟨b,off + (n + 1) * 6,none⟩) (ts.length - (n + 1)) (cap - (n + 1))) ⟨some ⟨b,off,none⟩,cap,ts.take n⟩ ⟨some ⟨b,off + (n + 1) * 6,none⟩,cap - (n + 1),ts.drop (n + 1)⟩ w.heap.size (nextT ts 2 t)) (fun w'=>Below w2.heap.size w2 w') (by kernel_rfl) rfl (by kernel_rfl) rfl (Below.refl _ _).drew ?stepB ?finB
    case stepB =>
     rintro i hi o ho fq w' hG hpre
     have HG:Hid (Below w2.heap.size w2 w'):=hG
     have HM:Hid (∀ e ∈ o.after,Region.binds .any e=true→_):=hpre
     have HX':=toHA (HX2.out.below hG)
     clear hG hpre x0 x1 x2 x3 x4 x5 x6 xl
     obtain ⟨x0,x1,x2,x3,x4,x5,x6,xl⟩:=HX'.out
     have hc:i=0 ∨ i=1 ∨ i=2 ∨ i=3 ∨ i=4 ∨ i=5 ∨ i=6 ∨ i=7 ∨ i=8 ∨ i=9 ∨ i=10:=by omega
     clear hi
     rcases hc with rfl | rfl | rfl | rfl | rfl | rfl | rfl | rfl | rfl | rfl | rfl
     ·obtain rfl:=Option.some.inj ho
      clear ho HM
      refine wpOp_hid rfl fun K HK=>?_
      go_simp
      exact HK.out _ _ ⟨Value.slice (some { block:=b,off:=off }) ts.length cap,by simp [upd],HG.out,rfl,fun k u hu=>hu⟩
     ·obtain rfl:=Option.some.inj ho
      clear ho HM
      refine wpOp_hid rfl fun K HK=>?_
      go_simp
      exact HK.out _ _ ⟨Value.int IntKind.i64 (n:Int),by simp [upd],HG.out,rfl,fun k u hu=>hu⟩
     ·obtain rfl:=Option.some.inj ho
      have e0:fq 0=Value.slice (some { block:=b,off:=off }) ts.length cap:=HM.out { on:=0,ground:=.data } (by simp) rfl
      have e1:fq 1=Value.int IntKind.i64 (n:Int):=HM.out { on:=1,ground:=.data } (by simp) rfl
      clear ho HM
      refine wpOp_hid rfl fun K HK=>?_
      simp only [e0,e1]
      go_simp
      exact HK.out _ _ ⟨Value.slice (some { block:=b,off:=off }) n cap,by simp [upd,e0,e1],HG.out,rfl,fun k u hu=>hu⟩
     ·obtain rfl:=Option.some.inj ho
      clear ho HM
      refine wpOp_hid rfl fun K HK=>?_
      go_simp
      exact HK.out _ _ ⟨Value.slice (some { block:=b,off:=off }) ts.length cap,by simp [upd],HG.out,rfl,fun k u hu=>hu⟩
     ·obtain rfl:=Option.some.inj ho
      clear ho HM
      refine wpOp_hid rfl fun K HK=>?_
      go_simp
      exact HK.out _ _ ⟨Value.int IntKind.i64 (n:Int),by simp [upd],HG.out,rfl,fun k u hu=>hu⟩
     ·obtain rfl:=Option.some.inj ho
      have e4:fq 4=Value.int IntKind.i64 (n:Int):=HM.out { on:=4,ground:=.data } (by simp) rfl
      clear ho HM
      refine wpOp_hid rfl fun K HK=>?_
      simp only [e4]
      go_simp
      exact HK.out _ _ ⟨Value.int IntKind.i64 ((n:Int) + 1),by simp [upd,e4],HG.out,rfl,fun k u hu=>hu⟩
     ·obtain rfl:=Option.some.inj ho
      have e3:fq 3=Value.slice (some { block:=b,off:=off }) ts.length cap:=HM.out { on:=3,ground:=.data } (by simp) rfl
      have e5:fq 5=Value.int IntKind.i64 ((n:Int) + 1):=HM.out { on:=5,ground:=.data } (by simp) rfl
      clear ho HM
      refine wpOp_hid rfl fun K HK=>?_
      simp only [e3,e5]
      go_simp
      exact HK.out _ _ ⟨Value.slice (some ⟨b,off + (n + 1) * 6,none⟩) (ts.length - (n + 1)) (cap - (n + 1)),by simp [upd,e3,e5],HG.out,rfl,fun k u hu=>hu⟩
     ·obtain rfl:=Option.some.inj ho
      have e2:fq 2=Value.slice (some { block:=b,off:=off }) n cap:=HM.out { on:=2,ground:=.data } (by simp) rfl
      have e6:fq 6=Value.slice (some ⟨b,off + (n + 1) * 6,none⟩) (ts.length - (n + 1)) (cap - (n + 1)):=HM.out { on:=6,ground:=.data } (by simp) rfl
      clear ho HM
      refine wpOp_hid rfl fun K HK=>?_
      simp only [e2,e6]
      go_simp
      exact HK.out _ _ ⟨_,by simp [upd,e2,e6],HG.out.alloc HG.out.size _,⟨w'.heap.size,rfl,pts_new2 HP1.out HP2.out HV1.out HV2.out HG.out _⟩,fun k u hu=>V6.below ((Below.refl _ _).alloc (Nat.le_refl _) _) hu⟩
     ·obtain rfl:=Option.some.inj ho
      have q7:=HM.out { on:=7,ground:=.data } (by simp) rfl
      obtain ⟨gb,e7,hPt⟩:=q7
      clear ho HM
      refine wpOp_hid rfl fun K HK=>?_
      simp only [e7]
      go_simp
      refine (concatT_any gb 2 _ w' hPt (by simp) (by rw [HJ.out,← HNX.out]; have:=HNL.out; omega)).mono ?_
      rintro e w3 ⟨v,rfl,hown,hbx⟩
      have hown2:=own_down hown (Nat.le_trans HB2.out.size HG.out.size)
      rw [HJ.out,← HNX.out] at hown2
      exact HK.out _ _ ⟨v,by simp [upd,e7],HG.out.trans (hbx.mono HG.out.size),hown2,fun k u hu=>V6.below hbx hu⟩
     ·obtain rfl:=Option.some.inj ho
      have q8:=HM.out { on:=8,ground:=.data } (by simp) rfl
      clear ho HM
      refine wpOp_hid rfl fun K HK=>?_
      go_simp
      exact HK.out _ _ ⟨fq 8,by simp [upd],HG.out,q8,fun k u hu=>hu⟩
     ·obtain rfl:=Option.some.inj ho
      clear ho HM
      refine wpOp_hid rfl fun K HK=>?_
      go_simp
      exact HK.out _ _ ⟨Value.nilIface,by simp [upd],HG.out,rfl,fun k u hu=>hu⟩
    case finB =>
     rintro fq w' hG hall
     have q9:=hall 9 (by omega)
     have e10:fq 10=.nilIface:=hall 10 (by omega)
     have HO:=toHA q9
     have HBE:Hid (Below w.heap.size w w'):=HB2.out.trans (hG.mono HB2.out.size)
     clear hall hG q9
     rw [e10]
     go_wp2
     exact bodyPost_ret (v:=.tuple #[fq 9,.nilIface]) (by simp [results,Tryz.results52,go_sem]) rfl ⟨HBE.out,.inl ⟨HZ.out,_,rfl,HO.out⟩⟩
  ·have HNX:Hid (nextT ts 1 t=ts.take n ++ t::ts.drop n):=by show _=_; unfold nextT; rw [if_neg (by decide)]; exact low_put HLOW.out
   have HNL:Hid ((nextT ts 1 t).length=ts.length + 1):=by show _=_; unfold nextT; rw [if_neg (by decide),putT_len]
   rcases HS.out.below HB2.out with ⟨rfl,rfl,rfl⟩ | ⟨b,off,rfl,hb,hcap,hr⟩
   ·obtain rfl:n=0:=by simpa using hnl
    have HP1:Hid (Pt.ok w2 ⟨none,0,([]:List Tp).take 0⟩):=.inl ⟨rfl,rfl,rfl⟩
    have HP3:Hid (Pt.ok w2 ⟨none,0,([]:List Tp).drop 0⟩):=.inl ⟨rfl,rfl,rfl⟩
    have HV1:Hid (Pt.v ⟨none,0,([]:List Tp).take 0⟩=Value.slice none 0 0):=rfl
    have HV3:Hid (Pt.v ⟨none,0,([]:List Tp).drop 0⟩=Value.slice none 0 0):=rfl
    have HJ:Hid (∀ gt:Nat,joinP [⟨none,0,([]:List Tp).take 0⟩,⟨some ⟨gt,0,none⟩,1,[t]⟩,⟨none,0,([]:List Tp).drop 0⟩]=([]:List Tp).take 0 ++ t::([]:List Tp).drop 0):=fun gt=>by simp [joinP]
    go_wp2_with fail
    refine wp_region_all 13 (fun n=>(undef::undef::undef::undef::undef::undef::undef::undef::undef::undef::undef::Value.slice none 0 0::Value.nilIface::[]).getD n undef) (fun fq=>{ tmps:=List.toArray (tv::Value.slice none 0 0::Value.agg #[Value.int IntKind.i64 1,Value.string t.a,Value.string t.b,Value.string t.r,Value.string t.c,Value.string t.d,Value.string t.s]::undef::undef::Value.pointer (some { block:=w.heap.size,off:=0 })::(fq 11)::(fq 12)::Value.nilIface::Value.int IntKind.i64 ((0:Nat):Int)::Value.bool q::tv::Value.slice none 0 0::Value.agg #[Value.int IntKind.i64 1,Value.string t.a,Value.string t.b,Value.string t.r,Value.string t.c,Value.string t.d,Value.string t.s]::Value.nilIface::Value.nilIface::Value.bool false::undef::undef::undef::undef::undef::undef::Value.tuple #[Value.int IntKind.i64 ((0:Nat):Int),Value.bool q]::Value.slice none 0 0::Value.pointer (some { block:=w.heap.size,off:=1 })::Value.agg #[Value.string t.a,Value.string t.b,Value.string t.r,Value.string t.c,Value.string t.d,Value.string t.s]::Value.tuple #[Value.int IntKind.i64 ((0:Nat):Int),Value.bool q]::Value.int IntKind.i64 ((0:Nat):Int)::Value.bool q::Value.pointer (some { block:=w.heap.size,off:=0 })::Value.int IntKind.i64 1::Value.bool false::undef::undef::undef::undef::undef::undef::undef::undef::undef::(fq 0)::(fq 1)::(fq 2)::(fq 3)::(fq 4)::(fq 5)::(fq 6)::(fq 7)::(fq 8)::(fq 9)::(fq 10)::[]),defers:=[] }) (V7 (Value.slice none 0 0) 0 (Value.slice (none) 0 (0)) (Value.pointer (some { block:=w.heap.size,off:=1 })) (Value.slice (none) (0) (0)) ⟨none,0,([]:List Tp).take 0⟩ ⟨none,0,([]:List Tp).drop 0⟩ w.heap.size t (nextT [] 1 t)) (fun w'=>Below w2.heap.size w2 w') (by kernel_rfl) rfl (by kernel_rfl) rfl (Below.refl _ _).drew ?stepC ?finC
    case stepC =>
     rintro i hi o ho fq w' hG hpre
     have HG:Hid (Below w2.heap.size w2 w'):=hG
     have HM:Hid (∀ e ∈ o.after,Region.binds .any e=true→_):=hpre
     have HX':=toHA (HX2.out.below hG)
     clear hG hpre x0 x1 x2 x3 x4 x5 x6 xl
     obtain ⟨x0,x1,x2,x3,x4,x5,x6,xl⟩:=HX'.out
     have hc:i=0 ∨ i=1 ∨ i=2 ∨ i=3 ∨ i=4 ∨ i=5 ∨ i=6 ∨ i=7 ∨ i=8 ∨ i=9 ∨ i=10 ∨ i=11 ∨ i=12:=by omega
     clear hi
     rcases hc with rfl | rfl | rfl | rfl | rfl | rfl | rfl | rfl | rfl | rfl | rfl | rfl | rfl
     ·obtain rfl:=Option.some.inj ho
      clear ho HM
      refine wpOp_hid rfl fun K HK=>?_
      go_simp
      exact HK.out _ _ ⟨Value.slice none 0 0,by simp [upd],HG.out,rfl,fun k u hu=>hu⟩
     ·obtain rfl:=Option.some.inj ho
      clear ho HM
      refine wpOp_hid rfl fun K HK=>?_
      go_simp
      exact HK.out _ _ ⟨Value.int IntKind.i64 ((0:Nat):Int),by simp [upd],HG.out,rfl,fun k u hu=>hu⟩
     ·obtain rfl:=Option.some.inj ho
      have e0:fq 0=Value.slice none 0 0:=HM.out { on:=0,ground:=.data } (by simp) rfl
      have e1:fq 1=Value.int IntKind.i64 ((0:Nat):Int):=HM.out { on:=1,ground:=.data } (by simp) rfl
      clear ho HM
      refine wpOp_hid rfl fun K HK=>?_
      simp only [e0,e1]
      go_simp
      exact HK.out _ _ ⟨Value.slice (none) 0 (0),by simp [upd,e0,e1],HG.out,rfl,fun k u hu=>hu⟩
     ·obtain rfl:=Option.some.inj ho
      clear ho HM
      refine wpOp_hid rfl fun K HK=>?_
      go_simp
      exact HK.out _ _ ⟨Value.pointer (some { block:=w.heap.size,off:=1 }),by simp [upd],HG.out,rfl,fun k u hu=>hu⟩
     ·obtain rfl:=Option.some.inj ho
      have e3:fq 3=Value.pointer (some { block:=w.heap.size,off:=1 }):=HM.out { on:=3,ground:=.data } (by simp) rfl
      clear ho HM
      refine wpOp_hid rfl fun K HK=>?_
      simp only [e3]
      go_simp
      exact HK.out _ _ ⟨Value.agg #[Value.string t.a,Value.string t.b,Value.string t.r,Value.string t.c,Value.string t.d,Value.string t.s],by simp [upd,e3],HG.out,rfl,fun k u hu=>hu⟩
     ·obtain rfl:=Option.some.inj ho
      have e4:fq 4=Value.agg #[Value.string t.a,Value.string t.b,Value.string t.r,Value.string t.c,Value.string t.d,Value.string t.s]:=HM.out { on:=4,ground:=.data } (by simp) rfl
      clear ho HM
      refine wpOp_hid rfl fun K HK=>?_
      simp only [e4]
      go_simp
      exact HK.out _ _ ⟨_,by simp [upd,e4],HG.out.alloc HG.out.size _,⟨w'.heap.size,rfl,row1_new w' t _⟩,fun k u hu=>V7.below ((Below.refl _ _).alloc (Nat.le_refl _) _) hu⟩
     ·obtain rfl:=Option.some.inj ho
      clear ho HM
      refine wpOp_hid rfl fun K HK=>?_
      go_simp
      exact HK.out _ _ ⟨Value.slice none 0 0,by simp [upd],HG.out,rfl,fun k u hu=>hu⟩
     ·obtain rfl:=Option.some.inj ho
      clear ho HM
      refine wpOp_hid rfl fun K HK=>?_
      go_simp
      exact HK.out _ _ ⟨Value.int IntKind.i64 ((0:Nat):Int),by simp [upd],HG.out,rfl,fun k u hu=>hu⟩
     ·obtain rfl:=Option.some.inj ho
      have e6:fq 6=Value.slice none 0 0:=HM.out { on:=6,ground:=.data } (by simp) rfl
      have e7:fq 7=Value.int IntKind.i64 ((0:Nat):Int):=HM.out { on:=7,ground:=.data } (by simp) rfl
      clear ho HM
      refine wpOp_hid rfl fun K HK=>?_
      simp only [e6,e7]
      go_simp
      exact HK.out _ _ ⟨Value.slice (none) (0) (0),by simp [upd,e6,e7],HG.out,rfl,fun k u hu=>hu⟩
     ·obtain rfl:=Option.some.inj ho
      have e2:fq 2=Value.slice (none) 0 (0):=HM.out { on:=2,ground:=.data } (by simp) rfl
      have q5:=HM.out { on:=5,ground:=.data } (by simp) rfl
      have e8:fq 8=Value.slice (none) (0) (0):=HM.out { on:=8,ground:=.data } (by simp) rfl
      obtain ⟨gt,e5,hgt⟩:=q5
      clear ho HM
      refine wpOp_hid rfl fun K HK=>?_
      simp only [e2,e8,e5]
      go_simp
      exact HK.out _ _ ⟨_,by simp [upd,e2,e5,e8],HG.out.alloc HG.out.size _,⟨w'.heap.size,gt,rfl,pts_new3 HP1.out HP3.out HV1.out HV3.out HG.out hgt _⟩,fun k u hu=>V7.below ((Below.refl _ _).alloc (Nat.le_refl _) _) hu⟩
     ·obtain rfl:=Option.some.inj ho
      have q9:=HM.out { on:=9,ground:=.data } (by simp) rfl
      obtain ⟨gb,gt,e9,hPt⟩:=q9
      clear ho HM
      refine wpOp_hid rfl fun K HK=>?_
      simp only [e9]
      go_simp
      refine (concatT_any gb 3 _ w' hPt (by simp) (by rw [HJ.out gt,← HNX.out,HNL.out]; omega)).mono ?_
      rintro e w3 ⟨v,rfl,hown,hbx⟩
      have hown2:=own_down hown (Nat.le_trans HB2.out.size HG.out.size)
      rw [HJ.out gt,← HNX.out] at hown2
      exact HK.out _ _ ⟨v,by simp [upd,e9],HG.out.trans (hbx.mono HG.out.size),hown2,fun k u hu=>V7.below hbx hu⟩
     ·obtain rfl:=Option.some.inj ho
      have q10:=HM.out { on:=10,ground:=.data } (by simp) rfl
      clear ho HM
      refine wpOp_hid rfl fun K HK=>?_
      go_simp
      exact HK.out _ _ ⟨fq 10,by simp [upd],HG.out,q10,fun k u hu=>hu⟩
     ·obtain rfl:=Option.some.inj ho
      clear ho HM
      refine wpOp_hid rfl fun K HK=>?_
      go_simp
      exact HK.out _ _ ⟨Value.nilIface,by simp [upd],HG.out,rfl,fun k u hu=>hu⟩
    case finC =>
     rintro fq w' hG hall
     have q11:=hall 11 (by omega)
     have e12:fq 12=.nilIface:=hall 12 (by omega)
     have HO:=toHA q11
     have HBE:Hid (Below w.heap.size w w'):=HB2.out.trans (hG.mono HB2.out.size)
     clear hall hG q11
     rw [e12]
     go_wp2
     exact bodyPost_ret (v:=.tuple #[fq 11,.nilIface]) (by simp [results,Tryz.results52,go_sem]) rfl ⟨HBE.out,.inl ⟨HZ.out,_,rfl,HO.out⟩⟩
   ·have HR:=toHA hr
    clear hr
    by_cases hcn:cap=n
    ·subst hcn
     have hlz:ts.length - cap=0:=by omega
     have HP1:Hid (Pt.ok w2 ⟨some ⟨b,off,none⟩,cap,ts.take cap⟩):=.inr ⟨b,off,rfl,fun _=>hb,row_take HR.out⟩
     have HP3:Hid (Pt.ok w2 ⟨some ⟨b,off,none⟩,0,ts.drop cap⟩):=.inr ⟨b,off,rfl,fun _=>hb,row_none (List.drop_eq_nil_of_le (by omega))⟩
     have HV1:Hid (Pt.v ⟨some ⟨b,off,none⟩,cap,ts.take cap⟩=Value.slice (some ⟨b,off,none⟩) cap cap):=by show _=_; unfold Pt.v; simp only [List.length_take]; rw [Nat.min_eq_left hnl]
     have HV3:Hid (Pt.v ⟨some ⟨b,off,none⟩,0,ts.drop cap⟩=Value.slice (some ⟨b,off,none⟩) 0 0):=by show _=_; unfold Pt.v; simp only [List.length_drop]; rw [hlz]
     have HJ:Hid (∀ gt:Nat,joinP [⟨some ⟨b,off,none⟩,cap,ts.take cap⟩,⟨some ⟨gt,0,none⟩,1,[t]⟩,⟨some ⟨b,off,none⟩,0,ts.drop cap⟩]=ts.take cap ++ t::ts.drop cap):=fun gt=>by simp [joinP]
     have hnl2:(cap:Int)≤(ts.length:Int):=by omega
     go_wp2_with fail
     refine wp_region_all 13 (fun n=>(undef::undef::undef::undef::undef::undef::undef::undef::undef::undef::undef::Value.slice none 0 0::Value.nilIface::[]).getD n undef) (fun fq=>{ tmps:=List.toArray (tv::Value.slice (some { block:=b,off:=off }) ts.length cap::Value.agg #[Value.int IntKind.i64 1,Value.string t.a,Value.string t.b,Value.string t.r,Value.string t.c,Value.string t.d,Value.string t.s]::undef::undef::Value.pointer (some { block:=w.heap.size,off:=0 })::(fq 11)::(fq 12)::Value.nilIface::Value.int IntKind.i64 (cap:Int)::Value.bool q::tv::Value.slice (some { block:=b,off:=off }) ts.length cap::Value.agg #[Value.int IntKind.i64 1,Value.string t.a,Value.string t.b,Value.string t.r,Value.string t.c,Value.string t.d,Value.string t.s]::Value.nilIface::Value.nilIface::Value.bool false::undef::undef::undef::undef::undef::undef::Value.tuple #[Value.int IntKind.i64 (cap:Int),Value.bool q]::Value.slice (some { block:=b,off:=off }) ts.length cap::Value.pointer (some { block:=w.heap.size,off:=1 })::Value.agg #[Value.string t.a,Value.string t.b,Value.string t.r,Value.string t.c,Value.string t.d,Value.string t.s]::Value.tuple #[Value.int IntKind.i64 (cap:Int),Value.bool q]::Value.int IntKind.i64 (cap:Int)::Value.bool q::Value.pointer (some { block:=w.heap.size,off:=0 })::Value.int IntKind.i64 1::Value.bool false::undef::undef::undef::undef::undef::undef::undef::undef::undef::(fq 0)::(fq 1)::(fq 2)::(fq 3)::(fq 4)::(fq 5)::(fq 6)::(fq 7)::(fq 8)::(fq 9)::(fq 10)::[]),defers:=[] }) (V7 (Value.slice (some { block:=b,off:=off }) ts.length cap) cap (Value.slice (some ⟨b,off,none⟩) cap (cap)) (Value.pointer (some { block:=w.heap.size,off:=1 })) (Value.slice (some ⟨b,off,none⟩) (0) (0)) ⟨some ⟨b,off,none⟩,cap,ts.take cap⟩ ⟨some ⟨b,off,none⟩,0,ts.drop cap⟩ w.heap.size t (nextT ts 1 t)) (fun w'=>Below w2.heap.size w2 w') (by kernel_rfl) rfl (by kernel_rfl) rfl (Below.refl _ _).drew ?stepD ?finD
     case stepD =>
      rintro i hi o ho fq w' hG hpre
      have HG:Hid (Below w2.heap.size w2 w'):=hG
      have HM:Hid (∀ e ∈ o.after,Region.binds .any e=true→_):=hpre
      have HX':=toHA (HX2.out.below hG)
      clear hG hpre x0 x1 x2 x3 x4 x5 x6 xl
      obtain ⟨x0,x1,x2,x3,x4,x5,x6,xl⟩:=HX'.out
      have hc:i=0 ∨ i=1 ∨ i=2 ∨ i=3 ∨ i=4 ∨ i=5 ∨ i=6 ∨ i=7 ∨ i=8 ∨ i=9 ∨ i=10 ∨ i=11 ∨ i=12:=by omega
      clear hi
      rcases hc with rfl | rfl | rfl | rfl | rfl | rfl | rfl | rfl | rfl | rfl | rfl | rfl | rfl
      ·obtain rfl:=Option.some.inj ho
       clear ho HM
       refine wpOp_hid rfl fun K HK=>?_
       go_simp
       exact HK.out _ _ ⟨Value.slice (some { block:=b,off:=off }) ts.length cap,by simp [upd],HG.out,rfl,fun k u hu=>hu⟩
      ·obtain rfl:=Option.some.inj ho
       clear ho HM
       refine wpOp_hid rfl fun K HK=>?_
       go_simp
       exact HK.out _ _ ⟨Value.int IntKind.i64 (cap:Int),by simp [upd],HG.out,rfl,fun k u hu=>hu⟩
      ·obtain rfl:=Option.some.inj ho
       have e0:fq 0=Value.slice (some { block:=b,off:=off }) ts.length cap:=HM.out { on:=0,ground:=.data } (by simp) rfl
       have e1:fq 1=Value.int IntKind.i64 (cap:Int):=HM.out { on:=1,ground:=.data } (by simp) rfl
       clear ho HM
       refine wpOp_hid rfl fun K HK=>?_
       simp only [e0,e1]
       go_simp
       exact HK.out _ _ ⟨Value.slice (some ⟨b,off,none⟩) cap (cap),by simp [upd,e0,e1],HG.out,rfl,fun k u hu=>hu⟩
      ·obtain rfl:=Option.some.inj ho
       clear ho HM
       refine wpOp_hid rfl fun K HK=>?_
       go_simp
       exact HK.out _ _ ⟨Value.pointer (some { block:=w.heap.size,off:=1 }),by simp [upd],HG.out,rfl,fun k u hu=>hu⟩
      ·obtain rfl:=Option.some.inj ho
       have e3:fq 3=Value.pointer (some { block:=w.heap.size,off:=1 }):=HM.out { on:=3,ground:=.data } (by simp) rfl
       clear ho HM
       refine wpOp_hid rfl fun K HK=>?_
       simp only [e3]
       go_simp
       exact HK.out _ _ ⟨Value.agg #[Value.string t.a,Value.string t.b,Value.string t.r,Value.string t.c,Value.string t.d,Value.string t.s],by simp [upd,e3],HG.out,rfl,fun k u hu=>hu⟩
      ·obtain rfl:=Option.some.inj ho
       have e4:fq 4=Value.agg #[Value.string t.a,Value.string t.b,Value.string t.r,Value.string t.c,Value.string t.d,Value.string t.s]:=HM.out { on:=4,ground:=.data } (by simp) rfl
       clear ho HM
       refine wpOp_hid rfl fun K HK=>?_
       simp only [e4]
       go_simp
       exact HK.out _ _ ⟨_,by simp [upd,e4],HG.out.alloc HG.out.size _,⟨w'.heap.size,rfl,row1_new w' t _⟩,fun k u hu=>V7.below ((Below.refl _ _).alloc (Nat.le_refl _) _) hu⟩
      ·obtain rfl:=Option.some.inj ho
       clear ho HM
       refine wpOp_hid rfl fun K HK=>?_
       go_simp
       exact HK.out _ _ ⟨Value.slice (some { block:=b,off:=off }) ts.length cap,by simp [upd],HG.out,rfl,fun k u hu=>hu⟩
      ·obtain rfl:=Option.some.inj ho
       clear ho HM
       refine wpOp_hid rfl fun K HK=>?_
       go_simp
       exact HK.out _ _ ⟨Value.int IntKind.i64 (cap:Int),by simp [upd],HG.out,rfl,fun k u hu=>hu⟩
      ·obtain rfl:=Option.some.inj ho
       have e6:fq 6=Value.slice (some { block:=b,off:=off }) ts.length cap:=HM.out { on:=6,ground:=.data } (by simp) rfl
       have e7:fq 7=Value.int IntKind.i64 (cap:Int):=HM.out { on:=7,ground:=.data } (by simp) rfl
       clear ho HM
       refine wpOp_hid rfl fun K HK=>?_
       simp only [e6,e7]
       go_simp
       exact HK.out _ _ ⟨Value.slice (some ⟨b,off,none⟩) (0) (0),by simp [upd,e6,e7],HG.out,rfl,fun k u hu=>hu⟩
      ·obtain rfl:=Option.some.inj ho
       have e2:fq 2=Value.slice (some ⟨b,off,none⟩) cap (cap):=HM.out { on:=2,ground:=.data } (by simp) rfl
       have q5:=HM.out { on:=5,ground:=.data } (by simp) rfl
       have e8:fq 8=Value.slice (some ⟨b,off,none⟩) (0) (0):=HM.out { on:=8,ground:=.data } (by simp) rfl
       obtain ⟨gt,e5,hgt⟩:=q5
       clear ho HM
       refine wpOp_hid rfl fun K HK=>?_
       simp only [e2,e8,e5]
       go_simp
       exact HK.out _ _ ⟨_,by simp [upd,e2,e5,e8],HG.out.alloc HG.out.size _,⟨w'.heap.size,gt,rfl,pts_new3 HP1.out HP3.out HV1.out HV3.out HG.out hgt _⟩,fun k u hu=>V7.below ((Below.refl _ _).alloc (Nat.le_refl _) _) hu⟩
      ·obtain rfl:=Option.some.inj ho
       have q9:=HM.out { on:=9,ground:=.data } (by simp) rfl
       obtain ⟨gb,gt,e9,hPt⟩:=q9
       clear ho HM
       refine wpOp_hid rfl fun K HK=>?_
       simp only [e9]
       go_simp
       refine (concatT_any gb 3 _ w' hPt (by simp) (by rw [HJ.out gt,← HNX.out,HNL.out]; omega)).mono ?_
       rintro e w3 ⟨v,rfl,hown,hbx⟩
       have hown2:=own_down hown (Nat.le_trans HB2.out.size HG.out.size)
       rw [HJ.out gt,← HNX.out] at hown2
       exact HK.out _ _ ⟨v,by simp [upd,e9],HG.out.trans (hbx.mono HG.out.size),hown2,fun k u hu=>V7.below hbx hu⟩
      ·obtain rfl:=Option.some.inj ho
       have q10:=HM.out { on:=10,ground:=.data } (by simp) rfl
       clear ho HM
       refine wpOp_hid rfl fun K HK=>?_
       go_simp
       exact HK.out _ _ ⟨fq 10,by simp [upd],HG.out,q10,fun k u hu=>hu⟩
      ·obtain rfl:=Option.some.inj ho
       clear ho HM
       refine wpOp_hid rfl fun K HK=>?_
       go_simp
       exact HK.out _ _ ⟨Value.nilIface,by simp [upd],HG.out,rfl,fun k u hu=>hu⟩
     case finD =>
      rintro fq w' hG hall
      have q11:=hall 11 (by omega)
      have e12:fq 12=.nilIface:=hall 12 (by omega)
      have HO:=toHA q11
      have HBE:Hid (Below w.heap.size w w'):=HB2.out.trans (hG.mono HB2.out.size)
      clear hall hG q11
      rw [e12]
      go_wp2
      exact bodyPost_ret (v:=.tuple #[fq 11,.nilIface]) (by simp [results,Tryz.results52,go_sem]) rfl ⟨HBE.out,.inl ⟨HZ.out,_,rfl,HO.out⟩⟩
    ·have HP1:Hid (Pt.ok w2 ⟨some ⟨b,off,none⟩,cap,ts.take n⟩):=.inr ⟨b,off,rfl,fun _=>hb,row_take HR.out⟩
     have HP3:Hid (Pt.ok w2 ⟨some ⟨b,off + n * 6,none⟩,cap - n,ts.drop n⟩):=.inr ⟨b,off + n * 6,rfl,fun _=>hb,row_drop HR.out⟩
     have HV1:Hid (Pt.v ⟨some ⟨b,off,none⟩,cap,ts.take n⟩=Value.slice (some ⟨b,off,none⟩) n cap):=by show _=_; unfold Pt.v; simp only [List.length_take]; rw [Nat.min_eq_left hnl]
     have HV3:Hid (Pt.v ⟨some ⟨b,off + n * 6,none⟩,cap - n,ts.drop n⟩=Value.slice (some ⟨b,off + n * 6,none⟩) (ts.length - n) (cap - n)):=by show _=_; unfold Pt.v; simp only [List.length_drop]
     have HJ:Hid (∀ gt:Nat,joinP [⟨some ⟨b,off,none⟩,cap,ts.take n⟩,⟨some ⟨gt,0,none⟩,1,[t]⟩,⟨some ⟨b,off + n * 6,none⟩,cap - n,ts.drop n⟩]=ts.take n ++ t::ts.drop n):=fun gt=>by simp [joinP]
     have hnl2:(n:Int)≤(ts.length:Int):=by omega
     have hnl3:(n:Int)≤(cap:Int):=by omega
     go_wp2_with fail
     refine wp_region_all 13 (fun n=>(undef::undef::undef::undef::undef::undef::undef::undef::undef::undef::undef::Value.slice none 0 0::Value.nilIface::[]).getD n undef) (fun fq=>{ tmps:=List.toArray (tv::Value.slice (some { block:=b,off:=off }) ts.length cap::Value.agg #[Value.int IntKind.i64 1,Value.string t.a,Value.string t.b,Value.string t.r,Value.string t.c,Value.string t.d,Value.string t.s]::undef::undef::Value.pointer (some { block:=w.heap.size,off:=0 })::(fq 11)::(fq 12)::Value.nilIface::Value.int IntKind.i64 (n:Int)::Value.bool q::tv::Value.slice (some { block:=b,off:=off }) ts.length cap::Value.agg #[Value.int IntKind.i64 1,Value.string t.a,Value.string t.b,Value.string t.r,Value.string t.c,Value.string t.d,Value.string t.s]::Value.nilIface::Value.nilIface::Value.bool false::undef::undef::undef::undef::undef::undef::Value.tuple #[Value.int IntKind.i64 (n:Int),Value.bool q]::Value.slice (some { block:=b,off:=off }) ts.length cap::Value.pointer (some { block:=w.heap.size,off:=1 })::Value.agg #[Value.string t.a,Value.string t.b,Value.string t.r,Value.string t.c,Value.string t.d,Value.string t.s]::Value.tuple #[Value.int IntKind.i64 (n:Int),Value.bool q]::Value.int IntKind.i64 (n:Int)::Value.bool q::Value.pointer (some { block:=w.heap.size,off:=0 })::Value.int IntKind.i64 1::Value.bool false::undef::undef::undef::undef::undef::undef::undef::undef::undef::(fq 0)::(fq 1)::(fq 2)::(fq 3)::(fq 4)::(fq 5)::(fq 6)::(fq 7)::(fq 8)::(fq 9)::(fq 10)::[]),defers:=[] }) (V7 (Value.slice (some { block:=b,off:=off }) ts.length cap) n (Value.slice (some ⟨b,off,none⟩) n (cap)) (Value.pointer (some { block:=w.heap.size,off:=1 })) (Value.slice (some ⟨b,off + n * 6,none⟩) (ts.length - n) (cap - n)) ⟨some ⟨b,off,none⟩,cap,ts.take n⟩ ⟨some ⟨b,off + n * 6,none⟩,cap - n,ts.drop n⟩ w.heap.size t (nextT ts 1 t)) (fun w'=>Below w2.heap.size w2 w') (by kernel_rfl) rfl (by kernel_rfl) rfl (Below.refl _ _).drew ?stepE ?finE
     case stepE =>
      rintro i hi o ho fq w' hG hpre
      have HG:Hid (Below w2.heap.size w2 w'):=hG
      have HM:Hid (∀ e ∈ o.after,Region.binds .any e=true→_):=hpre
      have HX':=toHA (HX2.out.below hG)
      clear hG hpre x0 x1 x2 x3 x4 x5 x6 xl
      obtain ⟨x0,x1,x2,x3,x4,x5,x6,xl⟩:=HX'.out
      have hc:i=0 ∨ i=1 ∨ i=2 ∨ i=3 ∨ i=4 ∨ i=5 ∨ i=6 ∨ i=7 ∨ i=8 ∨ i=9 ∨ i=10 ∨ i=11 ∨ i=12:=by omega
      clear hi
      rcases hc with rfl | rfl | rfl | rfl | rfl | rfl | rfl | rfl | rfl | rfl | rfl | rfl | rfl
      ·obtain rfl:=Option.some.inj ho
       clear ho HM
       refine wpOp_hid rfl fun K HK=>?_
       go_simp
       exact HK.out _ _ ⟨Value.slice (some { block:=b,off:=off }) ts.length cap,by simp [upd],HG.out,rfl,fun k u hu=>hu⟩
      ·obtain rfl:=Option.some.inj ho
       clear ho HM
       refine wpOp_hid rfl fun K HK=>?_
       go_simp
       exact HK.out _ _ ⟨Value.int IntKind.i64 (n:Int),by simp [upd],HG.out,rfl,fun k u hu=>hu⟩
      ·obtain rfl:=Option.some.inj ho
       have e0:fq 0=Value.slice (some { block:=b,off:=off }) ts.length cap:=HM.out { on:=0,ground:=.data } (by simp) rfl
       have e1:fq 1=Value.int IntKind.i64 (n:Int):=HM.out { on:=1,ground:=.data } (by simp) rfl
       clear ho HM
       refine wpOp_hid rfl fun K HK=>?_
       simp only [e0,e1]
       go_simp
       exact HK.out _ _ ⟨Value.slice (some ⟨b,off,none⟩) n (cap),by simp [upd,e0,e1],HG.out,rfl,fun k u hu=>hu⟩
      ·obtain rfl:=Option.some.inj ho
       clear ho HM
       refine wpOp_hid rfl fun K HK=>?_
       go_simp
       exact HK.out _ _ ⟨Value.pointer (some { block:=w.heap.size,off:=1 }),by simp [upd],HG.out,rfl,fun k u hu=>hu⟩
      ·obtain rfl:=Option.some.inj ho
       have e3:fq 3=Value.pointer (some { block:=w.heap.size,off:=1 }):=HM.out { on:=3,ground:=.data } (by simp) rfl
       clear ho HM
       refine wpOp_hid rfl fun K HK=>?_
       simp only [e3]
       go_simp
       exact HK.out _ _ ⟨Value.agg #[Value.string t.a,Value.string t.b,Value.string t.r,Value.string t.c,Value.string t.d,Value.string t.s],by simp [upd,e3],HG.out,rfl,fun k u hu=>hu⟩
      ·obtain rfl:=Option.some.inj ho
       have e4:fq 4=Value.agg #[Value.string t.a,Value.string t.b,Value.string t.r,Value.string t.c,Value.string t.d,Value.string t.s]:=HM.out { on:=4,ground:=.data } (by simp) rfl
       clear ho HM
       refine wpOp_hid rfl fun K HK=>?_
       simp only [e4]
       go_simp
       exact HK.out _ _ ⟨_,by simp [upd,e4],HG.out.alloc HG.out.size _,⟨w'.heap.size,rfl,row1_new w' t _⟩,fun k u hu=>V7.below ((Below.refl _ _).alloc (Nat.le_refl _) _) hu⟩
      ·obtain rfl:=Option.some.inj ho
       clear ho HM
       refine wpOp_hid rfl fun K HK=>?_
       go_simp
       exact HK.out _ _ ⟨Value.slice (some { block:=b,off:=off }) ts.length cap,by simp [upd],HG.out,rfl,fun k u hu=>hu⟩
      ·obtain rfl:=Option.some.inj ho
       clear ho HM
       refine wpOp_hid rfl fun K HK=>?_
       go_simp
       exact HK.out _ _ ⟨Value.int IntKind.i64 (n:Int),by simp [upd],HG.out,rfl,fun k u hu=>hu⟩
      ·obtain rfl:=Option.some.inj ho
       have e6:fq 6=Value.slice (some { block:=b,off:=off }) ts.length cap:=HM.out { on:=6,ground:=.data } (by simp) rfl
       have e7:fq 7=Value.int IntKind.i64 (n:Int):=HM.out { on:=7,ground:=.data } (by simp) rfl
       clear ho HM
       refine wpOp_hid rfl fun K HK=>?_
       simp only [e6,e7]
       go_simp
       exact HK.out _ _ ⟨Value.slice (some ⟨b,off + n * 6,none⟩) (ts.length - n) (cap - n),by simp [upd,e6,e7],HG.out,rfl,fun k u hu=>hu⟩
      ·obtain rfl:=Option.some.inj ho
       have e2:fq 2=Value.slice (some ⟨b,off,none⟩) n (cap):=HM.out { on:=2,ground:=.data } (by simp) rfl
       have q5:=HM.out { on:=5,ground:=.data } (by simp) rfl
       have e8:fq 8=Value.slice (some ⟨b,off + n * 6,none⟩) (ts.length - n) (cap - n):=HM.out { on:=8,ground:=.data } (by simp) rfl
       obtain ⟨gt,e5,hgt⟩:=q5
       clear ho HM
       refine wpOp_hid rfl fun K HK=>?_
       simp only [e2,e8,e5]
       go_simp
       exact HK.out _ _ ⟨_,by simp [upd,e2,e5,e8],HG.out.alloc HG.out.size _,⟨w'.heap.size,gt,rfl,pts_new3 HP1.out HP3.out HV1.out HV3.out HG.out hgt _⟩,fun k u hu=>V7.below ((Below.refl _ _).alloc (Nat.le_refl _) _) hu⟩
      ·obtain rfl:=Option.some.inj ho
       have q9:=HM.out { on:=9,ground:=.data } (by simp) rfl
       obtain ⟨gb,gt,e9,hPt⟩:=q9
       clear ho HM
       refine wpOp_hid rfl fun K HK=>?_
       simp only [e9]
       go_simp
       refine (concatT_any gb 3 _ w' hPt (by simp) (by rw [HJ.out gt,← HNX.out,HNL.out]; omega)).mono ?_
       rintro e w3 ⟨v,rfl,hown,hbx⟩
       have hown2:=own_down hown (Nat.le_trans HB2.out.size HG.out.size)
       rw [HJ.out gt,← HNX.out] at hown2
       exact HK.out _ _ ⟨v,by simp [upd,e9],HG.out.trans (hbx.mono HG.out.size),hown2,fun k u hu=>V7.below hbx hu⟩
      ·obtain rfl:=Option.some.inj ho
       have q10:=HM.out { on:=10,ground:=.data } (by simp) rfl
       clear ho HM
       refine wpOp_hid rfl fun K HK=>?_
       go_simp
       exact HK.out _ _ ⟨fq 10,by simp [upd],HG.out,q10,fun k u hu=>hu⟩
      ·obtain rfl:=Option.some.inj ho
       clear ho HM
       refine wpOp_hid rfl fun K HK=>?_
       go_simp
       exact HK.out _ _ ⟨Value.nilIface,by simp [upd],HG.out,rfl,fun k u hu=>hu⟩
     case finE =>
      rintro fq w' hG hall
      have q11:=hall 11 (by omega)
      have e12:fq 12=.nilIface:=hall 12 (by omega)
      have HO:=toHA q11
      have HBE:Hid (Below w.heap.size w w'):=HB2.out.trans (hG.mono HB2.out.size)
      clear hall hG q11
      rw [e12]
      go_wp2
      exact bodyPost_ret (v:=.tuple #[fq 11,.nilIface]) (by simp [results,Tryz.results52,go_sem]) rfl ⟨HBE.out,.inl ⟨HZ.out,_,rfl,HO.out⟩⟩
 ·have HZ:Hid (codeT fit ts k t ≠ 0):=by show _ ≠ _; rw [hz]; omega
  have HCE:Hid (w.cell? ⟨(codeT fit ts k t).toNat,0,none⟩=some (.iface T u)):=by
   show _=_
   rw [hz,Int.toNat_natCast]
   exact (HB0.out.cell (p:=⟨g,0,none⟩) (HE.out g hg2 hg6).1).symm.trans hc
  clear hz hc hb1 HX0 HB0
  have hsz1:w.heap.size≤w1.heap.size:=HB1.out.size
  rcases HS.out.below HB1.out with ⟨rfl,rfl,rfl⟩ | ⟨b,off,rfl,hb,hcap,hr⟩
  ·obtain ⟨w4,hw4⟩:∃ w4,w4=w1.alloc (.cells #[.iface T u,.slice none 0 0] 77):=⟨_,rfl⟩
   have HBE:Hid (Below w.heap.size w w4):=by show Below _ _ _; rw [hw4]; exact HB1.out.alloc hsz1 _
   have HC4:Hid (w4.cell? ⟨w1.heap.size,0,none⟩=some (.iface T u)∧w4.cell? ⟨w1.heap.size,1,none⟩=some (.slice none 0 0)):=by show _∧_; rw [hw4]; constructor <;> simp
   go_wp2_with (at_builtin; refine wpList_append_own_none rfl _ _ 25 rfl w1.heap.size 29 iT 6 Tryz.underlying25 HIT.out.1 _ _ _ rfl (World.ownsRow_nil _ _ _ _) rfl ?_)
   go_wp2
   rw [← hw4]
   exact bodyPost_ret (v:=.tuple #[.slice none 0 0,.iface 73 (.pointer (some ⟨w1.heap.size,0,none⟩))]) (by simp [results,Tryz.results52,go_sem]) rfl ⟨HBE.out,.inr ⟨HZ.out,w1.heap.size,T,u,_,rfl,hsz1,HC4.out.1,HCE.out,HC4.out.2,World.ownsRow_nil _ _ _ _⟩⟩
  ·have HR:=toHA hr
   clear hr
   go_wp2_with (at_builtin; refine wpList_append_own _ rfl _ _ 25 rfl w.heap.size 29 iT (.agg #[.string ⟨#[]⟩,.string ⟨#[]⟩,.string ⟨#[]⟩,.string ⟨#[]⟩,.string ⟨#[]⟩,.string ⟨#[]⟩]) 6 96 Tryz.underlying25 HIT.out.1 HIT.out.2.1 HIT.out.2.2.1 HIT.out.2.2.2 rfl (by decide) _ 0 (rows6 []) rfl (World.ownsRow_nil _ _ _ _) ⟨b,off,none⟩ ts.length cap (rows6 ts) rfl (rows6_len ts) (row6_cells HR.out) (rows6_one _) (by unfold maxLen; omega) (by omega) hsz1 ?_)
   intro v' w3 hown hgr _
   have HO3:Hid (w3.ownsRow w.heap.size 29 6 v' ts.length (rows6 ts)):=by
    show World.ownsRow _ _ _ _ _ _ _
    simpa [rows6] using hown
   have HB3:Hid (Below w.heap.size w w3):=HB1.out.grown hgr hsz1 (fun g hg=>by simp [Value.ownBlock] at hg)
   have hsz3:w.heap.size≤w3.heap.size:=HB3.out.size
   obtain ⟨adv,cv,hv⟩:∃ a c,v'=.slice a ts.length c:=by
    rcases HO3.out.2 with ⟨e,h0⟩ | ⟨g,c,cur,e,-⟩
    ·exact ⟨none,0,by rw [e,h0]⟩
    ·exact ⟨_,_,e⟩
   subst hv
   obtain ⟨w4,hw4⟩:∃ w4,w4=w3.alloc (.cells #[.iface T u,.slice adv ts.length cv] 77):=⟨_,rfl⟩
   have HBE:Hid (Below w.heap.size w w4):=by show Below _ _ _; rw [hw4]; exact HB3.out.alloc hsz3 _
   have HC4:Hid (w4.cell? ⟨w3.heap.size,0,none⟩=some (.iface T u)∧w4.cell? ⟨w3.heap.size,1,none⟩=some (.slice adv ts.length cv)):=by show _∧_; rw [hw4]; constructor <;> simp
   have HO4:Hid (w4.ownsRow w.heap.size 29 6 (.slice adv ts.length cv) ts.length (rows6 ts)):=by show World.ownsRow _ _ _ _ _ _ _; rw [hw4]; exact HO3.out.alloc _
   clear hown hgr
   go_wp2
   rw [← hw4]
   exact bodyPost_ret (v:=.tuple #[.slice none 0 0,.iface 73 (.pointer (some ⟨w3.heap.size,0,none⟩))]) (by simp [results,Tryz.results52,go_sem]) rfl ⟨HBE.out,.inr ⟨HZ.out,w3.heap.size,T,u,_,rfl,hsz3,HC4.out.1,HCE.out,HC4.out.2,HO4.out⟩⟩
end Go.Proofs.YtpnjoniolfmbnaaGreatDoor
