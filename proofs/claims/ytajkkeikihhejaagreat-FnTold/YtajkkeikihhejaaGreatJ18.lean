/- A slice of bytes that came in, and the reader that is opened over it. -/
import Derived.Test.YtajkkeikihhejaaGreatSq
import Derived.Test.YtajkkeikihhejaaGreatJ1
import Derived.ChangeSlices
import Derived.Deep.Slices
open Go.Proofs.Tryz
set_option maxHeartbeats 80000000
namespace Go.Proofs.YtajkkeikihhejaaGreat
open Go.ChangeShapes Go.WideShapes Go.ChangeAt Go.RowKit
open Pl
def Bytes (w:World) (ad:Option Addr) (len:Nat):Prop:=len≤maxLen∧(0 < len→∃ b off,ad=some ⟨b,off,none⟩∧b < w.heap.size∧∀ i,i < len→∃ c:Int,0≤c∧c≤255∧w.cell? ⟨b,off + i,none⟩=some (.int .u8 c))
theorem Bytes.below {w w':af} {ad:Option Addr} {len:Nat} (h:Bytes w ad len) (hb:ag w w'):Bytes w' ad len:=by
 refine ⟨h.1,fun h0=>?_⟩;obtain ⟨b,off,e,hbl,hc⟩:=h.2 h0;refine ⟨b,off,e,TP hbl hb.size,fun i hi=>?_⟩;obtain ⟨c,c0,c1,hcc⟩:=hc i hi;exact ⟨c,c0,c1,by rw [hb.cell (p:=⟨b,off + i,none⟩) hbl]; exact hcc⟩
theorem IX {H:Type} {enc:TypeId × Value→H} {W:af} {base:Nat} {sp:Nat→Bool} {held:Bool} {fuel:Nat} {ad:Option Addr} {len cap:Nat} {x:DataW H × List MemPlace}
  (h:DataW.trod enc prog W base sp held fuel 22 [.slice ad len cap]=some x):Bytes W ad len:=by
 rcases open_ints underlying22 underlying5 (by kernel_rfl) h with ⟨hcs,-⟩ | ⟨a,l,c,zs,hcs,-,hlc,hcm,hm,-,hel,hwf⟩
 ·simp at hcs;obtain ⟨rfl,rfl,rfl⟩:=hcs;exact ⟨by unfold maxLen; omega,fun h0=>by omega⟩
 simp at hcs;obtain ⟨rfl,rfl,rfl⟩:=hcs;have hle:len≤zs.length:=by rw [hm]; split <;> omega
 refine ⟨by omega,fun h0=>?_⟩;have hspot:a.spot=none:=by
  have:=hel 0 (by omega);have e:a.add 0=a:=by simp [Addr.add]
  rw [e] at this;exact World.cell?_spot this
 obtain ⟨b,off,spot⟩:=a;simp only at hspot;subst hspot;have add0:∀ x:Nat,(⟨b,off,none⟩:Addr).add x=⟨b,off + x,none⟩:=fun x=>by
  unfold Addr.add;by_cases h:x=0
  ·subst h; simp
  simp [h]
 refine ⟨b,off,rfl,?_,fun i hi=>?_⟩
 ·have:=hel 0 (by omega);rw [add0] at this;exact World.block_lt_of_cell? W ⟨b,off + 0,none⟩ this
 have h1:=hel i (by omega);rw [add0] at h1;have h2:=hwf (zs.getD i 0) (by rw [List.getD_eq_getElem?_getD,TY (by omega)]; simp);have h3:IntKind.u8.min≤zs.getD i 0∧zs.getD i 0≤IntKind.u8.max:=by simpa only [Lit.wf,TU,Ud] using h2
 have e1:IntKind.u8.min=0:=by decide
 have e2:IntKind.u8.max=255:=by decide
 rw [e1,e2] at h3;exact ⟨_,h3.1,h3.2,h1⟩
theorem Sj {w:af} {ad:Option Addr} {len cap:Nat} {t:TypeId} (h:Bytes w ad len):Rd (w.alloc (.cells #[.slice ad len cap,.int .i64 0] t)) w.heap.size ad len cap where
 lt:=by simp
 code:=by simp
 place:=⟨0,by simp,by omega⟩
 free:=by simp
 bytes h0:=by
  obtain ⟨b,off,e,hbl,hc⟩:=h.2 h0;refine ⟨b,off,e,by omega,by simp; omega,fun i hi=>?_⟩;obtain ⟨c,c0,c1,hcc⟩:=hc i hi;exact ⟨c,c0,c1,Qb hcc _⟩
 small:=h.1
theorem OA (ad:Option Addr) (len cap:Nat) (w:af) (h:Bytes w ad len) :
  Calls prog 44 #[.slice ad len cap] w fun e w'=>e=.returned (.pointer (some ⟨w.heap.size,0,none⟩))∧Rd w' w.heap.size ad len cap∧ag w w':=by
 have H:=az h;clear h;go_enter func44,ntmps44;go_wp2;go_ret;exact ⟨rfl,Sj H.out,(TT _ _).alloc (TS _) _⟩
theorem QA (ad:Option Addr) (len cap:Nat) (w:af) :
  Calls prog 9 #[.slice ad len cap] w fun e w'=>e=.returned (.bool (decide ((1048576:Int) < (len:Int))))∧w'=w:=by
 go_enter func9,ntmps9;go_wp2;go_ret;exact ⟨rfl,rfl⟩
theorem uO (c:UInt8) (w:af) :
  Calls prog 229 #[.int .u8 c.toNat] w fun e w'=>e=.returned (.bool (yD c))∧w'=w:=by
 by_cases hl:eH c=true
 ·go_enter func229,ntmps229;go_wp2_with (go_at_call 210; refine (kW _ _).mono ?_; rintro e w' ⟨rfl,rfl⟩);go_ret;exact ⟨ah (by simp [yD,hl]),rfl⟩
 have hf:eH c=false:=by simpa using hl
 clear hl;go_enter func229,ntmps229;go_wp2_with (go_at_call 210; refine (kW _ _).mono ?_; rintro e w' ⟨rfl,rfl⟩)
 all_goals go_ret
 all_goals refine ⟨ah ?_,rfl⟩
 all_goals (rw [Bool.eq_iff_iff]; simp [yD,hf]; omega)
theorem IY (s:bH) (w:af) (hs:s.size≤maxLen) :
  Calls prog 168 #[.string s] w fun e w'=>e=.returned (.bool (pM s))∧w'=w:=by
 unfold maxLen at hs;by_cases h1:1≤s.size∧s.size≤12
 ·obtain ⟨ha,hb⟩:=h1;go_enter func168,ntmps168;go_wp2
  go_loop [3] (fun i=>∃ k:Nat,k≤s.size∧i=.int .i64 k∧Hid (Hy yD s k=true)) (fun i=>s.size - (intOf i).toNat)
  case atStart=>exact ⟨0,TW _,rfl,ui _ _⟩
  obtain ⟨k,hk,rfl,hu⟩:=hrel;by_cases hlt:k < s.size
  ·by_cases hc:yD s[k]=true
   ·have hd:(97≤s[k].toNat∧s[k].toNat≤122) ∨ (48≤s[k].toNat∧s[k].toNat≤57) ∨ s[k].toNat=95:=by simp [yD,eH] at hc; omega
    have HU:Hid (Hy yD s (k + 1)=true):=by show _=_; rw [uj _ _ _ hlt,hc,hu.out]; rfl
    clear hc;rcases hd with ⟨hd1,hd2⟩ | ⟨hd1,hd2⟩ | hd1
    all_goals
     go_wp2;go_round;case rel=>exact ⟨k + 1,by omega,by go_num,HU⟩
     simp [intOf]; omega
   have hc':yD s[k]=false:=by simpa using hc
   have HB:Hid (rT yD s=false):=yG _ _ _ hlt hc';have hd:s[k].toNat < 48 ∨ (57 < s[k].toNat∧s[k].toNat < 95) ∨ (95 < s[k].toNat∧s[k].toNat < 97) ∨ 122 < s[k].toNat:=by simp [yD,eH] at hc'; omega
   clear hc hc';rcases hd with hd | ⟨hd,hd2⟩ | ⟨hd,hd2⟩ | hd
   all_goals
    have h95:((s[k].toNat:Int) != 95)=true:=by simp; omega
    go_wp2;go_ret;exact ⟨ah (by simp [pM,dL,HB.out]),rfl⟩
  go_wp2;go_ret;refine ⟨ah ?_,rfl⟩;have hall:rT yD s=true:=by rw [← yF yD s k (by omega)]; exact hu.out
  have hl:nG s=true:=by simp [nG]; omega
  simp [pM,dL,hall,hl]
 have hn:nG s=false:=by simp [nG]; omega
 have HN:Hid (pM s=false):=by show _=_; simp [pM,dL,hn]
 clear hn;by_cases ha:1≤s.size
 ·have hb:12 < s.size:=by omega
  clear h1;go_enter func168,ntmps168;go_wp2;go_ret;exact ⟨ah HN.out.symm,rfl⟩
 have ha':s.size < 1:=by omega
 clear h1;go_enter func168,ntmps168;go_wp2;go_ret;exact ⟨ah HN.out.symm,rfl⟩
theorem Ad (s:bH) (w:af) (hs:s.size≤maxLen) :
  Calls prog 209 #[.string s,.func (Fn.func 229) #[] #[]] w fun e w'=>e=.returned (.bool (dL yD s))∧w'=w:=by
 unfold maxLen at hs;by_cases h1:1≤s.size∧s.size≤12
 ·obtain ⟨ha,hb⟩:=h1;go_enter func209,ntmps209;go_wp2
  go_loop [16] (fun i=>∃ k:Nat,k≤s.size∧i=.int .i64 k∧Hid (Hy yD s k=true)) (fun i=>s.size - (intOf i).toNat)
  case atStart=>exact ⟨0,TW _,rfl,ui _ _⟩
  obtain ⟨k,hk,rfl,hu⟩:=hrel;by_cases hlt:k < s.size
  ·by_cases hc:yD s[k]=true
   ·have HU:Hid (Hy yD s (k + 1)=true):=by show _=_; rw [uj _ _ _ hlt,hc,hu.out]; rfl
    go_wp2_with (go_at_call 229; refine (uO _ _).mono ?_; rintro e w' ⟨rfl,rfl⟩);go_round;case rel=>exact ⟨k + 1,by omega,by go_num,HU⟩
    simp [intOf]; omega
   have hc':yD s[k]=false:=by simpa using hc
   have HB:Hid (rT yD s=false):=yG _ _ _ hlt hc';clear hc;go_wp2_with (go_at_call 229; refine (uO _ _).mono ?_; rintro e w' ⟨rfl,rfl⟩);go_ret;exact ⟨ah (by simp [dL,HB.out]),rfl⟩
  go_wp2;go_ret;refine ⟨ah ?_,rfl⟩;have hall:rT yD s=true:=by rw [← yF yD s k (by omega)]; exact hu.out
  have hl:nG s=true:=by simp [nG]; omega
  simp [dL,hall,hl]
 have hn:nG s=false:=by simp [nG]; omega
 have HN:Hid (dL yD s=false):=by show _=_; simp [dL,hn]
 clear hn;by_cases ha:1≤s.size
 ·have hb:12 < s.size:=by omega
  clear h1;go_enter func209,ntmps209;go_wp2;go_ret;exact ⟨ah HN.out.symm,rfl⟩
 have ha':s.size < 1:=by omega
 clear h1;go_enter func209,ntmps209;go_wp2;go_ret;exact ⟨ah HN.out.symm,rfl⟩
theorem Ae (s:bH) (w:af) (hs:s.size≤maxLen) :
  Calls prog 208 #[.string s] w fun e w'=>e=.returned (.bool (pM s))∧w'=w:=by
 go_enter func208,ntmps208;go_wp2_with (go_at_call 209; refine (Ad _ _ hs).mono ?_; rintro e w' ⟨rfl,rfl⟩);go_ret;exact ⟨rfl,rfl⟩
theorem jO {W w1:af} (hb:ag W w1):(∀ b o,b < W.heap.size→w1.cell? ⟨b,o,none⟩=W.cell? ⟨b,o,none⟩)∧(∀ b o,b < W.heap.size→w1.frozen? ⟨b,o,none⟩=W.frozen? ⟨b,o,none⟩) :=
 ⟨fun b o h=>hb.cell (p:=⟨b,o,none⟩) h,fun b o h=>hb.frozen (p:=⟨b,o,none⟩) h⟩
theorem fV (t i:bH) (w:af) (ht:t.size≤maxLen) (hi:i.size≤maxLen) :
  Calls prog 110 #[.agg #[.string t,.string i]] w fun e w'=>e=.returned (.bool (eT t i))∧ag w w':=by
 by_cases hn:aP t=true
 all_goals
  go_enter func110,ntmps110;go_wp2_with (first | (go_at_call 111; refine (aS _ _ ht).mono ?_; rintro e w' ⟨rfl,rfl⟩) | (go_at_call 168; refine (IY _ _ hi).mono ?_; rintro e w' ⟨rfl,rfl⟩));go_ret;exact ⟨ah (by simp [eT,hn]),(TT _ _).alloc (TS _) _⟩
theorem fZ (t i:bH) (w:af) (ht:t.size≤maxLen) (hi:i.size≤maxLen) :
  Calls prog 161 #[.agg #[.string t,.string i]] w fun e w'=>e=.returned (.bool (eT t i))∧ag w w':=by
 by_cases hn:aP t=true
 all_goals
  go_enter func161,ntmps161;go_wp2_with (first | (go_at_call 162; refine (aL _ _ ht).mono ?_; rintro e w' ⟨rfl,rfl⟩) | (go_at_call 208; refine (Ae _ _ hi).mono ?_; rintro e w' ⟨rfl,rfl⟩));go_ret;exact ⟨ah (by simp [eT,hn]),(TT _ _).alloc (TS _) _⟩
def Sk (R B k:Nat) (v:Value) (w:World):Prop:=(k=11→∃ g,v=.pointer (some ⟨g,0,none⟩)∧yS w R B g)∧(k ≠ 11→Kd.ok R w v (Fs [.strs 5,.eq (Value.pointer (some ⟨R,0,none⟩)),.idx 5,.elt 5,.str,.strs 3,.eq (Value.pointer (some ⟨R,0,none⟩)),.idx 3,.elt 3,.str,.obj] k))
theorem Sk.only {R B k:Nat} {v:Value} {w w':af} (h:Sk R B k v w) (ho:Only R w w'):Sk R B k v w' :=
 ⟨fun e=>by obtain ⟨g,e1,hg⟩:=h.1 e; exact ⟨g,e1,hg.only ho⟩,fun e=>Kd.only ho _ (h.2 e)⟩
theorem Sk.no {R B k:Nat} {v:Value} {w:af} (hk:k ≠ 11) (h:Kd.ok R w v (Fs [.strs 5,.eq (Value.pointer (some ⟨R,0,none⟩)),.idx 5,.elt 5,.str,.strs 3,.eq (Value.pointer (some ⟨R,0,none⟩)),.idx 3,.elt 3,.str,.obj] k)):Sk R B k v w:=⟨fun e=>absurd e hk,fun _=>h⟩
set_option maxRecDepth 4000 in
theorem Af (R:Nat) (ad:Option Addr) (len cap:Nat) (w:af) (h:Rd w R ad len cap) :
  Calls prog 126 #[.pointer (some ⟨R,0,none⟩)] w fun e w'=>(∃ a b:ByteArray,e=.returned (.agg #[.string a,.string b])∧a.size≤20∧b.size≤20)∧Rd w' R ad len cap∧Only R w w':=by
 have H:=az h;have Xo:=h.lt;have FAR:Hid (∀ g,w.heap.size≤g→0 < len→∀ b off,ad=some ⟨b,off,none⟩→b ≠ g):=fun g hg h0 b off e=>by
  obtain ⟨b',off',e',-,hb',-⟩:=h.bytes h0;rw [e] at e'; injection e' with e'; injection e' with e1 e2; omega
 clear h;go_enter func126,ntmps126;go_wp2_with fail;refine fF 12 (fun f=>{ tmps:=List.toArray (Value.pointer (some ⟨R,0,none⟩)::undef::.pointer (some ⟨w.heap.size,0,none⟩)::f 11::f 0::f 1::f 2::f 3::f 4::f 5::f 6::f 7::f 8::f 9::f 10::undef::undef::undef::undef::undef::undef::undef::undef::undef::[]),defers:=[] }) (fun k v w'=>Sk R (w.heap.size + 1) k v w') (fun w'=>Rd w' R ad len cap∧Only R (w.alloc (.cells #[.string ⟨#[]⟩,.string ⟨#[]⟩] 27)) w') (by kernel_rfl) rfl (by kernel_rfl) (by kernel_rfl) rfl ⟨H.out.below (((TT _ _).alloc (TS _) _).drew),(Only.refl _ _).drewN 1⟩ ?step ?fin;case step =>
  rintro i hi o ho f w' ⟨hR',U3⟩ hpre;have HR:=az hR';have HO:=az U3;have hsz:w.heap.size + 1≤w'.heap.size:=by have:=U3.size; simpa using this
  have hRl:R < w'.heap.size:=hR'.lt;have HM:Hid (∀ e ∈ o.after,Region.binds .any e=true→Sk R (w.heap.size + 1) e.on (f e.on) w'):=hpre;have KAL:Hid (∀ ob:Obj,Only R w' (w'.alloc ob)):=fun ob=>(Only.refl R w').alloc ob;clear hR' U3 hpre;have hc:=Te (i:=i) (by omega);clear hi
  repeat' rcases hc with rfl | hc
  ·cases ho;refine aa rfl fun K HK=>?_;clear HM;dsimp only;go_simp;exact HK.out _ _ ⟨_,by simp [upd],⟨HR.out.alloc _,HO.out.alloc _⟩,.no (by decide) ⟨_,rfl,fu w' R hRl (xs:=[_,_,_,_,_]) (by decide)⟩,fun k u hu=>hu.only (KAL.out _)⟩
  ·cases ho;refine aa rfl fun K HK=>?_;clear HM;dsimp only;go_simp;exact HK.out _ _ ⟨Value.pointer (some ⟨R,0,none⟩),by simp [upd],⟨HR.out,HO.out⟩,.no (by decide) rfl,fun k u hu=>hu⟩
  ·cases ho;have e1:f 1=Value.pointer (some ⟨R,0,none⟩):=(HM.out ⟨1,.data⟩ (by simp) rfl).2 (by decide);refine aa rfl fun K HK=>?_;clear HM;simp only [e1];go_simp;refine (bW R ad len cap 5 _ HR.out (by omega) (by omega)).mono ?_;rintro e w5 ⟨⟨x,rfl,hx0,hx1⟩,UW,UZ⟩;obtain ⟨x,rfl⟩:∃ y:Nat,x=(y:Int):=⟨x.toNat,by omega⟩;have UU:Hid (Rd w5 R ad len cap∧Only R w' w5):=⟨UW,UZ⟩;clear UW UZ;go_wp2_with fail;exact HK.out _ _ ⟨.int .i64 (x:Int),by simp [upd,e1],⟨UU.out.1,HO.out.trans UU.out.2⟩,.no (by decide) ⟨x,rfl,by omega⟩,fun k u hu=>hu.only UU.out.2⟩
  ·cases ho;obtain ⟨g,e1,hS⟩:=(HM.out ⟨0,.data⟩ (by simp) rfl).2 (by decide);obtain ⟨x,e2,hx⟩:=(HM.out ⟨2,.data⟩ (by simp) rfl).2 (by decide);replace e1:f 0=_:=e1;replace e2:f 2=_:=e2;have HS:=az hS;clear hS;have hx0:=bB x;have hx1:(x:Int) < 5:=by omega
   refine aa rfl fun K HK=>?_;clear HM;simp only [e1,e2];go_simp;exact HK.out _ _ ⟨.pointer (some ⟨g,x,none⟩),by simp [upd,e1,e2],⟨HR.out,HO.out⟩,.no (by decide) ⟨g,x,rfl,hx,HS.out⟩,fun k u hu=>hu⟩
  ·cases ho;obtain ⟨g,x,e1,hx,hS⟩:=(HM.out ⟨3,.data⟩ (by simp) rfl).2 (by decide);replace e1:f 3=_:=e1;obtain ⟨t,ht,hcell⟩:=hS.2.2 x hx;clear hS;refine aa rfl fun K HK=>?_;clear HM;simp only [e1];go_simp;exact HK.out _ _ ⟨.string t,by simp [upd,e1],⟨HR.out,HO.out⟩,.no (by decide) ⟨t,rfl,ht⟩,fun k u hu=>hu⟩
  ·cases ho;refine aa rfl fun K HK=>?_;clear HM;dsimp only;go_simp;exact HK.out _ _ ⟨_,by simp [upd],⟨HR.out.alloc _,HO.out.alloc _⟩,.no (by decide) ⟨_,rfl,fu w' R hRl (xs:=[_,_,_]) (by decide)⟩,fun k u hu=>hu.only (KAL.out _)⟩
  ·cases ho;refine aa rfl fun K HK=>?_;clear HM;dsimp only;go_simp;exact HK.out _ _ ⟨Value.pointer (some ⟨R,0,none⟩),by simp [upd],⟨HR.out,HO.out⟩,.no (by decide) rfl,fun k u hu=>hu⟩
  ·cases ho;have e1:f 6=Value.pointer (some ⟨R,0,none⟩):=(HM.out ⟨6,.data⟩ (by simp) rfl).2 (by decide);refine aa rfl fun K HK=>?_;clear HM;simp only [e1];go_simp;refine (bW R ad len cap 3 _ HR.out (by omega) (by omega)).mono ?_;rintro e w5 ⟨⟨x,rfl,hx0,hx1⟩,UW,UZ⟩;obtain ⟨x,rfl⟩:∃ y:Nat,x=(y:Int):=⟨x.toNat,by omega⟩;have UU:Hid (Rd w5 R ad len cap∧Only R w' w5):=⟨UW,UZ⟩;clear UW UZ;go_wp2_with fail;exact HK.out _ _ ⟨.int .i64 (x:Int),by simp [upd,e1],⟨UU.out.1,HO.out.trans UU.out.2⟩,.no (by decide) ⟨x,rfl,by omega⟩,fun k u hu=>hu.only UU.out.2⟩
  ·cases ho;obtain ⟨g,e1,hS⟩:=(HM.out ⟨5,.data⟩ (by simp) rfl).2 (by decide);obtain ⟨x,e2,hx⟩:=(HM.out ⟨7,.data⟩ (by simp) rfl).2 (by decide);replace e1:f 5=_:=e1;replace e2:f 7=_:=e2;have HS:=az hS;clear hS;have hx0:=bB x;have hx1:(x:Int) < 3:=by omega
   refine aa rfl fun K HK=>?_;clear HM;simp only [e1,e2];go_simp;exact HK.out _ _ ⟨.pointer (some ⟨g,x,none⟩),by simp [upd,e1,e2],⟨HR.out,HO.out⟩,.no (by decide) ⟨g,x,rfl,hx,HS.out⟩,fun k u hu=>hu⟩
  ·cases ho;obtain ⟨g,x,e1,hx,hS⟩:=(HM.out ⟨8,.data⟩ (by simp) rfl).2 (by decide);replace e1:f 8=_:=e1;obtain ⟨t,ht,hcell⟩:=hS.2.2 x hx;clear hS;refine aa rfl fun K HK=>?_;clear HM;simp only [e1];go_simp;exact HK.out _ _ ⟨.string t,by simp [upd,e1],⟨HR.out,HO.out⟩,.no (by decide) ⟨t,rfl,ht⟩,fun k u hu=>hu⟩
  ·cases ho;obtain ⟨t,e1,ht⟩:=(HM.out ⟨4,.data⟩ (by simp) rfl).2 (by decide);obtain ⟨u,e2,hu⟩:=(HM.out ⟨9,.data⟩ (by simp) rfl).2 (by decide);replace e1:f 4=_:=e1;replace e2:f 9=_:=e2;refine aa rfl fun K HK=>?_;clear HM;simp only [e1,e2];go_simp;exact HK.out _ _ ⟨.agg #[.string t,.string u],by simp [upd,e1,e2],⟨HR.out,HO.out⟩,.no (by decide) ⟨t,u,rfl,ht,hu⟩,fun k u hu=>hu⟩
  cases ho;refine aa rfl fun K HK=>?_;clear HM;dsimp only;go_simp;exact HK.out _ _ ⟨_,by simp [upd],⟨HR.out.alloc _,HO.out.alloc _⟩,⟨fun _=>⟨_,rfl,KR hRl hsz⟩,fun e=>absurd rfl e⟩,fun k u hu=>hu.only (KAL.out _)⟩
 case fin =>
  rintro o ho f w0 ⟨hR',U3⟩ hall;obtain ⟨g,e1,hg⟩:=(hall 11 (by omega)).1 rfl;obtain ⟨t,u,e2,ht,hu⟩:=(hall 10 (by omega)).2 (by decide);replace e1:f 11=_:=e1;replace e2:f 10=_:=e2;obtain ⟨hgR,hgB,hgl,hgf,ta,tb,_,_,ca,cb⟩:=hg;obtain ⟨w',hw'⟩:∃ w',w'=(w0.setCell ⟨g,0,none⟩ (.string t)).setCell ⟨g,1,none⟩ (.string u):=⟨_,rfl⟩;have hg:yS w' R (w.heap.size + 1) g:=by rw [hw']; exact KS hgR hgB hgl hgf ca cb ht hu
  have hR:Rd w' R ad len cap:=by rw [hw']; exact (hR'.setFar hgR (FAR.out _ (by omega))).setFar hgR (FAR.out _ (by omega))
  have hO:Only R (w.alloc (.cells #[.string ⟨#[]⟩,.string ⟨#[]⟩] 27)) w':=by rw [hw']; exact (U3.setNew (by simpa using hgB)).setNew (by simpa using hgB)
  clear hR' U3 hall;obtain rfl:=Option.some.inj ho;clear ho;refine aa rfl fun K HK=>?_;simp only [e1,e2];go_simp;rw [← hw'];refine HK.out _ _ ?_;clear HK hw' hgR hgl hgf ca cb ht hu;have hOw:Only R w w':=(Only.of_below ((TT _ _).alloc (TS _) _)).trans hO;have hnR:w.heap.size ≠ R:=by omega
  have hn0:w'.cell? ⟨w.heap.size,0,none⟩=some (.string ⟨#[]⟩):=by rw [hO.cell (by simp) hnR]; simp
  have hn1:w'.cell? ⟨w.heap.size,1,none⟩=some (.string ⟨#[]⟩):=by rw [hO.cell (by simp) hnR]; simp
  have hnf:∀ o,w'.frozen? ⟨w.heap.size,o,none⟩=false:=fun o=>by rw [hO.frozen (by simp) hnR]; simp
  have hsz:w.heap.size < w'.heap.size:=by have:=hO.size; simp at this; omega
  have HR:=az hR;have HOw:=az hOw;have HG:=az hg;clear hR hO hOw hg;go_wp2_with fail;refine (iN R ad len cap 30 _ HR.out (by omega) (by omega)).mono ?_;rintro e w1 ⟨⟨x,rfl⟩,U5,UX⟩;have HR1:=az U5;have UV:Hid (Only R w w1):=HOw.out.trans UX;have HG1:=az (HG.out.only UX);have m0:w1.cell? ⟨w.heap.size,0,none⟩=some (.string ⟨#[]⟩):=by rw [UX.cell hsz hnR]; exact hn0
  have m1:w1.cell? ⟨w.heap.size,1,none⟩=some (.string ⟨#[]⟩):=by rw [UX.cell hsz hnR]; exact hn1
  have mf:∀ o,w1.frozen? ⟨w.heap.size,o,none⟩=false:=fun o=>by rw [UX.frozen hsz hnR]; exact hnf o
  have hs1:w.heap.size < w1.heap.size:=TP hsz UX.size;have hR1l:R < w1.heap.size:=U5.lt;clear hn0 hn1 hnf U5 UX HR HOw HG;obtain ⟨hgR,-,hgl,hgf,ta,tb,hta,htb,ca,cb⟩:=HG1.out;have hgn:g ≠ w.heap.size:=by omega
  cases x;case false=>
   go_wp2;exact bodyPost_ret (v:=.agg #[.string ta,.string tb]) (by simp [results,Tryz.results126,go_sem, *]) rfl ⟨⟨ta,tb,rfl,hta,htb⟩,(HR1.out.setFar hnR (FAR.out _ (TS _))).setFar hnR (FAR.out _ (TS _)),(UV.out.setNew (TS _)).setNew (TS _)⟩
  go_wp2_with fail;refine (bW R ad len cap 4 _ (HR1.out.below ((TT _ _).alloc (TS _) _)) (by omega) (by omega)).mono ?_;rintro e w2 ⟨⟨x,rfl,hx0,hx1⟩,hR2,hO2⟩;have VN:Only R w1 w2:=(Only.of_below ((TT _ _).alloc (TS _) _)).trans hO2;have hSt:=(fu w1 R hR1l (t:=9) (xs:=[⟨#[]⟩,⟨#[65]⟩,⟨#[97,95,49]⟩,⟨#[97,98,99,100,101,102,103,104,105,106,107,108,109]⟩]) (by decide)).only hO2;obtain ⟨y,rfl⟩:∃ y:Nat,x=(y:Int):=⟨x.toNat,by omega⟩;obtain ⟨t,ht,hct⟩:=hSt.2.2 y (by simp; omega);have k0:w2.cell? ⟨w.heap.size,0,none⟩=some (.string ⟨#[]⟩):=by rw [VN.cell hs1 hnR]; exact m0
  have k1:w2.cell? ⟨w.heap.size,1,none⟩=some (.string ⟨#[]⟩):=by rw [VN.cell hs1 hnR]; exact m1
  have kf:∀ o,w2.frozen? ⟨w.heap.size,o,none⟩=false:=fun o=>by rw [VN.frozen hs1 hnR]; exact mf o
  have ka:w2.cell? ⟨g,0,none⟩=some (.string ta):=by rw [VN.cell hgl hgR]; exact ca
  have kb:w2.cell? ⟨g,1,none⟩=some (.string tb):=by rw [VN.cell hgl hgR]; exact cb
  have kg:∀ o,w2.frozen? ⟨g,o,none⟩=false:=fun o=>by rw [VN.frozen hgl hgR]; exact hgf o
  have HR2:=az hR2;have UB:Hid (Only R w w2):=UV.out.trans VN;clear hR2 hO2 VN hSt m0 m1 mf ca cb hgf HR1 UV HG1;go_wp2;exact bodyPost_ret (v:=.agg #[.string ta,.string t]) (by simp [results,Tryz.results126,go_sem, *]) rfl ⟨⟨ta,t,rfl,hta,ht⟩,((HR2.out.setFar hgR (FAR.out _ (by omega))).setFar hnR (FAR.out _ (TS _))).setFar hnR (FAR.out _ (TS _)),((UB.out.setNew (by omega)).setNew (TS _)).setNew (TS _)⟩
end Go.Proofs.YtajkkeikihhejaaGreat
