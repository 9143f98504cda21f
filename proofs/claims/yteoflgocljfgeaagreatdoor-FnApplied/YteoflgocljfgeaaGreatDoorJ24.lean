/- Contracts: lists of tuples looked at, whatever slice leads to them; two rows of the same tuples held against one another. -/
import Derived.Test.YteoflgocljfgeaaGreatDoorJ23
import Derived.Test.YteoflgocljfgeaaGreatDoorDrawTuple
import Derived.Test.YteoflgocljfgeaaGreatDoorJ17
open Go.Proofs.Tryz
set_option maxHeartbeats 80000000
namespace Go.Proofs.YteoflgocljfgeaaGreatDoor
open Go.ChangeShapes Go.WideShapes Go.ChangeAt Go.RowKit
open Pl
attribute [local go_sem ↓] Go.wp_at_zero Go.wp_at_succ
theorem sS (ad:Option Addr) (cap:Nat) (w:World) :
  Calls prog 46 #[.slice ad 0 cap] w fun e w'=>e=.returned (.bool (dH []))∧Below w.heap.size w w':=by
 go_enter func46,ntmps46;go_wp2;go_loopw [3] (fun i wr=>∃ k:Nat,k=0∧i=.int .i64 k∧Below w.heap.size w wr) (fun i _=>(intOf i).toNat);case atStart=>exact ⟨0,rfl,rfl,Below.refl _ _⟩
 case round =>
  obtain ⟨k,rfl,rfl,hB⟩:=hrel;go_wp2;go_ret;exact ⟨rfl,hB⟩
theorem sU (ad:Option Addr) (cap:Nat) (w:World) :
  Calls prog 40 #[.slice ad 0 cap] w fun e w'=>e=.returned (.bool (dH []))∧Below w.heap.size w w':=by
 go_enter func40,ntmps40;go_wp2;go_loopw [10] (fun i wr=>∃ k:Nat,k=0∧i=.int .i64 k∧Below w.heap.size w wr) (fun i _=>(intOf i).toNat);case atStart=>exact ⟨0,rfl,rfl,Below.refl _ _⟩
 case round =>
  obtain ⟨k,rfl,rfl,hB⟩:=hrel;go_wp2;go_ret;exact ⟨rfl,hB⟩
theorem lF (ad:Option Addr) (cap:Nat) (ts:List Tp) (w:World) (hlen:ts.length≤maxLen) (hs:Sl w ad ts) (hf:∀ t ∈ ts,t.fits) :
  Calls prog 46 #[.slice ad ts.length cap] w fun e w'=>e=.returned (.bool (dH ts))∧Below w.heap.size w w':=by
 rcases hs with rfl | ⟨b,off,rfl,hb,hr⟩
 ·exact sS ad cap w
 ·exact sO b off cap ts w hlen hr hb hf
theorem lG (ad:Option Addr) (cap:Nat) (ts:List Tp) (w:World) (hlen:ts.length≤maxLen) (hs:Sl w ad ts) (hf:∀ t ∈ ts,t.fits) :
  Calls prog 40 #[.slice ad ts.length cap] w fun e w'=>e=.returned (.bool (dH ts))∧Below w.heap.size w w':=by
 rcases hs with rfl | ⟨b,off,rfl,hb,hr⟩
 ·exact sU ad cap w
 ·exact sQ b off cap ts w hlen hr hb hf
end Go.Proofs.YteoflgocljfgeaaGreatDoor
namespace Go.Proofs.YteoflgocljfgeaaGreatDoor
open Go.ChangeShapes Go.WideShapes Go.ChangeAt Go.RowKit Go.Maps
open Pl
def pM (ts:List Tp) (t:Tp):Bool:=dH ts && t.ok && !fC ts t && !(ts.length == 40)
def yC (ts:List Tp) (t:Tp):List Tp:=if pM ts t then eF ts t else []
theorem xI {ts:List Tp} {t:Tp} (h:pM ts t=true):yC ts t=eF ts t:=by simp [yC,h]
theorem pq {ts:List Tp} {t:Tp} (h:pM ts t=false):yC ts t=[]:=by simp [yC,h]
def Mw (w w':World) (e:Ending) (L:List Tp) (f:Bool):Prop:=∃ v:Value,e=.returned (.tuple #[v,.bool f])∧w'.ownsRow w.heap.size 41 6 v L.length (aB L)∧Below w.heap.size w w'
theorem qh (b off cap:Nat) (ts:List Tp) (t:Tp) (w:World) (hlen:ts.length≤1048576) (hcap:ts.length≤cap) (hs:dL w b off ts) (hb:b < w.heap.size) (hf:∀ x ∈ ts,x.fits) (ht:t.fits) :
  Calls prog 72 #[.slice (some ⟨b,off,none⟩) ts.length cap,.agg #[.string t.a,.string t.b,.string t.r,.string t.c,.string t.d,.string t.s]] w fun e w'=>Mw w w' e (yC ts t) (pM ts t):=by
 have HF:=bG hf;have HFT:=bG ht;obtain ⟨W0,hW0⟩:∃ W0,W0=w.alloc (.cells #[.string t.a,.string t.b,.string t.r,.string t.c,.string t.d,.string t.s] 41):=⟨_,rfl⟩;have HB0:=Be hW0;have HX0:Hid (mZ W0 w.heap.size t):=by show mZ _ _ _; rw [hW0]; exact rP w t _
 have HS:=bG hs;have SL:Hid (∀ W:World,Below w.heap.size w W→Sl W (some ⟨b,off,none⟩) ts):=fun W hB=>.inr ⟨b,off,rfl,Nat.lt_of_lt_of_le hb hB.size,HS.out.below hB hb⟩;have hml:ts.length≤maxLen:=by unfold maxLen; omega
 have HT:=bG (lF (some ⟨b,off,none⟩) cap ts W0 hml (SL.out _ HB0.out) hf);clear hs hf hml ht;go_enter func72,ntmps72;go_wp2_with fail;rw [← hW0]; clear hW0;refine HT.out.mono ?_;rintro e w1 ⟨he,hb1⟩;have HB1:=gW HB0 hb1;have HX1:Hid (mZ w1 w.heap.size t):=HX0.out.below hb1;clear HT HX0 HB0 hb1;cases h1:dH ts with
 | false =>
  rw [h1] at he; subst he;have HR:Hid (pM ts t=false):=by show _=_; simp [pM,h1]
  have HL:Hid (yC ts t=[]):=pq HR.out;clear h1;go_wp2
  go_ret2
  exact ⟨.slice none 0 0,by rw [HR.out]; rfl,by rw [HL.out]; exact World.ownsRow_nil _ _ _ _,HB1.out⟩
 | true =>
  rw [h1] at he; subst he;obtain ⟨x0,x1,x2,x3,x4,x5,xl⟩:=HX1.out;have H1:=bG h1;obtain ⟨e0,e1,e2,e3,e4,e5⟩:=HFT.out;have HH:=bG (bz t.a t.b t.r t.c t.d t.s w1 e0 e1 e2 e3 e4 e5);clear h1 e0 e1 e2 e3 e4 e5;go_wp2_with fail;refine HH.out.mono ?_;rintro e w2 ⟨he,hb2⟩;have HB2:=gW HB1 hb2;have HX2:Hid (mZ w2 w.heap.size t):=HX1.out.below hb2;clear HH HX1 HB1 hb2 x0 x1 x2 x3 x4 x5 xl;cases h2:t.ok with
  | false =>
   have h2':bB t.a t.b t.r t.c t.d t.s=false:=h2;rw [h2'] at he; subst he;have HR:Hid (pM ts t=false):=by show _=_; simp [pM,H1.out,h2]
   have HL:Hid (yC ts t=[]):=pq HR.out;clear h2 h2';go_wp2
   go_ret2
   exact ⟨.slice none 0 0,by rw [HR.out]; rfl,by rw [HL.out]; exact World.ownsRow_nil _ _ _ _,HB2.out⟩
  | true =>
   have h2':bB t.a t.b t.r t.c t.d t.s=true:=h2;rw [h2'] at he; subst he;have H2:=bG h2;obtain ⟨x0,x1,x2,x3,x4,x5,xl⟩:=HX2.out;have HH:=bG (sP (some ⟨b,off,none⟩) cap ts t w2 hlen (SL.out _ HB2.out));clear h2 h2';go_wp2_with fail;refine HH.out.mono ?_;rintro e w3 ⟨he,hb3⟩;have HB3:=gW HB2 hb3;have HX3:Hid (mZ w3 w.heap.size t):=HX2.out.below hb3;clear HH HX2 HB2 hb3 x0 x1 x2 x3 x4 x5 xl;cases h3:fC ts t with
   | true =>
    rw [h3] at he; subst he;have HR:Hid (pM ts t=false):=by show _=_; simp [pM,H1.out,H2.out,h3]
    have HL:Hid (yC ts t=[]):=pq HR.out;clear h3;go_wp2
    go_ret2
    exact ⟨.slice none 0 0,by rw [HR.out]; rfl,by rw [HL.out]; exact World.ownsRow_nil _ _ _ _,HB3.out⟩
   | false =>
    rw [h3] at he; subst he;have H3:=bG h3;clear h3;by_cases h4:ts.length=40
    ·have HR:Hid (pM ts t=false):=by show _=_; simp [pM,H1.out,H2.out,H3.out,h4]
     have HL:Hid (yC ts t=[]):=pq HR.out;have h5:((ts.length:Int) == 40)=true:=by simp; omega
     have H4:=bG h4;clear h4;go_wp2
     go_ret2
     exact ⟨.slice none 0 0,by rw [HR.out]; rfl,by rw [HL.out]; exact World.ownsRow_nil _ _ _ _,HB3.out⟩
    ·have HR:Hid (pM ts t=true):=by show _=_; simp [pM,H1.out,H2.out,H3.out,h4]
     have HL:Hid (yC ts t=eF ts t):=xI HR.out;have h5:((ts.length:Int) == 40)=false:=by simp; omega
     have h40:=Gu H1.out;obtain ⟨x0,x1,x2,x3,x4,x5,xl⟩:=HX3.out;have HP:=bG (zB b off cap ts t w3 (by omega) hcap (HS.out.below HB3.out hb) (Nat.lt_of_lt_of_le hb HB3.out.size) HF.out HFT.out);clear HX3;go_wp2_with fail;refine HP.out.mono ?_;rintro e w4 ⟨v4,rfl,hs4,hb4⟩;have HS4:=bG hs4;clear hs4 HP x0 x1 x2 x3 x4 x5 xl;go_wp2
     go_ret2
     exact ⟨v4,by rw [HR.out]; rfl,by rw [HL.out]; exact fQ HS4.out HB3.out.size,HB3.out.trans (hb4.mono HB3.out.size)⟩
def Tp.short (t:Tp):Prop:=t.a.size≤20∧t.b.size≤20∧t.r.size≤20∧t.c.size≤20∧t.d.size≤20∧t.s.size≤20
theorem Tp.short.fits {t:Tp} (h:t.short):t.fits:=by unfold Tp.short at h; unfold Tp.fits maxLen; omega
def lH (ts:List Tp):Prop:=∀ t ∈ ts,t.short
theorem lH.fits {ts:List Tp} (h:lH ts):∀ t ∈ ts,t.fits:=fun t ht=>(h t ht).fits
theorem Gx:lH []:=fun t ht=>by cases ht
theorem pu (ts:List Tp) (t:Tp):(eF ts t).length=ts.length + 1:=by
 induction ts with
 | nil=>rfl
 | cons x xs ih =>
  unfold eF;split
  ·simp [ih]
  ·simp
theorem lH.put {ts:List Tp} {t:Tp} (h:lH ts) (ht:t.short):lH (eF ts t):=fun x hx=>by
 rcases (jw ts t x).1 hx with rfl | k
 ·exact ht
 ·exact h x k
theorem oq {w w':World} {R base n:Nat} {v:Value} {xs:List Value} (h:w.ownsRow base 41 6 v n xs) (hR:R < base) (hO:Only R w w'):w'.ownsRow base 41 6 v n xs :=
 h.kept hO (.inr fun e=>by have:=(h.lt R e).1; omega)
theorem kL {w:World} {base g n c:Nat} {ts:List Tp} (h:w.ownsRow base 41 6 (.slice (some ⟨g,0,none⟩) n c) n (aB ts)) (hn:n=ts.length):dL w g 0 ts∧g < w.heap.size∧n≤c∧base≤g:=by
 have hlt:=h.lt g rfl;refine ⟨?_,hlt.2,?_,hlt.1⟩
 ·subst hn;intro i hi;have key:∀ j,j < 6→w.cell? ⟨g,0 + i * 6 + j,none⟩=(ts[i]).row[j]?:=fun j hj=>by
   rw [h.cellAt (0 + i * 6 + j) (by have:=dR ts; omega),← om ts i hi j hj,Nat.zero_add]
  exact ⟨key 0 (by omega),key 1 (by omega),key 2 (by omega),key 3 (by omega),key 4 (by omega),key 5 (by omega)⟩
 ·rcases h.2 with ⟨e,-⟩ | ⟨g',cap',cur,e,-,-,hle,-⟩
  ·cases e
  ·injection e with e1 e2 e3; omega
theorem qi {W:World} {base:Nat} {e:TypeId} {size:Nat} {v:Value} {k:Nat} {xs:List Value} (h:W.ownsRow base e size v (k + 1) xs):∃ g cap,v=.slice (some ⟨g,0,none⟩) (k + 1) cap:=by
 rcases h.2 with ⟨_,h0⟩ | ⟨g,cap,_,rfl,_⟩
 ·omega
 ·exact ⟨g,cap,rfl⟩
theorem Rd.grown {w w':World} {R:Nat} {ad:Option Addr} {len cap:Nat} {row:Option Nat} (h:Rd w R ad len cap) (hg:w.grownBy w' row) (hR:some R ≠ row) (hb:0 < len→∀ b off,ad=some ⟨b,off,none⟩→some b ≠ row):Rd w' R ad len cap where
 lt:=Nat.lt_of_lt_of_le h.lt hg.size
 code:=hg.cell h.code hR
 place:=by obtain ⟨p,hp,hl⟩:=h.place; exact ⟨p,hg.cell hp hR,hl⟩
 free:=(World.frozen?_of_block (w:=w) (a:=⟨R,1,none⟩) (hg.block R h.lt hR)).trans h.free
 bytes h0:=by
  obtain ⟨b,off,e,hne,hbl,hc⟩:=h.bytes h0;refine ⟨b,off,e,hne,Nat.lt_of_lt_of_le hbl hg.size,fun i hi=>?_⟩;obtain ⟨c,c0,c1,hcc⟩:=hc i hi;exact ⟨c,c0,c1,hg.cell hcc (hb h0 b off e)⟩
 small:=h.small
theorem Gy (R:Nat) (w:World) (n:Int) (h:n≤1) :
  Calls prog 65 #[.pointer (some ⟨R,0,none⟩),.int .i64 n] w fun e w'=>e=.returned (.int .i64 0)∧w'=w:=by
 go_enter func65,ntmps65;go_wp2;go_ret;exact ⟨rfl,rfl⟩
theorem Gz (R:Nat) (ad:Option Addr) (len cap:Nat) (n:Nat) (w:World) (h:Rd w R ad len cap) (h1:1≤n) (h2:n≤256) :
  Calls prog 65 #[.pointer (some ⟨R,0,none⟩),.int .i64 (n:Int)] w fun e w'=>(∃ x:Nat,e=.returned (.int .i64 (x:Int))∧x < n)∧Rd w' R ad len cap∧Only R w w':=by
 by_cases hn:n=1
 ·subst hn;exact (Gy R w 1 (by omega)).mono fun e w' ⟨he,hw⟩=>⟨⟨0,by rw [he]; rfl,by omega⟩,by rw [hw]; exact h,by rw [hw]; exact Only.refl _ _⟩
 ·exact (bD R ad len cap n w h (by omega) (by omega)).mono fun e w' ⟨⟨x,he,h0,h3⟩,hR,hO⟩=>⟨⟨x.toNat,by rw [he,Int.toNat_of_nonneg h0],by omega⟩,hR,hO⟩
theorem sV (w:World):(zeroValue 124).run prog w=.ok (.slice none 0 0) w:=by kernel_rfl
theorem vC (b n:Nat) (M:ByteArray × ByteArray→Option Value) (t r:ByteArray) (w:World) (ht:t.size≤maxLen) (hr:r.size≤maxLen) (hV:aJ bI prog 147 w b n M) :
  Calls prog 135 #[.map (some b),.string t,.string r] w fun e w'=>e=.returned (.bool (M (t,r)).isSome)∧w'=w:=by
 obtain ⟨kl,hkl⟩:=jo (t,r) ht hr;have HV:Hid (aJ bI prog 147 w b n M):=hV;have HKL:Hid (keyOf prog 147 (bI (t,r))=some kl):=hkl;clear hkl hV;go_enter func135,ntmps135;go_wp2_with (first | (at_lookup; refine dQ _ rfl _ _ 88 rfl 147 124 iq underlying88 (sV _) b n M rfl HV.out (t,r) kl rfl HKL.out ?_) | go_in);go_ret;exact ⟨rfl,rfl⟩
theorem zC (a:Al) (w:World) :
  Calls prog 176 #[.agg #[.string a.t,.string a.s]] w fun e w'=>e=.returned (.bool (!a.s.toList.isEmpty))∧Below w.heap.size w w':=by
 cases h:a.s.toList.isEmpty with
 | true =>
  go_enter func176,ntmps176;go_wp2;go_ret;exact ⟨rfl,(Below.refl _ _).alloc (Nat.le_refl _) _⟩
 | false =>
  go_enter func176,ntmps176;go_wp2;go_ret;exact ⟨rfl,(Below.refl _ _).alloc (Nat.le_refl _) _⟩
theorem uF (xs:List Al) (k:Nat) (h:k < xs.length):(xs.drop k).any (fun a=>!a.s.toList.isEmpty)=((!xs[k].s.toList.isEmpty) || (xs.drop (k + 1)).any (fun a=>!a.s.toList.isEmpty)):=by
 rw [List.drop_eq_getElem_cons h]; rfl
theorem yD (ad:Option Addr) (cap:Nat) (xs:List Al) (w:World) (hlen:xs.length≤1048576) (hs:kF w ad xs) :
  Calls prog 183 #[.slice ad xs.length cap,.func (Fn.func 176) #[] #[]] w fun e w'=>(∃ r:Int,e=.returned (.int .i64 r)∧decide (0≤r)=xs.any (fun a=>!a.s.toList.isEmpty))∧Below w.heap.size w w':=by
 have HS:Hid (kF w ad xs):=hs;clear hs;go_enter func183,ntmps183;go_wp2_with fail;go_loopw [8] (fun i wr=>∃ k:Nat,k≤xs.length∧i=.int .i64 k∧Hid ((xs.drop k).any (fun a=>!a.s.toList.isEmpty)=xs.any (fun a=>!a.s.toList.isEmpty))∧Hid (Below w.heap.size w wr)) (fun i _=>xs.length - (intOf i).toNat);case atStart=>exact ⟨0,Nat.zero_le _,rfl,rfl,Below.refl _ _⟩
 case round =>
  obtain ⟨k,hk,rfl,HP,HB⟩:=hrel;by_cases hlt:k < xs.length
  ·rcases HS.out.below HB.out with rfl | ⟨b,off,rfl,hb,hr⟩
   ·simp at hlt
   obtain ⟨t0,t1⟩:=hr k hlt;have hk1:=bR k;have hk2:(k:Int) < (xs.length:Int):=by omega
   clear hr;cases he:xs[k].s.toList.isEmpty with
   | false =>
    have HN:Hid (xs.any (fun a=>!a.s.toList.isEmpty)=true):=by show _=_; rw [← HP.out,uF _ _ hlt,he]; rfl
    go_wp2_with (go_at_call 176; refine (zC xs[k] _).mono ?_; rintro e w' ⟨he2,hbx⟩; rw [he] at he2; subst he2);go_ret;exact ⟨⟨k,rfl,by rw [HN.out]; simp⟩,HB.out.trans (hbx.mono HB.out.size)⟩
   | true =>
    have HP2:Hid ((xs.drop (k + 1)).any (fun a=>!a.s.toList.isEmpty)=xs.any (fun a=>!a.s.toList.isEmpty)):=by show _=_; rw [← HP.out,uF _ _ hlt,he]; rfl
    go_wp2_with (go_at_call 176; refine (zC xs[k] _).mono ?_; rintro e w' ⟨he2,hbx⟩; rw [he] at he2; subst he2);go_roundw;case rel=>exact ⟨k + 1,by omega,by go_num,HP2,HB.out.trans (hbx.mono HB.out.size)⟩
    case measure=>simp [intOf] <;> omega
  ·have HN:Hid (xs.any (fun a=>!a.s.toList.isEmpty)=false):=by show _=_; rw [← HP.out,List.drop_of_length_le (by omega)]; rfl
   go_wp2;go_ret;exact ⟨⟨-1,rfl,by rw [HN.out]; simp⟩,HB.out⟩
theorem sW (ad:Option Addr) (cap:Nat) (xs:List Al) (w:World) (hlen:xs.length≤1048576) (hs:kF w ad xs) :
  Calls prog 175 #[.slice ad xs.length cap,.func (Fn.func 176) #[] #[]] w fun e w'=>e=.returned (.bool (xs.any (fun a=>!a.s.toList.isEmpty)))∧Below w.heap.size w w':=by
 go_enter func175,ntmps175;go_wp2_with fail;refine (yD ad cap xs _ hlen hs).mono ?_;rintro e w' ⟨⟨r,rfl,hr⟩,hbx⟩;have HR:Hid (decide (0≤r)=xs.any (fun a=>!a.s.toList.isEmpty)):=hr;clear hr hs;go_wp2;go_ret;exact ⟨by rw [← HR.out]; rfl,hbx⟩
theorem Js (xs:List Al):(!xs.any fun a=>!a.s.toList.isEmpty)=xs.all fun a=>a.s.toList.isEmpty:=by
 induction xs with
 | nil=>rfl
 | cons a xs ih=>simp only [List.any_cons,List.all_cons,Bool.not_or,Bool.not_not,ih]
set_option maxRecDepth 100000 in
theorem rQ (ad:Option Addr) (cap:Nat) (rs:List ER) (w:World) (hlen:rs.length≤1048576) (hs:kX w ad rs) (hl:∀ r ∈ rs,r.e.light) :
  Calls prog 157 #[.slice ad rs.length cap] w fun e w'=>e=.returned (.bool (bv (au rs)))∧Below w.heap.size w w':=by
 by_cases h1:rs.length=1
 ·obtain ⟨r,rfl⟩:∃ r,rs=[r]:=List.length_eq_one_iff.1 h1;rcases hs with h | ⟨b,off,rfl,hb,hr,hok⟩
  ·cases h
  obtain ⟨t0,t1,t2,t3,t4⟩:=hr 0 (by simp);simp only [Nat.zero_mul,Nat.add_zero,List.getElem_cons_zero] at t0 t1 t2 t3 t4;have HOK:Hid (r.ok w):=hok r (by simp);obtain ⟨lg,-⟩:=hl r (by simp);clear hr hok h1;simp only [List.length_cons,List.length_nil,Nat.zero_add];by_cases hq:r.e.kind=1
  ·have HD:Hid (bv (au [r])=!r.e.allow.any fun a=>!a.s.toList.isEmpty):=by show _=_; rw [Js]; simp [bv,au,hq]
   have hqb:(r.e.kind == 1)=true:=by simpa using hq
   go_enter func157,ntmps157;go_wp2_with (go_at_call 175; refine (sW _ _ r.e.allow _ lg (HOK.out.1.below ((Below.refl _ _)))).mono ?_; rintro e w' ⟨rfl,hbx⟩);go_ret;exact ⟨by rw [HD.out]; rfl,hbx⟩
  ·have HD:Hid (bv (au [r])=false):=by show _=_; simp [bv,au,hq]
   have hqb:(r.e.kind == 1)=false:=by simpa using hq
   go_enter func157,ntmps157;go_wp2;go_ret;exact ⟨by rw [HD.out]; rfl,Below.refl _ _⟩
 ·have HD:Hid (bv (au rs)=false):=by
   show _=_;rcases rs with _ | ⟨r,_ | ⟨r2,rs⟩⟩
   ·rfl
   ·simp at h1
   ·rfl
  have h2:((rs.length:Int) == 1)=false:=by
   have:¬ ((rs.length:Int)=1):=by omega
   simpa using this
  clear hs;go_enter func157,ntmps157;go_wp2;go_ret;exact ⟨by rw [HD.out]; rfl,Below.refl _ _⟩
def eG (ts:List Ty) (ty over rel:ByteArray):List ByteArray:=if bv (aN ts ty over) then fH ts ty over rel else []
theorem GD:(prog.info? 9).map (fun i=>(i.zero,i.size,i.bytes))=some (some (.string ⟨#[]⟩),1,16):=by kernel_rfl
theorem Ee (r:ER) (h:bv (au [r])=true):aT (au [r])=r.e.allow∧r.e.kind=1:=by
 simp only [au,List.map_cons,List.map_nil,bv,Bool.and_eq_true,decide_eq_true_eq] at h;exact ⟨by simp [au,aT,h.1],h.1⟩
theorem Ef {rows:List ER} (h:bv (au rows)=true):∃ r,rows=[r]:=by
 rcases rows with _ | ⟨r,_ | ⟨r2,rs⟩⟩
 ·simp [au,bv] at h
 ·exact ⟨r,rfl⟩
 ·simp [au,bv] at h
set_option maxRecDepth 100000 in
theorem uG (b n:Nat) (rs:List TR) (ad:Option Addr) (M:ByteArray × ByteArray→Option Value) (typ:ByteArray) (x:ER) (w:World) (hV:aJ bI prog 147 w b n M) (hT:Tab rs M) (hs:gp w ad rs) (hl:∀ r ∈ rs,r.light) (hf:∀ r ∈ rs,r.fits) (ht:typ.size≤maxLen) (ho:x.e.over.size≤maxLen) (hn:x.e.name.size≤maxLen) :
  Calls prog 136 #[.map (some b),.string typ,x.val] w fun e w'=>(∃ (ad':Option Addr) (cap':Nat),e=.returned (.slice ad' (eG (ah rs) typ x.e.over x.e.name).length cap')∧Kq w' ad' (eG (ah rs) typ x.e.over x.e.name)∧∀ p,ad'=some p→w.heap.size≤p.block)∧Below w.heap.size w w':=by
 have HV:Hid (aJ bI prog 147 w b n M):=hV;have HT:Hid (Tab rs M):=hT;have HS:Hid (gp w ad rs):=hs;have HL:Hid (∀ r ∈ rs,r.light):=hl;have HFT:Hid (∀ r ∈ rs,r.fits):=hf;obtain ⟨kl,hkl⟩:=jo (typ,x.e.over) ht ho;have HKL:Hid (keyOf prog 147 (bI (typ,x.e.over))=some kl):=hkl;clear hkl hV hT hs hl hf;obtain ⟨i0,hi,hz0,hz1,hz2⟩:=info_parts GD;obtain ⟨W0,hW0⟩:∃ W0,W0=w.alloc (.cells #[.int .i64 x.e.kind,.slice x.adA x.e.allow.length x.capA,.string x.e.over,.string x.e.name,.slice x.adK x.e.kids.length x.capK] 139):=⟨_,rfl⟩;have hal:Below w.heap.size w W0:=by rw [hW0]; exact (Below.refl _ _).alloc (Nat.le_refl _) _
 have HB0:Hid (Below w.heap.size w W0):=hal;have HV0:Hid (aJ bI prog 147 W0 b n M):=HV.out.below hal;have c3:W0.cell? ⟨w.heap.size,3,none⟩=some (.string x.e.name):=by rw [hW0]; simp
 have hg0:w.heap.size < W0.heap.size:=by rw [hW0]; simp
 -- what lies in the table
 obtain ⟨rows,adE,capE,HM,HE,HF,HFL⟩:∃ (rows:List ER) (adE:Option Addr) (capE:Nat),Hid ((M (typ,x.e.over)).getD (.slice none 0 0)=.slice adE rows.length capE)∧Hid (au rows=aN (ah rs) typ x.e.over)∧Hid (pV rs adE rows)∧Hid (∀ q ∈ rows,q.e.fits):=by
  cases e:M (typ,x.e.over) with
  | none=>exact ⟨[],none,0,rfl,by show _=_; unfold aN; rw [HT.out.no _ e]; rfl,.inl rfl,by show ∀ _,_; simp⟩
  | some v =>
   obtain ⟨t,htm,q,hq,-,rfl,e1,-⟩:=HT.out.yes _ v e;exact ⟨q.rows,q.ad,q.cap,rfl,by show _=_; unfold aN; rw [e1]; rfl,.inr ⟨t,htm,q,hq,rfl,rfl⟩,((HFT.out t htm).2.2 q hq).2.2⟩
 have HSE:Hid (kX W0 adE rows):=HF.out.sl (HS.out.below hal);have HLE:=HF.out.light HL.out;have HLE1:rows.length≤1048576:=HLE.1;have HLE2:Hid (∀ q ∈ rows,q.e.light):=HLE.2;clear HLE hal;go_enter func136,ntmps136;unfold ER.val;go_wp2_with (at_lookup; rw [← hW0]; refine il _ rfl _ _ 88 rfl 147 124 iq underlying88 (sV _) b n M rfl HV0.out (typ,x.e.over) kl rfl HKL.out ?_; rw [HM.out]; clear hW0);refine (rQ adE capE rows _ HLE1 HSE.out HLE2.out).mono ?_;rintro e w1 ⟨rfl,hb1⟩;have HB1:=gW HB0 hb1;have HNM:Hid (w1.cell? ⟨w.heap.size,3,none⟩=some (.string x.e.name)∧w.heap.size < w1.heap.size):=⟨ak hb1 hg0 c3,Nat.lt_of_lt_of_le hg0 hb1.size⟩;clear hb1 c3 hg0;cases hd:bv (au rows) with
 | false =>
  have HG:Hid (eG (ah rs) typ x.e.over x.e.name=[]):=by show _=_; unfold eG; rw [← HE.out,hd]; rfl
  go_wp2;go_ret;refine ⟨⟨none,0,by rw [HG.out]; rfl,by rw [HG.out]; exact .inl rfl,fun p hp=>by cases hp⟩,HB1.out⟩
 | true =>
  obtain ⟨r,rfl⟩:=Ef hd;have HG:Hid (eG (ah rs) typ x.e.over x.e.name=gl (ah rs) x.e.name r.e.allow):=by
   show _=_;unfold eG fH;rw [← HE.out,hd,if_pos rfl,(Ee r hd).1]
  rcases HSE.out with h | ⟨bE,offE,rfl,hbE,hrE,hokE⟩
  ·cases h
  have HSW:Hid (kX w1 (some ⟨bE,offE,none⟩) [r]):=HF.out.sl (HS.out.below HB1.out);rcases HSW.out with h | ⟨bE',offE',heE,hbE1,hrE1,hokE1⟩
  ·cases h
  injection heE with heE; injection heE with heE1 heE2; subst heE1; subst heE2;obtain ⟨s0,s1,s2,s3,s4⟩:=hrE1 0 (by simp);simp only [Nat.zero_mul,Nat.add_zero,List.getElem_cons_zero] at s0 s1 s2 s3 s4;have HOKR:Hid (r.ok w):=by
   have h1:=HF.out.sl HS.out;exact h1.mem (by simp)
  have lgA:r.e.allow.length≤1048576:=(HLE2.out r (by simp)).1;have HFA:Hid (∀ a ∈ r.e.allow,a.fits):=(HFL.out r (by simp)).1;have hone:([r]:List ER).length=1:=rfl;rw [hone];clear hrE hokE hrE1 hokE1 HE HM hd hbE;go_wp2_with fail;go_loopw [8,25] (fun v i wr=>∃ k:Nat,k≤r.e.allow.length∧i=.int .i64 k∧Hid (wr.ownsRow w.heap.size 9 1 v (gl (ah rs) x.e.name (r.e.allow.take k)).length (nJ (gl (ah rs) x.e.name (r.e.allow.take k))))∧Hid (Below w.heap.size w wr)∧Hid (wr.cell? ⟨w.heap.size,3,none⟩=some (.string x.e.name)∧w.heap.size < wr.heap.size∧v.ownBlock ≠ some w.heap.size)) (fun _ i _=>r.e.allow.length - (intOf i).toNat);case atStart=>exact ⟨0,Nat.zero_le _,rfl,World.ownsRow_nil _ _ _ _,HB1,HNM.out.1,HNM.out.2,by simp [Value.ownBlock]⟩
  case round =>
   clear HB1 HNM s0 s1 s2 s3 s4;obtain ⟨k,hk,rfl,HOW,HB,HC⟩:=hrel;by_cases hlt:k < r.e.allow.length
   ·rcases (HOKR.out.1).below HB.out with hnil | ⟨ba,offa,had,hba,hra⟩
    ·rw [hnil] at hlt; simp at hlt
    obtain ⟨t0,t1⟩:=hra k hlt;have hk1:=bR k;have hk2:(k:Int) < (r.e.allow.length:Int):=by omega
    have zA:=HFA.out _ (List.getElem_mem hlt);have z1:r.e.allow[k].t.size≤maxLen:=zA.1;obtain ⟨hc3,hcl,hco⟩:=HC.out;obtain ⟨W1,hW1⟩:∃ W1,W1=wr.alloc (.cells #[.string r.e.allow[k].t,.string r.e.allow[k].s] 149):=⟨_,rfl⟩;have hal:Below wr.heap.size wr W1:=by rw [hW1]; exact (Below.refl _ _).alloc (Nat.le_refl _) _
    have HBW:=gW HB hal;have HVW:Hid (aJ bI prog 147 W1 b n M):=HV.out.below HBW.out;have HOW1:Hid (W1.ownsRow w.heap.size 9 1 u8 (gl (ah rs) x.e.name (r.e.allow.take k)).length (nJ (gl (ah rs) x.e.name (r.e.allow.take k)))):=own_below HOW.out hal;have g0:W1.cell? ⟨wr.heap.size,0,none⟩=some (.string r.e.allow[k].t):=by rw [hW1]; simp
    have g3:=ak hal hcl hc3;have hgl1:wr.heap.size < W1.heap.size:=by rw [hW1]; simp
    have hgl:=Dy (ah rs) x.e.name (r.e.allow.take k);rw [List.length_take] at hgl;have HI:=HT.out.some_iff (r.e.allow[k].t,x.e.name);have hwsz:w.heap.size≤W1.heap.size:=HBW.out.size;rw [had];clear hra hal HC HOW;go_wp2_with fail;rw [← hW1];refine (vC b n M r.e.allow[k].t x.e.name _ z1 hn HVW.out).mono ?_;rintro e w' ⟨rfl,hw'⟩;rw [hw'];clear hw' w' hW1 t0 t1 hc3;cases hz:(M (r.e.allow[k].t,x.e.name)).isSome with
    | false =>
     have HE:Hid (gl (ah rs) x.e.name (r.e.allow.take (k + 1))=gl (ah rs) x.e.name (r.e.allow.take k)):=by
      refine LA _ _ _ _ hlt ?_;rw [hz] at HI;simpa using HI.symm
     clear HI;go_wp2;go_roundw;case rel=>exact ⟨k + 1,by omega,by go_num,by rw [HE.out]; exact HOW1,HBW,g3,by omega,hco⟩
     case measure=>simp [intOf] <;> omega
    | true =>
     have HX:Hid (gl (ah rs) x.e.name (r.e.allow.take (k + 1))=gl (ah rs) x.e.name (r.e.allow.take k) ++ [r.e.allow[k].t]):=by
      refine IJ _ _ _ _ hlt ?_;rw [hz] at HI;simpa using HI.symm
     clear HI;go_wp2_with (at_builtin; refine wpList_append_own_at _ rfl _ _ 130 rfl w.heap.size 9 i0 (.string ⟨#[]⟩) 1 16 underlying130 hi hz0 hz1 hz2 rfl (by decide) _ _ _ rfl (HOW1.out.alloc _) ⟨W1.heap.size,0,none⟩ 1 1 [.string r.e.allow[k].t] rfl rfl (cell_one_new _ _ _) (by intro u hu; simp at hu; subst hu; rfl) (by unfold maxLen; omega) (by omega) (by simp; omega) ?_);intro v' w3 hown3 hgrow _ hloc;have hb3:Hid (Below w.heap.size w w3):=(HBW.out.alloc HBW.out.size _).grown hgrow (by simp; omega) (fun i hi=>(HOW1.out.lt i hi).1);have HO3:Hid (w3.ownsRow w.heap.size 9 1 v' (gl (ah rs) x.e.name (r.e.allow.take (k + 1))).length (nJ (gl (ah rs) x.e.name (r.e.allow.take (k + 1))))):=by
      show World.ownsRow _ _ _ _ _ _ _;rw [HX.out];simpa [nJ] using hown3
     have HC3:Hid (w3.cell? ⟨w.heap.size,3,none⟩=some (.string x.e.name)∧w.heap.size < w3.heap.size∧v'.ownBlock ≠ some w.heap.size):=by
      refine ⟨?_,?_,?_⟩
      ·rw [hgrow.cell_far _ (by simp; omega) (Ne.symm hco)]; exact ak ((Below.refl _ _).alloc (Nat.le_refl _) _) (by omega) g3
      ·have:=hgrow.size; simp at this; omega
      ·rcases hloc with e | e
       ·rw [e]; exact hco
       ·rw [e]; simp; omega
     clear hown3 hgrow hloc HOW1 g0 g3;go_wp2;go_roundw;case rel=>exact ⟨k + 1,by omega,by go_num,HO3,hb3,HC3⟩
     case measure=>simp [intOf] <;> omega
   ·obtain rfl:k=r.e.allow.length:=by omega
    have hown:=HOW.out;rw [List.take_length] at hown;obtain ⟨ad',cp,rfl,hS',hN'⟩:=IK hown;have HS2:Hid (Kq wr ad' (gl (ah rs) x.e.name r.e.allow)):=hS';have HN2:Hid (∀ p,ad'=some p→w.heap.size≤p.block):=hN';clear hown HOW hS' hN' HC;go_wp2;go_ret;refine ⟨⟨ad',cp,by rw [HG.out]; rfl,by rw [HG.out]; exact HS2.out,HN2.out⟩,HB.out⟩
theorem zD (x y:Al):jh x y=jh y x:=by
 unfold jh;rw [Bool.eq_iff_iff];simp only [Bool.and_eq_true,beq_iff_eq];exact ⟨fun h=>⟨h.1.symm,h.2.symm⟩,fun h=>⟨h.1.symm,h.2.symm⟩⟩
theorem GG (ad:Option Addr) (n cap:Nat) (xs:List Al) (v:Al) (w:World) (hn:n≤xs.length) (hlen:xs.length≤1048576) (hs:kF w ad xs) :
  Calls prog 111 #[.slice ad n cap,.agg #[.string v.t,.string v.s]] w fun e w'=>(∃ r:Int,e=.returned (.int .i64 r)∧decide (0≤r)=dz xs n v)∧Below w.heap.size w w':=by
 obtain ⟨W,hW⟩:∃ W,W=w.alloc (.cells #[.string v.t,.string v.s] 149):=⟨_,rfl⟩;have HB0:Hid (Below w.heap.size w W):=by show Below _ _ _; rw [hW]; exact (Below.refl w.heap.size w).alloc (Nat.le_refl _) _
 have hz:w.heap.size < W.heap.size:=by rw [hW]; simp
 have b0:W.cell? ⟨w.heap.size,0,none⟩=some (.string v.t):=by rw [hW]; simp
 have b1:W.cell? ⟨w.heap.size,1,none⟩=some (.string v.s):=by rw [hW]; simp
 have HS:Hid (kF W ad xs):=hs.below HB0.out;clear hs;go_enter func111,ntmps111;go_wp2_with fail;rw [← hW];clear hW;go_loopw [8] (fun i wr=>∃ k:Nat,k≤n∧i=.int .i64 k∧Hid (dz xs k v=false)∧Below W.heap.size W wr) (fun i _=>n - (intOf i).toNat);case atStart=>exact ⟨0,Nat.zero_le _,rfl,lY _ _,Below.refl _ _⟩
 case round =>
  obtain ⟨k,hk,rfl,HP,hB⟩:=hrel;have a0:=kept hB hz b0;have a1:=kept hB hz b1;by_cases hlt:k < n
  ·have hltx:k < xs.length:=by omega
   rcases HS.out.below hB with rfl | ⟨b,off,rfl,hb,hr⟩
   ·simp at hltx
   obtain ⟨t0,t1⟩:=hr k hltx;have hk1:=bR k;have hk2:(k:Int) < (n:Int):=by omega
   clear hr;cases hq:jh v xs[k] with
   | true =>
    have HE:=sG v xs[k] hq;have HN:Hid (dz xs n v=true):=sH hlt hltx (by rw [zD]; exact hq);go_wp2_with fail;go_quiet (fail);go_wp2;go_ret;exact ⟨⟨_,rfl,by rw [HN.out]; simp⟩,HB0.out.trans (below_drewN (hB.mono HB0.out.size) _)⟩
   | false =>
    have HE:=sG v xs[k] hq;have HP2:Hid (dz xs (k + 1) v=false):=by show _=_; rw [lX _ _ _ hltx,HP.out,zD,hq]; rfl
    go_wp2_with fail;go_quiet (fail);go_wp2;go_roundw;case rel=>exact ⟨k + 1,by omega,by go_num,HP2,below_drewN hB _⟩
    case measure=>simp [intOf] <;> omega
  ·obtain rfl:k=n:=by omega
   go_wp2;go_ret;exact ⟨⟨-1,rfl,by rw [HP.out]; rfl⟩,HB0.out.trans (hB.mono HB0.out.size)⟩
theorem rR (ad:Option Addr) (n cap:Nat) (xs:List Al) (v:Al) (w:World) (hn:n≤xs.length) (hlen:xs.length≤1048576) (hs:kF w ad xs) :
  Calls prog 76 #[.slice ad n cap,.agg #[.string v.t,.string v.s]] w fun e w'=>e=.returned (.bool (dz xs n v))∧Below w.heap.size w w':=by
 have HB0:Hid (Below w.heap.size w (w.alloc (.cells #[.string v.t,.string v.s] 149))):=(Below.refl w.heap.size w).alloc (Nat.le_refl _) _;have HS:Hid (kF w ad xs):=hs;clear hs;go_enter func76,ntmps76;go_wp2_with fail;refine (GG ad n cap xs v _ hn hlen (HS.out.below HB0.out)).mono ?_;rintro e w1 ⟨⟨r,rfl,hr⟩,hb1⟩;have HR:Hid (decide (0≤r)=dz xs n v):=hr;have HB1:=gW HB0 hb1;clear hr hb1;go_wp2;go_ret;exact ⟨ag HR.out,HB1.out⟩
set_option maxRecDepth 8000 in
theorem AP (r:ER) (w:World) (hf:r.e.fits) (h1:r.e.kind ≠ 1) :
  Calls prog 172 #[r.val] w fun e w'=>e=.returned (.bool (ay r.e))∧Below w.heap.size w w':=by
 obtain ⟨⟨kind,allow,over,name,kids⟩,adA,capA,adK,capK⟩:=r;obtain ⟨f1,f2,f3,f4,f5⟩:=hf;simp only at f1 f2 f3 f4 f5 h1;simp only [ER.val];unfold maxLen at f4 f5;by_cases h2:kind=2
 ·subst h2;clear h1;go_enter func172,ntmps172;go_wp2_with fail;go_quiet (fail);go_wp2_with (go_at_call 109; refine (aF _ _ (by assumption)).mono ?_; rintro e w' ⟨rfl,rfl⟩)
  all_goals go_ret
  all_goals exact ⟨ag (by first | (simp [ay, *]; done) | (simp [ay, *]; omega) | (simp [ay, *]; rw [Bool.eq_iff_iff]; simp; done) | (simp [ay, *]; rw [Bool.eq_iff_iff]; simp; omega)),below_drewN ((Below.refl w.heap.size w).alloc (Nat.le_refl _) _) _⟩
 by_cases h3:kind=3
 ·subst h3;clear h1;go_enter func172,ntmps172;go_wp2_with fail;go_quiet (fail);go_wp2_with (go_at_call 109; refine (aF _ _ (by assumption)).mono ?_; rintro e w' ⟨rfl,rfl⟩)
  all_goals go_ret
  all_goals exact ⟨ag (by first | (simp [ay, *]; done) | (simp [ay, *]; omega) | (simp [ay, *]; rw [Bool.eq_iff_iff]; simp; done) | (simp [ay, *]; rw [Bool.eq_iff_iff]; simp; omega)),below_drewN ((Below.refl w.heap.size w).alloc (Nat.le_refl _) _) _⟩
 by_cases h4:kind=4
 ·subst h4;clear h1;go_enter func172,ntmps172;go_wp2_with fail;go_quiet (fail);go_wp2_with (go_at_call 109; refine (aF _ _ (by assumption)).mono ?_; rintro e w' ⟨rfl,rfl⟩)
  all_goals go_ret
  all_goals exact ⟨ag (by first | (simp [ay, *]; done) | (simp [ay, *]; omega) | (simp [ay, *]; rw [Bool.eq_iff_iff]; simp; done) | (simp [ay, *]; rw [Bool.eq_iff_iff]; simp; omega)),below_drewN ((Below.refl w.heap.size w).alloc (Nat.le_refl _) _) _⟩
 by_cases h5:kind=5
 ·subst h5;clear h1;go_enter func172,ntmps172;go_wp2_with fail;go_quiet (fail);go_wp2_with (go_at_call 109; refine (aF _ _ (by assumption)).mono ?_; rintro e w' ⟨rfl,rfl⟩)
  all_goals go_ret
  all_goals exact ⟨ag (by first | (simp [ay, *]; done) | (simp [ay, *]; omega) | (simp [ay, *]; rw [Bool.eq_iff_iff]; simp; done) | (simp [ay, *]; rw [Bool.eq_iff_iff]; simp; omega)),below_drewN ((Below.refl w.heap.size w).alloc (Nat.le_refl _) _) _⟩
 by_cases h6:kind=6
 ·subst h6;clear h1;go_enter func172,ntmps172;go_wp2_with fail;go_quiet (fail);go_wp2_with (go_at_call 109; refine (aF _ _ (by assumption)).mono ?_; rintro e w' ⟨rfl,rfl⟩)
  all_goals go_ret
  all_goals exact ⟨ag (by first | (simp [ay, *]; done) | (simp [ay, *]; omega) | (simp [ay, *]; rw [Bool.eq_iff_iff]; simp; done) | (simp [ay, *]; rw [Bool.eq_iff_iff]; simp; omega)),below_drewN ((Below.refl w.heap.size w).alloc (Nat.le_refl _) _) _⟩
 ·go_enter func172,ntmps172;go_wp2_with fail;go_quiet (fail);go_wp2_with (go_at_call 109; refine (aF _ _ (by assumption)).mono ?_; rintro e w' ⟨rfl,rfl⟩)
  all_goals go_ret
  all_goals exact ⟨ag (by first | (simp [ay, *]; done) | (simp [ay, *]; omega) | (simp [ay, *]; rw [Bool.eq_iff_iff]; simp; done) | (simp [ay, *]; rw [Bool.eq_iff_iff]; simp; omega)),below_drewN ((Below.refl w.heap.size w).alloc (Nat.le_refl _) _) _⟩
end Go.Proofs.YteoflgocljfgeaaGreatDoor
