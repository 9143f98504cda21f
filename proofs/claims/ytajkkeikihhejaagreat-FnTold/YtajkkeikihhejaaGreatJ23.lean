/- Contracts of the library's search in a slice of allowed pairs, as the program calls it. -/
import Derived.Test.YtajkkeikihhejaaGreatSq
import Derived.Test.YtajkkeikihhejaaGreatImplGoals
import Derived.Test.YtajkkeikihhejaaGreatJ21
open Go.Proofs.Tryz
set_option maxHeartbeats 80000000
namespace Go.Proofs.YtajkkeikihhejaaGreat
open Go.ChangeShapes Go.WideShapes Go.ChangeAt Go.RowKit
open Pl
theorem C8 (x y:Al):jS x y=jS y x:=by
 unfold jS;rw [Bool.eq_iff_iff];simp only [TU,beq_iff_eq];exact ⟨fun h=>⟨h.1.symm,h.2.symm⟩,fun h=>⟨h.1.symm,h.2.symm⟩⟩
theorem LU (ad:Option Addr) (n cap:Nat) (xs:List Al) (v:Al) (w:af) (hn:n≤xs.length) (hlen:xs.length≤1048576) (hs:jM w ad xs) :
  Calls prog 197 #[.slice ad n cap,.agg #[.string v.t,.string v.s]] w fun e w'=>(∃ r:Int,e=.returned (.int .i64 r)∧decide (0≤r)=dF xs n v)∧ag w w':=by
 obtain ⟨W,hW⟩:∃ W,W=w.alloc (.cells #[.string v.t,.string v.s] 43):=⟨_,rfl⟩;have HB0:Hid (ag w W):=by show Below _ _ _; rw [hW]; exact (TT w.heap.size w).alloc (TS _) _
 have hz:w.heap.size < W.heap.size:=by rw [hW]; simp
 have b0:W.cell? ⟨w.heap.size,0,none⟩=some (.string v.t):=by rw [hW]; simp
 have b1:W.cell? ⟨w.heap.size,1,none⟩=some (.string v.s):=by rw [hW]; simp
 have HS:=az (hs.below HB0.out);clear hs;go_enter func197,ntmps197;go_wp2_with fail;rw [← hW];clear hW;go_loopw [8] (fun i wr=>∃ k:Nat,k≤n∧i=.int .i64 k∧Hid (dF xs k v=false)∧ag W wr) (fun i _=>n - (intOf i).toNat);case atStart=>exact ⟨0,TW _,rfl,sQ _ _,TT _ _⟩
 obtain ⟨k,hk,rfl,HP,hB⟩:=hrel;have a0:=kept hB hz b0;have a1:=kept hB hz b1;by_cases hlt:k < n
 ·have hltx:k < xs.length:=by omega
  rcases HS.out.below hB with rfl | ⟨b,off,rfl,hb,hr⟩
  ·simp at hltx
  obtain ⟨t0,t1⟩:=hr k hltx;have hk1:=bB k;have hk2:(k:Int) < (n:Int):=by omega
  clear hr;cases hq:jS v xs[k];case true=>
   have HE:=Ea v xs[k] hq;have HN:Hid (dF xs n v=true):=Ct hlt hltx (by rw [C8]; exact hq);go_wp2_with fail;go_quiet (fail);go_wp2;go_ret;exact ⟨⟨_,rfl,by rw [HN.out]; simp⟩,HB0.out.trans (below_drewN (hB.mono HB0.out.size) _)⟩
  have HE:=Ea v xs[k] hq;have UI:Hid (dF xs (k + 1) v=false):=by show _=_; rw [sP _ _ _ hltx,HP.out,C8,hq]; rfl
  go_wp2_with fail;go_quiet (fail);go_wp2;go_roundw;case rel=>exact ⟨k + 1,by omega,by go_num,UI,below_drewN hB _⟩
  simp [intOf] <;> omega
 obtain rfl:k=n:=by omega
 go_wp2;go_ret;exact ⟨⟨-1,rfl,by rw [HP.out]; rfl⟩,HB0.out.trans (hB.mono HB0.out.size)⟩
theorem vk (ad:Option Addr) (n cap:Nat) (xs:List Al) (v:Al) (w:af) (hn:n≤xs.length) (hlen:xs.length≤1048576) (hs:jM w ad xs) :
  Calls prog 142 #[.slice ad n cap,.agg #[.string v.t,.string v.s]] w fun e w'=>e=.returned (.bool (dF xs n v))∧ag w w':=by
 have HB0:Hid (ag w (w.alloc (.cells #[.string v.t,.string v.s] 43))):=(TT w.heap.size w).alloc (TS _) _;have HS:=az hs;clear hs;go_enter func142,ntmps142;go_wp2_with fail;refine (LU ad n cap xs v _ hn hlen (HS.out.below HB0.out)).mono ?_;rintro e w1 ⟨⟨r,rfl,hr⟩,hb1⟩;have HR:Hid (decide (0≤r)=dF xs n v):=hr;have HB1:=jP HB0 hb1;clear hr hb1;go_wp2;go_ret;exact ⟨ah HR.out,HB1.out⟩
set_option maxRecDepth 8000 in
theorem Ey (r:ER) (w:af) (hf:r.e.fits) (h1:r.e.kind ≠ 1) :
  Calls prog 239 #[r.val] w fun e w'=>e=.returned (.bool (av r.e))∧ag w w':=by
 obtain ⟨⟨kind,allow,over,name,kids⟩,adA,capA,adK,capK⟩:=r;obtain ⟨f1,f2,f3,f4,f5⟩:=hf;simp only at f1 f2 f3 f4 f5 h1;simp only [ER.val];unfold maxLen at f4 f5;by_cases h2:kind=2
 ·subst h2;clear h1;go_enter func239,ntmps239;go_wp2_with fail;go_quiet (fail);go_wp2_with (go_at_call 162; refine (aL _ _ (by assumption)).mono ?_; rintro e w' ⟨rfl,rfl⟩)
  all_goals go_ret
  all_goals exact ⟨ah (by first | (simp [av, *]; done) | (simp [av, *]; omega) | (simp [av, *]; rw [Bool.eq_iff_iff]; simp; done) | (simp [av, *]; rw [Bool.eq_iff_iff]; simp; omega)),below_drewN ((TT w.heap.size w).alloc (TS _) _) _⟩
 by_cases h3:kind=3
 ·subst h3;clear h1;go_enter func239,ntmps239;go_wp2_with fail;go_quiet (fail);go_wp2_with (go_at_call 162; refine (aL _ _ (by assumption)).mono ?_; rintro e w' ⟨rfl,rfl⟩)
  all_goals go_ret
  all_goals exact ⟨ah (by first | (simp [av, *]; done) | (simp [av, *]; omega) | (simp [av, *]; rw [Bool.eq_iff_iff]; simp; done) | (simp [av, *]; rw [Bool.eq_iff_iff]; simp; omega)),below_drewN ((TT w.heap.size w).alloc (TS _) _) _⟩
 by_cases h4:kind=4
 ·subst h4;clear h1;go_enter func239,ntmps239;go_wp2_with fail;go_quiet (fail);go_wp2_with (go_at_call 162; refine (aL _ _ (by assumption)).mono ?_; rintro e w' ⟨rfl,rfl⟩)
  all_goals go_ret
  all_goals exact ⟨ah (by first | (simp [av, *]; done) | (simp [av, *]; omega) | (simp [av, *]; rw [Bool.eq_iff_iff]; simp; done) | (simp [av, *]; rw [Bool.eq_iff_iff]; simp; omega)),below_drewN ((TT w.heap.size w).alloc (TS _) _) _⟩
 by_cases h5:kind=5
 ·subst h5;clear h1;go_enter func239,ntmps239;go_wp2_with fail;go_quiet (fail);go_wp2_with (go_at_call 162; refine (aL _ _ (by assumption)).mono ?_; rintro e w' ⟨rfl,rfl⟩)
  all_goals go_ret
  all_goals exact ⟨ah (by first | (simp [av, *]; done) | (simp [av, *]; omega) | (simp [av, *]; rw [Bool.eq_iff_iff]; simp; done) | (simp [av, *]; rw [Bool.eq_iff_iff]; simp; omega)),below_drewN ((TT w.heap.size w).alloc (TS _) _) _⟩
 by_cases h6:kind=6
 ·subst h6;clear h1;go_enter func239,ntmps239;go_wp2_with fail;go_quiet (fail);go_wp2_with (go_at_call 162; refine (aL _ _ (by assumption)).mono ?_; rintro e w' ⟨rfl,rfl⟩)
  all_goals go_ret
  all_goals exact ⟨ah (by first | (simp [av, *]; done) | (simp [av, *]; omega) | (simp [av, *]; rw [Bool.eq_iff_iff]; simp; done) | (simp [av, *]; rw [Bool.eq_iff_iff]; simp; omega)),below_drewN ((TT w.heap.size w).alloc (TS _) _) _⟩
 go_enter func239,ntmps239;go_wp2_with fail;go_quiet (fail);go_wp2_with (go_at_call 162; refine (aL _ _ (by assumption)).mono ?_; rintro e w' ⟨rfl,rfl⟩)
 all_goals go_ret
 all_goals exact ⟨ah (by first | (simp [av, *]; done) | (simp [av, *]; omega) | (simp [av, *]; rw [Bool.eq_iff_iff]; simp; done) | (simp [av, *]; rw [Bool.eq_iff_iff]; simp; omega)),below_drewN ((TT w.heap.size w).alloc (TS _) _) _⟩
open Go.Maps
def nE (a:Al) (e:Ex):Bool:=decide (e.kind=1) && dF e.allow e.allow.length a
def xM (ts:List Ty) (ty rel:ByteArray) (a:Al):Bool:=(aA ts ty rel).any (nE a)
theorem fit_drop (a:Al) (rows:List ER) (k:Nat) (h:k < rows.length):(aj (rows.drop k)).any (nE a)=(nE a rows[k].e || (aj (rows.drop (k + 1))).any (nE a)):=by
 rw [gI _ _ h]; rfl
set_option maxRecDepth 100000 in
theorem OP (b n:Nat) (rs:List TR) (ad:Option Addr) (M:ByteArray × ByteArray→Option Value) (oa ob r c d s:bF) (w:af) (hV:aM dQ prog 94 w b n M) (hT:Tab rs M) (hs:kW w ad rs) (hl:∀ r ∈ rs,r.light) (ho:oa.size≤maxLen) (hr:r.size≤maxLen) :
  Calls prog 100 #[.map (some b),.agg #[.string oa,.string ob,.string r,.string c,.string d,.string s]] w fun e w'=>e=.returned (.bool (xM (ae rs) oa r ⟨c,s⟩))∧ag w w':=by
 have HT:=az hT;have HS:=az hs;have HL:=az hl;obtain ⟨kl,hkl⟩:=jy (oa,r) ho hr;have Vl:Hid (keyOf prog 94 (dQ (oa,r))=some kl):=hkl;obtain ⟨W0,hW0⟩:∃ W0,W0=(w.alloc (.cells #[.string oa,.string ob,.string r,.string c,.string d,.string s] 46)).alloc (.cells #[.string c,.string s] 43):=⟨_,rfl⟩;have hal:ag w W0:=by
  rw [hW0]
  repeat (first | exact TT _ _ | refine Below.alloc ?_ (by first | (simp; done) | (simp; omega)) _)
 have HB0:=az hal;have ZL:=az (hV.below hal);have VD:Hid (W0.cell? ⟨w.heap.size + 1,0,none⟩=some (.string c)∧W0.cell? ⟨w.heap.size + 1,1,none⟩=some (.string s)∧w.heap.size + 1 < W0.heap.size):=⟨by rw [hW0]; simp,by rw [hW0]; simp,by rw [hW0]; simp⟩;obtain ⟨rows,UC,capE,HM,HE,HF⟩:∃ (rows:List ER) (UC:Option Addr) (capE:Nat),Hid ((M (oa,r)).getD (.slice none 0 0)=.slice UC rows.length capE)∧Hid (aj rows=aA (ae rs) oa r)∧Hid (pO rs UC rows):=by
  cases e:M (oa,r) with
  | none=>exact ⟨[],none,0,rfl,by show _=_; unfold aA; rw [HT.out.no _ e]; rfl,.inl rfl⟩
  | some v =>
   obtain ⟨t,ZM,q,hq,-,rfl,e1,-⟩:=HT.out.yes _ v e;exact ⟨q.rows,q.ad,q.cap,rfl,by show _=_; unfold aA; rw [e1]; rfl,.inr ⟨t,ZM,q,hq,rfl,rfl⟩⟩
 have Vj:=HF.out.light HL.out;have HLE1:rows.length≤1048576:=Vj.1;have Z7:Hid (∀ q ∈ rows,q.e.light):=Vj.2;have WA:Hid (iH w UC rows):=HF.out.sl HS.out;clear hV hT hs hl hkl hal Vj;go_enter func100,ntmps100;go_wp2_with (at_lookup; rw [← hW0]; refine jw _ rfl _ _ 91 rfl 94 33 ib underlying91 (lw _) b n M rfl ZL.out (oa,r) kl rfl Vl.out ?_; rw [HM.out]; clear hW0);go_loopw [23] (fun i wr=>∃ k:Nat,k≤rows.length∧i=.int .i64 k∧Hid ((aj (rows.drop k)).any (nE ⟨c,s⟩)=(aj rows).any (nE ⟨c,s⟩))∧Hid (ag w wr)∧Hid (wr.cell? ⟨w.heap.size + 1,0,none⟩=some (.string c)∧wr.cell? ⟨w.heap.size + 1,1,none⟩=some (.string s)∧w.heap.size + 1 < wr.heap.size)) (fun i _=>rows.length - (intOf i).toNat);case atStart=>exact ⟨0,TW _,rfl,rfl,HB0,VD⟩
 clear HB0 VD ZL;obtain ⟨k,hk,rfl,HP,HB,HC⟩:=hrel;by_cases hlt:k < rows.length
 ·rcases WA.out.below HB.out with hnil | ⟨bE,Z8,X7,Z9,ZN,hok⟩
  ·rw [hnil] at hlt; simp at hlt
  obtain ⟨t0,t1,t2,t3,t4⟩:=ZN k hlt;have Vz:Hid (rows[k].ok wr):=hok _ (TQ hlt);have lgA:rows[k].e.allow.length≤1048576:=(Z7.out _ (TQ hlt)).1;have hk1:=bB k;have hk2:(k:Int) < (rows.length:Int):=by omega
  obtain ⟨x0,x1,x2⟩:=HC.out;have HD:Hid ((aj rows).any (nE ⟨c,s⟩)=(nE ⟨c,s⟩ rows[k].e || (aj (rows.drop (k + 1))).any (nE ⟨c,s⟩))):=by show _=_; rw [← HP.out]; exact fit_drop _ _ _ hlt
  obtain ⟨W1,hW1⟩:∃ W1,W1=wr.alloc (.cells #[.int .i64 rows[k].e.kind,.slice rows[k].adA rows[k].e.allow.length rows[k].capA,.string rows[k].e.over,.string rows[k].e.name,.slice rows[k].adK rows[k].e.kids.length rows[k].capK] 39):=⟨_,rfl⟩;have hal:ag wr W1:=by rw [hW1]; exact (TT _ _).alloc (TS _) _
  have HB1:=jP HB hal;have VE:Hid (W1.cell? ⟨w.heap.size + 1,0,none⟩=some (.string c)∧W1.cell? ⟨w.heap.size + 1,1,none⟩=some (.string s)∧w.heap.size + 1 < W1.heap.size):=⟨aG hal x2 x0,aG hal x2 x1,TP x2 hal.size⟩;have HA1:Hid (jM W1 rows[k].adA rows[k].e.allow):=Vz.out.1.below hal;rw [X7];clear ZN hok hal HC;by_cases h1:rows[k].e.kind=1
  ·have hq1:(rows[k].e.kind == 1)=true:=by simpa using h1
   have WH:Hid (nE ⟨c,s⟩ rows[k].e=dF rows[k].e.allow rows[k].e.allow.length ⟨c,s⟩):=by show _=_; unfold nE; simp [h1]
   replace h1:Hid (rows[k].e.kind=1):=h1;go_wp2_with fail;rw [← hW1];refine (vk rows[k].adA rows[k].e.allow.length rows[k].capA rows[k].e.allow ⟨c,s⟩ _ (TS _) lgA HA1.out).mono ?_;rintro e w2 ⟨rfl,hb2⟩;have HB2:=jP HB1 hb2;have U9:Hid (w2.cell? ⟨w.heap.size + 1,0,none⟩=some (.string c)∧w2.cell? ⟨w.heap.size + 1,1,none⟩=some (.string s)∧w.heap.size + 1 < w2.heap.size):=⟨aG hb2 VE.out.2.2 VE.out.1,aG hb2 VE.out.2.2 VE.out.2.1,TP VE.out.2.2 hb2.size⟩;clear hb2 hW1 t0 t1 t2 t3 t4 x0 x1;cases hz:dF rows[k].e.allow rows[k].e.allow.length ⟨c,s⟩;case true=>
    have HN:Hid (xM (ae rs) oa r ⟨c,s⟩=true):=by show _=_; unfold xM; rw [← HE.out,HD.out,WH.out,hz]; rfl
    go_wp2;go_ret;exact ⟨by rw [HN.out]; rfl,HB2.out⟩
   have UI:Hid ((aj (rows.drop (k + 1))).any (nE ⟨c,s⟩)=(aj rows).any (nE ⟨c,s⟩)):=by show _=_; rw [HD.out,WH.out,hz]; rfl
   go_wp2;go_roundw;case rel=>exact ⟨k + 1,by omega,by go_num,UI,HB2,U9⟩
   simp [intOf] <;> omega
  have hq1:(rows[k].e.kind == 1)=false:=by simpa using h1
  have UI:Hid ((aj (rows.drop (k + 1))).any (nE ⟨c,s⟩)=(aj rows).any (nE ⟨c,s⟩)):=by show _=_; rw [HD.out]; simp [nE,h1]
  have U3:Hid (ag w (wr.alloc (.cells #[.int .i64 rows[k].e.kind,.slice rows[k].adA rows[k].e.allow.length rows[k].capA,.string rows[k].e.over,.string rows[k].e.name,.slice rows[k].adK rows[k].e.kids.length rows[k].capK] 39))):=by rw [← hW1]; exact HB1
  have HCX:Hid ((wr.alloc (.cells #[.int .i64 rows[k].e.kind,.slice rows[k].adA rows[k].e.allow.length rows[k].capA,.string rows[k].e.over,.string rows[k].e.name,.slice rows[k].adK rows[k].e.kids.length rows[k].capK] 39)).cell? ⟨w.heap.size + 1,0,none⟩=some (.string c)∧(wr.alloc (.cells #[.int .i64 rows[k].e.kind,.slice rows[k].adA rows[k].e.allow.length rows[k].capA,.string rows[k].e.over,.string rows[k].e.name,.slice rows[k].adK rows[k].e.kids.length rows[k].capK] 39)).cell? ⟨w.heap.size + 1,1,none⟩=some (.string s)∧w.heap.size + 1 < (wr.alloc (.cells #[.int .i64 rows[k].e.kind,.slice rows[k].adA rows[k].e.allow.length rows[k].capA,.string rows[k].e.over,.string rows[k].e.name,.slice rows[k].adK rows[k].e.kids.length rows[k].capK] 39)).heap.size):=by rw [← hW1]; exact VE
  clear hW1;go_wp2;go_roundw;case rel=>exact ⟨k + 1,by omega,by go_num,UI,U3,HCX⟩
  simp [intOf] <;> omega
 have HN:Hid (xM (ae rs) oa r ⟨c,s⟩=false):=by show _=_; unfold xM; rw [← HE.out,← HP.out,List.drop_of_length_le (by omega)]; rfl
 go_wp2;go_ret;exact ⟨by rw [HN.out]; rfl,HB.out⟩
set_option maxRecDepth 100000 in
theorem BJ (ad:Option Addr) (cap:Nat) (rs:List ER) (w:af) (hlen:rs.length≤1048576) (hs:iH w ad rs) (hl:∀ r ∈ rs,r.e.light) (hk:∀ r ∈ rs,dV rs.length r.e.kids) :
  Calls prog 187 #[.slice ad rs.length cap] w fun e w'=>e=.returned (.slice (some ⟨w.heap.size,0,none⟩) rs.length rs.length)∧Fil w w' w.heap.size rs.length (bools (dz (aj rs))):=by
 have HS:=az hs;have HL:=az hl;have HK:=az hk;clear hs hl hk;obtain ⟨inf,hi,hz0,hz1,hz2⟩:=info_parts zy;go_enter func187,ntmps187;go_wp2_with (at_make; refine wpList_make_full _ rfl _ _ 275 rfl w.heap.size 4 inf (.bool false) 1 underlying275 hi hz0 hz1 .i64 .i64 _ _ rs.length rfl rfl rfl rfl (by rw [hz2]; omega) (by unfold maxLen; omega) (TS _) ?_; intro w0 hown0 Vu);have HF0:Hid (Fil w w0 w.heap.size rs.length (bools (List.replicate rs.length false))):=by
  have:=Cv (v:=.bool false) hown0 Vu;show Fil _ _ _ _ _;simpa [bools] using this
 clear hown0 Vu hi hz0 hz1 hz2;go_loopw [4] (fun i wr=>∃ (m:Nat) (out:List Bool),m≤rs.length∧i=.int .i64 ((m:Int) - 1)∧out.length=rs.length∧Hid (dU (aj rs) m out=dz (aj rs))∧Hid (Fil w wr w.heap.size rs.length (bools out))) (fun i _=>(intOf i + 1).toNat);case atStart=>exact ⟨rs.length,List.replicate rs.length false,TS _,by go_num,by simp,(by show _=_; unfold dz; rw [aT]),HF0⟩
 obtain ⟨m,out,hm,rfl,hol,HN,HF⟩:=hrel;by_cases hm0:0 < m
 ·obtain ⟨m,rfl⟩:∃ m',m=m' + 1:=⟨m - 1,by omega⟩;have hmi:(((m + 1:Nat):Int) - 1)=(m:Int):=by omega
  rw [hmi];have hlt:m < rs.length:=by omega
  rcases HS.out.below HF.out.below with rfl | ⟨b,off,rfl,hb,hr,hok⟩
  ·simp at hlt
  obtain ⟨t0,t1,t2,t3,t4⟩:=hr m hlt;have Vz:Hid (rs[m].ok _):=hok rs[m] (TQ hlt);have lg:=(HL.out rs[m] (TQ hlt)).2;have HKI:Hid (dV rs.length rs[m].e.kids):=HK.out rs[m] (TQ hlt);have hk1:=bB m;have hk2:(m:Int) < (rs.length:Int):=by omega
  have hbw:b < w.heap.size:=by
   rcases HS.out with h | ⟨b',off',h1,h2,-⟩
   ·rw [h] at hlt; simp at hlt
   injection h1 with h1; injection h1 with h1; omega
  have HR:Hid (x8 wr b (off + m * 5) rs[m]):=hr m hlt;have HNX:Hid (dU (aj rs) m (bn m rs[m].e.kind rs[m].e.kids 0 out)=dz (aj rs)):=by
   show _=_;rw [← HN.out,zz _ _ _ (by rw [aT]; exact hlt)];simp [aj]
  clear hr hok t0 t1 t2 t3;go_wp2_with fail;clear t4;go_loopw [23] (fun i w2=>∃ (j:Nat) (UE:List Bool),j≤rs[m].e.kids.length∧i=.int .i64 j∧UE.length=rs.length∧Hid (bn m rs[m].e.kind (rs[m].e.kids.drop j) j UE=bn m rs[m].e.kind rs[m].e.kids 0 out)∧Hid (Fil w w2 w.heap.size rs.length (bools UE))) (fun i _=>rs[m].e.kids.length - (intOf i).toNat);case atStart=>exact ⟨0,out,TW _,rfl,hol,rfl,HF⟩
  obtain ⟨j,UE,hj,rfl,ho2,HJ,VI⟩:=hrel;have hE2:iH wr _ rs:=HS.out.below VI.out.below;have ht:x8 wr b (off + m * 5) rs[m]:=by
   rcases hE2 with h | ⟨b',off',h1,h2,h3,-⟩
   ·exact absurd hlt (by rw [h]; simp)
   injection h1 with h1; injection h1 with h1 h1'; subst h1; subst h1'; exact h3 m hlt
  obtain ⟨t0,t1,t2,t3,t4⟩:=ht;by_cases hjl:j < rs[m].e.kids.length
  ·have hK2:pW wr rs[m].adK rs[m].e.kids:=(hE2.mem (TQ hlt)).2;rcases hK2 with hnil | ⟨ba,Wn,U7,Yl,hra⟩
   ·rw [hnil] at hjl; simp at hjl
   rw [U7];have q0:=hra j hjl;have hj1:=bB j;have hj2:(j:Int) < (rs[m].e.kids.length:Int):=by omega
   obtain ⟨x0,x1⟩:=HKI.out _ (TQ hjl);obtain ⟨x,hx⟩:∃ x:Nat,rs[m].e.kids[j]=(x:Int):=⟨rs[m].e.kids[j].toNat,by omega⟩;rw [hx] at q0 x0 x1;have c0:=VI.out.done m (by simp [bools]; omega);have fz:=VI.out.free;obtain ⟨v0,u0⟩:=Option.isSome_iff_exists.mp (VI.out.there x (by omega));have hbr:b < wr.heap.size:=TP hbw VI.out.below.size;obtain ⟨bo,hbo⟩:∃ bo,bo=(bools UE)[m]'(by simp [bools]; omega):=⟨_,rfl⟩;rw [← hbo] at c0;clear hra U7 hE2 t1 t2 t3;have hm2:m < UE.length:=by omega
   have Ze:bo=.bool UE[m]:=by rw [hbo]; simp [bools]
   have Zf:UE[m]?.getD false=UE[m]:=by simp [hm2]
   rw [Ze] at c0;clear hbo Ze;cases hb0:UE[m];case true=>
    rw [hb0] at c0 Zf;have Wp:Hid (Fil w (wr.setCell ⟨w.heap.size,x,none⟩ (.bool true)) w.heap.size rs.length (bools (UE.set x true))):=by show Fil _ _ _ _ _; rw [nV]; exact VI.out.set _ (by simp [bools]; omega) (by omega)
    have HJ2:Hid (bn m rs[m].e.kind (rs[m].e.kids.drop (j + 1)) (j + 1) (UE.set x true)=bn m rs[m].e.kind rs[m].e.kids 0 out):=by
     show _=_;rw [← HJ.out,jE _ _ _ _ _ hjl,hx];simp [*]
    go_wp2;go_roundw;case rel=>exact ⟨j + 1,UE.set x true,by omega,by go_num,by simp [ho2],HJ2,Wp⟩
    simp [intOf] <;> omega
   rw [hb0] at c0 Zf;cases hkb:(rs[m].e.kind == 6);case false=>
    have Wp:Hid (Fil w (wr.setCell ⟨w.heap.size,x,none⟩ (.bool false)) w.heap.size rs.length (bools (UE.set x false))):=by show Fil _ _ _ _ _; rw [nV]; exact VI.out.set _ (by simp [bools]; omega) (by omega)
    have HJ2:Hid (bn m rs[m].e.kind (rs[m].e.kids.drop (j + 1)) (j + 1) (UE.set x false)=bn m rs[m].e.kind rs[m].e.kids 0 out):=by
     show _=_;rw [← HJ.out,jE _ _ _ _ _ hjl,hx];simp [*]
    go_wp2;go_roundw;case rel=>exact ⟨j + 1,UE.set x false,by omega,by go_num,by simp [ho2],HJ2,Wp⟩
    simp [intOf] <;> omega
   cases hjb:((j:Int) == 1);case true=>
    have hjn:(j == 1)=true:=by simp at hjb ⊢; omega
    have Wp:Hid (Fil w (wr.setCell ⟨w.heap.size,x,none⟩ (.bool true)) w.heap.size rs.length (bools (UE.set x true))):=by show Fil _ _ _ _ _; rw [nV]; exact VI.out.set _ (by simp [bools]; omega) (by omega)
    have HJ2:Hid (bn m rs[m].e.kind (rs[m].e.kids.drop (j + 1)) (j + 1) (UE.set x true)=bn m rs[m].e.kind rs[m].e.kids 0 out):=by
     show _=_;rw [← HJ.out,jE _ _ _ _ _ hjl,hx];simp [*]
    go_wp2;go_roundw;case rel=>exact ⟨j + 1,UE.set x true,by omega,by go_num,by simp [ho2],HJ2,Wp⟩
    simp [intOf] <;> omega
   have hjn:(j == 1)=false:=by simp at hjb ⊢; omega
   have Wp:Hid (Fil w (wr.setCell ⟨w.heap.size,x,none⟩ (.bool false)) w.heap.size rs.length (bools (UE.set x false))):=by show Fil _ _ _ _ _; rw [nV]; exact VI.out.set _ (by simp [bools]; omega) (by omega)
   have HJ2:Hid (bn m rs[m].e.kind (rs[m].e.kids.drop (j + 1)) (j + 1) (UE.set x false)=bn m rs[m].e.kind rs[m].e.kids 0 out):=by
    show _=_;rw [← HJ.out,jE _ _ _ _ _ hjl,hx];simp [*]
   go_wp2;go_roundw;case rel=>exact ⟨j + 1,UE.set x false,by omega,by go_num,by simp [ho2],HJ2,Wp⟩
   simp [intOf] <;> omega
  have Xp:Hid (dU (aj rs) m UE=dz (aj rs)):=by
   show _=_;rw [← HNX.out,← HJ.out,List.drop_of_length_le (by omega)];rfl
  go_wp2;go_roundw;case rel=>exact ⟨m,UE,by omega,by go_num,ho2,Xp,VI⟩
  simp [intOf] <;> omega
 obtain rfl:m=0:=by omega
 have WH:Hid (Fil w wr w.heap.size rs.length (bools (dz (aj rs)))):=by
  show Fil _ _ _ _ _;rw [← HN.out];exact HF.out
 go_wp2;go_ret;exact ⟨rfl,WH.out⟩
set_option linter.unusedVariables false
def QC (r:RR):List Value:=[.string r.name,r.sl]
abbrev Ez (w:World) (br nr:Nat) (Mr:KL→Option Value) (Er:List (KL × RR)):Prop:=G.Grp FK prog 172 147 2 QC w br nr Mr Er
theorem Gp {w:af} {br nr:Nat} {Mr:KL→Option Value} {Er:List (KL × RR)} (h:Ez w br nr Mr Er) {k:KL} {v:Value} (hk:Mr k=some v):∃ n xs,w.ownsRow (br + 1) 147 2 v n xs:=by
 rcases h.row k with ⟨e,-⟩ | ⟨v',e,ho⟩
 ·rw [e] at hk; cases hk
 rw [e] at hk; injection hk with hk; subst hk; exact ⟨_,_,ho⟩
theorem rH {w:af} {br nr g:Nat} {Mr:KL→Option Value} {Er:List (KL × RR)} {e:TypeId} {cur:Array Value} (h:Ez w br nr Mr Er) (hc:w.heap[g]?=some (.cells cur e (0,0))) (hne:(147:TypeId) ≠ e):G.FreeB Mr g:=fun k v hk hg=>by
 obtain ⟨n,xs,ho⟩:=Gp h hk;exact hne (dI ho hg hc)
theorem Gq {w:af} {br nr g:Nat} {Mr:KL→Option Value} {Er:List (KL × RR)} {es:Array MapEntry} {c:Nat} (h:Ez w br nr Mr Er) (hc:w.heap[g]?=some (.map es c)):G.FreeB Mr g:=fun k v hk hg=>by
 obtain ⟨n,xs,ho⟩:=Gp h hk;exact Et ho hg hc
theorem pg {K:Type} {enc:K→Value} {P:Program} {kt:TypeId} {w:af} {b n:Nat} {M:K→Option Value} (h:aM enc P kt w b n M):∃ es c,w.heap[b]?=some (.map es c):=by
 obtain ⟨D,⟨es,c,hb,-⟩,-⟩:=h;exact ⟨es,c,hb⟩
structure DatA (w:World) (rs:List TR) (D br bp bt:Nat) (n1:Int) (nr:Nat) (Mr:KL→Option Value) (Er:List (KL × RR)) (E:List (K3 × Tp)) (xo xu:List Al) (np:Nat) (Mp:K3→Option Value) (vo vu:Value):Prop where
 dat:DatT w D br bp (.map (some bt)) n1 E xo xu np Mp vo vu
 tab:aM dQ prog 94 w bt 36 (nW rs)
 rel:Ez w br nr Mr Er
 ord:bt < br∧br < bp
section
variable {w w':World} {rs:List TR} {D br bp bt:Nat} {n1:Int} {nr:Nat} {Mr:KL→Option Value} {Er:List (KL × RR)} {E:List (K3 × Tp)} {xo xu:List Al} {np:Nat} {Mp:K3→Option Value} {vo vu:Value}
theorem DatA.below (h:DatA w rs D br bp bt n1 nr Mr Er E xo xu np Mp vo vu) (hb:ag w w'):DatA w' rs D br bp bt n1 nr Mr Er E xo xu np Mp vo vu:=⟨h.dat.below hb,h.tab.below hb,h.rel.below hb,h.ord⟩
theorem DatA.tell (h:DatA w rs D br bp bt n1 0 (fun _=>none) [] E xo xu np Mp vo vu) {E':List (K3 × Tp)} {xo' xu':List Al} {np':Nat} {Mp':K3→Option Value} {Xw Xy:Value} (hd:DatT w' D br bp (.map (some bt)) n1 E' xo' xu' np' Mp' Xw Xy) (hb:Below bp w w'):DatA w' rs D br bp bt n1 0 (fun _=>none) [] E' xo' xu' np' Mp' Xw Xy:=by
 obtain ⟨h1,h2⟩:=h.ord;exact ⟨hd,h.tab.of_block (hb.block bt (by omega)),⟨h.rel.map.of_block (hb.block br (by omega)),fun k=>.inl ⟨rfl,rfl⟩,fun k k' v v' _ e=>by cases e⟩,h.ord⟩
theorem DatA.list (h:DatA w rs D br bp bt n1 nr Mr Er E xo xu np Mp vo vu) {nr':Nat} {Mr':KL→Option Value} {Er':List (KL × RR)} (hg:Ez w' br nr' Mr' Er') (hs:G.Stl w Mr w' Mr' br):DatA w' rs D br bp bt n1 nr' Mr' Er' E xo xu np Mp vo vu:=by
 obtain ⟨h1,h2⟩:=h.ord;have hgt:=h.dat.gt;have hlt:=h.dat.lt;obtain ⟨cur,hk⟩:=h.dat.kind;have hD:w'.heap[D]?=w.heap[D]?:=hs.block D hlt (by omega) (rH h.rel hk (by decide));have hc:∀ o,w'.cell? ⟨D,o,none⟩=w.cell? ⟨D,o,none⟩:=fun o=>Ul (w:=w) (a:=⟨D,o,none⟩) hD;have hO:∀ {v:Value} {n:Nat} {xs:List Value},w.ownsRow (bp + 1) 27 2 v n xs→w'.ownsRow (bp + 1) 27 2 v n xs:=fun {v n xs} ho=>d9 ho fun g hg=>by
  obtain ⟨cr,e⟩:=jI ho hg;have:=ho.lt g hg;exact hs.block g this.2 (by omega) (rH h.rel e (by decide))
 obtain ⟨es,c,eb⟩:=pg h.dat.told.map;obtain ⟨es2,c2,eb2⟩:=pg h.tab;refine ⟨⟨hgt,TP hlt hs.size,⟨cur,hD.trans hk⟩,(hc _).trans h.dat.c0,(hc _).trans h.dat.c1,(hc _).trans h.dat.c2,(hc _).trans h.dat.c3,(hc _).trans h.dat.c4,(hc _).trans h.dat.c5,ve h.dat.told ?_ ?_,hO h.dat.objs,hO h.dat.users,h.dat.apart⟩,h.tab.of_block ?_,hg,h.ord⟩
 ·exact hs.block bp (by omega) (by omega) (Gq h.rel eb)
 ·intro k v g hm hg2;obtain ⟨n,xs,ho⟩:=uZ h.dat.told hm;obtain ⟨cr,e⟩:=jI ho hg2;have:=ho.lt g hg2;exact hs.block g this.2 (by omega) (rH h.rel e (by decide))
 exact hs.block bt (by omega) (by omega) (Gq h.rel eb2)
theorem DatA.count (h:DatA w rs D br bp bt n1 nr Mr Er E xo xu np Mp vo vu) (n2:Int):DatA (w.setCell ⟨D,1,none⟩ (.int .i64 n2)) rs D br bp bt n2 nr Mr Er E xo xu np Mp vo vu:=by
 obtain ⟨h1,h2⟩:=h.ord;have hgt:=h.dat.gt;obtain ⟨cur,hk⟩:=h.dat.kind;have hne:∀ g,g ≠ D→(w.setCell ⟨D,1,none⟩ (.int .i64 n2)).heap[g]?=w.heap[g]?:=fun g e=>heap_setCell_other w ⟨D,1,none⟩ g _ e;have hc2:∀ o,o ≠ 1→(w.setCell ⟨D,1,none⟩ (.int .i64 n2)).cell? ⟨D,o,none⟩=w.cell? ⟨D,o,none⟩:=fun o ne=>kK (by omega);have hO:∀ {v:Value} {n:Nat} {xs:List Value},w.ownsRow (bp + 1) 27 2 v n xs→(w.setCell ⟨D,1,none⟩ (.int .i64 n2)).ownsRow (bp + 1) 27 2 v n xs:=fun {v n xs} ho=>d9 ho fun g hg=>hne g fun e=>absurd (dI ho (e ▸ hg) hk) (by decide);refine ⟨⟨hgt,by simpa using h.dat.lt,⟨_,heap_setCell_same w D 1 cur _ _ hk⟩,(hc2 0 (by omega)).trans h.dat.c0,Og h.dat.c1,(hc2 2 (by omega)).trans h.dat.c2,(hc2 3 (by omega)).trans h.dat.c3,(hc2 4 (by omega)).trans h.dat.c4,(hc2 5 (by omega)).trans h.dat.c5,ve h.dat.told (hne bp (by omega)) ?_,hO h.dat.objs,hO h.dat.users,h.dat.apart⟩,h.tab.of_block (hne bt (by omega)),⟨h.rel.map.of_block (hne br (by omega)),fun k=>?_,h.rel.apart⟩,h.ord⟩
 ·intro k v g hm hg2;obtain ⟨n,xs,ho⟩:=uZ h.dat.told hm;exact hne g fun e=>absurd (dI ho (e ▸ hg2) hk) (by decide)
 rcases h.rel.row k with e | ⟨v,e,ho⟩
 ·exact .inl e
 exact .inr ⟨v,e,d9 ho fun g hg=>hne g fun e2=>absurd (dI ho (e2 ▸ hg) hk) (by decide)⟩
end
end Go.Proofs.YtajkkeikihhejaaGreat
