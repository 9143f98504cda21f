/- The document's look whether data are right, and its change of data. -/
import Derived.Test.YtdmniljjnaebbaaGreatDoorSq
import Derived.Test.YtdmniljjnaebbaaGreatDoorJ17
import Derived.Test.YtdmniljjnaebbaaGreatDoorJ20
open Go.Proofs.Tryz
set_option maxHeartbeats 80000000
namespace Go.Proofs.YtdmniljjnaebbaaGreatDoor
set_option maxRecDepth 100000
set_option linter.unusedVariables false
open Go.ChangeShapes Go.WideShapes Go.ChangeAt Go.RowKit
open Pl
theorem KE {p:Tp→Bool} {ts:List Tp} {k:Nat} (h:k < ts.length):(ts.take (k + 1)).all p=((ts.take k).all p && p ts[k]):=by
 rw [Sk h,List.all_append]; simp
theorem Nq {p:Tp→Bool} {ts:List Tp} {k:Nat} (h:k < ts.length) (hp:p ts[k]=false):ts.all p=false:=by
 rw [List.all_eq_false];exact ⟨_,Sd h,by rw [hp]; decide⟩
def fV (fit:Tp→Bool) (sok:Bool) (ts:List Tp):Bool:=sok && dO ts && ts.all fit
theorem Ii (sv:Value) (fit:Tp→Bool) (sok:Bool) (ad:Option Addr) (cap:Nat) (ts:List Tp) (w:af) (hlen:ts.length≤1048576) (hs:Sl w ad ts) (hf:∀ x ∈ ts,x.fits)
  (YS:∀ w1:World,aa w w1→Calls prog 68 #[sv] w1 fun e w'=>e=.returned (.bool sok)∧aa w1 w')
  (hfit:∀ (t:Tp) (w1:World),t.fits→aa w w1→Calls prog 76 #[sv,.agg #[.string t.a,.string t.b,.string t.r,.string t.c,.string t.d,.string t.s]] w1 fun e w'=>e=.returned (.bool (fit t))∧aa w1 w') :
  Calls prog 50 #[sv,.slice ad ts.length cap] w fun e w'=>e=.returned (.bool (fV fit sok ts))∧aa w w':=by
 have HS:=aA hs;have HF:=aA hf;have Zp:=aA YS;have Tv:=aA hfit;have TF:ts.length≤maxLen:=by unfold maxLen; omega
 clear hs hf YS hfit;go_enter func50,ntmps50;go_wp2_with fail;refine (Zp.out _ (Si _ _)).mono ?_;rintro e w1 ⟨rfl,hb1⟩;have HB1:=aA hb1;clear hb1;cases sok;case false=>
  have HN:Hid (fV fit false ts=false):=by show _=_; unfold fV; simp
  go_wp2;go_ret;exact ⟨by rw [HN.out]; rfl,HB1.out⟩
 go_wp2_with fail;refine (mD ad cap ts _ TF (HS.out.below HB1.out) HF.out).mono ?_;rintro e w2 ⟨he,hb2⟩;have HB2:=aA (HB1.out.trans (hb2.mono HB1.out.size));clear hb2;cases h2:dO ts;case false=>
  rw [h2] at he; subst he;have HN:Hid (fV fit true ts=false):=by show _=_; unfold fV; rw [h2]; simp
  go_wp2;go_ret;exact ⟨by rw [HN.out]; rfl,HB2.out⟩
 rw [h2] at he; subst he;have HN:Hid (fV fit true ts=ts.all fit):=by show _=_; unfold fV; rw [h2]; simp
 clear h2;go_wp2;go_loopw [5] (fun i wr=>∃ k:Nat,k≤ts.length∧i=.int .i64 (k:Int)∧Hid ((ts.take k).all fit=true)∧Hid (aa w wr)) (fun i _=>ts.length - (intOf i).toNat);case atStart=>exact ⟨0,Sm _,rfl,rfl,HB2⟩
 obtain ⟨k,hk,rfl,TB,HB⟩:=hrel;by_cases hlt:k < ts.length
 ·rcases HS.out.below HB.out with hnil | ⟨b,off,rfl,hb,hr⟩
  ·rw [hnil] at hlt; simp at hlt
  obtain ⟨t0,t1,t2,t3,t4,t5⟩:=hr k hlt;have hk1:=bH k;have hk2:(k:Int) < (ts.length:Int):=by omega
  have HC:=aA (Tv.out ts[k] wr (HF.out _ (Sd hlt)) HB.out);have HAT:=aA (KE (p:=fit) hlt);have HAH:=aA (Nq (p:=fit) hlt);clear hr;go_wp2_with fail;refine HC.out.mono ?_;rintro e w3 ⟨he,hb3⟩;have HB3:=aA (HB.out.trans (hb3.mono HB.out.size));clear hb3 t0 t1 t2 t3 t4 t5;cases hfx:fit ts[k];case false=>
   rw [hfx] at he; subst he;have HE:Hid (fV fit true ts=false):=HN.out.trans (HAH.out hfx);go_wp2;go_ret;exact ⟨by rw [HE.out]; rfl,HB3.out⟩
  rw [hfx] at he; subst he;have HA2:Hid ((ts.take (k + 1)).all fit=true):=by show _=_; rw [HAT.out,TB.out,hfx]; rfl
  go_wp2;go_roundw;case rel=>exact ⟨k + 1,by omega,by go_num,HA2,HB3⟩
  simp [intOf] <;> omega
 obtain rfl:k=ts.length:=by omega
 have HE:Hid (fV fit true ts=true):=by show _=_; rw [HN.out]; have:=TB.out; rw [Su] at this; exact this
 go_wp2;go_ret;exact ⟨by rw [HE.out]; rfl,HB.out⟩
def uJ (fit:Tp→Bool) (sok:Bool) (ts:List Tp) (k:Int) (t:Tp):Int:=if fV fit sok ts then bf fit ts k t else 1
def oD (fit:Tp→Bool) (sok:Bool) (ts:List Tp) (k:Int) (t:Tp):List Tp:=if fV fit sok ts then kJ fit ts k t else []
theorem zo {fit:Tp→Bool} {sok:Bool} {ts:List Tp} (h:fV fit sok ts=true):sok=true∧dO ts=true∧ts.all fit=true:=by
 unfold fV at h;simp only [Sn] at h;exact ⟨h.1.1,h.1.2,h.2⟩
theorem wH (sv:Value) (fit:Tp→Bool) (sok:Bool) (b off cap:Nat) (ts:List Tp) (k:Int) (t:Tp) (w:af) (hlen:ts.length≤1048576) (hcp:ts.length≤cap) (hb:b < w.heap.size) (hr:dF w b off ts) (hf:∀ x ∈ ts,x.fits) (ht:t.fits)
  (YS:∀ w1:World,aa w w1→Calls prog 68 #[sv] w1 fun e w'=>e=.returned (.bool sok)∧aa w1 w')
  (hfit:∀ (t:Tp) (w1:World),t.fits→aa w w1→Calls prog 76 #[sv,.agg #[.string t.a,.string t.b,.string t.r,.string t.c,.string t.d,.string t.s]] w1 fun e w'=>e=.returned (.bool (fit t))∧aa w1 w') :
  Calls prog 29 #[sv,.slice (some ⟨b,off,none⟩) ts.length cap,.agg #[.int .i64 k,.string t.a,.string t.b,.string t.r,.string t.c,.string t.d,.string t.s]] w fun e w'=>∃ v,e=.returned (.tuple #[v,.int .i64 (uJ fit sok ts k t)])∧w'.ownsRow w.heap.size 42 6 v (oD fit sok ts k t).length (aD (oD fit sok ts k t))∧aa w w':=by
 have HR:=aA hr;have HF:=aA hf;have HT:=aA ht;have Zp:=aA YS;have Tv:=aA hfit;clear hr hf ht YS hfit;obtain ⟨W0,hW0⟩:∃ W0,W0=w.alloc (.cells #[.int .i64 k,.string t.a,.string t.b,.string t.r,.string t.c,.string t.d,.string t.s] 44):=⟨_,rfl⟩;have HX0:Hid (lN W0 w.heap.size k t):=by show lN _ _ _ _; rw [hW0]; refine ⟨?_,?_,?_,?_,?_,?_,?_,?_⟩ <;> simp
 have HB0:=mY hW0;have HSL0:Hid (Sl W0 (some ⟨b,off,none⟩) ts):=.inr ⟨b,off,rfl,Sg hb HB0.out.size,HR.out.below HB0.out hb⟩;go_enter func29,ntmps29;go_wp2_with fail;rw [← hW0];clear hW0;refine (Ii sv fit sok _ cap ts W0 hlen HSL0.out HF.out (fun w1 h=>Zp.out w1 (HB0.out.trans (h.mono HB0.out.size))) (fun t w1 ht h=>Tv.out t w1 ht (HB0.out.trans (h.mono HB0.out.size)))).mono ?_;rintro e w1 ⟨he,hb1⟩;have HB1:=aA (HB0.out.trans (hb1.mono HB0.out.size));have UA:=aA (HX0.out.below hb1);clear hb1 HX0 HB0 HSL0;cases hra:fV fit sok ts;case false=>
  rw [hra] at he; subst he;have HC:Hid (uJ fit sok ts k t=1∧oD fit sok ts k t=[]):=by show _∧_; unfold uJ oD; rw [hra]; exact ⟨rfl,rfl⟩
  go_wp2;exact bodyPost_ret (v:=.tuple #[.slice none 0 0,.int .i64 1]) (by simp [results,Tryz.results29,go_sem]) rfl ⟨_,by rw [HC.out.1],by rw [HC.out.2]; exact World.ownsRow_nil _ _ _ _,HB1.out⟩
 rw [hra] at he; subst he;have HC:Hid (uJ fit sok ts k t=bf fit ts k t∧oD fit sok ts k t=kJ fit ts k t):=by show _∧_; unfold uJ oD; rw [hra]; exact ⟨rfl,rfl⟩
 have HU:=aA (Jc (zo hra).2.1);obtain ⟨x0,x1,x2,x3,x4,x5,x6,xl⟩:=UA.out;go_wp2_with fail;refine (Ad sv fit b off cap ts k t w1 (fun w2 h=>Tv.out t w2 HT.out (HB1.out.trans (h.mono HB1.out.size))) HU.out.2.2 hcp (HR.out.below HB1.out hb) (Sg hb HB1.out.size) HF.out HT.out).mono ?_;rintro e w2 ⟨g,c,rfl,hown,hb2⟩;have HO:=aA (fJ hown HB1.out.size);have HB2:=aA (HB1.out.trans (hb2.mono HB1.out.size));clear hown hb2;go_wp2;exact bodyPost_ret (v:=.tuple #[.slice (some ⟨g,0,none⟩) (kJ fit ts k t).length c,.int .i64 (bf fit ts k t)]) (by simp [results,Tryz.results29,go_sem]) rfl ⟨_,by rw [HC.out.1],by rw [HC.out.2]; exact HO.out,HB2.out⟩
theorem Ae (ad Ti:Option Addr) (cap cap':Nat) (w:af) :
  Calls prog 15 #[.slice ad 0 cap,.slice Ti 0 cap'] w fun e w'=>e=.returned (.bool true)∧aa w w':=by
 go_enter func15,ntmps15;go_wp2;refine wp_loop_rounds 1 ?_;rw [rounds_succ];go_wp2;go_ret;exact ⟨rfl,Si _ _⟩
theorem Db (ad Ti:Option Addr) (cap cap':Nat) (ts:List Tp) (w:af) (hlen:ts.length≤maxLen) (hs:Sl w ad ts) (hs':Sl w Ti ts) :
  Calls prog 15 #[.slice ad ts.length cap,.slice Ti ts.length cap'] w fun e w'=>e=.returned (.bool true)∧aa w w':=by
 by_cases h:ts=[]
 ·subst h; exact Ae ad Ti cap cap' w
 rcases hs with h1 | ⟨b,off,rfl,hb,hr⟩
 ·exact absurd h1 h
 rcases hs' with h1 | ⟨b',off',rfl,hb',hr'⟩
 ·exact absurd h1 h
 exact Ab b b' off off' cap cap' ts w hlen hr hb hr' hb'
def zq (B:Nat) (w:World) (ad:Option Addr) (L:List Tp):Prop:=Sl w ad L∧(L ≠ []→∃ g,ad=some ⟨g,0,none⟩∧B≤g∧dD w g)
theorem zq.mono {B B':Nat} {w:af} {ad:Option Addr} {L:List Tp} (h:zq B w ad L) (hB:B'≤B):zq B' w ad L:=⟨h.1,fun k=>by obtain ⟨g,e,h1,h2⟩:=h.2 k; exact ⟨g,e,Sq hB h1,h2⟩⟩
theorem Qd {w:af} {ad:Option Addr} {L:List Tp} (h:Sl w ad L) (hne:L ≠ []) {g o:Nat} (e:ad=some ⟨g,o,none⟩):g < w.heap.size:=by
 rcases h with h | ⟨b,off,e2,hb,-⟩
 ·exact absurd h hne
 rw [e] at e2; injection e2 with e2; injection e2 with e2 e3; omega
theorem zq.later {B:Nat} {w w':af} {ad:Option Addr} {L:List Tp} (h:zq B w ad L) (hb:aa w w'):zq B w' ad L:=⟨h.1.below hb,fun hne=>by
 obtain ⟨g,e,h1,h2⟩:=h.2 hne;exact ⟨g,e,h1,fun j=>mF hb (Qd h.1 hne e) (h2 j)⟩⟩
theorem zq.chg {B:Nat} {S:Nat→Prop} {w w':af} {ad:Option Addr} {L:List Tp} (h:zq B w ad L) (hc:Chg S w w') (hn:∀ g,B≤g→¬ S g):zq B w' ad L:=⟨h.1.chg hc (fun g o hne e=>by
  obtain ⟨g',e',h1,-⟩:=h.2 hne;rw [e] at e'; injection e' with e'; injection e' with e' e3;exact hn g (by omega)),fun hne=>by
 obtain ⟨g,e,h1,h2⟩:=h.2 hne;exact ⟨g,e,h1,hc.free g (Qd h.1 hne e) h2⟩⟩
theorem qj.chg {S:Nat→Prop} {w w':af} {g:Nat} {t:Tp} (h:qj w g t) (hc:Chg S w w') (hn:¬ S g):qj w' g t:=by
 obtain ⟨h0,h1,h2,h3,h4,h5,hl⟩:=h;exact ⟨by rw [hc.cell hl hn]; exact h0,by rw [hc.cell hl hn]; exact h1,by rw [hc.cell hl hn]; exact h2,by rw [hc.cell hl hn]; exact h3,by rw [hc.cell hl hn]; exact h4,by rw [hc.cell hl hn]; exact h5,Sg hl hc.size⟩
open Go.Maps
theorem zt {w:af} {base g n c:Nat} {ts:List Tp} (h:w.ownsRow base 42 6 (.slice (some ⟨g,0,none⟩) n c) n (aD ts)) (hn:n=ts.length):dF w g 0 ts∧g < w.heap.size∧n≤c∧base≤g:=by
 have hlt:=h.lt g rfl;refine ⟨?_,hlt.2,?_,hlt.1⟩
 ·subst hn;intro i hi;have key:∀ j,j < 6→w.cell? ⟨g,0 + i * 6 + j,none⟩=(ts[i]).row[j]?:=fun j hj=>by
   rw [h.cellAt (0 + i * 6 + j) (by have:=eT ts; omega),← rU ts i hi j hj,SG]
  exact ⟨key 0 (by omega),key 1 (by omega),key 2 (by omega),key 3 (by omega),key 4 (by omega),key 5 (by omega)⟩
 rcases h.2 with ⟨e,-⟩ | ⟨g',cap',cur,e,-,-,hle,-⟩
 ·cases e
 injection e with e1 e2 e3; omega
theorem Nr {w:af} {base g c:Nat} {ts:List Tp} (h:w.ownsRow base 42 6 (.slice (some ⟨g,0,none⟩) ts.length c) ts.length (aD ts)):dF w g 0 ts∧g < w.heap.size∧ts.length≤c:=⟨(zt h rfl).1,(zt h rfl).2.1,(zt h rfl).2.2.1⟩
theorem gP.chg {S:Nat→Prop} {w w':af} {ad:Option Addr} {xs:List Al} (h:gP w ad xs) (hc:Chg S w w') (hn:∀ g o,xs ≠ []→ad=some ⟨g,o,none⟩→¬ S g):gP w' ad xs:=by
 rcases h with h | ⟨b,off,e,hb,hr⟩
 ·exact .inl h
 by_cases hx:xs=[]
 ·exact .inl hx
 exact .inr ⟨b,off,e,Sg hb hc.size,fun i hi=>(hr i hi).same fun o=>hc.cell hb (hn b off hx e)⟩
theorem mZ.chg {S:Nat→Prop} {w w':af} {ad:Option Addr} {zs:List Int} (h:mZ w ad zs) (hc:Chg S w w') (hn:∀ g o,zs ≠ []→ad=some ⟨g,o,none⟩→¬ S g):mZ w' ad zs:=by
 rcases h with h | ⟨b,off,e,hb,hr⟩
 ·exact .inl h
 by_cases hx:zs=[]
 ·exact .inl hx
 exact .inr ⟨b,off,e,Sg hb hc.size,fun i hi=>by rw [hc.cell hb (hn b off hx e)]; exact hr i hi⟩
def Lx (k:Nat) (zs:List Int):List Int:=(List.range zs.length).map fun i=>((k + i:Nat):Int)
def KF (k:Nat) (xs:List Al):List Al:=(List.range xs.length).map fun i=>⟨aT (k + 2 * i),aT (k + 2 * i + 1)⟩
theorem Dc (k:Nat) (zs:List Int):(Lx k zs).length=zs.length:=by simp [Lx]
theorem De (k:Nat) (xs:List Al):(KF k xs).length=xs.length:=by simp [KF]
theorem QM (k:Nat) (zs:List Int) (i:Nat) (h:i < (Lx k zs).length):(Lx k zs)[i]=((k + i:Nat):Int):=by simp [Lx]
theorem QN (k:Nat) (xs:List Al) (i:Nat) (h:i < (KF k xs).length):(KF k xs)[i]=⟨aT (k + 2 * i),aT (k + 2 * i + 1)⟩:=by simp [KF]
theorem Ph {k:Nat} {zs:List Int}:Lx k zs=[] ↔ zs=[]:=by
 constructor
 ·intro h; have:=congrArg List.length h; rw [Dc] at this; exact SA.1 this
 rintro rfl; rfl
theorem Jk {k:Nat} {xs:List Al}:KF k xs=[] ↔ xs=[]:=by
 constructor
 ·intro h; have:=congrArg List.length h; rw [De] at this; exact SA.1 this
 rintro rfl; rfl
theorem zu (ad:Option Addr) (cap:Nat) (zs:List Int) (k:Nat) (w:af) (hs:mZ w ad zs) (hg:zs ≠ []→∃ g,ad=some ⟨g,0,none⟩∧dD w g) (h1:k + zs.length≤1000000000) :
  Calls prog 104 #[.slice ad zs.length cap,.int .i64 (k:Int)] w fun e w'=>e=.returned (.int .i64 ((k + zs.length:Nat):Int))∧mZ w' ad (Lx k zs)∧Chg (fun g=>zs ≠ []∧ad=some ⟨g,0,none⟩) w w':=by
 by_cases hz:zs=[]
 ·subst hz;go_enter func104,ntmps104;go_wp2;go_loopw [1,5] (fun kv i wr=>kv=.int .i64 (k:Int)∧i=.int .i64 0∧wr=w) (fun _ _ _=>0);case atStart=>exact ⟨rfl,rfl,rfl⟩
  obtain ⟨rfl,rfl,rfl⟩:=hrel;go_wp2;go_ret;exact ⟨rfl,.inl rfl,Chg.refl _ _⟩
 obtain ⟨g,rfl,hfree⟩:=hg hz;rcases hs with h | ⟨b,off,Vw,hb,hr⟩
 ·exact absurd h hz
 obtain ⟨rfl,rfl⟩:g=b∧0=off:=by injection Vw with e; injection e with e1 e2; exact ⟨e1,e2⟩
 have HZ:=ay hz;clear hz Vw hg;go_enter func104,ntmps104;go_wp2;go_loopw [1,5] (fun kv i wr=>∃ j:Nat,j≤zs.length∧kv=.int .i64 ((k + j:Nat):Int)∧i=.int .i64 (j:Int)∧Hid (∀ (x:Nat) (hx:x < zs.length),wr.cell? ⟨g,x,none⟩=some (.int .i64 (if x < j then ((k + x:Nat):Int) else zs[x])))∧Hid (dD wr g)∧Hid (Chg (fun y=>zs ≠ []∧(some ⟨g,0,none⟩:Option Addr)=some ⟨y,0,none⟩) w wr)) (fun _ i _=>zs.length - (intOf i).toNat);case atStart=>exact ⟨0,Sm _,rfl,rfl,fun x hx=>by have:=hr x hx; simpa using this,hfree,Chg.refl _ _⟩
 obtain ⟨j,hj,rfl,rfl,HC,TP,Um⟩:=hrel;by_cases hlt:j < zs.length
 ·have c0:=HC.out j hlt;rw [if_neg (by omega)] at c0;have fz:=TP.out;unfold dD at fz;have hj1:=bH j;have hj2:(j:Int) < (zs.length:Int):=by omega
  have Tx:Hid (∀ (x:Nat) (hx:x < zs.length),(wr.setCell ⟨g,j,none⟩ (.int .i64 ((k:Int) + (j:Int)))).cell? ⟨g,x,none⟩=some (.int .i64 (if x < j + 1 then ((k + x:Nat):Int) else zs[x]))):=by
   intro x hx;by_cases e:x=j
   ·subst e;rw [iM c0,if_pos (by omega)]; simp
   rw [bu (Ne.symm e),HC.out x hx];by_cases h2:x < j
   ·rw [if_pos h2,if_pos (by omega)]
   rw [if_neg h2,if_neg (by omega)]
  have HCH2:Hid (Chg (fun y=>zs ≠ []∧(some ⟨g,0,none⟩:Option Addr)=some ⟨y,0,none⟩) w (wr.setCell ⟨g,j,none⟩ (.int .i64 ((k:Int) + (j:Int))))):=Um.out.trans (Chg.set _ ⟨HZ.out,rfl⟩);have Ug:Hid (dD (wr.setCell ⟨g,j,none⟩ (.int .i64 ((k:Int) + (j:Int)))) g):=fun y=>by simpa using TP.out y
  go_wp2;go_roundw;case rel=>exact ⟨j + 1,by omega,by go_num,by go_num,Tx,Ug,HCH2⟩
  simp [intOf] <;> omega
 obtain rfl:j=zs.length:=by omega
 have UN:Hid (mZ wr (some ⟨g,0,none⟩) (Lx k zs)):=.inr ⟨g,0,rfl,Sg hb Um.out.size,fun i hi=>by
  have h2:i < zs.length:=by rw [Dc] at hi; exact hi
  rw [SG,HC.out i h2,if_pos h2,QM]⟩
 go_wp2;go_ret;exact ⟨by go_num,UN.out,Um.out⟩
theorem uK (ad:Option Addr) (cap:Nat) (xs:List Al) (k:Nat) (w:af) (hs:gP w ad xs) (hg:xs ≠ []→∃ g,ad=some ⟨g,0,none⟩∧dD w g) (h0:0 < k) (h1:k + 2 * xs.length≤1000000000) :
  Calls prog 103 #[.slice ad xs.length cap,.int .i64 (k:Int)] w fun e w'=>e=.returned (.int .i64 ((k + 2 * xs.length:Nat):Int))∧gP w' ad (KF k xs)∧Chg (fun g=>xs ≠ []∧ad=some ⟨g,0,none⟩) w w':=by
 by_cases hz:xs=[]
 ·subst hz;go_enter func103,ntmps103;go_wp2;go_loopw [1,5] (fun kv i wr=>kv=.int .i64 (k:Int)∧i=.int .i64 0∧wr=w) (fun _ _ _=>0);case atStart=>exact ⟨rfl,rfl,rfl⟩
  obtain ⟨rfl,rfl,rfl⟩:=hrel;go_wp2;go_ret;exact ⟨rfl,.inl rfl,Chg.refl _ _⟩
 obtain ⟨g,rfl,hfree⟩:=hg hz;rcases hs with h | ⟨b,off,Vw,hb,hr⟩
 ·exact absurd h hz
 obtain ⟨rfl,rfl⟩:g=b∧0=off:=by injection Vw with e; injection e with e1 e2; exact ⟨e1,e2⟩
 have HZ:=ay hz;clear hz Vw hg;go_enter func103,ntmps103;go_wp2;go_loopw [1,5] (fun kv i wr=>∃ j:Nat,j≤xs.length∧kv=.int .i64 ((k + 2 * j:Nat):Int)∧i=.int .i64 (j:Int)∧Hid (∀ (x:Nat) (hx:x < xs.length),OD wr g (x * 2) (if x < j then ⟨aT (k + 2 * x),aT (k + 2 * x + 1)⟩ else xs[x]))∧Hid (dD wr g)∧Hid (Chg (fun y=>xs ≠ []∧(some ⟨g,0,none⟩:Option Addr)=some ⟨y,0,none⟩) w wr)) (fun _ i _=>xs.length - (intOf i).toNat);case atStart=>exact ⟨0,Sm _,rfl,rfl,fun x hx=>by have:=hr x hx; simpa using this,hfree,Chg.refl _ _⟩
 obtain ⟨j,hj,rfl,rfl,HC,TP,Um⟩:=hrel;by_cases hlt:j < xs.length
 ·obtain ⟨c0,c1⟩:=HC.out j hlt;rw [if_neg (by omega)] at c0 c1;have hgl:g < wr.heap.size:=Sg hb Um.out.size;have hj1:=bH j;have hj2:(j:Int) < (xs.length:Int):=by omega
  go_wp2_with fail;refine (aI _ (k + 2 * j) _ (by omega) (by omega) (by omega)).mono ?_;rintro e w1 ⟨rfl,hb1⟩;have HB1:=ay hb1;replace c0:=kept hb1 hgl c0;replace c1:=kept hb1 hgl c1;have fz:∀ y,w1.frozen? ⟨g,y,none⟩=false:=fun y=>dV hb1 hgl (TP.out y);clear hb1;obtain ⟨w2,hw2⟩:∃ w2,w2=w1.setCell ⟨g,j * 2,none⟩ (.string (aT (k + 2 * j))):=⟨_,rfl⟩;go_wp2_with fail;rw [← hw2];refine (aI _ (k + 2 * j + 1) _ (by omega) (by omega) (by omega)).mono ?_;rintro e w3 ⟨rfl,hb3⟩;have UF:g < w2.heap.size:=by rw [hw2]; simp only [World.size_setCell]; exact Sg hgl HB1.out.size
  have d0:w3.cell? ⟨g,j * 2,none⟩=some (.string (aT (k + 2 * j))):=kept hb3 UF (by rw [hw2]; exact iM c0);have d1:w3.cell? ⟨g,j * 2 + 1,none⟩=some (.string xs[j].s):=kept hb3 UF (by rw [hw2,bu (by omega)]; exact c1);have fz3:∀ y,w3.frozen? ⟨g,y,none⟩=false:=fun y=>dV hb3 UF (by rw [hw2]; simpa using fz y);have Uy:Hid (∀ (x:Nat) (hx:x < xs.length),OD (w3.setCell ⟨g,j * 2 + 1,none⟩ (.string (aT (k + 2 * j + 1)))) g (x * 2) (if x < j + 1 then ⟨aT (k + 2 * x),aT (k + 2 * x + 1)⟩ else xs[x])):=by
   intro x hx;by_cases e:x=j
   ·subst e;rw [if_pos (by omega)];exact ⟨by rw [bu (by omega)]; exact d0,iM d1⟩
   have hx2:=HC.out x hx;have he:∀ y,y ≠ j * 2→y ≠ j * 2 + 1→(w3.setCell ⟨g,j * 2 + 1,none⟩ (.string (aT (k + 2 * j + 1)))).cell? ⟨g,y,none⟩=wr.cell? ⟨g,y,none⟩:=by
    intro y h1 h2;rw [bu (Ne.symm h2),hb3.cell (p:=⟨g,y,none⟩) UF,hw2,bu (Ne.symm h1),HB1.out.cell (p:=⟨g,y,none⟩) hgl]
   have e2:(if x < j + 1 then (⟨aT (k + 2 * x),aT (k + 2 * x + 1)⟩:Al) else xs[x])=(if x < j then ⟨aT (k + 2 * x),aT (k + 2 * x + 1)⟩ else xs[x]):=by
    by_cases h2:x < j
    ·rw [if_pos h2,if_pos (by omega)]
    rw [if_neg h2,if_neg (by omega)]
   rw [e2];exact ⟨by rw [he _ (by omega) (by omega)]; exact hx2.1,by rw [he _ (by omega) (by omega)]; exact hx2.2⟩
  have HCH3:Hid (Chg (fun y=>xs ≠ []∧(some ⟨g,0,none⟩:Option Addr)=some ⟨y,0,none⟩) w (w3.setCell ⟨g,j * 2 + 1,none⟩ (.string (aT (k + 2 * j + 1))))):=by
   refine (Um.out.trans ((Chg.of HB1.out).trans ?_)).trans ((Chg.of hb3).trans (Chg.set _ ⟨HZ.out,rfl⟩));rw [hw2];exact Chg.set _ ⟨HZ.out,rfl⟩
  have HF3:Hid (dD (w3.setCell ⟨g,j * 2 + 1,none⟩ (.string (aT (k + 2 * j + 1)))) g):=fun y=>by simpa using fz3 y
  clear hb3 hw2 c0 c1 fz;go_wp2;go_roundw;case rel=>exact ⟨j + 1,by omega,by go_num,by go_num,Uy,HF3,HCH3⟩
  simp [intOf] <;> omega
 obtain rfl:j=xs.length:=by omega
 have UN:Hid (gP wr (some ⟨g,0,none⟩) (KF k xs)):=.inr ⟨g,0,rfl,Sg hb Um.out.size,fun i hi=>by
  have h2:i < xs.length:=by rw [De] at hi; exact hi
  have:=HC.out i h2;rw [if_pos h2] at this;rw [SG,QN]; exact this⟩
 go_wp2;go_ret;exact ⟨by go_num,UN.out,Um.out⟩
def wX (e:Ex):Nat:=3 + 2 * e.allow.length + e.kids.length
def Sb (k:Nat) (e:Ex):Ex:=⟨(k:Int),KF (k + 1) e.allow,aT (k + 1 + 2 * e.allow.length),aT (k + 2 + 2 * e.allow.length),Lx (k + 3 + 2 * e.allow.length) e.kids⟩
def ER.mkd (k:Nat) (r:ER):ER:={ r with e:=Sb k r.e }
def wE:List ER→Nat
 | []=>0
 | r::rs=>wX r.e + wE rs
theorem uL:∀ xs ys:List ER,wE (xs ++ ys)=wE xs + wE ys
 | [],ys=>by simp [wE]
 | x::xs,ys=>by rw [List.cons_append]; simp only [wE]; rw [uL xs ys]; omega
theorem Jl (rs:List ER) (j:Nat) (h:j < rs.length):wE (rs.take (j + 1))=wE (rs.take j) + wX rs[j].e:=by
 rw [Sk h,uL]; simp [wE]
theorem RA (rs:List ER) (j:Nat):wE (rs.take j)≤wE rs:=by
 have:=uL (rs.take j) (rs.drop j);rw [Td] at this;omega
def bA (r:ER) (g:Nat):Prop:=r.e.allow ≠ []∧r.adA=some ⟨g,0,none⟩
def bK (r:ER) (g:Nat):Prop:=r.e.kids ≠ []∧r.adK=some ⟨g,0,none⟩
def DF (r:ER) (g:Nat):Prop:=bA r g ∨ bK r g
structure SepE (b:Nat) (rs:List ER):Prop where
 zeroA:∀ r ∈ rs,r.e.allow ≠ []→∃ g,r.adA=some ⟨g,0,none⟩
 zeroK:∀ r ∈ rs,r.e.kids ≠ []→∃ g,r.adK=some ⟨g,0,none⟩
 head:∀ r ∈ rs,¬ DF r b
 one:∀ r ∈ rs,∀ g,bA r g→¬ bK r g
 two:∀ (x y:Nat) (hx:x < rs.length) (hy:y < rs.length),x ≠ y→∀ g,DF rs[x] g→¬ DF rs[y] g
def Fp (w:World) (b:Nat) (rs:List ER):Prop:=(b < w.heap.size∧dD w b)∧∀ r ∈ rs,∀ g,DF r g→g < w.heap.size∧dD w g
theorem Fp.chg {S:Nat→Prop} {w w':af} {b:Nat} {rs:List ER} (h:Fp w b rs) (hc:Chg S w w'):Fp w' b rs :=
 ⟨⟨Sg h.1.1 hc.size,hc.free b h.1.1 h.1.2⟩,fun r hr g hg=>⟨Sg (h.2 r hr g hg).1 hc.size,hc.free g (h.2 r hr g hg).1 (h.2 r hr g hg).2⟩⟩
def R5 (b:Nat) (rs:List ER) (g:Nat):Prop:=g=b ∨ ∃ r ∈ rs,DF r g
theorem ER.ok.chg {S:Nat→Prop} {w w':af} {r:ER} (h:r.ok w) (hc:Chg S w w') (hA:∀ g o,r.e.allow ≠ []→r.adA=some ⟨g,o,none⟩→¬ S g) (hK:∀ g o,r.e.kids ≠ []→r.adK=some ⟨g,o,none⟩→¬ S g):r.ok w' :=
 ⟨h.1.chg hc hA,h.2.chg hc hK⟩
theorem wI (x:Int) (ad:Option Addr) (cap:Nat) (xs:List Al) (k:Nat) (w:af) (hx:x=(k:Int)) (hs:gP w ad xs) (hg:xs ≠ []→∃ g,ad=some ⟨g,0,none⟩∧dD w g) (h0:0 < k) (h1:k + 2 * xs.length≤1000000000) :
  Calls prog 103 #[.slice ad xs.length cap,.int .i64 x] w fun e w'=>e=.returned (.int .i64 ((k + 2 * xs.length:Nat):Int))∧gP w' ad (KF k xs)∧Chg (fun g=>xs ≠ []∧ad=some ⟨g,0,none⟩) w w':=by
 rw [hx]; exact uK ad cap xs k w hs hg h0 h1
theorem Af (x:Int) (ad:Option Addr) (cap:Nat) (zs:List Int) (k:Nat) (w:af) (hx:x=(k:Int)) (hs:mZ w ad zs) (hg:zs ≠ []→∃ g,ad=some ⟨g,0,none⟩∧dD w g) (h1:k + zs.length≤1000000000) :
  Calls prog 104 #[.slice ad zs.length cap,.int .i64 x] w fun e w'=>e=.returned (.int .i64 ((k + zs.length:Nat):Int))∧mZ w' ad (Lx k zs)∧Chg (fun g=>zs ≠ []∧ad=some ⟨g,0,none⟩) w w':=by
 rw [hx]; exact zu ad cap zs k w hs hg h1
def oF (k:Nat) (rs:List ER) (j x:Nat) (hx:x < rs.length):ER:=if x < j then rs[x].mkd (k + wE (rs.take x)) else rs[x]
theorem Pi (k:Nat) (rs:List ER) (j x:Nat) (hx:x < rs.length):(oF k rs j x hx).adA=rs[x].adA∧(oF k rs j x hx).adK=rs[x].adK∧((oF k rs j x hx).e.allow ≠ []→rs[x].e.allow ≠ [])∧((oF k rs j x hx).e.kids ≠ []→rs[x].e.kids ≠ []):=by
 unfold oF;split
 ·refine ⟨rfl,rfl,fun h e=>h ?_,fun h e=>h ?_⟩
  ·show KF _ _=[];rw [Jk]; exact e
  show Lx _ _=[];rw [Ph]; exact e
 exact ⟨rfl,rfl,id,id⟩
set_option maxRecDepth 8000 in
theorem Ag (b cap:Nat) (rs:List ER) (k:Nat) (w:af) (hb:b < w.heap.size) (hr:∀ (x:Nat) (hx:x < rs.length),tK w b (x * 5) rs[x]∧rs[x].ok w) (hsep:SepE b rs) (hfree:Fp w b rs) (hl:∀ r ∈ rs,r.e.light) (hlen:rs.length≤1048576) (h0:0 < k) (h1:k + wE rs≤1000000000) :
  Calls prog 67 #[.slice (some ⟨b,0,none⟩) rs.length cap,.int .i64 (k:Int)] w fun e w'=>e=.returned (.int .i64 ((k + wE rs:Nat):Int))∧(∀ (x:Nat) (hx:x < rs.length),tK w' b (x * 5) (rs[x].mkd (k + wE (rs.take x)))∧(rs[x].mkd (k + wE (rs.take x))).ok w')∧Chg (R5 b rs) w w':=by
 have TL:=ay hsep;have U5:=ay hfree;have HL:=ay hl;clear hsep hfree hl;go_enter func67,ntmps67;go_wp2;go_loopw [1,5] (fun kv i wr=>∃ j K:Nat,j≤rs.length∧Hid (K=k + wE (rs.take j))∧kv=.int .i64 (K:Int)∧i=.int .i64 (j:Int)∧Hid (∀ (x:Nat) (hx:x < rs.length),tK wr b (x * 5) (oF k rs j x hx)∧(oF k rs j x hx).ok wr)∧Hid (Chg (R5 b rs) w wr)) (fun _ i _=>rs.length - (intOf i).toNat);case atStart=>exact ⟨0,k,Sm _,by show _=_; simp [wE],rfl,rfl,fun x hx=>by simpa [oF] using hr x hx,Chg.refl _ _⟩
 clear hr;obtain ⟨j,K,hj,HK,rfl,rfl,HC,Um⟩:=hrel;by_cases hlt:j < rs.length
 ·obtain ⟨⟨c0,c1,c2,c3,c4⟩,hok⟩:=HC.out j hlt;have XG:oF k rs j j hlt=rs[j]:=by unfold oF; rw [if_neg (by omega)]
  rw [XG] at c0 c1 c2 c3 c4 hok;have TS:=ay hok;have hlg:=HL.out rs[j] (Sd hlt);have lA:rs[j].e.allow.length≤1048576:=hlg.1;have lK:rs[j].e.kids.length≤1048576:=hlg.2;have hKb:0 < K∧K + wX rs[j].e≤1000000000:=by
   have h2:=RA rs (j + 1);rw [Jl _ _ hlt] at h2;have:=HK.out;omega
  have hK0:=hKb.1;have hK1:=hKb.2;unfold wX at hK1;have hgl:b < wr.heap.size:=Sg hb Um.out.size;have YT:Hid (Fp wr b rs):=U5.out.chg Um.out;have Zm:dD wr b:=YT.out.1.2;have fz:=Zm;unfold dD at fz;have hj1:=bH j;have hj2:(j:Int) < (rs.length:Int):=by omega
  have hnb:¬ DF rs[j] b:=TL.out.head _ (Sd hlt);have WJ:Hid (¬ DF rs[j] b):=hnb;have HZA:Hid (rs[j].e.allow ≠ []→∃ g,rs[j].adA=some ⟨g,0,none⟩):=TL.out.zeroA _ (Sd hlt);have HZK:Hid (rs[j].e.kids ≠ []→∃ g,rs[j].adK=some ⟨g,0,none⟩):=TL.out.zeroK _ (Sd hlt);clear hKb hlg hok hnb XG;obtain ⟨W1,hW1⟩:∃ W1,W1=wr.setCell ⟨b,j * 5,none⟩ (.int .i64 (K:Int)):=⟨_,rfl⟩;have HD1:Hid (Chg (fun g=>g=b) wr W1):=by rw [hW1]; exact Chg.set _ rfl
  have TW:Hid (Chg (fun g=>g=b ∨ DF rs[j] g) wr W1):=HD1.out.mono fun g hg=>.inl hg;have ZC:b < W1.heap.size:=Sg hgl TW.out.size;have a0:W1.cell? ⟨b,j * 5,none⟩=some (.int .i64 (K:Int)):=by rw [hW1]; exact iM c0
  have TM:Hid (∀ o,o ≠ j * 5→W1.cell? ⟨b,o,none⟩=wr.cell? ⟨b,o,none⟩):=fun o ho=>by rw [hW1]; exact bu (Ne.symm ho)
  have a1:W1.cell? ⟨b,j * 5 + 1,none⟩=some (.slice rs[j].adA rs[j].e.allow.length rs[j].capA):=by rw [TM.out _ (by omega)]; exact c1
  have HB1:Hid (∀ g,DF rs[j] g→g ≠ b):=fun g hg e=>WJ.out (by rw [← e]; exact hg);have HSA1:Hid (gP W1 rs[j].adA rs[j].e.allow):=by
   rw [hW1];refine gP.chg TS.out.1 (Chg.set (S:=fun g=>g=b) (g:=b) (j:=j * 5) _ rfl) fun g o hne e=>?_;obtain ⟨g0,e0⟩:=HZA.out hne;rw [e0] at e; injection e with e; injection e with e1 e2;subst e1;exact HB1.out _ (.inl ⟨hne,e0⟩)
  have HFA1:Hid (rs[j].e.allow ≠ []→∃ g,rs[j].adA=some ⟨g,0,none⟩∧dD W1 g):=fun hne=>by
   obtain ⟨g0,e0⟩:=HZA.out hne;exact ⟨g0,e0,((YT.out.chg TW.out).2 _ (Sd hlt) g0 (.inl ⟨hne,e0⟩)).2⟩
  go_wp2_with fail;rw [← hW1];clear hW1 c0 c1;refine (wI _ _ _ rs[j].e.allow (K + 1) _ (by omega) HSA1.out HFA1.out (by omega) (by omega)).mono ?_;rintro e w2 ⟨rfl,hsa2,hc2⟩;have HSA2:=ay hsa2;have Ud:=ay hc2;have Tx:Hid (Chg (fun g=>g=b ∨ DF rs[j] g) wr w2):=TW.out.trans (hc2.mono fun g hg=>.inr (.inl hg));have Tj:Hid (∀ o,w2.cell? ⟨b,o,none⟩=W1.cell? ⟨b,o,none⟩):=fun o=>hc2.cell ZC fun h=>WJ.out (.inl h);have UF:b < w2.heap.size:=Sg hgl Tx.out.size;clear hsa2 hc2;go_wp2_with fail;refine (aI _ (K + 1 + 2 * rs[j].e.allow.length) _ (by omega) (by omega) (by omega)).mono ?_;rintro e w3 ⟨rfl,hb3⟩;have HB3:=ay hb3;have TD:Hid (∀ o,w3.cell? ⟨b,o,none⟩=W1.cell? ⟨b,o,none⟩):=fun o=>(hb3.cell (p:=⟨b,o,none⟩) UF).trans (Tj.out o);have e2:w3.cell? ⟨b,j * 5 + 2,none⟩=some (.string rs[j].e.over):=by rw [TD.out,TM.out _ (by omega)]; exact c2
  have fz3:∀ y,w3.frozen? ⟨b,y,none⟩=false:=fun y=>dV hb3 UF ((YT.out.chg Tx.out).1.2 y);obtain ⟨W4,TV⟩:∃ W4,W4=w3.setCell ⟨b,j * 5 + 2,none⟩ (.string (aT (K + 1 + 2 * rs[j].e.allow.length))):=⟨_,rfl⟩;have Yb:Hid (Chg (fun g=>g=b) w2 W4):=(Chg.of HB3.out).trans (by rw [TV]; exact Chg.set _ rfl);have d2:W4.cell? ⟨b,j * 5 + 2,none⟩=some (.string (aT (K + 1 + 2 * rs[j].e.allow.length))):=by rw [TV]; exact iM e2
  have TJ:Hid (∀ o,o ≠ j * 5 + 2→W4.cell? ⟨b,o,none⟩=W1.cell? ⟨b,o,none⟩):=fun o ho=>by rw [TV,bu (Ne.symm ho)]; exact TD.out o
  have hgl4:b < W4.heap.size:=Sg UF Yb.out.size;clear hb3;go_wp2_with fail;rw [← TV];clear TV e2 fz3 c2;refine (aI _ (K + 2 + 2 * rs[j].e.allow.length) _ (by omega) (by omega) (by omega)).mono ?_;rintro e w5 ⟨rfl,hb5⟩;have TI:=ay hb5;have Uc:Hid (∀ o,w5.cell? ⟨b,o,none⟩=W4.cell? ⟨b,o,none⟩):=fun o=>hb5.cell (p:=⟨b,o,none⟩) hgl4;have e3:w5.cell? ⟨b,j * 5 + 3,none⟩=some (.string rs[j].e.name):=by rw [Uc.out,TJ.out _ (by omega),TM.out _ (by omega)]; exact c3
  have e4:w5.cell? ⟨b,j * 5 + 4,none⟩=some (.slice rs[j].adK rs[j].e.kids.length rs[j].capK):=by rw [Uc.out,TJ.out _ (by omega),TM.out _ (by omega)]; exact c4
  have fz5:∀ y,w5.frozen? ⟨b,y,none⟩=false:=fun y=>dV hb5 hgl4 (((YT.out.chg Tx.out).chg Yb.out).1.2 y);obtain ⟨W6,VV⟩:∃ W6,W6=w5.setCell ⟨b,j * 5 + 3,none⟩ (.string (aT (K + 2 + 2 * rs[j].e.allow.length))):=⟨_,rfl⟩;have HC6:Hid (Chg (fun g=>g=b) w2 W6):=Yb.out.trans ((Chg.of TI.out).trans (by rw [VV]; exact Chg.set _ rfl));have d3:W6.cell? ⟨b,j * 5 + 3,none⟩=some (.string (aT (K + 2 + 2 * rs[j].e.allow.length))):=by rw [VV]; exact iM e3
  have d2':W6.cell? ⟨b,j * 5 + 2,none⟩=some (.string (aT (K + 1 + 2 * rs[j].e.allow.length))):=by rw [VV,bu (by omega),Uc.out]; exact d2
  have Ub:Hid (∀ o,o ≠ j * 5 + 2→o ≠ j * 5 + 3→W6.cell? ⟨b,o,none⟩=W1.cell? ⟨b,o,none⟩):=fun o h2 h3=>by rw [VV,bu (Ne.symm h3),Uc.out]; exact TJ.out o h2
  have hgl6:b < W6.heap.size:=Sg UF HC6.out.size;have d4:W6.cell? ⟨b,j * 5 + 4,none⟩=some (.slice rs[j].adK rs[j].e.kids.length rs[j].capK):=by rw [Ub.out _ (by omega) (by omega),TM.out _ (by omega)]; exact c4
  have HC26:Hid (Chg (fun g=>g=b ∨ DF rs[j] g) wr W6):=Tx.out.trans (HC6.out.mono fun g hg=>.inl hg);have HONE:Hid (∀ g,bA rs[j] g→¬ bK rs[j] g):=TL.out.one _ (Sd hlt);have HSK6:Hid (mZ W6 rs[j].adK rs[j].e.kids):=by
   refine mZ.chg (S:=fun g=>g=b ∨ bA rs[j] g) TS.out.2 ((HD1.out.mono fun g hg=>.inl hg).trans ((Ud.out.mono fun g hg=>.inr hg).trans (HC6.out.mono fun g hg=>.inl hg))) fun g o hne e=>?_;obtain ⟨g0,e0⟩:=HZK.out hne;rw [e0] at e; injection e with e; injection e with e1 e2;subst e1;rintro (h | h)
   ·exact HB1.out _ (.inr ⟨hne,e0⟩) h
   exact HONE.out _ h ⟨hne,e0⟩
  have HFK6:Hid (rs[j].e.kids ≠ []→∃ g,rs[j].adK=some ⟨g,0,none⟩∧dD W6 g):=fun hne=>by
   obtain ⟨g0,e0⟩:=HZK.out hne;exact ⟨g0,e0,((YT.out.chg HC26.out).2 _ (Sd hlt) g0 (.inr ⟨hne,e0⟩)).2⟩
  go_wp2_with fail;rw [← VV];clear VV e3 e4 fz5 c3 c4;refine (Af _ _ _ rs[j].e.kids (K + 3 + 2 * rs[j].e.allow.length) _ (by omega) HSK6.out HFK6.out (by omega)).mono ?_;rintro e w7 ⟨rfl,hsk7,hc7⟩;have hx7:Chg (bK rs[j]) W6 w7:=hc7;have ZG:Hid (Chg (fun g=>g=b ∨ DF rs[j] g) wr w7):=HC26.out.trans (hx7.mono fun g hg=>.inr (.inr hg));have Ya:Hid (∀ o,w7.cell? ⟨b,o,none⟩=W6.cell? ⟨b,o,none⟩):=fun o=>hc7.cell hgl6 fun h=>WJ.out (.inr h);have HSA7:Hid (gP w7 rs[j].adA (KF (K + 1) rs[j].e.allow)):=by
   refine gP.chg (S:=fun g=>g=b ∨ bK rs[j] g) HSA2.out ((HC6.out.mono fun g hg=>.inl hg).trans (hx7.mono fun g hg=>.inr hg)) fun g o hne e=>?_;rw [ne_eq,Jk] at hne;obtain ⟨g0,e0⟩:=HZA.out hne;rw [e0] at e; injection e with e; injection e with e1 e2;subst e1;rintro (h | h)
   ·exact HB1.out _ (.inl ⟨hne,e0⟩) h
   exact HONE.out _ ⟨hne,e0⟩ h
  have HSK7:=ay hsk7;have TE:Hid (∀ (x:Nat) (hx:x < rs.length),tK w7 b (x * 5) (oF k rs (j + 1) x hx)∧(oF k rs (j + 1) x hx).ok w7):=by
   intro x hx;by_cases e:x=j
   ·subst e;have XG:oF k rs (x + 1) x hx=rs[x].mkd K:=by unfold oF; rw [if_pos (by omega),HK.out]
    rw [XG];refine ⟨⟨?_,?_,?_,?_,?_⟩,HSA7.out,HSK7.out⟩
    ·rw [Ya.out,Ub.out _ (by omega) (by omega)]; exact a0
    ·rw [Ya.out,Ub.out _ (by omega) (by omega),a1];show _=some (Value.slice rs[x].adA (KF _ _).length rs[x].capA);rw [De]
    ·rw [Ya.out]; exact d2'
    ·rw [Ya.out]; exact d3
    rw [Ya.out,d4];show _=some (Value.slice rs[x].adK (Lx _ _).length rs[x].capK);rw [Dc]
   have XG:oF k rs (j + 1) x hx=oF k rs j x hx:=by
    unfold oF;by_cases h2:x < j
    ·rw [if_pos h2,if_pos (by omega)]
    rw [if_neg h2,if_neg (by omega)]
   rw [XG];obtain ⟨⟨p0,p1,p2,p3,p4⟩,hok⟩:=HC.out x hx;have hall:∀ o,o ≠ j * 5→o ≠ j * 5 + 2→o ≠ j * 5 + 3→w7.cell? ⟨b,o,none⟩=wr.cell? ⟨b,o,none⟩:=fun o h0 h2 h3=>by rw [Ya.out,Ub.out _ h2 h3,TM.out _ h0]
   obtain ⟨q1,q2,q3,q4⟩:=Pi k rs j x hx;refine ⟨⟨?_,?_,?_,?_,?_⟩,hok.chg ZG.out ?_ ?_⟩
   ·rw [hall _ (by omega) (by omega) (by omega)]; exact p0
   ·rw [hall _ (by omega) (by omega) (by omega)]; exact p1
   ·rw [hall _ (by omega) (by omega) (by omega)]; exact p2
   ·rw [hall _ (by omega) (by omega) (by omega)]; exact p3
   ·rw [hall _ (by omega) (by omega) (by omega)]; exact p4
   ·intro g o hne e2;obtain ⟨g0,e0⟩:=TL.out.zeroA _ (Sd hx) (q3 hne);rw [q1,e0] at e2; injection e2 with e2; injection e2 with e3 e4;subst e3;have hin:DF rs[x] g0:=.inl ⟨q3 hne,e0⟩;rintro (h | h)
    ·subst h; exact TL.out.head _ (Sd hx) hin
    exact TL.out.two x j hx hlt e g0 hin h
   intro g o hne e2;obtain ⟨g0,e0⟩:=TL.out.zeroK _ (Sd hx) (q4 hne);rw [q2,e0] at e2; injection e2 with e2; injection e2 with e3 e4;subst e3;have hin:DF rs[x] g0:=.inr ⟨q4 hne,e0⟩;rintro (h | h)
   ·subst h; exact TL.out.head _ (Sd hx) hin
   exact TL.out.two x j hx hlt e g0 hin h
  have VF:Hid (Chg (R5 b rs) w w7):=Um.out.trans (ZG.out.mono fun g hg=>hg.elim .inl fun h=>.inr ⟨rs[j],Sd hlt,h⟩);have WB:Hid (K + 3 + 2 * rs[j].e.allow.length + rs[j].e.kids.length=k + wE (rs.take (j + 1))):=by
   show _=_;rw [Jl _ _ hlt,HK.out]; unfold wX; omega
  clear hsk7 hc7 hx7 a0 a1 d2 d2' d3 d4;go_wp2;go_roundw;case rel=>exact ⟨j + 1,K + 3 + 2 * rs[j].e.allow.length + rs[j].e.kids.length,by omega,WB,by go_num,by go_num,TE,VF⟩
  simp [intOf] <;> omega
 obtain rfl:j=rs.length:=by omega
 have VW:Hid (K=k + wE rs):=by have:=HK.out; rw [Su] at this; exact this
 have HEND:Hid (∀ (x:Nat) (hx:x < rs.length),tK wr b (x * 5) (rs[x].mkd (k + wE (rs.take x)))∧(rs[x].mkd (k + wE (rs.take x))).ok wr):=fun x hx=>by
  have:=HC.out x hx;unfold oF at this;rw [if_pos hx] at this;exact this
 go_wp2;go_ret;exact ⟨by rw [← VW.out]; rfl,HEND.out,Um.out⟩
def ll (w:World) (P:Nat→Prop):Prop:=∀ g,P g→g < w.heap.size∧dD w g
theorem ll.chg {S P:Nat→Prop} {w w':af} (h:ll w P) (hc:Chg S w w'):ll w' P:=fun g hg=>⟨Sg (h g hg).1 hc.size,hc.free g (h g hg).1 (h g hg).2⟩
theorem ll.mono {P Q:Nat→Prop} {w:af} (h:ll w P) (hq:∀ g,Q g→P g):ll w Q:=fun g hg=>h g (hq g hg)
theorem Ah (x:Int) (ad:Option Addr) (cap:Nat) (w:af) :
  Calls prog 67 #[.slice ad 0 cap,.int .i64 x] w fun e w'=>e=.returned (.int .i64 x)∧w'=w:=by
 go_enter func67,ntmps67;go_wp2;go_loopw [1,5] (fun kv i wr=>kv=.int .i64 x∧i=.int .i64 0∧wr=w) (fun _ _ _=>0);case atStart=>exact ⟨rfl,rfl,rfl⟩
 obtain ⟨rfl,rfl,rfl⟩:=hrel;go_wp2;go_ret;exact ⟨rfl,rfl⟩
theorem sS (x:Int) (ad:Option Addr) (cap:Nat) (w:af) :
  Calls prog 41 #[.slice ad 0 cap,.int .i64 x] w fun e w'=>e=.returned (.int .i64 x)∧w'=w:=by
 go_enter func41,ntmps41;go_wp2;go_loopw [1,5] (fun kv i wr=>kv=.int .i64 x∧i=.int .i64 0∧wr=w) (fun _ _ _=>0);case atStart=>exact ⟨rfl,rfl,rfl⟩
 obtain ⟨rfl,rfl,rfl⟩:=hrel;go_wp2;go_ret;exact ⟨rfl,rfl⟩
theorem Ai (x:Int) (ad:Option Addr) (cap:Nat) (w:af) :
  Calls prog 16 #[.slice ad 0 cap,.int .i64 x] w fun e w'=>e=.returned (.int .i64 x)∧w'=w:=by
 go_enter func16,ntmps16;go_wp2;go_loopw [1,5] (fun kv i wr=>kv=.int .i64 x∧i=.int .i64 0∧wr=w) (fun _ _ _=>0);case atStart=>exact ⟨rfl,rfl,rfl⟩
 obtain ⟨rfl,rfl,rfl⟩:=hrel;go_wp2;go_ret;exact ⟨rfl,rfl⟩
def uM (r:RR) (g:Nat):Prop:=(r.rows ≠ []∧r.ad=some ⟨g,0,none⟩) ∨ ∃ q ∈ r.rows,DF q g
def Fq (r:RR):Prop:=r.rows ≠ []→∃ b,r.ad=some ⟨b,0,none⟩∧SepE b r.rows
structure SepR (b:Nat) (rs:List RR):Prop where
 good:∀ r ∈ rs,Fq r
 head:∀ r ∈ rs,¬ uM r b
 two:∀ (x y:Nat) (hx:x < rs.length) (hy:y < rs.length),x ≠ y→∀ g,uM rs[x] g→¬ uM rs[y] g
def Ns (b:Nat) (rs:List RR) (g:Nat):Prop:=g=b ∨ ∃ r ∈ rs,uM r g
def wR:List RR→Nat
 | []=>0
 | r::rs=>(1 + wE r.rows) + wR rs
theorem uN:∀ xs ys:List RR,wR (xs ++ ys)=wR xs + wR ys
 | [],ys=>by simp [wR]
 | x::xs,ys=>by rw [List.cons_append]; simp only [wR]; rw [uN xs ys]; omega
theorem Jm (rs:List RR) (j:Nat) (h:j < rs.length):wR (rs.take (j + 1))=wR (rs.take j) + (1 + wE rs[j].rows):=by
 rw [Sk h,uN]; simp [wR]
theorem RB (rs:List RR) (j:Nat):wR (rs.take j)≤wR rs:=by
 have:=uN (rs.take j) (rs.drop j);rw [Td] at this;omega
theorem RR.ok.chg {S:Nat→Prop} {w w':af} {r:RR} (h:r.ok w) (hc:Chg S w w') (hg:Fq r) (hn:∀ g,uM r g→¬ S g):r.ok w':=by
 by_cases hz:r.rows=[]
 ·exact .inl hz
 obtain ⟨b,e,hsep⟩:=hg hz;rcases h with h | ⟨b',off,e',hb,hr,hk⟩
 ·exact .inl h
 rw [e] at e'; injection e' with e'; injection e' with e1 e2;subst e1; subst e2;refine .inr ⟨b,0,e,Sg hb hc.size,fun i hi=>(hr i hi).same fun o=>hc.cell hb (hn b (.inl ⟨hz,e⟩)),fun q hq=>?_⟩;refine (hk q hq).chg hc (fun g o hne e2=>?_) (fun g o hne e2=>?_)
 ·obtain ⟨g0,e0⟩:=hsep.zeroA q hq hne;rw [e0] at e2; injection e2 with e2; injection e2 with e3 e4;subst e3;exact hn g0 (.inr ⟨q,hq,.inl ⟨hne,e0⟩⟩)
 obtain ⟨g0,e0⟩:=hsep.zeroK q hq hne;rw [e0] at e2; injection e2 with e2; injection e2 with e3 e4;subst e3;exact hn g0 (.inr ⟨q,hq,.inr ⟨hne,e0⟩⟩)
theorem Df (x:Int) (r:RR) (k:Nat) (w:af) (hx:x=(k:Int)) (ho:r.ok w) (hg:Fq r) (hf:ll w (uM r)) (hl:r.light) (h0:0 < k) (h1:k + wE r.rows≤1000000000) :
  Calls prog 67 #[.slice r.ad r.rows.length r.cap,.int .i64 x] w fun e w'=>e=.returned (.int .i64 ((k + wE r.rows:Nat):Int))∧Chg (uM r) w w':=by
 by_cases hz:r.rows=[]
 ·rw [hz];refine (Ah x r.ad r.cap w).mono ?_;rintro e w' ⟨rfl,rfl⟩;exact ⟨by rw [hx]; rfl,Chg.refl _ _⟩
 obtain ⟨b,e,hsep⟩:=hg hz;rcases ho with h | ⟨b',off,e',hb,hr,hk⟩
 ·exact absurd h hz
 rw [e] at e'; injection e' with e'; injection e' with e1 e2;subst e1; subst e2;rw [e,hx];refine (Ag b r.cap r.rows k w hb (fun x hx=>⟨by have:=hr x hx; rwa [SG] at this,hk _ (Sd hx)⟩) hsep ⟨hf b (.inl ⟨hz,e⟩),fun q hq g hg=>hf g (.inr ⟨q,hq,hg⟩)⟩ hl.2 hl.1 h0 h1).mono ?_;rintro e2 w' ⟨rfl,-,hc⟩;exact ⟨rfl,hc.mono fun g hg=>by
  rcases hg with rfl | ⟨q,hq,h2⟩
  ·exact .inl ⟨hz,e⟩
  exact .inr ⟨q,hq,h2⟩⟩
set_option maxRecDepth 8000 in
theorem sU (b cap:Nat) (rs:List RR) (k:Nat) (w:af) (hb:b < w.heap.size) (hr:∀ (x:Nat) (hx:x < rs.length),AtR w b (x * 2) rs[x]∧rs[x].ok w) (hsep:SepR b rs) (hfree:ll w (Ns b rs)) (hl:∀ r ∈ rs,r.light) (hlen:rs.length≤1048576) (h0:0 < k) (h1:k + wR rs≤1000000000) :
  Calls prog 41 #[.slice (some ⟨b,0,none⟩) rs.length cap,.int .i64 (k:Int)] w fun e w'=>e=.returned (.int .i64 ((k + wR rs:Nat):Int))∧Chg (Ns b rs) w w':=by
 have TL:=ay hsep;have U5:=ay hfree;have HL:=ay hl;clear hsep hfree hl;go_enter func41,ntmps41;go_wp2;go_loopw [1,5] (fun kv i wr=>∃ j K:Nat,j≤rs.length∧Hid (K=k + wR (rs.take j))∧kv=.int .i64 (K:Int)∧i=.int .i64 (j:Int)∧Hid (∀ (x:Nat) (hx:x < rs.length),j≤x→AtR wr b (x * 2) rs[x]∧rs[x].ok wr)∧Hid (Chg (Ns b rs) w wr)) (fun _ i _=>rs.length - (intOf i).toNat);case atStart=>exact ⟨0,k,Sm _,by show _=_; simp [wR],rfl,rfl,fun x hx _=>hr x hx,Chg.refl _ _⟩
 clear hr;obtain ⟨j,K,hj,HK,rfl,rfl,HC,Um⟩:=hrel;by_cases hlt:j < rs.length
 ·obtain ⟨⟨c0,c1⟩,hok⟩:=HC.out j hlt (Sj _);have TS:=ay hok;have Vl:Hid (rs[j].light):=HL.out rs[j] (Sd hlt);have hKb:0 < K∧K + (1 + wE rs[j].rows)≤1000000000:=by
   have h2:=RB rs (j + 1);rw [Jm _ _ hlt] at h2;have:=HK.out;omega
  have hK0:=hKb.1;have hK1:=hKb.2;have hgl:b < wr.heap.size:=Sg hb Um.out.size;have YT:Hid (ll wr (Ns b rs)):=U5.out.chg Um.out;have hj1:=bH j;have hj2:(j:Int) < (rs.length:Int):=by omega
  have WJ:Hid (¬ uM rs[j] b):=TL.out.head _ (Sd hlt);have HGD:Hid (Fq rs[j]):=TL.out.good _ (Sd hlt);clear hKb hok;go_wp2_with fail;refine (aI _ K _ (by omega) (by omega) (by omega)).mono ?_;rintro e w1 ⟨rfl,hb1⟩;have HB1:=ay hb1;replace c0:=kept hb1 hgl c0;replace c1:=kept hb1 hgl c1;have fz:∀ y,w1.frozen? ⟨b,y,none⟩=false:=fun y=>dV hb1 hgl ((YT.out b (.inl rfl)).2 y);obtain ⟨W2,hW2⟩:∃ W2,W2=w1.setCell ⟨b,j * 2,none⟩ (.string (aT K)):=⟨_,rfl⟩;have Tx:Hid (Chg (fun g=>g=b) wr W2):=(Chg.of hb1).trans (by rw [hW2]; exact Chg.set _ rfl);have Tj:Hid (∀ o,o ≠ j * 2→W2.cell? ⟨b,o,none⟩=wr.cell? ⟨b,o,none⟩):=fun o ho=>by rw [hW2,bu (Ne.symm ho)]; exact HB1.out.cell (p:=⟨b,o,none⟩) hgl
  have UF:b < W2.heap.size:=Sg hgl Tx.out.size;have HOK2:Hid (rs[j].ok W2):=TS.out.chg Tx.out HGD.out fun g hg e=>WJ.out (by rw [← e]; exact hg);have HFI:Hid (ll W2 (uM rs[j])):=(YT.out.chg Tx.out).mono fun g hg=>.inr ⟨_,Sd hlt,hg⟩;clear hb1;go_wp2_with fail;rw [← hW2];clear hW2 fz c0 c1;refine (Df _ rs[j] (K + 1) _ (by omega) HOK2.out HGD.out HFI.out Vl.out (by omega) (by omega)).mono ?_;rintro e w3 ⟨rfl,hc3⟩;have Uy:Hid (Chg (fun g=>g=b ∨ uM rs[j] g) wr w3):=(Tx.out.mono fun g hg=>.inl hg).trans (hc3.mono fun g hg=>.inr hg);have TD:Hid (∀ o,w3.cell? ⟨b,o,none⟩=W2.cell? ⟨b,o,none⟩):=fun o=>hc3.cell UF WJ.out;have TE:Hid (∀ (x:Nat) (hx:x < rs.length),j + 1≤x→AtR w3 b (x * 2) rs[x]∧rs[x].ok w3):=by
   intro x hx hjx;obtain ⟨⟨p0,p1⟩,hok⟩:=HC.out x hx (by omega);refine ⟨⟨?_,?_⟩,hok.chg Uy.out (TL.out.good _ (Sd hx)) ?_⟩
   ·rw [TD.out,Tj.out _ (by omega)]; exact p0
   ·rw [TD.out,Tj.out _ (by omega)]; exact p1
   rintro g hg (h | h)
   ·subst h; exact TL.out.head _ (Sd hx) hg
   exact TL.out.two x j hx hlt (by omega) g hg h
  have VF:Hid (Chg (Ns b rs) w w3):=Um.out.trans (Uy.out.mono fun g hg=>hg.elim .inl fun h=>.inr ⟨rs[j],Sd hlt,h⟩);have WB:Hid (K + 1 + wE rs[j].rows=k + wR (rs.take (j + 1))):=by
   show _=_;rw [Jm _ _ hlt,HK.out]; omega
  clear hc3;go_wp2;go_roundw;case rel=>exact ⟨j + 1,K + 1 + wE rs[j].rows,by omega,WB,by go_num,by go_num,TE,VF⟩
  simp [intOf] <;> omega
 obtain rfl:j=rs.length:=by omega
 have VW:Hid (K=k + wR rs):=by have:=HK.out; rw [Su] at this; exact this
 go_wp2;go_ret;exact ⟨by rw [← VW.out]; rfl,Um.out⟩
def wJ (r:TR) (g:Nat):Prop:=(r.rows ≠ []∧r.ad=some ⟨g,0,none⟩) ∨ ∃ q ∈ r.rows,uM q g
def Fs (r:TR):Prop:=r.rows ≠ []→∃ b,r.ad=some ⟨b,0,none⟩∧SepR b r.rows
structure SepT (b:Nat) (rs:List TR):Prop where
 good:∀ r ∈ rs,Fs r
 head:∀ r ∈ rs,¬ wJ r b
 two:∀ (x y:Nat) (hx:x < rs.length) (hy:y < rs.length),x ≠ y→∀ g,wJ rs[x] g→¬ wJ rs[y] g
def Ij (b:Nat) (rs:List TR) (g:Nat):Prop:=g=b ∨ ∃ r ∈ rs,wJ r g
def wT:List TR→Nat
 | []=>0
 | r::rs=>(1 + wR r.rows) + wT rs
theorem uO:∀ xs ys:List TR,wT (xs ++ ys)=wT xs + wT ys
 | [],ys=>by simp [wT]
 | x::xs,ys=>by rw [List.cons_append]; simp only [wT]; rw [uO xs ys]; omega
theorem Jn (rs:List TR) (j:Nat) (h:j < rs.length):wT (rs.take (j + 1))=wT (rs.take j) + (1 + wR rs[j].rows):=by
 rw [Sk h,uO]; simp [wT]
theorem RD (rs:List TR) (j:Nat):wT (rs.take j)≤wT rs:=by
 have:=uO (rs.take j) (rs.drop j);rw [Td] at this;omega
theorem TR.ok.chg {S:Nat→Prop} {w w':af} {r:TR} (h:r.ok w) (hc:Chg S w w') (hg:Fs r) (hn:∀ g,wJ r g→¬ S g):r.ok w':=by
 by_cases hz:r.rows=[]
 ·exact .inl hz
 obtain ⟨b,e,hsep⟩:=hg hz;rcases h with h | ⟨b',off,e',hb,hr,hk⟩
 ·exact .inl h
 rw [e] at e'; injection e' with e'; injection e' with e1 e2;subst e1; subst e2;refine .inr ⟨b,0,e,Sg hb hc.size,fun i hi=>(hr i hi).same fun o=>hc.cell hb (hn b (.inl ⟨hz,e⟩)),fun q hq=>?_⟩;exact (hk q hq).chg hc (hsep.good q hq) fun g hg=>hn g (.inr ⟨q,hq,hg⟩)
theorem uP (x:Int) (r:TR) (k:Nat) (w:af) (hx:x=(k:Int)) (ho:r.ok w) (hg:Fs r) (hf:ll w (wJ r)) (hl:r.light) (h0:0 < k) (h1:k + wR r.rows≤1000000000) :
  Calls prog 41 #[.slice r.ad r.rows.length r.cap,.int .i64 x] w fun e w'=>e=.returned (.int .i64 ((k + wR r.rows:Nat):Int))∧Chg (wJ r) w w':=by
 by_cases hz:r.rows=[]
 ·rw [hz];refine (sS x r.ad r.cap w).mono ?_;rintro e w' ⟨rfl,rfl⟩;exact ⟨by rw [hx]; rfl,Chg.refl _ _⟩
 obtain ⟨b,e,hsep⟩:=hg hz;rcases ho with h | ⟨b',off,e',hb,hr,hk⟩
 ·exact absurd h hz
 rw [e] at e'; injection e' with e'; injection e' with e1 e2;subst e1; subst e2;rw [e,hx];refine (sU b r.cap r.rows k w hb (fun x hx=>⟨by have:=hr x hx; rwa [SG] at this,hk _ (Sd hx)⟩) hsep (hf.mono fun g hg=>by
  rcases hg with rfl | ⟨q,hq,h2⟩
  ·exact .inl ⟨hz,e⟩
  exact .inr ⟨q,hq,h2⟩) hl.2 hl.1 h0 h1).mono ?_
 rintro e2 w' ⟨rfl,hc⟩;exact ⟨rfl,hc.mono fun g hg=>by
  rcases hg with rfl | ⟨q,hq,h2⟩
  ·exact .inl ⟨hz,e⟩
  exact .inr ⟨q,hq,h2⟩⟩
set_option maxRecDepth 8000 in
theorem Aj (b cap:Nat) (rs:List TR) (k:Nat) (w:af) (hb:b < w.heap.size) (hr:∀ (x:Nat) (hx:x < rs.length),Mt w b (x * 2) rs[x]∧rs[x].ok w) (hsep:SepT b rs) (hfree:ll w (Ij b rs)) (hl:∀ r ∈ rs,r.light) (hlen:rs.length≤1048576) (h0:0 < k) (h1:k + wT rs≤1000000000) :
  Calls prog 16 #[.slice (some ⟨b,0,none⟩) rs.length cap,.int .i64 (k:Int)] w fun e w'=>e=.returned (.int .i64 ((k + wT rs:Nat):Int))∧Chg (Ij b rs) w w':=by
 have TL:=ay hsep;have U5:=ay hfree;have HL:=ay hl;clear hsep hfree hl;go_enter func16,ntmps16;go_wp2;go_loopw [1,5] (fun kv i wr=>∃ j K:Nat,j≤rs.length∧Hid (K=k + wT (rs.take j))∧kv=.int .i64 (K:Int)∧i=.int .i64 (j:Int)∧Hid (∀ (x:Nat) (hx:x < rs.length),j≤x→Mt wr b (x * 2) rs[x]∧rs[x].ok wr)∧Hid (Chg (Ij b rs) w wr)) (fun _ i _=>rs.length - (intOf i).toNat);case atStart=>exact ⟨0,k,Sm _,by show _=_; simp [wT],rfl,rfl,fun x hx _=>hr x hx,Chg.refl _ _⟩
 clear hr;obtain ⟨j,K,hj,HK,rfl,rfl,HC,Um⟩:=hrel;by_cases hlt:j < rs.length
 ·obtain ⟨⟨c0,c1⟩,hok⟩:=HC.out j hlt (Sj _);have TS:=ay hok;have Vl:Hid (rs[j].light):=HL.out rs[j] (Sd hlt);have hKb:0 < K∧K + (1 + wR rs[j].rows)≤1000000000:=by
   have h2:=RD rs (j + 1);rw [Jn _ _ hlt] at h2;have:=HK.out;omega
  have hK0:=hKb.1;have hK1:=hKb.2;have hgl:b < wr.heap.size:=Sg hb Um.out.size;have YT:Hid (ll wr (Ij b rs)):=U5.out.chg Um.out;have hj1:=bH j;have hj2:(j:Int) < (rs.length:Int):=by omega
  have WJ:Hid (¬ wJ rs[j] b):=TL.out.head _ (Sd hlt);have HGD:Hid (Fs rs[j]):=TL.out.good _ (Sd hlt);clear hKb hok;go_wp2_with fail;refine (aI _ K _ (by omega) (by omega) (by omega)).mono ?_;rintro e w1 ⟨rfl,hb1⟩;have HB1:=ay hb1;replace c0:=kept hb1 hgl c0;replace c1:=kept hb1 hgl c1;have fz:∀ y,w1.frozen? ⟨b,y,none⟩=false:=fun y=>dV hb1 hgl ((YT.out b (.inl rfl)).2 y);obtain ⟨W2,hW2⟩:∃ W2,W2=w1.setCell ⟨b,j * 2,none⟩ (.string (aT K)):=⟨_,rfl⟩;have Tx:Hid (Chg (fun g=>g=b) wr W2):=(Chg.of hb1).trans (by rw [hW2]; exact Chg.set _ rfl);have Tj:Hid (∀ o,o ≠ j * 2→W2.cell? ⟨b,o,none⟩=wr.cell? ⟨b,o,none⟩):=fun o ho=>by rw [hW2,bu (Ne.symm ho)]; exact HB1.out.cell (p:=⟨b,o,none⟩) hgl
  have UF:b < W2.heap.size:=Sg hgl Tx.out.size;have HOK2:Hid (rs[j].ok W2):=TS.out.chg Tx.out HGD.out fun g hg e=>WJ.out (by rw [← e]; exact hg);have HFI:Hid (ll W2 (wJ rs[j])):=(YT.out.chg Tx.out).mono fun g hg=>.inr ⟨_,Sd hlt,hg⟩;clear hb1;go_wp2_with fail;rw [← hW2];clear hW2 fz c0 c1;refine (uP _ rs[j] (K + 1) _ (by omega) HOK2.out HGD.out HFI.out Vl.out (by omega) (by omega)).mono ?_;rintro e w3 ⟨rfl,hc3⟩;have Uy:Hid (Chg (fun g=>g=b ∨ wJ rs[j] g) wr w3):=(Tx.out.mono fun g hg=>.inl hg).trans (hc3.mono fun g hg=>.inr hg);have TD:Hid (∀ o,w3.cell? ⟨b,o,none⟩=W2.cell? ⟨b,o,none⟩):=fun o=>hc3.cell UF WJ.out;have TE:Hid (∀ (x:Nat) (hx:x < rs.length),j + 1≤x→Mt w3 b (x * 2) rs[x]∧rs[x].ok w3):=by
   intro x hx hjx;obtain ⟨⟨p0,p1⟩,hok⟩:=HC.out x hx (by omega);refine ⟨⟨?_,?_⟩,hok.chg Uy.out (TL.out.good _ (Sd hx)) ?_⟩
   ·rw [TD.out,Tj.out _ (by omega)]; exact p0
   ·rw [TD.out,Tj.out _ (by omega)]; exact p1
   rintro g hg (h | h)
   ·subst h; exact TL.out.head _ (Sd hx) hg
   exact TL.out.two x j hx hlt (by omega) g hg h
  have VF:Hid (Chg (Ij b rs) w w3):=Um.out.trans (Uy.out.mono fun g hg=>hg.elim .inl fun h=>.inr ⟨rs[j],Sd hlt,h⟩);have WB:Hid (K + 1 + wR rs[j].rows=k + wT (rs.take (j + 1))):=by
   show _=_;rw [Jn _ _ hlt,HK.out]; omega
  clear hc3;go_wp2;go_roundw;case rel=>exact ⟨j + 1,K + 1 + wR rs[j].rows,by omega,WB,by go_num,by go_num,TE,VF⟩
  simp [intOf] <;> omega
 obtain rfl:j=rs.length:=by omega
 have VW:Hid (K=k + wT rs):=by have:=HK.out; rw [Su] at this; exact this
 go_wp2;go_ret;exact ⟨by rw [← VW.out]; rfl,Um.out⟩
def uQ (b:Nat) (w:World) (qs:List ER):Prop:=SepE b qs∧∀ q ∈ qs,∀ g,DF q g→b < g∧g < w.heap.size∧dD w g
theorem uQ.nil (b:Nat) (w:af):uQ b w []:=by
 refine ⟨⟨?_,?_,?_,?_,?_⟩,?_⟩
 ·intro r hr; cases hr
 ·intro r hr; cases hr
 ·intro r hr; cases hr
 ·intro r hr; cases hr
 ·intro x y hx; exact absurd hx (SV _)
 intro r hr; cases hr
theorem Jo {q:ER} {gA gK g:Nat} (hA:q.adA=some ⟨gA,0,none⟩) (hK:q.adK=some ⟨gK,0,none⟩) (h:DF q g):g=gA ∨ g=gK:=by
 rcases h with ⟨-,e⟩ | ⟨-,e⟩
 ·rw [hA] at e; injection e with e; injection e with e1 e2; exact .inl e1.symm
 rw [hK] at e; injection e with e; injection e with e1 e2; exact .inr e1.symm
theorem uQ.snoc {S:Nat→Prop} {b:Nat} {wr wn:af} {qs:List ER} (h:uQ b wr qs) (hc:Chg S wr wn) (hb:b < wr.heap.size) {q:ER} {gA gK:Nat} (hA:q.adA=some ⟨gA,0,none⟩) (hK:q.adK=some ⟨gK,0,none⟩) (h1:wr.heap.size≤gA) (h2:gA < gK) (h3:gK < wn.heap.size) (fA:dD wn gA) (fK:dD wn gK):uQ b wn (qs ++ [q]):=by
 have hq:∀ g,DF q g→wr.heap.size≤g:=fun g hg=>by rcases Jo hA hK hg with rfl | rfl <;> omega
 refine ⟨⟨?_,?_,?_,?_,?_⟩,?_⟩
 ·intro r hr; rw [Sz,SF] at hr;rcases hr with hr | rfl
  ·exact h.1.zeroA r hr
  exact fun _=>⟨gA,hA⟩
 ·intro r hr; rw [Sz,SF] at hr;rcases hr with hr | rfl
  ·exact h.1.zeroK r hr
  exact fun _=>⟨gK,hK⟩
 ·intro r hr; rw [Sz,SF] at hr;rcases hr with hr | rfl
  ·exact h.1.head r hr
  intro hg; have:=hq b hg; omega
 ·intro r hr; rw [Sz,SF] at hr;rcases hr with hr | rfl
  ·exact h.1.one r hr
  rintro g ⟨-,e1⟩ ⟨-,e2⟩;rw [hA] at e1; rw [hK] at e2;injection e1 with e1; injection e1 with e1 _; injection e2 with e2; injection e2 with e2 _;omega
 ·intro x y hx hy hne g hgx Vs;rw [Sr,List.length_singleton] at hx hy;by_cases ex:x < qs.length
  ·rw [SN ex] at hgx;by_cases ey:y < qs.length
   ·rw [SN ey] at Vs;exact h.1.two x y ex ey hne g hgx Vs
   rw [Tc (by omega)] at Vs;have e1:=hq g (by simpa using Vs);have e2:=(h.2 _ (Sd ex) g hgx).2.1;omega
  rw [Tc (by omega)] at hgx;have e1:=hq g (by simpa using hgx);have ey:y < qs.length:=by omega
  rw [SN ey] at Vs;have e2:=(h.2 _ (Sd ey) g Vs).2.1;omega
 intro r hr g hg; rw [Sz,SF] at hr;rcases hr with hr | rfl
 ·obtain ⟨a1,a2,a3⟩:=h.2 r hr g hg;exact ⟨a1,Sg a2 hc.size,hc.free g a2 a3⟩
 rcases Jo hA hK hg with rfl | rfl
 ·exact ⟨by omega,by omega,fA⟩
 exact ⟨by omega,by omega,fK⟩
theorem uQ.chg {S:Nat→Prop} {b:Nat} {w w':af} {qs:List ER} (h:uQ b w qs) (hc:Chg S w w'):uQ b w' qs:=⟨h.1,fun q hq g hg=>⟨(h.2 q hq g hg).1,Sg (h.2 q hq g hg).2.1 hc.size,hc.free g (h.2 q hq g hg).2.1 (h.2 q hq g hg).2.2⟩⟩
def BM (m:Nat) (w:World) (r:RR):Prop:=Fq r∧∀ g,uM r g→m≤g∧g < w.heap.size∧dD w g
theorem BM.chg {S:Nat→Prop} {m:Nat} {w w':af} {r:RR} (h:BM m w r) (hc:Chg S w w'):BM m w' r:=⟨h.1,fun g hg=>⟨(h.2 g hg).1,Sg (h.2 g hg).2.1 hc.size,hc.free g (h.2 g hg).2.1 (h.2 g hg).2.2⟩⟩
def wK (b:Nat) (w:World) (qs:List RR):Prop:=SepR b qs∧∀ q ∈ qs,∀ g,uM q g→b < g∧g < w.heap.size∧dD w g
theorem wK.nil (b:Nat) (w:af):wK b w []:=by
 refine ⟨⟨?_,?_,?_⟩,?_⟩
 ·intro r hr; cases hr
 ·intro r hr; cases hr
 ·intro x y hx; exact absurd hx (SV _)
 intro r hr; cases hr
theorem wK.chg {S:Nat→Prop} {b:Nat} {w w':af} {qs:List RR} (h:wK b w qs) (hc:Chg S w w'):wK b w' qs:=⟨h.1,fun q hq g hg=>⟨(h.2 q hq g hg).1,Sg (h.2 q hq g hg).2.1 hc.size,hc.free g (h.2 q hq g hg).2.1 (h.2 q hq g hg).2.2⟩⟩
theorem wK.snoc {S:Nat→Prop} {b:Nat} {wr wn:af} {qs:List RR} (h:wK b wr qs) (hc:Chg S wr wn) (hb:b < wr.heap.size) {q:RR} (hq:BM wr.heap.size wn q):wK b wn (qs ++ [q]):=by
 refine ⟨⟨?_,?_,?_⟩,?_⟩
 ·intro r hr; rw [Sz,SF] at hr;rcases hr with hr | rfl
  ·exact h.1.good r hr
  exact hq.1
 ·intro r hr; rw [Sz,SF] at hr;rcases hr with hr | rfl
  ·exact h.1.head r hr
  intro hg; have:=(hq.2 b hg).1; omega
 ·intro x y hx hy hne g hgx Vs;rw [Sr,List.length_singleton] at hx hy;by_cases ex:x < qs.length
  ·rw [SN ex] at hgx;by_cases ey:y < qs.length
   ·rw [SN ey] at Vs;exact h.1.two x y ex ey hne g hgx Vs
   rw [Tc (by omega)] at Vs;have e1:=(hq.2 g (by simpa using Vs)).1;have e2:=(h.2 _ (Sd ex) g hgx).2.1;omega
  rw [Tc (by omega)] at hgx;have e1:=(hq.2 g (by simpa using hgx)).1;have ey:y < qs.length:=by omega
  rw [SN ey] at Vs;have e2:=(h.2 _ (Sd ey) g Vs).2.1;omega
 intro r hr g hg; rw [Sz,SF] at hr;rcases hr with hr | rfl
 ·obtain ⟨a1,a2,a3⟩:=h.2 r hr g hg;exact ⟨a1,Sg a2 hc.size,hc.free g a2 a3⟩
 obtain ⟨a1,a2,a3⟩:=hq.2 g hg;exact ⟨by omega,a2,a3⟩
def BN (m:Nat) (w:World) (r:TR):Prop:=Fs r∧∀ g,wJ r g→m≤g∧g < w.heap.size∧dD w g
theorem BN.chg {S:Nat→Prop} {m:Nat} {w w':af} {r:TR} (h:BN m w r) (hc:Chg S w w'):BN m w' r:=⟨h.1,fun g hg=>⟨(h.2 g hg).1,Sg (h.2 g hg).2.1 hc.size,hc.free g (h.2 g hg).2.1 (h.2 g hg).2.2⟩⟩
def uR (b:Nat) (w:World) (qs:List TR):Prop:=SepT b qs∧∀ q ∈ qs,∀ g,wJ q g→b < g∧g < w.heap.size∧dD w g
theorem uR.nil (b:Nat) (w:af):uR b w []:=by
 refine ⟨⟨?_,?_,?_⟩,?_⟩
 ·intro r hr; cases hr
 ·intro r hr; cases hr
 ·intro x y hx; exact absurd hx (SV _)
 intro r hr; cases hr
theorem uR.chg {S:Nat→Prop} {b:Nat} {w w':af} {qs:List TR} (h:uR b w qs) (hc:Chg S w w'):uR b w' qs:=⟨h.1,fun q hq g hg=>⟨(h.2 q hq g hg).1,Sg (h.2 q hq g hg).2.1 hc.size,hc.free g (h.2 q hq g hg).2.1 (h.2 q hq g hg).2.2⟩⟩
theorem uR.snoc {S:Nat→Prop} {b:Nat} {wr wn:af} {qs:List TR} (h:uR b wr qs) (hc:Chg S wr wn) (hb:b < wr.heap.size) {q:TR} (hq:BN wr.heap.size wn q):uR b wn (qs ++ [q]):=by
 refine ⟨⟨?_,?_,?_⟩,?_⟩
 ·intro r hr; rw [Sz,SF] at hr;rcases hr with hr | rfl
  ·exact h.1.good r hr
  exact hq.1
 ·intro r hr; rw [Sz,SF] at hr;rcases hr with hr | rfl
  ·exact h.1.head r hr
  intro hg; have:=(hq.2 b hg).1; omega
 ·intro x y hx hy hne g hgx Vs;rw [Sr,List.length_singleton] at hx hy;by_cases ex:x < qs.length
  ·rw [SN ex] at hgx;by_cases ey:y < qs.length
   ·rw [SN ey] at Vs;exact h.1.two x y ex ey hne g hgx Vs
   rw [Tc (by omega)] at Vs;have e1:=(hq.2 g (by simpa using Vs)).1;have e2:=(h.2 _ (Sd ex) g hgx).2.1;omega
  rw [Tc (by omega)] at hgx;have e1:=(hq.2 g (by simpa using hgx)).1;have ey:y < qs.length:=by omega
  rw [SN ey] at Vs;have e2:=(h.2 _ (Sd ey) g Vs).2.1;omega
 intro r hr g hg; rw [Sz,SF] at hr;rcases hr with hr | rfl
 ·obtain ⟨a1,a2,a3⟩:=h.2 r hr g hg;exact ⟨a1,Sg a2 hc.size,hc.free g a2 a3⟩
 obtain ⟨a1,a2,a3⟩:=hq.2 g hg;exact ⟨by omega,a2,a3⟩
theorem Ik (ad:Option Addr) (cap:Nat) (zs:List Int) (w:af) (hlen:zs.length≤1048576) (hs:mZ w ad zs) :
  Calls prog 190 #[.slice ad zs.length cap] w fun e w'=>e=.returned (.slice (some ⟨w.heap.size,0,none⟩) zs.length zs.length)∧mZ w' (some ⟨w.heap.size,0,none⟩) zs∧dD w' w.heap.size∧w.heap.size < w'.heap.size∧aa w w':=by
 obtain ⟨inf,z,hi,hz0,hz1,hz2⟩:=lH (t:=2) (n:=1) (b:=8) (by kernel_rfl);go_enter func190,ntmps190;go_wp2_with (at_make; refine wpList_make_full _ rfl _ _ 188 rfl w.heap.size 2 inf z 1 underlying188 hi hz0 hz1 .i64 .i64 _ _ zs.length rfl rfl rfl rfl (by rw [hz2]; omega) (by unfold maxLen; omega) (Sj _) ?_; intro w0 hown0 Tg);have F0:Fil w w0 w.heap.size (zs.length * 1) []:=gX hown0 Tg;clear hown0 Tg hi hz0 hz1 hz2;go_loopw [4] (fun i wr=>∃ k:Nat,k≤zs.length∧i=.int .i64 k∧Fil w wr w.heap.size (zs.length * 1) (ints (zs.take k))) (fun i _=>zs.length - (intOf i).toNat);case atStart=>exact ⟨0,Sm _,rfl,F0⟩
 obtain ⟨k,hk,rfl,F⟩:=hrel;by_cases hlt:k < zs.length
 ·rcases hs.below F.below with rfl | ⟨b,off,rfl,hb,hr⟩
  ·simp at hlt
  have t0:=hr k hlt;have fz:=F.free;obtain ⟨v0,u0⟩:=Option.isSome_iff_exists.mp (F.there k (by omega));have F2:=F.put (.int .i64 zs[k]) (o:=k) (by rw [D7 _ _ hk]) (by omega);rw [← AX _ _ hlt] at F2;have HF:=ay F2;clear F F0 hr F2 hs;go_wp2;go_roundw;case rel=>exact ⟨k + 1,by omega,by go_num,HF.out⟩
  simp [intOf]; omega
 obtain rfl:k=zs.length:=by omega
 rw [Su,Nat.mul_one] at F;go_wp2;go_ret;exact ⟨rfl,F.ints,F.free,F.lt,F.below⟩
theorem Dg (ad:Option Addr) (cap:Nat) (xs:List Al) (w:af) (hlen:xs.length≤1048576) (hs:gP w ad xs) :
  Calls prog 189 #[.slice ad xs.length cap] w fun e w'=>e=.returned (.slice (some ⟨w.heap.size,0,none⟩) xs.length xs.length)∧gP w' (some ⟨w.heap.size,0,none⟩) xs∧dD w' w.heap.size∧w.heap.size < w'.heap.size∧aa w w':=by
 obtain ⟨inf,z,hi,hz0,hz1,hz2⟩:=lH (t:=204) (n:=2) (b:=32) (by kernel_rfl);go_enter func189,ntmps189;go_wp2_with (at_make; refine wpList_make_full _ rfl _ _ 187 rfl w.heap.size 204 inf z 2 underlying187 hi hz0 hz1 .i64 .i64 _ _ xs.length rfl rfl rfl rfl (by rw [hz2]; omega) (by unfold maxLen; omega) (Sj _) ?_; intro w0 hown0 Tg);have F0:Fil w w0 w.heap.size (xs.length * 2) []:=gX hown0 Tg;clear hown0 Tg hi hz0 hz1 hz2;go_loopw [4] (fun i wr=>∃ k:Nat,k≤xs.length∧i=.int .i64 k∧Fil w wr w.heap.size (xs.length * 2) (pairs (xs.take k))) (fun i _=>xs.length - (intOf i).toNat);case atStart=>exact ⟨0,Sm _,rfl,F0⟩
 obtain ⟨k,hk,rfl,F⟩:=hrel;by_cases hlt:k < xs.length
 ·rcases hs.below F.below with rfl | ⟨b,off,rfl,hb,hr⟩
  ·simp at hlt
  obtain ⟨t0,t1⟩:=hr k hlt;go_wp2_with fail;refine (qz _ _ _).mono ?_;rintro e w1 ⟨rfl,hb1⟩;have F1:=F.later hb1;have fz:=F1.free;obtain ⟨v0,u0⟩:=Option.isSome_iff_exists.mp (F1.there (k * 2) (by omega));obtain ⟨v1,u1⟩:=Option.isSome_iff_exists.mp (F1.there (k * 2 + 1) (by omega));have hpl:(pairs (xs.take k)).length=k * 2:=by rw [lY,SL,Nat.min_eq_left hk]
  have F2:=(F1.put (.string xs[k].t) (o:=k * 2) hpl.symm (by omega)).put (.string xs[k].s) (o:=k * 2 + 1) (by simp [hpl]) (by omega);rw [← xV _ _ hlt] at F2;have HF:=ay F2;clear F F0 hr F1 F2 hs t0 t1 hb1 hpl;go_wp2;go_roundw;case rel=>exact ⟨k + 1,by omega,by go_num,HF.out⟩
  simp [intOf]; omega
 obtain rfl:k=xs.length:=by omega
 rw [Su] at F;go_wp2;go_ret;exact ⟨rfl,F.pairs,F.free,F.lt,F.below⟩
theorem Nt (r:ER) (w:af) (hr:r.ok w) (hl:r.e.light) :
  Calls prog 161 #[r.val] w fun e w'=>∃ (r':ER) (gA gK:Nat),e=.returned r'.val∧r'.e=r.e∧r'.adA=some ⟨gA,0,none⟩∧r'.adK=some ⟨gK,0,none⟩∧w.heap.size≤gA∧w.heap.size≤gK∧r'.ok w'∧r'.capA=r'.e.allow.length∧gA < gK∧gK < w'.heap.size∧dD w' gA∧dD w' gK∧aa w w':=by
 obtain ⟨⟨kind,allow,over,name,kids⟩,adA,capA,adK,capK⟩:=r;obtain ⟨hA,hK⟩:=hr;obtain ⟨l1,l2⟩:=hl;simp only at hA hK l1 l2;simp only [ER.val];have HA:=ay hA;have HK:Hid (mZ w adK kids):=hK;clear hA hK;go_enter func161,ntmps161;go_wp2_with fail;obtain ⟨W1,hW1⟩:∃ W1,W1=((w.alloc (.cells #[.int .i64 kind,.slice adA allow.length capA,.string over,.string name,.slice adK kids.length capK] 262)).alloc (.cells #[.int .i64 0,.slice none 0 0,.string ⟨#[]⟩,.string ⟨#[]⟩,.slice none 0 0] 190)).alloc (.cells #[.int .i64 kind,.slice none 0 0,.string ⟨#[]⟩,.string ⟨#[]⟩,.slice none 0 0] 190):=⟨_,rfl⟩;rw [← hW1];have hz1:w.heap.size + 3≤W1.heap.size:=by rw [hW1]; simp only [World.size_alloc]; omega
 have hb0:aa w W1:=by rw [hW1]; exact (((Si w.heap.size w).alloc (Sj _) _).alloc (by simp) _).alloc (by simp; omega) _
 have bB:Below (w.alloc (.cells #[.int .i64 kind,.slice adA allow.length capA,.string over,.string name,.slice adK kids.length capK] 262)).heap.size (w.alloc (.cells #[.int .i64 kind,.slice adA allow.length capA,.string over,.string name,.slice adK kids.length capK] 262)) W1:=by rw [hW1]; exact ((Si _ _).alloc (Sj _) _).alloc (by simp) _
 have bC:Below ((w.alloc (.cells #[.int .i64 kind,.slice adA allow.length capA,.string over,.string name,.slice adK kids.length capK] 262)).alloc (.cells #[.int .i64 0,.slice none 0 0,.string ⟨#[]⟩,.string ⟨#[]⟩,.slice none 0 0] 190)).heap.size ((w.alloc (.cells #[.int .i64 kind,.slice adA allow.length capA,.string over,.string name,.slice adK kids.length capK] 262)).alloc (.cells #[.int .i64 0,.slice none 0 0,.string ⟨#[]⟩,.string ⟨#[]⟩,.slice none 0 0] 190)) W1:=by rw [hW1]; exact (Si _ _).alloc (Sj _) _
 have hfr:∀ i,W1.frozen? ⟨w.heap.size + 1,i,none⟩=false∧W1.frozen? ⟨w.heap.size + 1 + 1,i,none⟩=false:=fun i=>⟨dV bC (by simp) (nA _ _ _ _),by rw [hW1]; exact pQ _ _ _ _ _⟩;have s2:W1.cell? ⟨w.heap.size,2,none⟩=some (.string over):=kept bB (by simp) (by simp);have s3:W1.cell? ⟨w.heap.size,3,none⟩=some (.string name):=kept bB (by simp) (by simp);have s4:W1.cell? ⟨w.heap.size,4,none⟩=some (.slice adK kids.length capK):=kept bB (by simp) (by simp);have z0:W1.cell? ⟨w.heap.size + 1,0,none⟩=some (.int .i64 0):=kept bC (by simp) (dM _ _ _ _ _ rfl);have z1:W1.cell? ⟨w.heap.size + 1,1,none⟩=some (.slice none 0 0):=kept bC (by simp) (dM _ _ _ _ _ rfl);have z2:W1.cell? ⟨w.heap.size + 1,2,none⟩=some (.string ⟨#[]⟩):=kept bC (by simp) (dM _ _ _ _ _ rfl);have z3:W1.cell? ⟨w.heap.size + 1,3,none⟩=some (.string ⟨#[]⟩):=kept bC (by simp) (dM _ _ _ _ _ rfl);have z4:W1.cell? ⟨w.heap.size + 1,4,none⟩=some (.slice none 0 0):=kept bC (by simp) (dM _ _ _ _ _ rfl);have o0:W1.cell? ⟨w.heap.size + 1 + 1,0,none⟩=some (.int .i64 kind):=by rw [hW1]; exact fw _ _ _ _ _ _ rfl
 have o1:W1.cell? ⟨w.heap.size + 1 + 1,1,none⟩=some (.slice none 0 0):=by rw [hW1]; exact fw _ _ _ _ _ _ rfl
 have o2:W1.cell? ⟨w.heap.size + 1 + 1,2,none⟩=some (.string ⟨#[]⟩):=by rw [hW1]; exact fw _ _ _ _ _ _ rfl
 have o3:W1.cell? ⟨w.heap.size + 1 + 1,3,none⟩=some (.string ⟨#[]⟩):=by rw [hW1]; exact fw _ _ _ _ _ _ rfl
 have o4:W1.cell? ⟨w.heap.size + 1 + 1,4,none⟩=some (.slice none 0 0):=by rw [hW1]; exact fw _ _ _ _ _ _ rfl
 clear hW1 bB bC;refine (Dg adA capA allow W1 l1 (HA.out.below hb0)).mono ?_;rintro e w1 ⟨rfl,hSA,hfA,hgA,hb1⟩;have HFA1:=ay hfA;have HGA1:Hid (W1.heap.size < w1.heap.size):=hgA;clear hfA hgA;replace s2:=kept hb1 (by omega) s2;replace s3:=kept hb1 (by omega) s3;replace s4:=kept hb1 (by omega) s4;replace z0:=kept hb1 (by omega) z0;replace z1:=kept hb1 (by omega) z1;replace z2:=kept hb1 (by omega) z2;replace z3:=kept hb1 (by omega) z3;replace z4:=kept hb1 (by omega) z4;replace o0:=kept hb1 (by omega) o0;replace o1:=kept hb1 (by omega) o1;replace o2:=kept hb1 (by omega) o2;replace o3:=kept hb1 (by omega) o3;replace o4:=kept hb1 (by omega) o4;have f1:∀ i,w1.frozen? ⟨w.heap.size + 1,i,none⟩=false:=fun i=>dV hb1 (by omega) (hfr i).1;have f2:∀ i,w1.frozen? ⟨w.heap.size + 1 + 1,i,none⟩=false:=fun i=>dV hb1 (by omega) (hfr i).2;have hB1:aa w w1:=hb0.trans (hb1.mono (by omega));have hs1:w.heap.size + 3≤w1.heap.size:=by have:=hb1.size; omega
 obtain ⟨W2,hW2⟩:∃ W2,W2=((w1.setCell ⟨w.heap.size + 1 + 1,1,none⟩ (.slice (some ⟨W1.heap.size,0,none⟩) allow.length allow.length)).setCell ⟨w.heap.size + 1 + 1,2,none⟩ (.string over)).setCell ⟨w.heap.size + 1 + 1,3,none⟩ (.string name):=⟨_,rfl⟩;have HB2:Hid (aa w W2):=by show Below _ _ _; rw [hW2]; exact ((hB1.setCell (p:=⟨w.heap.size + 1 + 1,1,none⟩) (by simp; omega) _).setCell (p:=⟨w.heap.size + 1 + 1,2,none⟩) (by simp; omega) _).setCell (p:=⟨w.heap.size + 1 + 1,3,none⟩) (by simp; omega) _
 have hne:∀ b off,(some ⟨W1.heap.size,0,none⟩:Option Addr)=some ⟨b,off,none⟩→w.heap.size + 1 + 1 ≠ b:=fun b off e=>by injection e with e; injection e with e1 e2; omega
 have HS2:Hid (gP W2 (some ⟨W1.heap.size,0,none⟩) allow):=by show gP _ _ _; rw [hW2]; exact ((hSA.set hne).set hne).set hne
 have HFA2:Hid (dD W2 W1.heap.size):=fun y=>by rw [hW2]; simpa using HFA1.out y
 have HGA2:Hid (W1.heap.size < W2.heap.size):=by show _ < _; rw [hW2]; simp only [World.size_setCell]; exact HGA1.out
 have hs2:w.heap.size + 3≤W2.heap.size:=by rw [hW2]; simp only [World.size_setCell]; omega
 clear hSA hb1 hB1 hb0 hfr HA;go_wp2_with fail;rw [← hW2];have S4:W2.cell? ⟨w.heap.size,4,none⟩=some (.slice adK kids.length capK):=by rw [hW2,bz (by omega),bz (by omega),bz (by omega)]; exact s4
 have Z0:W2.cell? ⟨w.heap.size + 1,0,none⟩=some (.int .i64 0):=by rw [hW2,bz (by omega),bz (by omega),bz (by omega)]; exact z0
 have Z1:W2.cell? ⟨w.heap.size + 1,1,none⟩=some (.slice none 0 0):=by rw [hW2,bz (by omega),bz (by omega),bz (by omega)]; exact z1
 have Z2:W2.cell? ⟨w.heap.size + 1,2,none⟩=some (.string ⟨#[]⟩):=by rw [hW2,bz (by omega),bz (by omega),bz (by omega)]; exact z2
 have Z3:W2.cell? ⟨w.heap.size + 1,3,none⟩=some (.string ⟨#[]⟩):=by rw [hW2,bz (by omega),bz (by omega),bz (by omega)]; exact z3
 have Z4:W2.cell? ⟨w.heap.size + 1,4,none⟩=some (.slice none 0 0):=by rw [hW2,bz (by omega),bz (by omega),bz (by omega)]; exact z4
 have O0:W2.cell? ⟨w.heap.size + 1 + 1,0,none⟩=some (.int .i64 kind):=by rw [hW2,bu (by omega),bu (by omega),bu (by omega)]; exact o0
 have O1:W2.cell? ⟨w.heap.size + 1 + 1,1,none⟩=some (.slice (some ⟨W1.heap.size,0,none⟩) allow.length allow.length):=by rw [hW2,bu (by omega),bu (by omega)]; exact iM o1
 have O2:W2.cell? ⟨w.heap.size + 1 + 1,2,none⟩=some (.string over):=by rw [hW2,bu (by omega)]; exact iM (by rw [bu (by omega)]; exact o2)
 have O3:W2.cell? ⟨w.heap.size + 1 + 1,3,none⟩=some (.string name):=by rw [hW2]; exact iM (by rw [bu (by omega),bu (by omega)]; exact o3)
 have O4:W2.cell? ⟨w.heap.size + 1 + 1,4,none⟩=some (.slice none 0 0):=by rw [hW2,bu (by omega),bu (by omega),bu (by omega)]; exact o4
 have F1:∀ i,W2.frozen? ⟨w.heap.size + 1,i,none⟩=false:=fun i=>by rw [hW2]; simpa using f1 i
 have F2:∀ i,W2.frozen? ⟨w.heap.size + 1 + 1,i,none⟩=false:=fun i=>by rw [hW2]; simpa using f2 i
 clear hW2 s2 s3 s4 z0 z1 z2 z3 z4 o0 o1 o2 o3 o4 f1 f2;refine (Ik adK capK kids W2 l2 (HK.out.below HB2.out)).mono ?_;rintro e w2 ⟨rfl,hSK,hfK,hgK,hb2⟩;have HFK3:=ay hfK;have HGK3:Hid (W2.heap.size < w2.heap.size):=hgK;have HFA3:Hid (dD w2 W1.heap.size):=fun y=>dV hb2 HGA2.out (HFA2.out y);clear hfK hgK;replace S4:=kept hb2 (by omega) S4;replace Z0:=kept hb2 (by omega) Z0;replace Z1:=kept hb2 (by omega) Z1;replace Z2:=kept hb2 (by omega) Z2;replace Z3:=kept hb2 (by omega) Z3;replace Z4:=kept hb2 (by omega) Z4;replace O0:=kept hb2 (by omega) O0;replace O1:=kept hb2 (by omega) O1;replace O2:=kept hb2 (by omega) O2;replace O3:=kept hb2 (by omega) O3;replace O4:=kept hb2 (by omega) O4;replace F1:∀ i,w2.frozen? ⟨w.heap.size + 1,i,none⟩=false:=fun i=>dV hb2 (by omega) (F1 i);replace F2:∀ i,w2.frozen? ⟨w.heap.size + 1 + 1,i,none⟩=false:=fun i=>dV hb2 (by omega) (F2 i);have HB3:=jb HB2 hb2;have UN:=ay (HS2.out.below hb2);have HT3:=ay hSK;have hlt3:w.heap.size + 3≤w2.heap.size:=by have:=hb2.size; omega
 clear hb2 hSK HB2 HS2 HK hne;have hn1:∀ b off,(some ⟨W1.heap.size,0,none⟩:Option Addr)=some ⟨b,off,none⟩→w.heap.size + 1 ≠ b:=fun b off e=>by injection e with e; injection e with e1 e2; omega
 have hn2:∀ b off,(some ⟨W1.heap.size,0,none⟩:Option Addr)=some ⟨b,off,none⟩→w.heap.size + 1 + 1 ≠ b:=fun b off e=>by injection e with e; injection e with e1 e2; omega
 have hk1:∀ b off,(some ⟨W2.heap.size,0,none⟩:Option Addr)=some ⟨b,off,none⟩→w.heap.size + 1 ≠ b:=fun b off e=>by injection e with e; injection e with e1 e2; omega
 have hk2:∀ b off,(some ⟨W2.heap.size,0,none⟩:Option Addr)=some ⟨b,off,none⟩→w.heap.size + 1 + 1 ≠ b:=fun b off e=>by injection e with e; injection e with e1 e2; omega
 have N1:Hid (∀ b off,(some ⟨W1.heap.size,0,none⟩:Option Addr)=some ⟨b,off,none⟩→w.heap.size + 1 ≠ b):=hn1;have N2:Hid (∀ b off,(some ⟨W1.heap.size,0,none⟩:Option Addr)=some ⟨b,off,none⟩→w.heap.size + 1 + 1 ≠ b):=hn2;have N3:Hid (∀ b off,(some ⟨W2.heap.size,0,none⟩:Option Addr)=some ⟨b,off,none⟩→w.heap.size + 1 ≠ b):=hk1;have N4:Hid (∀ b off,(some ⟨W2.heap.size,0,none⟩:Option Addr)=some ⟨b,off,none⟩→w.heap.size + 1 + 1 ≠ b):=hk2;clear hn1 hn2 hk1 hk2;go_wp2;refine bodyPost_ret (v:=.agg #[.int .i64 kind,.slice (some ⟨W1.heap.size,0,none⟩) allow.length allow.length,.string over,.string name,.slice (some ⟨W2.heap.size,0,none⟩) kids.length kids.length]) (by simp [results,Tryz.results161,go_sem, *]) rfl ⟨⟨⟨kind,allow,over,name,kids⟩,some ⟨W1.heap.size,0,none⟩,allow.length,some ⟨W2.heap.size,0,none⟩,kids.length⟩,_,_,rfl,rfl,rfl,rfl,by omega,by omega,⟨?_,?_⟩,rfl,HGA2.out,by simp only [World.size_setCell]; exact HGK3.out,(fun y=>by simpa using HFA3.out y),(fun y=>by simpa using HFK3.out y),?_⟩
 ·exact (((((UN.out.set N2.out).set N1.out).set N1.out).set N1.out).set N1.out).set N1.out
 ·exact (((((HT3.out.set N4.out).set N3.out).set N3.out).set N3.out).set N3.out).set N3.out
 exact (((((HB3.out.setCell (p:=⟨w.heap.size + 1 + 1,4,none⟩) (by simp; omega) _).setCell (p:=⟨w.heap.size + 1,0,none⟩) (by simp) _).setCell (p:=⟨w.heap.size + 1,1,none⟩) (by simp) _).setCell (p:=⟨w.heap.size + 1,2,none⟩) (by simp) _).setCell (p:=⟨w.heap.size + 1,3,none⟩) (by simp) _).setCell (p:=⟨w.heap.size + 1,4,none⟩) (by simp) _
theorem KG (ad:Option Addr) (cap:Nat) (rs:List ER) (w:af) (hlen:rs.length≤1048576) (hs:fQ w ad rs) (hl:∀ r ∈ rs,r.e.light) :
  Calls prog 119 #[.slice ad rs.length cap] w fun e w'=>∃ rs':List ER,e=.returned (.slice (some ⟨w.heap.size,0,none⟩) rs'.length rs'.length)∧ai rs'=ai rs∧fQ w' (some ⟨w.heap.size,0,none⟩) rs'∧(∀ r ∈ rs',r.capA=r.e.allow.length)∧(∀ r ∈ rs',r.new w.heap.size)∧uQ w.heap.size w' rs'∧dD w' w.heap.size∧w.heap.size < w'.heap.size∧aa w w':=by
 obtain ⟨inf,z,hi,hz0,hz1,hz2⟩:=lH (t:=190) (n:=5) (b:=88) (by kernel_rfl);have Uj:=ay hs;have UC:=ay hl;clear hs hl;go_enter func119,ntmps119;go_wp2_with (at_make; refine wpList_make_full _ rfl _ _ 120 rfl w.heap.size 190 inf z 5 underlying120 hi hz0 hz1 .i64 .i64 _ _ rs.length rfl rfl rfl rfl (by rw [hz2]; omega) (by unfold maxLen; omega) (Sj _) ?_; intro w0 hown0 Tg);have F0:Fil w w0 w.heap.size (rs.length * 5) []:=gX hown0 Tg;clear hown0 Tg hi hz0 hz1 hz2;go_loopw [4] (fun i wr=>∃ (k:Nat) (qs:List ER),k≤rs.length∧i=.int .i64 k∧Hid (qs.length=k∧ai qs=(ai rs).take k∧(∀ q ∈ qs,q.ok wr∧q.new w.heap.size))∧Hid (uQ w.heap.size wr qs)∧Fil w wr w.heap.size (rs.length * 5) (jR qs)) (fun i _=>rs.length - (intOf i).toNat);case atStart=>exact ⟨0,[],Sm _,rfl,⟨rfl,by simp [ai],(fun q hq=>by cases hq)⟩,uQ.nil _ _,F0⟩
 obtain ⟨k,qs,hk,rfl,HQ,HO,F⟩:=hrel;by_cases hlt:k < rs.length
 ·rcases Uj.out.below F.below with rfl | ⟨b,off,rfl,hb,hr,hok⟩
  ·simp at hlt
  obtain ⟨t0,t1,t2,t3,t4⟩:=hr k hlt;have ok:=hok rs[k] (Sd hlt);have lg:=UC.out rs[k] (Sd hlt);clear hr hok;go_wp2_with fail;refine (Nt rs[k] _ ok lg).mono ?_;rintro e w1 ⟨q,gA,gK,rfl,hqe,hqA,hqK,hgA,hgK,Ue,hqc,hgl,hgz,hfA,hfK,hb1⟩;have F1:=F.later hb1;have fz:=F1.free;obtain ⟨v0,u0⟩:=Option.isSome_iff_exists.mp (F1.there (k * 5) (by omega));obtain ⟨v1,u1⟩:=Option.isSome_iff_exists.mp (F1.there (k * 5 + 1) (by omega));obtain ⟨v2,u2⟩:=Option.isSome_iff_exists.mp (F1.there (k * 5 + 2) (by omega));obtain ⟨v3,u3⟩:=Option.isSome_iff_exists.mp (F1.there (k * 5 + 3) (by omega));obtain ⟨v4,u4⟩:=Option.isSome_iff_exists.mp (F1.there (k * 5 + 4) (by omega));have hpl:(jR qs).length=k * 5:=by rw [pR,HQ.out.1]
  have F2:=((((F1.put (.int .i64 q.e.kind) (o:=k * 5) hpl.symm (by omega)).put (.slice q.adA q.e.allow.length q.capA) (o:=k * 5 + 1) (by simp [hpl]) (by omega)).put (.string q.e.over) (o:=k * 5 + 2) (by simp [hpl]) (by omega)).put (.string q.e.name) (o:=k * 5 + 3) (by simp [hpl]) (by omega)).put (.slice q.adK q.e.kids.length q.capK) (o:=k * 5 + 4) (by simp [hpl]) (by omega);have e5:((((jR qs ++ [.int .i64 q.e.kind]) ++ [.slice q.adA q.e.allow.length q.capA]) ++ [.string q.e.over]) ++ [.string q.e.name]) ++ [.slice q.adK q.e.kids.length q.capK]=jR (qs ++ [q]):=by simp [jR,ER.row]
  rw [e5] at F2;obtain ⟨wn,hwn⟩:∃ wn,wn=((((w1.setCell ⟨w.heap.size,k * 5,none⟩ (.int .i64 q.e.kind)).setCell ⟨w.heap.size,k * 5 + 1,none⟩ (.slice q.adA q.e.allow.length q.capA)).setCell ⟨w.heap.size,k * 5 + 2,none⟩ (.string q.e.over)).setCell ⟨w.heap.size,k * 5 + 3,none⟩ (.string q.e.name)).setCell ⟨w.heap.size,k * 5 + 4,none⟩ (.slice q.adK q.e.kids.length q.capK):=⟨_,rfl⟩;have hcw:Chg (fun g=>g=w.heap.size) w1 wn:=by rw [hwn]; exact ((((Chg.set (S:=fun g=>g=w.heap.size) _ rfl).trans (Chg.set _ rfl)).trans (Chg.set _ rfl)).trans (Chg.set _ rfl)).trans (Chg.set _ rfl)
  have Tj:Hid (uQ w.heap.size wn (qs ++ [q])):=HO.out.snoc ((Chg.of hb1).trans hcw) F.lt hqA hqK hgA hgl (Sg hgz hcw.size) (hcw.free _ (by omega) hfA) (hcw.free _ hgz hfK);clear hcw hfA hfK;have hnew:q.new w.heap.size:=⟨gA,gK,hqA,hqK,by have:=F.lt; omega,by have:=F.lt; omega,hqc⟩;have WF:Hid ((qs ++ [q]).length=k + 1∧ai (qs ++ [q])=(ai rs).take (k + 1)∧∀ p ∈ qs ++ [q],p.ok wn∧p.new w.heap.size):=by
   obtain ⟨h1,h2,h3⟩:=HQ.out;refine ⟨by simp [h1],?_,?_⟩
   ·rw [Sk (by rw [aS]; exact hlt),← h2];simp [ai,hqe]
   intro p hp;rw [Sz,SF] at hp;have st:∀ p:ER,p.ok w1→p.new w.heap.size→p.ok wn:=fun p h n=>by rw [hwn]; exact ((((h.set n).set n).set n).set n).set n
   rcases hp with hp | rfl
   ·exact ⟨st p ((h3 p hp).1.below hb1) (h3 p hp).2,(h3 p hp).2⟩
   exact ⟨st p Ue hnew,hnew⟩
  rw [← hwn] at F2;have HF:=ay F2;clear F F0 F1 F2 t0 t1 t2 t3 t4 hb1 hpl e5 ok lg HQ hqe hqA hqK Ue hqc hnew;simp only [ER.val];go_wp2;rw [← hwn];go_roundw;case rel=>exact ⟨k + 1,qs ++ [q],by omega,by go_num,WF,Tj,HF.out⟩
  simp [intOf]; omega
 obtain rfl:k=rs.length:=by omega
 obtain ⟨h1,h2,h3⟩:=HQ.out;have XY:Hid (qs.length=rs.length):=h1;have Xm:Hid (ai qs=ai rs):=by rw [← aS rs,Su] at h2; exact h2
 have UN:Hid (fQ wr (some ⟨w.heap.size,0,none⟩) qs):=by
  rw [← h1] at F;exact F.rows fun r hr=>(h3 r hr).1
 have HB3:Hid (aa w wr):=F.below;have HFH:Hid (dD wr w.heap.size):=F.free;have Xg:Hid (w.heap.size < wr.heap.size):=F.lt;have XZ:Hid (∀ r ∈ qs,r.new w.heap.size):=fun r hr=>(h3 r hr).2;have Uy:Hid (∀ r ∈ qs,r.capA=r.e.allow.length):=fun r hr=>(h3 r hr).2.choose_spec.choose_spec.2.2.2.2;clear h1 h2 h3 F F0 HQ;go_wp2;go_ret;exact ⟨qs,by rw [XY.out]; rfl,Xm.out,UN.out,Uy.out,XZ.out,HO.out,HFH.out,Xg.out,HB3.out⟩
theorem Dh (r:RR) (w:af) (hr:r.ok w) (hl:r.light) :
  Calls prog 86 #[r.val] w fun e w'=>∃ r':RR,e=.returned r'.val∧r'.p=r.p∧r'.new w.heap.size∧r'.ok w'∧r'.caps∧BM w.heap.size w' r'∧aa w w':=by
 obtain ⟨name,rows,ad,cap⟩:=r;obtain ⟨l1,l2⟩:=hl;have HO:=ay hr;have HL:=ay l2;simp only at l1;simp only [RR.val];clear hr l2;go_enter func86,ntmps86;go_wp2_with fail;obtain ⟨W1,hW1⟩:∃ W1,W1=((w.alloc (.cells #[.string name,.slice ad rows.length cap] 133)).alloc (.cells #[.string ⟨#[]⟩,.slice none 0 0] 122)).alloc (.cells #[.string name,.slice none 0 0] 122):=⟨_,rfl⟩;rw [← hW1];have hz1:w.heap.size + 3≤W1.heap.size:=by rw [hW1]; simp only [World.size_alloc]; omega
 have hb0:aa w W1:=by rw [hW1]; exact (((Si w.heap.size w).alloc (Sj _) _).alloc (by simp) _).alloc (by simp; omega) _
 have bC:Below ((w.alloc (.cells #[.string name,.slice ad rows.length cap] 133)).alloc (.cells #[.string ⟨#[]⟩,.slice none 0 0] 122)).heap.size ((w.alloc (.cells #[.string name,.slice ad rows.length cap] 133)).alloc (.cells #[.string ⟨#[]⟩,.slice none 0 0] 122)) W1:=by rw [hW1]; exact (Si _ _).alloc (Sj _) _
 have f1:∀ i,W1.frozen? ⟨w.heap.size + 1,i,none⟩=false:=fun i=>dV bC (by simp) (nA _ _ _ _);have f2:∀ i,W1.frozen? ⟨w.heap.size + 1 + 1,i,none⟩=false:=fun i=>by rw [hW1]; exact pQ _ _ _ _ _
 have z0:W1.cell? ⟨w.heap.size + 1,0,none⟩=some (.string ⟨#[]⟩):=kept bC (by simp) (dM _ _ _ _ _ rfl);have z1:W1.cell? ⟨w.heap.size + 1,1,none⟩=some (.slice none 0 0):=kept bC (by simp) (dM _ _ _ _ _ rfl);have o0:W1.cell? ⟨w.heap.size + 1 + 1,0,none⟩=some (.string name):=by rw [hW1]; exact fw _ _ _ _ _ _ rfl
 have o1:W1.cell? ⟨w.heap.size + 1 + 1,1,none⟩=some (.slice none 0 0):=by rw [hW1]; exact fw _ _ _ _ _ _ rfl
 clear hW1 bC;refine (KG ad cap rows W1 l1 (fQ.below HO.out hb0) HL.out).mono ?_;rintro e w1 ⟨qs,rfl,hqe,YR,hqc,UL,hqo,hqf,XU,hb1⟩;replace z0:=kept hb1 (by omega) z0;replace z1:=kept hb1 (by omega) z1;replace o0:=kept hb1 (by omega) o0;replace o1:=kept hb1 (by omega) o1;have k1:∀ i,w1.frozen? ⟨w.heap.size + 1,i,none⟩=false:=fun i=>dV hb1 (by omega) (f1 i);have k2:∀ i,w1.frozen? ⟨w.heap.size + 1 + 1,i,none⟩=false:=fun i=>dV hb1 (by omega) (f2 i);have HB1:Hid (aa w w1):=hb0.trans (hb1.mono (by omega));have HOW:Hid (BM w.heap.size w1 (⟨name,qs,some ⟨W1.heap.size,0,none⟩,qs.length⟩:RR)):=by
  refine ⟨fun _=>⟨W1.heap.size,rfl,hqo.1⟩,fun g hg=>?_⟩;rcases hg with ⟨-,e⟩ | ⟨q,hq,hg⟩
  ·injection e with e; injection e with e1 e2;subst e1;exact ⟨by omega,XU,hqf⟩
  obtain ⟨a1,a2,a3⟩:=hqo.2 q hq g hg;exact ⟨by omega,a2,a3⟩
 clear hqo hqf XU;have hs1:w.heap.size + 3≤w1.heap.size:=by have:=hb1.size; omega
 have hnew:∀ B,B≤W1.heap.size→(⟨name,qs,some ⟨W1.heap.size,0,none⟩,qs.length⟩:RR).new w.heap.size∧(B < W1.heap.size→(⟨name,qs,some ⟨W1.heap.size,0,none⟩,qs.length⟩:RR).new B):=fun B hB =>
  ⟨⟨⟨_,rfl,by omega⟩,fun q hq=>(UL q hq).mono (by omega)⟩,fun hlt=>⟨⟨_,rfl,hlt⟩,fun q hq=>(UL q hq).mono (by omega)⟩⟩
 have Vd:Hid ((⟨name,qs,some ⟨W1.heap.size,0,none⟩,qs.length⟩:RR).new w.heap.size):=(hnew 0 (Sm _)).1;have WC:Hid ((⟨name,qs,some ⟨W1.heap.size,0,none⟩,qs.length⟩:RR).new (w.heap.size + 1)):=(hnew _ (by omega)).2 (by omega);have UZ:Hid ((⟨name,qs,some ⟨W1.heap.size,0,none⟩,qs.length⟩:RR).new (w.heap.size + 1 + 1)):=(hnew _ (by omega)).2 (by omega);have HK:Hid ((⟨name,qs,some ⟨W1.heap.size,0,none⟩,qs.length⟩:RR).ok w1):=YR;have HC:Hid ((⟨name,qs,some ⟨W1.heap.size,0,none⟩,qs.length⟩:RR).caps):=⟨Sj _,fun q hq=>Nat.le_of_eq (hqc q hq).symm⟩;have HE:Hid ((⟨name,qs,some ⟨W1.heap.size,0,none⟩,qs.length⟩:RR).p=⟨name,ai rows⟩):=by show _=_; simp only [RR.p,hqe]
 clear hqe YR hqc UL hb1 hb0 f1 f2 hnew;go_wp2;refine bodyPost_ret (v:=.agg #[.string name,.slice (some ⟨W1.heap.size,0,none⟩) qs.length qs.length]) (by simp [results,Tryz.results86,go_sem, *]) rfl ⟨⟨name,qs,some ⟨W1.heap.size,0,none⟩,qs.length⟩,rfl,HE.out,Vd.out,?_,HC.out,?_,?_⟩
 ·exact ((HK.out.set UZ.out).set WC.out).set WC.out
 ·exact ((HOW.out.chg (Chg.set (S:=fun _=>True) _ trivial)).chg (Chg.set (S:=fun _=>True) _ trivial)).chg (Chg.set (S:=fun _=>True) _ trivial)
 exact ((HB1.out.setCell (p:=⟨w.heap.size + 1 + 1,1,none⟩) (by simp; omega) _).setCell (p:=⟨w.heap.size + 1,0,none⟩) (by simp) _).setCell (p:=⟨w.heap.size + 1,1,none⟩) (by simp) _
theorem Ak (ad:Option Addr) (cap:Nat) (rs:List RR) (w:af) (hlen:rs.length≤1048576) (hs:vv w ad rs) (hl:∀ r ∈ rs,r.light) :
  Calls prog 55 #[.slice ad rs.length cap] w fun e w'=>∃ rs':List RR,e=.returned (.slice (some ⟨w.heap.size,0,none⟩) rs'.length rs'.length)∧bZ rs'=bZ rs∧vv w' (some ⟨w.heap.size,0,none⟩) rs'∧(∀ r ∈ rs',r.caps)∧(∀ r ∈ rs',r.new w.heap.size)∧wK w.heap.size w' rs'∧dD w' w.heap.size∧w.heap.size < w'.heap.size∧aa w w':=by
 obtain ⟨inf,z,hi,hz0,hz1,hz2⟩:=lH (t:=122) (n:=2) (b:=40) (by kernel_rfl);have Uj:=ay hs;have UC:=ay hl;clear hs hl;go_enter func55,ntmps55;go_wp2_with (at_make; refine wpList_make_full _ rfl _ _ 76 rfl w.heap.size 122 inf z 2 underlying76 hi hz0 hz1 .i64 .i64 _ _ rs.length rfl rfl rfl rfl (by rw [hz2]; omega) (by unfold maxLen; omega) (Sj _) ?_; intro w0 hown0 Tg);have F0:Fil w w0 w.heap.size (rs.length * 2) []:=gX hown0 Tg;clear hown0 Tg hi hz0 hz1 hz2;go_loopw [4] (fun i wr=>∃ (k:Nat) (qs:List RR),k≤rs.length∧i=.int .i64 k∧Hid (qs.length=k∧bZ qs=(bZ rs).take k∧(∀ q ∈ qs,q.ok wr∧q.new w.heap.size∧q.caps))∧Hid (wK w.heap.size wr qs)∧Fil w wr w.heap.size (rs.length * 2) (rowRR qs)) (fun i _=>rs.length - (intOf i).toNat);case atStart=>exact ⟨0,[],Sm _,rfl,⟨rfl,by simp [bZ],(fun q hq=>by cases hq)⟩,wK.nil _ _,F0⟩
 obtain ⟨k,qs,hk,rfl,HQ,HO,F⟩:=hrel;by_cases hlt:k < rs.length
 ·rcases Uj.out.below F.below with rfl | ⟨b,off,rfl,hb,hr,hok⟩
  ·simp at hlt
  obtain ⟨t0,t1⟩:=hr k hlt;have ok:=hok rs[k] (Sd hlt);have lg:=UC.out rs[k] (Sd hlt);clear hr hok;go_wp2_with fail;refine (Dh rs[k] _ ok lg).mono ?_;rintro e w1 ⟨q,rfl,hqe,UL,Ue,hqc,hqo,hb1⟩;have F1:=F.later hb1;have fz:=F1.free;obtain ⟨v0,u0⟩:=Option.isSome_iff_exists.mp (F1.there (k * 2) (by omega));obtain ⟨v1,u1⟩:=Option.isSome_iff_exists.mp (F1.there (k * 2 + 1) (by omega));have hpl:(rowRR qs).length=k * 2:=by rw [qd,HQ.out.1]
  have F2:=(F1.put (.string q.name) (o:=k * 2) hpl.symm (by omega)).put (.slice q.ad q.rows.length q.cap) (o:=k * 2 + 1) (by simp [hpl]) (by omega);have e5:(rowRR qs ++ [.string q.name]) ++ [.slice q.ad q.rows.length q.cap]=rowRR (qs ++ [q]):=by simp [rowRR,RR.row]
  rw [e5] at F2;obtain ⟨wn,hwn⟩:∃ wn,wn=(w1.setCell ⟨w.heap.size,k * 2,none⟩ (.string q.name)).setCell ⟨w.heap.size,k * 2 + 1,none⟩ (.slice q.ad q.rows.length q.cap):=⟨_,rfl⟩;have hcw:Chg (fun g=>g=w.heap.size) w1 wn:=by rw [hwn]; exact (Chg.set (S:=fun g=>g=w.heap.size) _ rfl).trans (Chg.set _ rfl)
  have Tj:Hid (wK w.heap.size wn (qs ++ [q])):=HO.out.snoc ((Chg.of hb1).trans hcw) F.lt (hqo.chg hcw);clear hcw hqo;have hnew:q.new w.heap.size:=UL.mono (Tf F.lt);have WF:Hid ((qs ++ [q]).length=k + 1∧bZ (qs ++ [q])=(bZ rs).take (k + 1)∧∀ p ∈ qs ++ [q],p.ok wn∧p.new w.heap.size∧p.caps):=by
   obtain ⟨h1,h2,h3⟩:=HQ.out;refine ⟨by simp [h1],?_,?_⟩
   ·rw [Sk (by rw [fB]; exact hlt),← h2];simp [bZ,hqe]
   intro p hp;rw [Sz,SF] at hp;have st:∀ p:RR,p.ok w1→p.new w.heap.size→p.ok wn:=fun p h n=>by rw [hwn]; exact (h.set n).set n
   rcases hp with hp | rfl
   ·exact ⟨st p ((h3 p hp).1.below hb1) (h3 p hp).2.1,(h3 p hp).2⟩
   exact ⟨st p Ue hnew,hnew,hqc⟩
  rw [← hwn] at F2;have HF:=ay F2;clear F F0 F1 F2 t0 t1 hb1 hpl e5 ok lg HQ hqe UL Ue hqc hnew;simp only [RR.val];go_wp2;rw [← hwn];go_roundw;case rel=>exact ⟨k + 1,qs ++ [q],by omega,by go_num,WF,Tj,HF.out⟩
  simp [intOf]; omega
 obtain rfl:k=rs.length:=by omega
 obtain ⟨h1,h2,h3⟩:=HQ.out;have XY:Hid (qs.length=rs.length):=h1;have Xm:Hid (bZ qs=bZ rs):=by rw [← fB rs,Su] at h2; exact h2
 have UN:Hid (vv wr (some ⟨w.heap.size,0,none⟩) qs):=by
  rw [← h1] at F;exact F.rowRR fun r hr=>(h3 r hr).1
 have HB3:Hid (aa w wr):=F.below;have HFH:Hid (dD wr w.heap.size):=F.free;have Xg:Hid (w.heap.size < wr.heap.size):=F.lt;have XZ:Hid (∀ r ∈ qs,r.new w.heap.size):=fun r hr=>(h3 r hr).2.1;have Uy:Hid (∀ r ∈ qs,r.caps):=fun r hr=>(h3 r hr).2.2;clear h1 h2 h3 F F0 HQ;go_wp2;go_ret;exact ⟨qs,by rw [XY.out]; rfl,Xm.out,UN.out,Uy.out,XZ.out,HO.out,HFH.out,Xg.out,HB3.out⟩
theorem Nu (r:TR) (w:af) (hr:r.ok w) (hl:r.light) :
  Calls prog 32 #[r.val] w fun e w'=>∃ r':TR,e=.returned r'.val∧r'.p=r.p∧r'.new w.heap.size∧r'.ok w'∧r'.caps∧BN w.heap.size w' r'∧aa w w':=by
 obtain ⟨name,rows,ad,cap⟩:=r;obtain ⟨l1,l2⟩:=hl;have HO:=ay hr;have HL:=ay l2;simp only at l1;simp only [TR.val];clear hr l2;go_enter func32,ntmps32;go_wp2_with fail;obtain ⟨W1,hW1⟩:∃ W1,W1=((w.alloc (.cells #[.string name,.slice ad rows.length cap] 70)).alloc (.cells #[.string ⟨#[]⟩,.slice none 0 0] 78)).alloc (.cells #[.string name,.slice none 0 0] 78):=⟨_,rfl⟩;rw [← hW1];have hz1:w.heap.size + 3≤W1.heap.size:=by rw [hW1]; simp only [World.size_alloc]; omega
 have hb0:aa w W1:=by rw [hW1]; exact (((Si w.heap.size w).alloc (Sj _) _).alloc (by simp) _).alloc (by simp; omega) _
 have bC:Below ((w.alloc (.cells #[.string name,.slice ad rows.length cap] 70)).alloc (.cells #[.string ⟨#[]⟩,.slice none 0 0] 78)).heap.size ((w.alloc (.cells #[.string name,.slice ad rows.length cap] 70)).alloc (.cells #[.string ⟨#[]⟩,.slice none 0 0] 78)) W1:=by rw [hW1]; exact (Si _ _).alloc (Sj _) _
 have f1:∀ i,W1.frozen? ⟨w.heap.size + 1,i,none⟩=false:=fun i=>dV bC (by simp) (nA _ _ _ _);have f2:∀ i,W1.frozen? ⟨w.heap.size + 1 + 1,i,none⟩=false:=fun i=>by rw [hW1]; exact pQ _ _ _ _ _
 have z0:W1.cell? ⟨w.heap.size + 1,0,none⟩=some (.string ⟨#[]⟩):=kept bC (by simp) (dM _ _ _ _ _ rfl);have z1:W1.cell? ⟨w.heap.size + 1,1,none⟩=some (.slice none 0 0):=kept bC (by simp) (dM _ _ _ _ _ rfl);have o0:W1.cell? ⟨w.heap.size + 1 + 1,0,none⟩=some (.string name):=by rw [hW1]; exact fw _ _ _ _ _ _ rfl
 have o1:W1.cell? ⟨w.heap.size + 1 + 1,1,none⟩=some (.slice none 0 0):=by rw [hW1]; exact fw _ _ _ _ _ _ rfl
 clear hW1 bC;refine (Ak ad cap rows W1 l1 (vv.below HO.out hb0) HL.out).mono ?_;rintro e w1 ⟨qs,rfl,hqe,YR,hqc,UL,hqo,hqf,XU,hb1⟩;replace z0:=kept hb1 (by omega) z0;replace z1:=kept hb1 (by omega) z1;replace o0:=kept hb1 (by omega) o0;replace o1:=kept hb1 (by omega) o1;have k1:∀ i,w1.frozen? ⟨w.heap.size + 1,i,none⟩=false:=fun i=>dV hb1 (by omega) (f1 i);have k2:∀ i,w1.frozen? ⟨w.heap.size + 1 + 1,i,none⟩=false:=fun i=>dV hb1 (by omega) (f2 i);have HB1:Hid (aa w w1):=hb0.trans (hb1.mono (by omega));have HOW:Hid (BN w.heap.size w1 (⟨name,qs,some ⟨W1.heap.size,0,none⟩,qs.length⟩:TR)):=by
  refine ⟨fun _=>⟨W1.heap.size,rfl,hqo.1⟩,fun g hg=>?_⟩;rcases hg with ⟨-,e⟩ | ⟨q,hq,hg⟩
  ·injection e with e; injection e with e1 e2;subst e1;exact ⟨by omega,XU,hqf⟩
  obtain ⟨a1,a2,a3⟩:=hqo.2 q hq g hg;exact ⟨by omega,a2,a3⟩
 clear hqo hqf XU;have hs1:w.heap.size + 3≤w1.heap.size:=by have:=hb1.size; omega
 have hnew:∀ B,B≤W1.heap.size→(⟨name,qs,some ⟨W1.heap.size,0,none⟩,qs.length⟩:TR).new w.heap.size∧(B < W1.heap.size→(⟨name,qs,some ⟨W1.heap.size,0,none⟩,qs.length⟩:TR).new B):=fun B hB =>
  ⟨⟨⟨_,rfl,by omega⟩,fun q hq=>(UL q hq).mono (by omega)⟩,fun hlt=>⟨⟨_,rfl,hlt⟩,fun q hq=>(UL q hq).mono (by omega)⟩⟩
 have Vd:Hid ((⟨name,qs,some ⟨W1.heap.size,0,none⟩,qs.length⟩:TR).new w.heap.size):=(hnew 0 (Sm _)).1;have WC:Hid ((⟨name,qs,some ⟨W1.heap.size,0,none⟩,qs.length⟩:TR).new (w.heap.size + 1)):=(hnew _ (by omega)).2 (by omega);have UZ:Hid ((⟨name,qs,some ⟨W1.heap.size,0,none⟩,qs.length⟩:TR).new (w.heap.size + 1 + 1)):=(hnew _ (by omega)).2 (by omega);have HK:Hid ((⟨name,qs,some ⟨W1.heap.size,0,none⟩,qs.length⟩:TR).ok w1):=YR;have HC:Hid ((⟨name,qs,some ⟨W1.heap.size,0,none⟩,qs.length⟩:TR).caps):=⟨Sj _,hqc⟩;have HE:Hid ((⟨name,qs,some ⟨W1.heap.size,0,none⟩,qs.length⟩:TR).p=⟨name,bZ rows⟩):=by show _=_; simp only [TR.p,hqe]
 clear hqe YR hqc UL hb1 hb0 f1 f2 hnew;go_wp2;refine bodyPost_ret (v:=.agg #[.string name,.slice (some ⟨W1.heap.size,0,none⟩) qs.length qs.length]) (by simp [results,Tryz.results32,go_sem, *]) rfl ⟨⟨name,qs,some ⟨W1.heap.size,0,none⟩,qs.length⟩,rfl,HE.out,Vd.out,?_,HC.out,?_,?_⟩
 ·exact ((HK.out.set UZ.out).set WC.out).set WC.out
 ·exact ((HOW.out.chg (Chg.set (S:=fun _=>True) _ trivial)).chg (Chg.set (S:=fun _=>True) _ trivial)).chg (Chg.set (S:=fun _=>True) _ trivial)
 exact ((HB1.out.setCell (p:=⟨w.heap.size + 1 + 1,1,none⟩) (by simp; omega) _).setCell (p:=⟨w.heap.size + 1,0,none⟩) (by simp) _).setCell (p:=⟨w.heap.size + 1,1,none⟩) (by simp) _
theorem BO (ad:Option Addr) (cap:Nat) (rs:List TR) (w:af) (hlen:rs.length≤1048576) (hs:iN w ad rs) (hl:∀ r ∈ rs,r.light) :
  Calls prog 9 #[.slice ad rs.length cap] w fun e w'=>∃ rs':List TR,e=.returned (.slice (some ⟨w.heap.size,0,none⟩) rs'.length rs'.length)∧ag rs'=ag rs∧iN w' (some ⟨w.heap.size,0,none⟩) rs'∧(∀ r ∈ rs',r.caps)∧(∀ r ∈ rs',r.new w.heap.size)∧uR w.heap.size w' rs'∧dD w' w.heap.size∧w.heap.size < w'.heap.size∧aa w w':=by
 obtain ⟨inf,z,hi,hz0,hz1,hz2⟩:=lH (t:=78) (n:=2) (b:=40) (by kernel_rfl);have Uj:=ay hs;have UC:=ay hl;clear hs hl;go_enter func9,ntmps9;go_wp2_with (at_make; refine wpList_make_full _ rfl _ _ 36 rfl w.heap.size 78 inf z 2 underlying36 hi hz0 hz1 .i64 .i64 _ _ rs.length rfl rfl rfl rfl (by rw [hz2]; omega) (by unfold maxLen; omega) (Sj _) ?_; intro w0 hown0 Tg);have F0:Fil w w0 w.heap.size (rs.length * 2) []:=gX hown0 Tg;clear hown0 Tg hi hz0 hz1 hz2;go_loopw [4] (fun i wr=>∃ (k:Nat) (qs:List TR),k≤rs.length∧i=.int .i64 k∧Hid (qs.length=k∧ag qs=(ag rs).take k∧(∀ q ∈ qs,q.ok wr∧q.new w.heap.size∧q.caps))∧Hid (uR w.heap.size wr qs)∧Fil w wr w.heap.size (rs.length * 2) (rowTR qs)) (fun i _=>rs.length - (intOf i).toNat);case atStart=>exact ⟨0,[],Sm _,rfl,⟨rfl,by simp [ag],(fun q hq=>by cases hq)⟩,uR.nil _ _,F0⟩
 obtain ⟨k,qs,hk,rfl,HQ,HO,F⟩:=hrel;by_cases hlt:k < rs.length
 ·rcases Uj.out.below F.below with rfl | ⟨b,off,rfl,hb,hr,hok⟩
  ·simp at hlt
  obtain ⟨t0,t1⟩:=hr k hlt;have ok:=hok rs[k] (Sd hlt);have lg:=UC.out rs[k] (Sd hlt);clear hr hok;go_wp2_with fail;refine (Nu rs[k] _ ok lg).mono ?_;rintro e w1 ⟨q,rfl,hqe,UL,Ue,hqc,hqo,hb1⟩;have F1:=F.later hb1;have fz:=F1.free;obtain ⟨v0,u0⟩:=Option.isSome_iff_exists.mp (F1.there (k * 2) (by omega));obtain ⟨v1,u1⟩:=Option.isSome_iff_exists.mp (F1.there (k * 2 + 1) (by omega));have hpl:(rowTR qs).length=k * 2:=by rw [qg,HQ.out.1]
  have F2:=(F1.put (.string q.name) (o:=k * 2) hpl.symm (by omega)).put (.slice q.ad q.rows.length q.cap) (o:=k * 2 + 1) (by simp [hpl]) (by omega);have e5:(rowTR qs ++ [.string q.name]) ++ [.slice q.ad q.rows.length q.cap]=rowTR (qs ++ [q]):=by simp [rowTR,TR.row]
  rw [e5] at F2;obtain ⟨wn,hwn⟩:∃ wn,wn=(w1.setCell ⟨w.heap.size,k * 2,none⟩ (.string q.name)).setCell ⟨w.heap.size,k * 2 + 1,none⟩ (.slice q.ad q.rows.length q.cap):=⟨_,rfl⟩;have hcw:Chg (fun g=>g=w.heap.size) w1 wn:=by rw [hwn]; exact (Chg.set (S:=fun g=>g=w.heap.size) _ rfl).trans (Chg.set _ rfl)
  have Tj:Hid (uR w.heap.size wn (qs ++ [q])):=HO.out.snoc ((Chg.of hb1).trans hcw) F.lt (hqo.chg hcw);clear hcw hqo;have hnew:q.new w.heap.size:=UL.mono (Tf F.lt);have WF:Hid ((qs ++ [q]).length=k + 1∧ag (qs ++ [q])=(ag rs).take (k + 1)∧∀ p ∈ qs ++ [q],p.ok wn∧p.new w.heap.size∧p.caps):=by
   obtain ⟨h1,h2,h3⟩:=HQ.out;refine ⟨by simp [h1],?_,?_⟩
   ·rw [Sk (by rw [eH]; exact hlt),← h2];simp [ag,hqe]
   intro p hp;rw [Sz,SF] at hp;have st:∀ p:TR,p.ok w1→p.new w.heap.size→p.ok wn:=fun p h n=>by rw [hwn]; exact (h.set n).set n
   rcases hp with hp | rfl
   ·exact ⟨st p ((h3 p hp).1.below hb1) (h3 p hp).2.1,(h3 p hp).2⟩
   exact ⟨st p Ue hnew,hnew,hqc⟩
  rw [← hwn] at F2;have HF:=ay F2;clear F F0 F1 F2 t0 t1 hb1 hpl e5 ok lg HQ hqe UL Ue hqc hnew;simp only [TR.val];go_wp2;rw [← hwn];go_roundw;case rel=>exact ⟨k + 1,qs ++ [q],by omega,by go_num,WF,Tj,HF.out⟩
  simp [intOf]; omega
 obtain rfl:k=rs.length:=by omega
 obtain ⟨h1,h2,h3⟩:=HQ.out;have XY:Hid (qs.length=rs.length):=h1;have Xm:Hid (ag qs=ag rs):=by rw [← eH rs,Su] at h2; exact h2
 have UN:Hid (iN wr (some ⟨w.heap.size,0,none⟩) qs):=by
  rw [← h1] at F;exact F.rowTR fun r hr=>(h3 r hr).1
 have HB3:Hid (aa w wr):=F.below;have HFH:Hid (dD wr w.heap.size):=F.free;have Xg:Hid (w.heap.size < wr.heap.size):=F.lt;have XZ:Hid (∀ r ∈ qs,r.new w.heap.size):=fun r hr=>(h3 r hr).2.1;have Uy:Hid (∀ r ∈ qs,r.caps):=fun r hr=>(h3 r hr).2.2;clear h1 h2 h3 F F0 HQ;go_wp2;go_ret;exact ⟨qs,by rw [XY.out]; rfl,Xm.out,UN.out,Uy.out,XZ.out,HO.out,HFH.out,Xg.out,HB3.out⟩
end Go.Proofs.YtdmniljjnaebbaaGreatDoor
