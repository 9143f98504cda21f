/- Contracts of the law's helpers that mark relations and types: they change the blocks of these alone. -/
import Derived.Test.YtogjfppkbkgaeaaGreatJ34
import Derived.Test.YtogjfppkbkgaeaaGreatJ2
namespace Go.Proofs.YtogjfppkbkgaeaaGreat
open Go.ChangeShapes Go.WideShapes Go.ChangeAt Go.RowKit
open Pl
def jg (w:World) (P:Nat→Prop):Prop:=∀ g,P g→g < w.heap.size∧cB w g
theorem jg.chg {S P:Nat→Prop} {w w':World} (h:jg w P) (hc:Chg S w w'):jg w' P:=fun g hg=>⟨Nat.lt_of_lt_of_le (h g hg).1 hc.size,hc.free g (h g hg).1 (h g hg).2⟩
theorem jg.mono {P Q:Nat→Prop} {w:World} (h:jg w P) (hq:∀ g,Q g→P g):jg w Q:=fun g hg=>h g (hq g hg)
theorem yn (x:Int) (ad:Option Addr) (cap:Nat) (w:World) :
  Calls Tryz.prog 74 #[.slice ad 0 cap,.int .i64 x] w fun e w'=>e=.returned (.int .i64 x)∧w'=w:=by
 go_enter Tryz.func74,Tryz.ntmps74;go_wp2;go_loopw [1,5] (fun kv i wr=>kv=.int .i64 x∧i=.int .i64 0∧wr=w) (fun _ _ _=>0);case atStart=>exact ⟨rfl,rfl,rfl⟩
 case round =>
  obtain ⟨rfl,rfl,rfl⟩:=hrel;go_wp2;go_ret;exact ⟨rfl,rfl⟩
theorem qL (x:Int) (ad:Option Addr) (cap:Nat) (w:World) :
  Calls Tryz.prog 48 #[.slice ad 0 cap,.int .i64 x] w fun e w'=>e=.returned (.int .i64 x)∧w'=w:=by
 go_enter Tryz.func48,Tryz.ntmps48;go_wp2;go_loopw [1,5] (fun kv i wr=>kv=.int .i64 x∧i=.int .i64 0∧wr=w) (fun _ _ _=>0);case atStart=>exact ⟨rfl,rfl,rfl⟩
 case round =>
  obtain ⟨rfl,rfl,rfl⟩:=hrel;go_wp2;go_ret;exact ⟨rfl,rfl⟩
theorem yo (x:Int) (ad:Option Addr) (cap:Nat) (w:World) :
  Calls Tryz.prog 16 #[.slice ad 0 cap,.int .i64 x] w fun e w'=>e=.returned (.int .i64 x)∧w'=w:=by
 go_enter Tryz.func16,Tryz.ntmps16;go_wp2;go_loopw [1,5] (fun kv i wr=>kv=.int .i64 x∧i=.int .i64 0∧wr=w) (fun _ _ _=>0);case atStart=>exact ⟨rfl,rfl,rfl⟩
 case round =>
  obtain ⟨rfl,rfl,rfl⟩:=hrel;go_wp2;go_ret;exact ⟨rfl,rfl⟩
def sH (r:RR) (g:Nat):Prop:=(r.rows ≠ []∧r.ad=some ⟨g,0,none⟩) ∨ ∃ q ∈ r.rows,Br q g
def Dj (r:RR):Prop:=r.rows ≠ []→∃ b,r.ad=some ⟨b,0,none⟩∧SepE b r.rows
structure SepR (b:Nat) (rs:List RR):Prop where
 good:∀ r ∈ rs,Dj r
 head:∀ r ∈ rs,¬ sH r b
 two:∀ (x y:Nat) (hx:x < rs.length) (hy:y < rs.length),x ≠ y→∀ g,sH rs[x] g→¬ sH rs[y] g
def Ii (b:Nat) (rs:List RR) (g:Nat):Prop:=g=b ∨ ∃ r ∈ rs,sH r g
def wR:List RR→Nat
 | []=>0
 | r::rs=>(1 + wE r.rows) + wR rs
theorem sI:∀ xs ys:List RR,wR (xs ++ ys)=wR xs + wR ys
 | [],ys=>by simp [wR]
 | x::xs,ys=>by rw [List.cons_append]; simp only [wR]; rw [sI xs ys]; omega
theorem F9 (rs:List RR) (j:Nat) (h:j < rs.length):wR (rs.take (j + 1))=wR (rs.take j) + (1 + wE rs[j].rows):=by
 rw [List.take_succ_eq_append_getElem h,sI]; simp [wR]
theorem Nh (rs:List RR) (j:Nat):wR (rs.take j)≤wR rs:=by
 have:=sI (rs.take j) (rs.drop j);rw [List.take_append_drop] at this;omega
theorem RR.ok.chg {S:Nat→Prop} {w w':World} {r:RR} (h:r.ok w) (hc:Chg S w w') (hg:Dj r) (hn:∀ g,sH r g→¬ S g):r.ok w':=by
 by_cases hz:r.rows=[]
 ·exact .inl hz
 obtain ⟨b,e,hsep⟩:=hg hz;rcases h with h | ⟨b',off,e',hb,hr,hk⟩
 ·exact .inl h
 ·rw [e] at e'; injection e' with e'; injection e' with e1 e2;subst e1; subst e2;refine .inr ⟨b,0,e,Nat.lt_of_lt_of_le hb hc.size,fun i hi=>(hr i hi).same fun o=>hc.cell hb (hn b (.inl ⟨hz,e⟩)),fun q hq=>?_⟩;refine (hk q hq).chg hc (fun g o hne e2=>?_) (fun g o hne e2=>?_)
  ·obtain ⟨g0,e0⟩:=hsep.zeroA q hq hne;rw [e0] at e2; injection e2 with e2; injection e2 with e3 e4;subst e3;exact hn g0 (.inr ⟨q,hq,.inl ⟨hne,e0⟩⟩)
  ·obtain ⟨g0,e0⟩:=hsep.zeroK q hq hne;rw [e0] at e2; injection e2 with e2; injection e2 with e3 e4;subst e3;exact hn g0 (.inr ⟨q,hq,.inr ⟨hne,e0⟩⟩)
theorem Bd (x:Int) (r:RR) (k:Nat) (w:World) (hx:x=(k:Int)) (ho:r.ok w) (hg:Dj r) (hf:jg w (sH r)) (hl:r.light) (h0:0 < k) (h1:k + wE r.rows≤1000000000) :
  Calls Tryz.prog 74 #[.slice r.ad r.rows.length r.cap,.int .i64 x] w fun e w'=>e=.returned (.int .i64 ((k + wE r.rows:Nat):Int))∧Chg (sH r) w w':=by
 by_cases hz:r.rows=[]
 ·rw [hz];refine (yn x r.ad r.cap w).mono ?_;rintro e w' ⟨rfl,rfl⟩;exact ⟨by rw [hx]; rfl,Chg.refl _ _⟩
 obtain ⟨b,e,hsep⟩:=hg hz;rcases ho with h | ⟨b',off,e',hb,hr,hk⟩
 ·exact absurd h hz
 rw [e] at e'; injection e' with e'; injection e' with e1 e2;subst e1; subst e2;rw [e,hx];refine (ym b r.cap r.rows k w hb (fun x hx=>⟨by have:=hr x hx; rwa [Nat.zero_add] at this,hk _ (List.getElem_mem hx)⟩) hsep ⟨hf b (.inl ⟨hz,e⟩),fun q hq g hg=>hf g (.inr ⟨q,hq,hg⟩)⟩ hl.2 hl.1 h0 h1).mono ?_;rintro e2 w' ⟨rfl,-,hc⟩;exact ⟨rfl,hc.mono fun g hg=>by
  rcases hg with rfl | ⟨q,hq,h2⟩
  ·exact .inl ⟨hz,e⟩
  ·exact .inr ⟨q,hq,h2⟩⟩
set_option maxRecDepth 8000 in
set_option maxHeartbeats 4000000 in
theorem qM (b cap:Nat) (rs:List RR) (k:Nat) (w:World) (hb:b < w.heap.size) (hr:∀ (x:Nat) (hx:x < rs.length),AtR w b (x * 2) rs[x]∧rs[x].ok w) (hsep:SepR b rs) (hfree:jg w (Ii b rs)) (hl:∀ r ∈ rs,r.light) (hlen:rs.length≤1048576) (h0:0 < k) (h1:k + wR rs≤1000000000) :
  Calls Tryz.prog 48 #[.slice (some ⟨b,0,none⟩) rs.length cap,.int .i64 (k:Int)] w fun e w'=>e=.returned (.int .i64 ((k + wR rs:Nat):Int))∧Chg (Ii b rs) w w':=by
 have HSEP:Hid (SepR b rs):=hsep;have HFE:Hid (jg w (Ii b rs)):=hfree;have HL:Hid (∀ r ∈ rs,r.light):=hl;clear hsep hfree hl;go_enter Tryz.func48,Tryz.ntmps48;go_wp2;go_loopw [1,5] (fun kv i wr=>∃ j K:Nat,j≤rs.length∧Hid (K=k + wR (rs.take j))∧kv=.int .i64 (K:Int)∧i=.int .i64 (j:Int)∧Hid (∀ (x:Nat) (hx:x < rs.length),j≤x→AtR wr b (x * 2) rs[x]∧rs[x].ok wr)∧Hid (Chg (Ii b rs) w wr)) (fun _ i _=>rs.length - (intOf i).toNat);case atStart=>exact ⟨0,k,Nat.zero_le _,by show _=_; simp [wR],rfl,rfl,fun x hx _=>hr x hx,Chg.refl _ _⟩
 case round =>
  clear hr;obtain ⟨j,K,hj,HK,rfl,rfl,HC,HCH⟩:=hrel;by_cases hlt:j < rs.length
  ·obtain ⟨⟨c0,c1⟩,hok⟩:=HC.out j hlt (Nat.le_refl _);have HOK:Hid (rs[j].ok wr):=hok;have HLG:Hid (rs[j].light):=HL.out rs[j] (List.getElem_mem hlt);have hKb:0 < K∧K + (1 + wE rs[j].rows)≤1000000000:=by
    have h2:=Nh rs (j + 1);rw [F9 _ _ hlt] at h2;have:=HK.out;omega
   have hK0:=hKb.1;have hK1:=hKb.2;have hgl:b < wr.heap.size:=Nat.lt_of_lt_of_le hb HCH.out.size;have HFW:Hid (jg wr (Ii b rs)):=HFE.out.chg HCH.out;have hj1:(0:Int)≤(j:Int):=by omega
   have hj2:(j:Int) < (rs.length:Int):=by omega
   have HNB:Hid (¬ sH rs[j] b):=HSEP.out.head _ (List.getElem_mem hlt);have HGD:Hid (Dj rs[j]):=HSEP.out.good _ (List.getElem_mem hlt);clear hKb hok;go_wp2_with fail;refine (aQ _ K _ (by omega) (by omega) (by omega)).mono ?_;rintro e w1 ⟨rfl,hb1⟩;have HB1:Hid (Below wr.heap.size wr w1):=hb1;replace c0:=kept hb1 hgl c0;replace c1:=kept hb1 hgl c1;have fz:∀ y,w1.frozen? ⟨b,y,none⟩=false:=fun y=>gW hb1 hgl ((HFW.out b (.inl rfl)).2 y);obtain ⟨W2,hW2⟩:∃ W2,W2=w1.setCell ⟨b,j * 2,none⟩ (.string (bz K)):=⟨_,rfl⟩;have HC2:Hid (Chg (fun g=>g=b) wr W2):=(Chg.of hb1).trans (by rw [hW2]; exact Chg.set _ rfl);have HO2:Hid (∀ o,o ≠ j * 2→W2.cell? ⟨b,o,none⟩=wr.cell? ⟨b,o,none⟩):=fun o ho=>by rw [hW2,cO (Ne.symm ho)]; exact HB1.out.cell (p:=⟨b,o,none⟩) hgl
   have hgl2:b < W2.heap.size:=Nat.lt_of_lt_of_le hgl HC2.out.size;have HOK2:Hid (rs[j].ok W2):=HOK.out.chg HC2.out HGD.out fun g hg e=>HNB.out (by rw [← e]; exact hg);have HFI:Hid (jg W2 (sH rs[j])):=(HFW.out.chg HC2.out).mono fun g hg=>.inr ⟨_,List.getElem_mem hlt,hg⟩;clear hb1;go_wp2_with fail;rw [← hW2];clear hW2 fz c0 c1;refine (Bd _ rs[j] (K + 1) _ (by omega) HOK2.out HGD.out HFI.out HLG.out (by omega) (by omega)).mono ?_;rintro e w3 ⟨rfl,hc3⟩;have HC3:Hid (Chg (fun g=>g=b ∨ sH rs[j] g) wr w3):=(HC2.out.mono fun g hg=>.inl hg).trans (hc3.mono fun g hg=>.inr hg);have HO3:Hid (∀ o,w3.cell? ⟨b,o,none⟩=W2.cell? ⟨b,o,none⟩):=fun o=>hc3.cell hgl2 HNB.out;have HCN:Hid (∀ (x:Nat) (hx:x < rs.length),j + 1≤x→AtR w3 b (x * 2) rs[x]∧rs[x].ok w3):=by
    intro x hx hjx;obtain ⟨⟨p0,p1⟩,hok⟩:=HC.out x hx (by omega);refine ⟨⟨?_,?_⟩,hok.chg HC3.out (HSEP.out.good _ (List.getElem_mem hx)) ?_⟩
    ·rw [HO3.out,HO2.out _ (by omega)]; exact p0
    ·rw [HO3.out,HO2.out _ (by omega)]; exact p1
    ·rintro g hg (h | h)
     ·subst h; exact HSEP.out.head _ (List.getElem_mem hx) hg
     ·exact HSEP.out.two x j hx hlt (by omega) g hg h
   have HCHN:Hid (Chg (Ii b rs) w w3):=HCH.out.trans (HC3.out.mono fun g hg=>hg.elim .inl fun h=>.inr ⟨rs[j],List.getElem_mem hlt,h⟩);have HKN:Hid (K + 1 + wE rs[j].rows=k + wR (rs.take (j + 1))):=by
    show _=_;rw [F9 _ _ hlt,HK.out]; omega
   clear hc3;go_wp2;go_roundw;case rel=>exact ⟨j + 1,K + 1 + wE rs[j].rows,by omega,HKN,by go_num,by go_num,HCN,HCHN⟩
   case measure=>simp [intOf] <;> omega
  ·obtain rfl:j=rs.length:=by omega
   have HKE:Hid (K=k + wR rs):=by have:=HK.out; rw [List.take_length] at this; exact this
   go_wp2;go_ret;exact ⟨by rw [← HKE.out]; rfl,HCH.out⟩
def uw (r:TR) (g:Nat):Prop:=(r.rows ≠ []∧r.ad=some ⟨g,0,none⟩) ∨ ∃ q ∈ r.rows,sH q g
def Dk (r:TR):Prop:=r.rows ≠ []→∃ b,r.ad=some ⟨b,0,none⟩∧SepR b r.rows
structure SepT (b:Nat) (rs:List TR):Prop where
 good:∀ r ∈ rs,Dk r
 head:∀ r ∈ rs,¬ uw r b
 two:∀ (x y:Nat) (hx:x < rs.length) (hy:y < rs.length),x ≠ y→∀ g,uw rs[x] g→¬ uw rs[y] g
def Be (b:Nat) (rs:List TR) (g:Nat):Prop:=g=b ∨ ∃ r ∈ rs,uw r g
def wT:List TR→Nat
 | []=>0
 | r::rs=>(1 + wR r.rows) + wT rs
theorem sJ:∀ xs ys:List TR,wT (xs ++ ys)=wT xs + wT ys
 | [],ys=>by simp [wT]
 | x::xs,ys=>by rw [List.cons_append]; simp only [wT]; rw [sJ xs ys]; omega
theorem Ga (rs:List TR) (j:Nat) (h:j < rs.length):wT (rs.take (j + 1))=wT (rs.take j) + (1 + wR rs[j].rows):=by
 rw [List.take_succ_eq_append_getElem h,sJ]; simp [wT]
theorem Ni (rs:List TR) (j:Nat):wT (rs.take j)≤wT rs:=by
 have:=sJ (rs.take j) (rs.drop j);rw [List.take_append_drop] at this;omega
theorem TR.ok.chg {S:Nat→Prop} {w w':World} {r:TR} (h:r.ok w) (hc:Chg S w w') (hg:Dk r) (hn:∀ g,uw r g→¬ S g):r.ok w':=by
 by_cases hz:r.rows=[]
 ·exact .inl hz
 obtain ⟨b,e,hsep⟩:=hg hz;rcases h with h | ⟨b',off,e',hb,hr,hk⟩
 ·exact .inl h
 ·rw [e] at e'; injection e' with e'; injection e' with e1 e2;subst e1; subst e2;refine .inr ⟨b,0,e,Nat.lt_of_lt_of_le hb hc.size,fun i hi=>(hr i hi).same fun o=>hc.cell hb (hn b (.inl ⟨hz,e⟩)),fun q hq=>?_⟩;exact (hk q hq).chg hc (hsep.good q hq) fun g hg=>hn g (.inr ⟨q,hq,hg⟩)
theorem sK (x:Int) (r:TR) (k:Nat) (w:World) (hx:x=(k:Int)) (ho:r.ok w) (hg:Dk r) (hf:jg w (uw r)) (hl:r.light) (h0:0 < k) (h1:k + wR r.rows≤1000000000) :
  Calls Tryz.prog 48 #[.slice r.ad r.rows.length r.cap,.int .i64 x] w fun e w'=>e=.returned (.int .i64 ((k + wR r.rows:Nat):Int))∧Chg (uw r) w w':=by
 by_cases hz:r.rows=[]
 ·rw [hz];refine (qL x r.ad r.cap w).mono ?_;rintro e w' ⟨rfl,rfl⟩;exact ⟨by rw [hx]; rfl,Chg.refl _ _⟩
 obtain ⟨b,e,hsep⟩:=hg hz;rcases ho with h | ⟨b',off,e',hb,hr,hk⟩
 ·exact absurd h hz
 rw [e] at e'; injection e' with e'; injection e' with e1 e2;subst e1; subst e2;rw [e,hx];refine (qM b r.cap r.rows k w hb (fun x hx=>⟨by have:=hr x hx; rwa [Nat.zero_add] at this,hk _ (List.getElem_mem hx)⟩) hsep (hf.mono fun g hg=>by
  rcases hg with rfl | ⟨q,hq,h2⟩
  ·exact .inl ⟨hz,e⟩
  ·exact .inr ⟨q,hq,h2⟩) hl.2 hl.1 h0 h1).mono ?_
 rintro e2 w' ⟨rfl,hc⟩;exact ⟨rfl,hc.mono fun g hg=>by
  rcases hg with rfl | ⟨q,hq,h2⟩
  ·exact .inl ⟨hz,e⟩
  ·exact .inr ⟨q,hq,h2⟩⟩
set_option maxRecDepth 8000 in
set_option maxHeartbeats 4000000 in
theorem yt (b cap:Nat) (rs:List TR) (k:Nat) (w:World) (hb:b < w.heap.size) (hr:∀ (x:Nat) (hx:x < rs.length),IG w b (x * 2) rs[x]∧rs[x].ok w) (hsep:SepT b rs) (hfree:jg w (Be b rs)) (hl:∀ r ∈ rs,r.light) (hlen:rs.length≤1048576) (h0:0 < k) (h1:k + wT rs≤1000000000) :
  Calls Tryz.prog 16 #[.slice (some ⟨b,0,none⟩) rs.length cap,.int .i64 (k:Int)] w fun e w'=>e=.returned (.int .i64 ((k + wT rs:Nat):Int))∧Chg (Be b rs) w w':=by
 have HSEP:Hid (SepT b rs):=hsep;have HFE:Hid (jg w (Be b rs)):=hfree;have HL:Hid (∀ r ∈ rs,r.light):=hl;clear hsep hfree hl;go_enter Tryz.func16,Tryz.ntmps16;go_wp2;go_loopw [1,5] (fun kv i wr=>∃ j K:Nat,j≤rs.length∧Hid (K=k + wT (rs.take j))∧kv=.int .i64 (K:Int)∧i=.int .i64 (j:Int)∧Hid (∀ (x:Nat) (hx:x < rs.length),j≤x→IG wr b (x * 2) rs[x]∧rs[x].ok wr)∧Hid (Chg (Be b rs) w wr)) (fun _ i _=>rs.length - (intOf i).toNat);case atStart=>exact ⟨0,k,Nat.zero_le _,by show _=_; simp [wT],rfl,rfl,fun x hx _=>hr x hx,Chg.refl _ _⟩
 case round =>
  clear hr;obtain ⟨j,K,hj,HK,rfl,rfl,HC,HCH⟩:=hrel;by_cases hlt:j < rs.length
  ·obtain ⟨⟨c0,c1⟩,hok⟩:=HC.out j hlt (Nat.le_refl _);have HOK:Hid (rs[j].ok wr):=hok;have HLG:Hid (rs[j].light):=HL.out rs[j] (List.getElem_mem hlt);have hKb:0 < K∧K + (1 + wR rs[j].rows)≤1000000000:=by
    have h2:=Ni rs (j + 1);rw [Ga _ _ hlt] at h2;have:=HK.out;omega
   have hK0:=hKb.1;have hK1:=hKb.2;have hgl:b < wr.heap.size:=Nat.lt_of_lt_of_le hb HCH.out.size;have HFW:Hid (jg wr (Be b rs)):=HFE.out.chg HCH.out;have hj1:(0:Int)≤(j:Int):=by omega
   have hj2:(j:Int) < (rs.length:Int):=by omega
   have HNB:Hid (¬ uw rs[j] b):=HSEP.out.head _ (List.getElem_mem hlt);have HGD:Hid (Dk rs[j]):=HSEP.out.good _ (List.getElem_mem hlt);clear hKb hok;go_wp2_with fail;refine (aQ _ K _ (by omega) (by omega) (by omega)).mono ?_;rintro e w1 ⟨rfl,hb1⟩;have HB1:Hid (Below wr.heap.size wr w1):=hb1;replace c0:=kept hb1 hgl c0;replace c1:=kept hb1 hgl c1;have fz:∀ y,w1.frozen? ⟨b,y,none⟩=false:=fun y=>gW hb1 hgl ((HFW.out b (.inl rfl)).2 y);obtain ⟨W2,hW2⟩:∃ W2,W2=w1.setCell ⟨b,j * 2,none⟩ (.string (bz K)):=⟨_,rfl⟩;have HC2:Hid (Chg (fun g=>g=b) wr W2):=(Chg.of hb1).trans (by rw [hW2]; exact Chg.set _ rfl);have HO2:Hid (∀ o,o ≠ j * 2→W2.cell? ⟨b,o,none⟩=wr.cell? ⟨b,o,none⟩):=fun o ho=>by rw [hW2,cO (Ne.symm ho)]; exact HB1.out.cell (p:=⟨b,o,none⟩) hgl
   have hgl2:b < W2.heap.size:=Nat.lt_of_lt_of_le hgl HC2.out.size;have HOK2:Hid (rs[j].ok W2):=HOK.out.chg HC2.out HGD.out fun g hg e=>HNB.out (by rw [← e]; exact hg);have HFI:Hid (jg W2 (uw rs[j])):=(HFW.out.chg HC2.out).mono fun g hg=>.inr ⟨_,List.getElem_mem hlt,hg⟩;clear hb1;go_wp2_with fail;rw [← hW2];clear hW2 fz c0 c1;refine (sK _ rs[j] (K + 1) _ (by omega) HOK2.out HGD.out HFI.out HLG.out (by omega) (by omega)).mono ?_;rintro e w3 ⟨rfl,hc3⟩;have HC3:Hid (Chg (fun g=>g=b ∨ uw rs[j] g) wr w3):=(HC2.out.mono fun g hg=>.inl hg).trans (hc3.mono fun g hg=>.inr hg);have HO3:Hid (∀ o,w3.cell? ⟨b,o,none⟩=W2.cell? ⟨b,o,none⟩):=fun o=>hc3.cell hgl2 HNB.out;have HCN:Hid (∀ (x:Nat) (hx:x < rs.length),j + 1≤x→IG w3 b (x * 2) rs[x]∧rs[x].ok w3):=by
    intro x hx hjx;obtain ⟨⟨p0,p1⟩,hok⟩:=HC.out x hx (by omega);refine ⟨⟨?_,?_⟩,hok.chg HC3.out (HSEP.out.good _ (List.getElem_mem hx)) ?_⟩
    ·rw [HO3.out,HO2.out _ (by omega)]; exact p0
    ·rw [HO3.out,HO2.out _ (by omega)]; exact p1
    ·rintro g hg (h | h)
     ·subst h; exact HSEP.out.head _ (List.getElem_mem hx) hg
     ·exact HSEP.out.two x j hx hlt (by omega) g hg h
   have HCHN:Hid (Chg (Be b rs) w w3):=HCH.out.trans (HC3.out.mono fun g hg=>hg.elim .inl fun h=>.inr ⟨rs[j],List.getElem_mem hlt,h⟩);have HKN:Hid (K + 1 + wR rs[j].rows=k + wT (rs.take (j + 1))):=by
    show _=_;rw [Ga _ _ hlt,HK.out]; omega
   clear hc3;go_wp2;go_roundw;case rel=>exact ⟨j + 1,K + 1 + wR rs[j].rows,by omega,HKN,by go_num,by go_num,HCN,HCHN⟩
   case measure=>simp [intOf] <;> omega
  ·obtain rfl:j=rs.length:=by omega
   have HKE:Hid (K=k + wT rs):=by have:=HK.out; rw [List.take_length] at this; exact this
   go_wp2;go_ret;exact ⟨by rw [← HKE.out]; rfl,HCH.out⟩
end Go.Proofs.YtogjfppkbkgaeaaGreat
