/- Contracts of the program's functions on goals and on what a schema names. -/
import Derived.Test.YtajkkeikihhejaaGreatSq
import Derived.Test.YtajkkeikihhejaaGreatJ10
import Derived.Test.YtajkkeikihhejaaGreatStrata2
open Go.Proofs.Tryz
set_option maxHeartbeats 80000000
namespace Go.Proofs.YtajkkeikihhejaaGreat
open Go.ChangeShapes Go.WideShapes Go.ChangeAt Go.RowKit Go.Maps
open Pl
def gy (ts:List Ty) (ty over rel:ByteArray):List ByteArray:=if bu (aA ts ty over) then ig ts ty over rel else []
theorem LB:(prog.info? 9).map (fun i=>(i.zero,i.size,i.bytes))=some (some (.string ⟨#[]⟩),1,16):=by kernel_rfl
theorem IR (r:ER) (h:bu (aj [r])=true):aU (aj [r])=r.e.allow∧r.e.kind=1:=by
 simp only [aj,List.map_cons,List.map_nil,bu,TU,Ud] at h;exact ⟨by simp [aj,aU,h.1],h.1⟩
theorem IU {rows:List ER} (h:bu (aj rows)=true):∃ r,rows=[r]:=by
 rcases rows with _ | ⟨r,_ | ⟨r2,rs⟩⟩
 ·simp [aj,bu] at h
 ·exact ⟨r,rfl⟩
 simp [aj,bu] at h
set_option maxRecDepth 100000 in
theorem xJ (b n:Nat) (rs:List TR) (ad:Option Addr) (M:ByteArray × ByteArray→Option Value) (typ:bF) (x:ER) (w:af) (hV:aM dQ prog 94 w b n M) (hT:Tab rs M) (hs:kW w ad rs) (hl:∀ r ∈ rs,r.light) (hf:∀ r ∈ rs,r.fits) (ht:typ.size≤maxLen) (ho:x.e.over.size≤maxLen) (hn:x.e.name.size≤maxLen) :
  Calls prog 185 #[.map (some b),.string typ,x.val] w fun e w'=>(∃ (UJ:Option Addr) (cap':Nat),e=.returned (.slice UJ (gy (ae rs) typ x.e.over x.e.name).length cap')∧Sc w' UJ (gy (ae rs) typ x.e.over x.e.name)∧∀ p,UJ=some p→w.heap.size≤p.block)∧ag w w':=by
 have HV:Hid (aM dQ prog 94 w b n M):=hV;have HT:=az hT;have HS:=az hs;have HL:=az hl;have UL:=az hf;obtain ⟨kl,hkl⟩:=jy (typ,x.e.over) ht ho;have Vl:Hid (keyOf prog 94 (dQ (typ,x.e.over))=some kl):=hkl;clear hkl hV hT hs hl hf;obtain ⟨i0,hi,hz0,hz1,hz2⟩:=info_parts LB;obtain ⟨W0,hW0⟩:∃ W0,W0=w.alloc (.cells #[.int .i64 x.e.kind,.slice x.adA x.e.allow.length x.capA,.string x.e.over,.string x.e.name,.slice x.adK x.e.kids.length x.capK] 39):=⟨_,rfl⟩;have hal:ag w W0:=by rw [hW0]; exact (TT _ _).alloc (TS _) _
 have HB0:=az hal;have ZL:=az (HV.out.below hal);have c3:W0.cell? ⟨w.heap.size,3,none⟩=some (.string x.e.name):=by rw [hW0]; simp
 have hg0:w.heap.size < W0.heap.size:=by rw [hW0]; simp
 -- what lies in the table
 obtain ⟨rows,UC,capE,HM,HE,HF,HFL⟩:∃ (rows:List ER) (UC:Option Addr) (capE:Nat),Hid ((M (typ,x.e.over)).getD (.slice none 0 0)=.slice UC rows.length capE)∧Hid (aj rows=aA (ae rs) typ x.e.over)∧Hid (pO rs UC rows)∧Hid (∀ q ∈ rows,q.e.fits):=by
  cases e:M (typ,x.e.over) with
  | none=>exact ⟨[],none,0,rfl,by show _=_; unfold aA; rw [HT.out.no _ e]; rfl,.inl rfl,by show ∀ _,_; simp⟩
  | some v =>
   obtain ⟨t,ZM,q,hq,-,rfl,e1,-⟩:=HT.out.yes _ v e;exact ⟨q.rows,q.ad,q.cap,rfl,by show _=_; unfold aA; rw [e1]; rfl,.inr ⟨t,ZM,q,hq,rfl,rfl⟩,((UL.out t ZM).2.2 q hq).2.2⟩
 have WA:Hid (iH W0 UC rows):=HF.out.sl (HS.out.below hal);have Vj:=HF.out.light HL.out;have HLE1:rows.length≤1048576:=Vj.1;have Z7:Hid (∀ q ∈ rows,q.e.light):=Vj.2;clear Vj hal;go_enter func185,ntmps185;unfold ER.val;go_wp2_with (at_lookup; rw [← hW0]; refine jw _ rfl _ _ 91 rfl 94 33 ib underlying91 (lw _) b n M rfl ZL.out (typ,x.e.over) kl rfl Vl.out ?_; rw [HM.out]; clear hW0);refine (uJ UC capE rows _ HLE1 WA.out Z7.out).mono ?_;rintro e w1 ⟨rfl,hb1⟩;have HB1:=jP HB0 hb1;have HNM:Hid (w1.cell? ⟨w.heap.size,3,none⟩=some (.string x.e.name)∧w.heap.size < w1.heap.size):=⟨aG hb1 hg0 c3,TP hg0 hb1.size⟩;clear hb1 c3 hg0;cases hd:bu (aj rows);case false=>
  have HG:Hid (gy (ae rs) typ x.e.over x.e.name=[]):=by show _=_; unfold gy; rw [← HE.out,hd]; rfl
  go_wp2;go_ret;refine ⟨⟨none,0,by rw [HG.out]; rfl,by rw [HG.out]; exact .inl rfl,fun p hp=>by cases hp⟩,HB1.out⟩
 obtain ⟨r,rfl⟩:=IU hd;have HG:Hid (gy (ae rs) typ x.e.over x.e.name=gl (ae rs) x.e.name r.e.allow):=by
  show _=_;unfold gy ig;rw [← HE.out,hd,if_pos rfl,(IR r hd).1]
 rcases WA.out with h | ⟨bE,Z8,rfl,Z9,ZN,hokE⟩
 ·cases h
 have HSW:Hid (iH w1 (some ⟨bE,Z8,none⟩) [r]):=HF.out.sl (HS.out.below HB1.out);rcases HSW.out with h | ⟨bE',offE',heE,hbE1,hrE1,hokE1⟩
 ·cases h
 injection heE with heE; injection heE with heE1 heE2; subst heE1; subst heE2;obtain ⟨s0,s1,s2,s3,s4⟩:=hrE1 0 (by simp);simp only [Nat.zero_mul,Nat.add_zero,List.getElem_cons_zero] at s0 s1 s2 s3 s4;have HOKR:Hid (r.ok w):=by
  have h1:=HF.out.sl HS.out;exact h1.mem (by simp)
 have lgA:r.e.allow.length≤1048576:=(Z7.out r (by simp)).1;have HFA:Hid (∀ a ∈ r.e.allow,a.fits):=(HFL.out r (by simp)).1;have hone:([r]:List ER).length=1:=rfl;rw [hone];clear ZN hokE hrE1 hokE1 HE HM hd Z9;go_wp2_with fail;go_loopw [8,25] (fun v i wr=>∃ k:Nat,k≤r.e.allow.length∧i=.int .i64 k∧Hid (wr.ownsRow w.heap.size 9 1 v (gl (ae rs) x.e.name (r.e.allow.take k)).length (qx (gl (ae rs) x.e.name (r.e.allow.take k))))∧Hid (ag w wr)∧Hid (wr.cell? ⟨w.heap.size,3,none⟩=some (.string x.e.name)∧w.heap.size < wr.heap.size∧v.ownBlock ≠ some w.heap.size)) (fun _ i _=>r.e.allow.length - (intOf i).toNat);case atStart=>exact ⟨0,TW _,rfl,World.ownsRow_nil _ _ _ _,HB1,HNM.out.1,HNM.out.2,by simp [Value.ownBlock]⟩
 clear HB1 HNM s0 s1 s2 s3 s4;obtain ⟨k,hk,rfl,HOW,HB,HC⟩:=hrel;by_cases hlt:k < r.e.allow.length
 ·rcases (HOKR.out.1).below HB.out with hnil | ⟨ba,Wn,had,Yl,hra⟩
  ·rw [hnil] at hlt; simp at hlt
  obtain ⟨t0,t1⟩:=hra k hlt;have hk1:=bB k;have hk2:(k:Int) < (r.e.allow.length:Int):=by omega
  have zA:=HFA.out _ (TQ hlt);have z1:r.e.allow[k].t.size≤maxLen:=zA.1;obtain ⟨hc3,hcl,hco⟩:=HC.out;obtain ⟨W1,hW1⟩:∃ W1,W1=wr.alloc (.cells #[.string r.e.allow[k].t,.string r.e.allow[k].s] 43):=⟨_,rfl⟩;have hal:ag wr W1:=by rw [hW1]; exact (TT _ _).alloc (TS _) _
  have UG:=jP HB hal;have HVW:=az (HV.out.below UG.out);have Wz:Hid (W1.ownsRow w.heap.size 9 1 u8 (gl (ae rs) x.e.name (r.e.allow.take k)).length (qx (gl (ae rs) x.e.name (r.e.allow.take k)))):=own_below HOW.out hal;have g0:W1.cell? ⟨wr.heap.size,0,none⟩=some (.string r.e.allow[k].t):=by rw [hW1]; simp
  have g3:=aG hal hcl hc3;have hgl1:wr.heap.size < W1.heap.size:=by rw [hW1]; simp
  have hgl:=Ii (ae rs) x.e.name (r.e.allow.take k);rw [Ut] at hgl;have HI:=HT.out.some_iff (r.e.allow[k].t,x.e.name);have hwsz:w.heap.size≤W1.heap.size:=UG.out.size;rw [had];clear hra hal HC HOW;go_wp2_with fail;rw [← hW1];refine (yH b n M r.e.allow[k].t x.e.name _ z1 hn HVW.out).mono ?_;rintro e w' ⟨rfl,hw'⟩;rw [hw'];clear hw' w' hW1 t0 t1 hc3;cases hz:(M (r.e.allow[k].t,x.e.name)).isSome;case false=>
   have HE:Hid (gl (ae rs) x.e.name (r.e.allow.take (k + 1))=gl (ae rs) x.e.name (r.e.allow.take k)):=by
    refine Rq _ _ _ _ hlt ?_;rw [hz] at HI;simpa using HI.symm
   clear HI;go_wp2;go_roundw;case rel=>exact ⟨k + 1,by omega,by go_num,by rw [HE.out]; exact Wz,UG,g3,by omega,hco⟩
   simp [intOf] <;> omega
  have HX:Hid (gl (ae rs) x.e.name (r.e.allow.take (k + 1))=gl (ae rs) x.e.name (r.e.allow.take k) ++ [r.e.allow[k].t]):=by
   refine NU _ _ _ _ hlt ?_;rw [hz] at HI;simpa using HI.symm
  clear HI;go_wp2_with (at_builtin; refine wpList_append_own_at _ rfl _ _ 142 rfl w.heap.size 9 i0 (.string ⟨#[]⟩) 1 16 underlying142 hi hz0 hz1 hz2 rfl (by decide) _ _ _ rfl (Wz.out.alloc _) ⟨W1.heap.size,0,none⟩ 1 1 [.string r.e.allow[k].t] rfl rfl (cell_one_new _ _ _) (by intro u hu; simp at hu; subst hu; rfl) (by unfold maxLen; omega) (by omega) (by simp; omega) ?_);intro v' w3 hown3 hgrow _ hloc;have hb3:Hid (ag w w3):=(UG.out.alloc UG.out.size _).grown hgrow (by simp; omega) (fun i hi=>(Wz.out.lt i hi).1);have UX:Hid (w3.ownsRow w.heap.size 9 1 v' (gl (ae rs) x.e.name (r.e.allow.take (k + 1))).length (qx (gl (ae rs) x.e.name (r.e.allow.take (k + 1))))):=by
   show World.ownsRow _ _ _ _ _ _ _;rw [HX.out];simpa [qx] using hown3
  have Xv:Hid (w3.cell? ⟨w.heap.size,3,none⟩=some (.string x.e.name)∧w.heap.size < w3.heap.size∧v'.ownBlock ≠ some w.heap.size):=by
   refine ⟨?_,?_,?_⟩
   ·rw [hgrow.cell_far _ (by simp; omega) (Ne.symm hco)]; exact aG ((TT _ _).alloc (TS _) _) (by omega) g3
   ·have:=hgrow.size; simp at this; omega
   rcases hloc with e | e
   ·rw [e]; exact hco
   rw [e]; simp; omega
  clear hown3 hgrow hloc Wz g0 g3;go_wp2;go_roundw;case rel=>exact ⟨k + 1,by omega,by go_num,UX,hb3,Xv⟩
  simp [intOf] <;> omega
 obtain rfl:k=r.e.allow.length:=by omega
 have hown:=HOW.out;rw [Ug] at hown;obtain ⟨UJ,cp,rfl,hS',hN'⟩:=NV hown;have HS2:=az hS';have VY:Hid (∀ p,UJ=some p→w.heap.size≤p.block):=hN';clear hown HOW hS' hN' HC;go_wp2;go_ret;refine ⟨⟨UJ,cp,by rw [HG.out]; rfl,by rw [HG.out]; exact HS2.out,VY.out⟩,HB.out⟩
end Go.Proofs.YtajkkeikihhejaaGreat
