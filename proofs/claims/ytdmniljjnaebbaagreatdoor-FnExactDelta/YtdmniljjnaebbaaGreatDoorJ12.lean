/- Contracts of the program's functions on goals and on what a schema names. -/
import Derived.Test.YtdmniljjnaebbaaGreatDoorSq
import Derived.Test.YtdmniljjnaebbaaGreatDoorImplTold
import Derived.Test.YtdmniljjnaebbaaGreatDoorJ11
open Go.Proofs.Tryz
set_option maxHeartbeats 80000000
namespace Go.Proofs.YtdmniljjnaebbaaGreatDoor
open Go.ChangeShapes Go.WideShapes Go.ChangeAt Go.RowKit Go.Maps
open Pl
def fD (ts:List Ty) (ty over rel:ByteArray):List ByteArray:=if bF (aH ts ty over) then fT ts ty over rel else []
theorem Kc:(prog.info? 9).map (fun i=>(i.zero,i.size,i.bytes))=some (some (.string ⟨#[]⟩),1,16):=by kernel_rfl
theorem GV (r:ER) (h:bF (ai [r])=true):aQ (ai [r])=r.e.allow∧r.e.kind=1:=by
 simp only [ai,List.map_cons,List.map_nil,bF,Sn,SE] at h;exact ⟨by simp [ai,aQ,h.1],h.1⟩
theorem GX {rows:List ER} (h:bF (ai rows)=true):∃ r,rows=[r]:=by
 rcases rows with _ | ⟨r,_ | ⟨r2,rs⟩⟩
 ·simp [ai,bF] at h
 ·exact ⟨r,rfl⟩
 simp [ai,bF] at h
set_option maxRecDepth 100000 in
theorem vM (b n:Nat) (rs:List TR) (ad:Option Addr) (M:ByteArray × ByteArray→Option Value) (typ:dB) (x:ER) (w:af) (hV:aJ dE prog 172 w b n M) (hT:Tab rs M) (hs:iN w ad rs) (hl:∀ r ∈ rs,r.light) (hf:∀ r ∈ rs,r.fits) (ht:typ.size≤maxLen) (ho:x.e.over.size≤maxLen) (hn:x.e.name.size≤maxLen) :
  Calls prog 166 #[.map (some b),.string typ,x.val] w fun e w'=>(∃ (Ti:Option Addr) (cap':Nat),e=.returned (.slice Ti (fD (ag rs) typ x.e.over x.e.name).length cap')∧Qz w' Ti (fD (ag rs) typ x.e.over x.e.name)∧∀ p,Ti=some p→w.heap.size≤p.block)∧aa w w':=by
 have HV:Hid (aJ dE prog 172 w b n M):=hV;have HT:=ay hT;have HS:=ay hs;have HL:=ay hl;have Tv:=ay hf;obtain ⟨kl,hkl⟩:=jB (typ,x.e.over) ht ho;have UY:Hid (keyOf prog 172 (dE (typ,x.e.over))=some kl):=hkl;clear hkl hV hT hs hl hf;obtain ⟨i0,hi,hz0,hz1,hz2⟩:=info_parts Kc;obtain ⟨W0,hW0⟩:∃ W0,W0=w.alloc (.cells #[.int .i64 x.e.kind,.slice x.adA x.e.allow.length x.capA,.string x.e.over,.string x.e.name,.slice x.adK x.e.kids.length x.capK] 190):=⟨_,rfl⟩;have hal:aa w W0:=by rw [hW0]; exact (Si _ _).alloc (Sj _) _
 have HB0:=ay hal;have Ww:=ay (HV.out.below hal);have c3:W0.cell? ⟨w.heap.size,3,none⟩=some (.string x.e.name):=by rw [hW0]; simp
 have hg0:w.heap.size < W0.heap.size:=by rw [hW0]; simp
 -- what lies in the table
 obtain ⟨rows,Tm,capE,HM,HE,HF,Zz⟩:∃ (rows:List ER) (Tm:Option Addr) (capE:Nat),Hid ((M (typ,x.e.over)).getD (.slice none 0 0)=.slice Tm rows.length capE)∧Hid (ai rows=aH (ag rs) typ x.e.over)∧Hid (oo rs Tm rows)∧Hid (∀ q ∈ rows,q.e.fits):=by
  cases e:M (typ,x.e.over) with
  | none=>exact ⟨[],none,0,rfl,by show _=_; unfold aH; rw [HT.out.no _ e]; rfl,.inl rfl,by show ∀ _,_; simp⟩
  | some v =>
   obtain ⟨t,htm,q,hq,-,rfl,e1,-⟩:=HT.out.yes _ v e;exact ⟨q.rows,q.ad,q.cap,rfl,by show _=_; unfold aH; rw [e1]; rfl,.inr ⟨t,htm,q,hq,rfl,rfl⟩,((Tv.out t htm).2.2 q hq).2.2⟩
 have VA:Hid (fQ W0 Tm rows):=HF.out.sl (HS.out.below hal);have Uk:=HF.out.light HL.out;have HLE1:rows.length≤1048576:=Uk.1;have ZA:Hid (∀ q ∈ rows,q.e.light):=Uk.2;clear Uk hal;go_enter func166,ntmps166;unfold ER.val;go_wp2_with (at_lookup; rw [← hW0]; refine iK _ rfl _ _ 127 rfl 172 120 ig underlying127 (pW _) b n M rfl Ww.out (typ,x.e.over) kl rfl UY.out ?_; rw [HM.out]; clear hW0);refine (si Tm capE rows _ HLE1 VA.out ZA.out).mono ?_;rintro e w1 ⟨rfl,hb1⟩;have HB1:=jb HB0 hb1;have HNM:Hid (w1.cell? ⟨w.heap.size,3,none⟩=some (.string x.e.name)∧w.heap.size < w1.heap.size):=⟨aK hb1 hg0 c3,Sg hg0 hb1.size⟩;clear hb1 c3 hg0;cases hd:bF (ai rows);case false=>
  have HG:Hid (fD (ag rs) typ x.e.over x.e.name=[]):=by show _=_; unfold fD; rw [← HE.out,hd]; rfl
  go_wp2;go_ret;refine ⟨⟨none,0,by rw [HG.out]; rfl,by rw [HG.out]; exact .inl rfl,fun p hp=>by cases hp⟩,HB1.out⟩
 obtain ⟨r,rfl⟩:=GX hd;have HG:Hid (fD (ag rs) typ x.e.over x.e.name=gl (ag rs) x.e.name r.e.allow):=by
  show _=_;unfold fD fT;rw [← HE.out,hd,if_pos rfl,(GV r hd).1]
 rcases VA.out with h | ⟨bE,ZB,rfl,hbE,Zf,hokE⟩
 ·cases h
 have HSW:Hid (fQ w1 (some ⟨bE,ZB,none⟩) [r]):=HF.out.sl (HS.out.below HB1.out);rcases HSW.out with h | ⟨bE',offE',heE,hbE1,hrE1,hokE1⟩
 ·cases h
 injection heE with heE; injection heE with heE1 heE2; subst heE1; subst heE2;obtain ⟨s0,s1,s2,s3,s4⟩:=hrE1 0 (by simp);simp only [Nat.zero_mul,Nat.add_zero,List.getElem_cons_zero] at s0 s1 s2 s3 s4;have HOKR:Hid (r.ok w):=by
  have h1:=HF.out.sl HS.out;exact h1.mem (by simp)
 have lgA:r.e.allow.length≤1048576:=(ZA.out r (by simp)).1;have HFA:Hid (∀ a ∈ r.e.allow,a.fits):=(Zz.out r (by simp)).1;have hone:([r]:List ER).length=1:=rfl;rw [hone];clear Zf hokE hrE1 hokE1 HE HM hd hbE;go_wp2_with fail;go_loopw [8,25] (fun v i wr=>∃ k:Nat,k≤r.e.allow.length∧i=.int .i64 k∧Hid (wr.ownsRow w.heap.size 9 1 v (gl (ag rs) x.e.name (r.e.allow.take k)).length (oQ (gl (ag rs) x.e.name (r.e.allow.take k))))∧Hid (aa w wr)∧Hid (wr.cell? ⟨w.heap.size,3,none⟩=some (.string x.e.name)∧w.heap.size < wr.heap.size∧v.ownBlock ≠ some w.heap.size)) (fun _ i _=>r.e.allow.length - (intOf i).toNat);case atStart=>exact ⟨0,Sm _,rfl,World.ownsRow_nil _ _ _ _,HB1,HNM.out.1,HNM.out.2,by simp [Value.ownBlock]⟩
 clear HB1 HNM s0 s1 s2 s3 s4;obtain ⟨k,hk,rfl,HOW,HB,HC⟩:=hrel;by_cases hlt:k < r.e.allow.length
 ·rcases (HOKR.out.1).below HB.out with hnil | ⟨ba,Ve,had,hba,hra⟩
  ·rw [hnil] at hlt; simp at hlt
  obtain ⟨t0,t1⟩:=hra k hlt;have hk1:=bH k;have hk2:(k:Int) < (r.e.allow.length:Int):=by omega
  have zA:=HFA.out _ (Sd hlt);have z1:r.e.allow[k].t.size≤maxLen:=zA.1;obtain ⟨hc3,hcl,hco⟩:=HC.out;obtain ⟨W1,hW1⟩:∃ W1,W1=wr.alloc (.cells #[.string r.e.allow[k].t,.string r.e.allow[k].s] 204):=⟨_,rfl⟩;have hal:aa wr W1:=by rw [hW1]; exact (Si _ _).alloc (Sj _) _
  have Tt:=jb HB hal;have HVW:=ay (HV.out.below Tt.out);have Vg:Hid (W1.ownsRow w.heap.size 9 1 u8 (gl (ag rs) x.e.name (r.e.allow.take k)).length (oQ (gl (ag rs) x.e.name (r.e.allow.take k)))):=own_below HOW.out hal;have g0:W1.cell? ⟨wr.heap.size,0,none⟩=some (.string r.e.allow[k].t):=by rw [hW1]; simp
  have g3:=aK hal hcl hc3;have ZC:wr.heap.size < W1.heap.size:=by rw [hW1]; simp
  have hgl:=Gw (ag rs) x.e.name (r.e.allow.take k);rw [SL] at hgl;have HI:=HT.out.some_iff (r.e.allow[k].t,x.e.name);have hwsz:w.heap.size≤W1.heap.size:=Tt.out.size;rw [had];clear hra hal HC HOW;go_wp2_with fail;rw [← hW1];refine (wZ b n M r.e.allow[k].t x.e.name _ z1 hn HVW.out).mono ?_;rintro e w' ⟨rfl,hw'⟩;rw [hw'];clear hw' w' hW1 t0 t1 hc3;cases hz:(M (r.e.allow[k].t,x.e.name)).isSome;case false=>
   have HE:Hid (gl (ag rs) x.e.name (r.e.allow.take (k + 1))=gl (ag rs) x.e.name (r.e.allow.take k)):=by
    refine P7 _ _ _ _ hlt ?_;rw [hz] at HI;simpa using HI.symm
   clear HI;go_wp2;go_roundw;case rel=>exact ⟨k + 1,by omega,by go_num,by rw [HE.out]; exact Vg,Tt,g3,by omega,hco⟩
   simp [intOf] <;> omega
  have HX:Hid (gl (ag rs) x.e.name (r.e.allow.take (k + 1))=gl (ag rs) x.e.name (r.e.allow.take k) ++ [r.e.allow[k].t]):=by
   refine Mw _ _ _ _ hlt ?_;rw [hz] at HI;simpa using HI.symm
  clear HI;go_wp2_with (at_builtin; refine wpList_append_own_at _ rfl _ _ 255 rfl w.heap.size 9 i0 (.string ⟨#[]⟩) 1 16 underlying255 hi hz0 hz1 hz2 rfl (by decide) _ _ _ rfl (Vg.out.alloc _) ⟨W1.heap.size,0,none⟩ 1 1 [.string r.e.allow[k].t] rfl rfl (cell_one_new _ _ _) (by intro u hu; simp at hu; subst hu; rfl) (by unfold maxLen; omega) (by omega) (by simp; omega) ?_);intro v' w3 hown3 hgrow _ hloc;have hb3:Hid (aa w w3):=(Tt.out.alloc Tt.out.size _).grown hgrow (by simp; omega) (fun i hi=>(Vg.out.lt i hi).1);have TD:Hid (w3.ownsRow w.heap.size 9 1 v' (gl (ag rs) x.e.name (r.e.allow.take (k + 1))).length (oQ (gl (ag rs) x.e.name (r.e.allow.take (k + 1))))):=by
   show World.ownsRow _ _ _ _ _ _ _;rw [HX.out];simpa [oQ] using hown3
  have Uy:Hid (w3.cell? ⟨w.heap.size,3,none⟩=some (.string x.e.name)∧w.heap.size < w3.heap.size∧v'.ownBlock ≠ some w.heap.size):=by
   refine ⟨?_,?_,?_⟩
   ·rw [hgrow.cell_far _ (by simp; omega) (Ne.symm hco)]; exact aK ((Si _ _).alloc (Sj _) _) (by omega) g3
   ·have:=hgrow.size; simp at this; omega
   rcases hloc with e | e
   ·rw [e]; exact hco
   rw [e]; simp; omega
  clear hown3 hgrow hloc Vg g0 g3;go_wp2;go_roundw;case rel=>exact ⟨k + 1,by omega,by go_num,TD,hb3,Uy⟩
  simp [intOf] <;> omega
 obtain rfl:k=r.e.allow.length:=by omega
 have hown:=HOW.out;rw [Su] at hown;obtain ⟨Ti,cp,rfl,hS',hN'⟩:=Mx hown;have HS2:=ay hS';have UZ:Hid (∀ p,Ti=some p→w.heap.size≤p.block):=hN';clear hown HOW hS' hN' HC;go_wp2;go_ret;refine ⟨⟨Ti,cp,by rw [HG.out]; rfl,by rw [HG.out]; exact HS2.out,UZ.out⟩,HB.out⟩
theorem yI (t:TR) (g:Nat) (nm:dB) (w:af) (hg:g < w.heap.size) (hc:w.cell? ⟨g,0,none⟩=some (.string nm)) :
  Calls prog 195 #[.agg #[.string t.name,.slice t.ad t.rows.length t.cap],.pointer (some ⟨g,0,none⟩)] w fun e w'=>e=.returned (.bool (t.name.toList == nm.toList))∧aa w w':=by
 go_enter func195,ntmps195;go_wp2;go_ret;exact ⟨rfl,(Si _ _).alloc (Sj _) _⟩
theorem Bl (rs:List TR) (k:Nat) (h:k < rs.length) (nm:dB):jY (ag (rs.drop k)) nm=((rs[k].name.toList == nm.toList) || jY (ag (rs.drop (k + 1))) nm):=by
 rw [l7 _ _ h]; rfl
theorem yJ (ad:Option Addr) (cap:Nat) (rs:List TR) (g:Nat) (nm:dB) (w:af) (hlen:rs.length≤1048576) (hs:iN w ad rs) (hg:g < w.heap.size) (hc:w.cell? ⟨g,0,none⟩=some (.string nm)) :
  Calls prog 212 #[.slice ad rs.length cap,.func (Fn.func 195) #[] #[.pointer (some ⟨g,0,none⟩)]] w fun e w'=>(∃ r:Int,e=.returned (.int .i64 r)∧decide (0≤r)=jY (ag rs) nm)∧aa w w':=by
 have HS:=ay hs;have HC:Hid (w.cell? ⟨g,0,none⟩=some (.string nm)):=hc;clear hs hc;go_enter func212,ntmps212;go_wp2_with fail;go_loopw [8] (fun i wr=>∃ k:Nat,k≤rs.length∧i=.int .i64 k∧Hid (jY (ag (rs.drop k)) nm=jY (ag rs) nm)∧Hid (aa w wr)) (fun i _=>rs.length - (intOf i).toNat);case atStart=>exact ⟨0,Sm _,rfl,rfl,Si _ _⟩
 obtain ⟨k,hk,rfl,HP,HB⟩:=hrel;by_cases hlt:k < rs.length
 ·rcases HS.out.below HB.out with rfl | ⟨b,off,rfl,hb,hr,-⟩
  ·simp at hlt
  obtain ⟨t0,t1⟩:=hr k hlt;have hk1:=bH k;have hk2:(k:Int) < (rs.length:Int):=by omega
  have HCW:Hid (wr.cell? ⟨g,0,none⟩=some (.string nm)):=aK HB.out hg HC.out;have HGW:Hid (g < wr.heap.size):=Sg hg HB.out.size;clear hr;cases he:(rs[k].name.toList == nm.toList);case true=>
   have HN:Hid (jY (ag rs) nm=true):=by show _=_; rw [← HP.out,Bl _ _ hlt,he]; rfl
   go_wp2_with (go_at_call 195; refine (yI rs[k] g nm _ HGW.out HCW.out).mono ?_; rintro e w' ⟨he2,hbx⟩; rw [he] at he2; subst he2);go_ret;exact ⟨⟨k,rfl,by rw [HN.out]; simp⟩,HB.out.trans (hbx.mono HB.out.size)⟩
  have Tu:Hid (jY (ag (rs.drop (k + 1))) nm=jY (ag rs) nm):=by show _=_; rw [← HP.out,Bl _ _ hlt,he]; rfl
  go_wp2_with (go_at_call 195; refine (yI rs[k] g nm _ HGW.out HCW.out).mono ?_; rintro e w' ⟨he2,hbx⟩; rw [he] at he2; subst he2);go_roundw;case rel=>exact ⟨k + 1,by omega,by go_num,Tu,HB.out.trans (hbx.mono HB.out.size)⟩
  simp [intOf] <;> omega
 have HN:Hid (jY (ag rs) nm=false):=by show _=_; rw [← HP.out,List.drop_of_length_le (by omega)]; rfl
 go_wp2;go_ret;exact ⟨⟨-1,rfl,by rw [HN.out]; simp⟩,HB.out⟩
theorem sj (ad:Option Addr) (cap:Nat) (rs:List TR) (g:Nat) (nm:dB) (w:af) (hlen:rs.length≤1048576) (hs:iN w ad rs) (hg:g < w.heap.size) (hc:w.cell? ⟨g,0,none⟩=some (.string nm)) :
  Calls prog 194 #[.slice ad rs.length cap,.func (Fn.func 195) #[] #[.pointer (some ⟨g,0,none⟩)]] w fun e w'=>e=.returned (.bool (jY (ag rs) nm))∧aa w w':=by
 go_enter func194,ntmps194;go_wp2_with fail;refine (yJ ad cap rs g nm _ hlen hs hg hc).mono ?_;rintro e w' ⟨⟨r,rfl,hr⟩,hbx⟩;have HR:Hid (decide (0≤r)=jY (ag rs) nm):=hr;clear hr hs hc;go_wp2;go_ret;exact ⟨by rw [← HR.out]; rfl,hbx⟩
set_option maxRecDepth 100000 in
theorem yK (ad adA:Option Addr) (cap capA:Nat) (rs:List TR) (b n:Nat) (M:ByteArray × ByteArray→Option Value) (xs:List Al) (w:af) (hlen:rs.length≤1048576) (hs:iN w ad rs) (hV:aJ dE prog 172 w b n M) (hT:Tab rs M) (hla:xs.length≤1048576) (hsa:gP w adA xs) (hfa:∀ a ∈ xs,a.fits) :
  Calls prog 164 #[.slice ad rs.length cap,.map (some b),.slice adA xs.length capA] w fun e w'=>e=.returned (.bool (oU (ag rs) xs))∧aa w w':=by
 have HS:=ay hs;have HV:Hid (aJ dE prog 172 w b n M):=hV;have HT:=ay hT;have HA:=ay hsa;have HFA:=ay hfa;clear hs hV hT hsa hfa;go_enter func164,ntmps164;go_wp2_with fail;go_loopw [11] (fun i wr=>∃ k:Nat,k≤xs.length∧i=.int .i64 k∧Hid (l8 (ag rs) xs k=true)∧Hid (aa w wr)) (fun i _=>xs.length - (intOf i).toNat);case atStart=>exact ⟨0,Sm _,rfl,yj _ _,Si _ _⟩
 obtain ⟨k,hk,rfl,HP,HB⟩:=hrel;by_cases hlt:k < xs.length
 ·rcases HA.out.below HB.out with rfl | ⟨ba,Ve,rfl,hba,hra⟩
  ·simp at hlt
  obtain ⟨t0,t1⟩:=hra k hlt;have hk1:=bH k;have hk2:(k:Int) < (xs.length:Int):=by omega
  have zA:=HFA.out _ (Sd hlt);have z1:xs[k].t.size≤maxLen:=zA.1;have z2:xs[k].s.size≤maxLen:=zA.2;have HI:Hid ((M (xs[k].t,xs[k].s)).isSome=!(aH (ag rs) xs[k].t xs[k].s).isEmpty):=HT.out.some_iff (xs[k].t,xs[k].s);obtain ⟨W1,hW1⟩:∃ W1,W1=wr.alloc (.cells #[.string xs[k].t,.string xs[k].s] 204):=⟨_,rfl⟩;have hal:aa wr W1:=by rw [hW1]; exact (Si _ _).alloc (Sj _) _
  have Tt:=jb HB hal;have g0:W1.cell? ⟨wr.heap.size,0,none⟩=some (.string xs[k].t):=by rw [hW1]; simp
  have g1:W1.cell? ⟨wr.heap.size,1,none⟩=some (.string xs[k].s):=by rw [hW1]; simp
  have hgl:wr.heap.size < W1.heap.size:=by rw [hW1]; simp
  clear hra hal zA;go_wp2_with fail;rw [← hW1];clear hW1 t0 t1;refine (sj ad cap rs wr.heap.size xs[k].t _ hlen (HS.out.below Tt.out) hgl g0).mono ?_;rintro e w2 ⟨rfl,hb2⟩;have HB2:=jb Tt hb2;replace g0:=aK hb2 hgl g0;replace g1:=aK hb2 hgl g1;have UR:=ay (HV.out.below HB2.out);clear hb2 hgl;cases ht:jY (ag rs) xs[k].t;case false=>
   have HN:Hid (oU (ag rs) xs=false):=rW _ _ k hlt (by simp [oq,ht]);go_wp2;go_ret;exact ⟨by rw [HN.out]; rfl,HB2.out⟩
  cases he:xs[k].s.toList.isEmpty;case true=>
   have Tu:Hid (l8 (ag rs) xs (k + 1)=true):=by show _=_; rw [nC _ _ _ hlt,HP.out]; simp [oq,ht,he]
   go_wp2;go_roundw;case rel=>exact ⟨k + 1,by omega,by go_num,Tu,HB2⟩
   simp [intOf] <;> omega
  cases hz:(M (xs[k].t,xs[k].s)).isSome;case false=>
   have HN:Hid (oU (ag rs) xs=false):=rW _ _ k hlt (by have:=HI.out; rw [hz] at this; simp [oq,ht,he]; simpa using this.symm);go_wp2_with (go_at_call 165; refine (wZ b n M xs[k].t xs[k].s _ z1 z2 UR.out).mono ?_; rintro e w' ⟨he2,rfl⟩; rw [hz] at he2; subst he2);go_ret;exact ⟨by rw [HN.out]; rfl,HB2.out⟩
  have Tu:Hid (l8 (ag rs) xs (k + 1)=true):=by show _=_; rw [nC _ _ _ hlt,HP.out]; have:=HI.out; rw [hz] at this; simp [oq,ht,he]; simpa using this.symm
  go_wp2_with (go_at_call 165; refine (wZ b n M xs[k].t xs[k].s _ z1 z2 UR.out).mono ?_; rintro e w' ⟨he2,rfl⟩; rw [hz] at he2; subst he2);go_roundw;case rel=>exact ⟨k + 1,by omega,by go_num,Tu,HB2⟩
  simp [intOf] <;> omega
 have HN:Hid (oU (ag rs) xs=true):=by
  have:=HP.out;obtain rfl:k=xs.length:=by omega
  unfold l8 at this;rw [Su] at this;exact this
 go_wp2;go_ret;exact ⟨by rw [HN.out]; rfl,HB.out⟩
theorem rf {e:Ex} (h:az e=true) (h1:e.kind ≠ 1):e.allow=[]:=by
 unfold az at h;rw [if_neg h1] at h;split at h
 ·simp only [Sn,SE] at h; exact SA.1 h.1.1.2
 split at h
 ·simp only [Sn,SE] at h; exact SA.1 h.1.2
 split at h
 ·simp only [Sn,SE] at h; exact SA.1 h.1.1.2
 split at h
 ·simp only [Sn,SE] at h; exact SA.1 h.1.1.2
 cases h
theorem GY (ts:List Ty) (typ:dB) (rows:List ER) (k:Nat) (h:k < rows.length):aP ts typ (ai (rows.drop k))=if oU ts rows[k].e.allow && lI ts typ rows[k].e then aP ts typ (ai (rows.drop (k + 1))) else false:=by
 rw [fF _ _ h]; rfl
theorem Eu (ts:List Ty) (typ:dB) (e:Ex) (h:e.kind=3):lI ts typ e=!(fD ts typ e.over e.name).isEmpty:=by
 unfold lI fD;rw [if_neg (by omega),if_pos h];cases bF (aH ts typ e.over) <;> simp
set_option maxRecDepth 100000 in
theorem yL (ad Tm:Option Addr) (cap capE:Nat) (rs:List TR) (b n:Nat) (M:ByteArray × ByteArray→Option Value) (typ:dB) (rows:List ER) (w:af) (hlen:rs.length≤1048576) (hs:iN w ad rs) (hl:∀ r ∈ rs,r.light) (hf:∀ r ∈ rs,r.fits) (hV:aJ dE prog 172 w b n M) (hT:Tab rs M) (ht:typ.size≤maxLen) (hle:rows.length≤1048576) (hse:fQ w Tm rows) (Ze:∀ q ∈ rows,q.e.light) (hfE:∀ q ∈ rows,q.e.fits) (hnb:∀ q ∈ rows,az q.e=true) :
  Calls prog 125 #[.slice ad rs.length cap,.map (some b),.string typ,.slice Tm rows.length capE] w fun e w'=>e=.returned (.bool (aP (ag rs) typ (ai rows)))∧aa w w':=by
 have HS:=ay hs;have HL:=ay hl;have Tv:=ay hf;have HV:Hid (aJ dE prog 172 w b n M):=hV;have HT:=ay hT;have HE:=ay hse;have Uk:=ay Ze;have U5:=ay hfE;have WJ:Hid (∀ q ∈ rows,az q.e=true):=hnb;clear hs hl hf hV hT hse Ze hfE hnb;go_enter func125,ntmps125;go_wp2_with fail;go_loopw [13] (fun i wr=>∃ k:Nat,k≤rows.length∧i=.int .i64 k∧Hid (aP (ag rs) typ (ai (rows.drop k))=aP (ag rs) typ (ai rows))∧Hid (aa w wr)) (fun i _=>rows.length - (intOf i).toNat);case atStart=>exact ⟨0,Sm _,rfl,rfl,Si _ _⟩
 obtain ⟨k,hk,rfl,HP,HB⟩:=hrel;by_cases hlt:k < rows.length
 ·rcases HE.out.below HB.out with rfl | ⟨bE,ZB,rfl,hbE,Zf,hokE⟩
  ·simp at hlt
  obtain ⟨t0,t1,t2,t3,t4⟩:=Zf k hlt;have HOKW:Hid (rows[k].ok w):=HE.out.mem (Sd hlt);have hk1:=bH k;have hk2:(k:Int) < (rows.length:Int):=by omega
  have lgA:rows[k].e.allow.length≤1048576:=(Uk.out _ (Sd hlt)).1;have HFK:Hid (rows[k].e.fits):=U5.out _ (Sd hlt);have HNK:Hid (az rows[k].e=true):=WJ.out _ (Sd hlt);have HDR:=GY (ag rs) typ rows k hlt;have HD:Hid (aP (ag rs) typ (ai rows)=if oU (ag rs) rows[k].e.allow && lI (ag rs) typ rows[k].e then aP (ag rs) typ (ai (rows.drop (k + 1))) else false):=by show _=_; rw [← HP.out]; exact HDR
  obtain ⟨W1,hW1⟩:∃ W1,W1=wr.alloc (.cells #[.int .i64 rows[k].e.kind,.slice rows[k].adA rows[k].e.allow.length rows[k].capA,.string rows[k].e.over,.string rows[k].e.name,.slice rows[k].adK rows[k].e.kids.length rows[k].capK] 190):=⟨_,rfl⟩;have hal:aa wr W1:=by rw [hW1]; exact (Si _ _).alloc (Sj _) _
  have Tt:=jb HB hal;have HVW:=ay (HV.out.below Tt.out);have zO:rows[k].e.over.size≤maxLen:=HFK.out.2.1;have zN:rows[k].e.name.size≤maxLen:=HFK.out.2.2.1;clear Zf hokE hal HDR;by_cases h1:rows[k].e.kind=1
  ·have UU:Hid (lI (ag rs) typ rows[k].e=true):=by show _=_; unfold lI; rw [if_neg (by omega),if_neg (by omega)]
   have hq1:(rows[k].e.kind == 1)=true:=by simpa using h1
   replace h1:Hid (rows[k].e.kind=1):=h1;go_wp2_with fail;rw [← hW1];refine (yK ad rows[k].adA cap rows[k].capA rs b n M rows[k].e.allow _ hlen (HS.out.below Tt.out) HVW.out HT.out lgA (HOKW.out.1.below Tt.out) HFK.out.1).mono ?_;rintro e w2 ⟨rfl,hb2⟩;have HB2:=jb Tt hb2;clear hb2 hW1 t0 t1 t2 t3 t4;cases hz:oU (ag rs) rows[k].e.allow;case false=>
    have HN:Hid (aP (ag rs) typ (ai rows)=false):=by show _=_; rw [HD.out,hz]; rfl
    go_wp2;go_ret;exact ⟨by rw [HN.out]; rfl,HB2.out⟩
   have Tu:Hid (aP (ag rs) typ (ai (rows.drop (k + 1)))=aP (ag rs) typ (ai rows)):=by show _=_; rw [HD.out,hz,UU.out]; rfl
   go_wp2;go_roundw;case rel=>exact ⟨k + 1,by omega,by go_num,Tu,HB2⟩
   simp [intOf] <;> omega
  have hq1:(rows[k].e.kind == 1)=false:=by simpa using h1
  have VU:Hid (oU (ag rs) rows[k].e.allow=true):=by show _=_; rw [rf HNK.out h1]; rfl
  by_cases h2:rows[k].e.kind=2
  ·have hq2:(rows[k].e.kind == 2)=true:=by simpa using h2
   have HI:=HT.out.some_iff (typ,rows[k].e.name);have UU:Hid (lI (ag rs) typ rows[k].e=(M (typ,rows[k].e.name)).isSome):=by show _=_; unfold lI; rw [if_pos h2,HI]
   clear HI;replace h2:Hid (rows[k].e.kind=2):=h2;go_wp2_with fail;rw [← hW1];refine (wZ b n M typ rows[k].e.name _ ht zN HVW.out).mono ?_;rintro e w2 ⟨rfl,hw2⟩;rw [hw2];clear hw2 w2 hW1 t0 t1 t2 t3 t4;cases hz:(M (typ,rows[k].e.name)).isSome;case false=>
    have HN:Hid (aP (ag rs) typ (ai rows)=false):=by show _=_; rw [HD.out,UU.out,hz,VU.out]; rfl
    go_wp2;go_ret;exact ⟨by rw [HN.out]; rfl,Tt.out⟩
   have Tu:Hid (aP (ag rs) typ (ai (rows.drop (k + 1)))=aP (ag rs) typ (ai rows)):=by show _=_; rw [HD.out,UU.out,hz,VU.out]; rfl
   go_wp2;go_roundw;case rel=>exact ⟨k + 1,by omega,by go_num,Tu,Tt⟩
   simp [intOf] <;> omega
  have hq2:(rows[k].e.kind == 2)=false:=by simpa using h2
  by_cases h3:rows[k].e.kind=3
  ·have hq3:(rows[k].e.kind == 3)=true:=by simpa using h3
   have UU:Hid (lI (ag rs) typ rows[k].e=!(fD (ag rs) typ rows[k].e.over rows[k].e.name).isEmpty):=Eu _ _ _ h3;replace h3:Hid (rows[k].e.kind=3):=h3;go_wp2_with fail;rw [← hW1];refine (vM b n rs ad M typ rows[k] _ HVW.out HT.out (HS.out.below Tt.out) HL.out Tv.out ht zO zN).mono ?_;rintro e w2 ⟨⟨Ti,cap',rfl,-,-⟩,hb2⟩;have HB2:=jb Tt hb2;clear hb2 hW1 t0 t1 t2 t3 t4;generalize fD (ag rs) typ rows[k].e.over rows[k].e.name=gs at UU ⊢;cases gs with
   | nil =>
    have HN:Hid (aP (ag rs) typ (ai rows)=false):=by show _=_; rw [HD.out,UU.out,VU.out]; rfl
    go_wp2;go_ret;exact ⟨by rw [HN.out]; rfl,HB2.out⟩
   | cons g gs =>
    have Tu:Hid (aP (ag rs) typ (ai (rows.drop (k + 1)))=aP (ag rs) typ (ai rows)):=by show _=_; rw [HD.out,UU.out,VU.out]; rfl
    have hlz:(((g::gs).length:Int) == 0)=false:=by
     have:¬ (((g::gs).length:Int)=0):=by simp; omega
     simpa using this
    obtain ⟨ln,hln⟩:∃ ln,ln=(g::gs).length:=⟨_,rfl⟩;rw [← hln] at hlz ⊢;clear hln;go_wp2;go_roundw;case rel=>exact ⟨k + 1,by omega,by go_num,Tu,HB2⟩
    simp [intOf] <;> omega
  have hq3:(rows[k].e.kind == 3)=false:=by simpa using h3
  have UU:Hid (lI (ag rs) typ rows[k].e=true):=by show _=_; unfold lI; rw [if_neg h2,if_neg h3]
  have Tu:Hid (aP (ag rs) typ (ai (rows.drop (k + 1)))=aP (ag rs) typ (ai rows)):=by show _=_; rw [HD.out,UU.out,VU.out]; rfl
  have TH:Hid (aa w (wr.alloc (.cells #[.int .i64 rows[k].e.kind,.slice rows[k].adA rows[k].e.allow.length rows[k].capA,.string rows[k].e.over,.string rows[k].e.name,.slice rows[k].adK rows[k].e.kids.length rows[k].capK] 190))):=by rw [← hW1]; exact Tt
  clear hW1;go_wp2;go_roundw;case rel=>exact ⟨k + 1,by omega,by go_num,Tu,TH⟩
  simp [intOf] <;> omega
 have HN:Hid (aP (ag rs) typ (ai rows)=true):=by show _=_; rw [← HP.out,List.drop_of_length_le (by omega)]; rfl
 go_wp2;go_ret;exact ⟨by rw [HN.out]; rfl,HB.out⟩
end Go.Proofs.YtdmniljjnaebbaaGreatDoor
