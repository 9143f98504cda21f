/- Contracts of the program's functions on goals and on what a schema names. -/
import Derived.Test.YtajkkeikihhejaaGreatSq
import Derived.Test.YtajkkeikihhejaaGreatJ14
import Derived.Test.YtajkkeikihhejaaGreatJ11
open Go.Proofs.Tryz
set_option maxHeartbeats 80000000
namespace Go.Proofs.YtajkkeikihhejaaGreat
open Go.ChangeShapes Go.WideShapes Go.ChangeAt Go.RowKit Go.Maps
open Pl
def gy (ts:List Ty)(ty over rel:ByteArray):List ByteArray:=if bz (aB ts ty over) then ig ts ty over rel else []
theorem LW:(prog.info? 9).map (fun i=>(i.zero,i.size,i.bytes))=some (some (.string ⟨#[]⟩),1,16):=by kernel_rfl
theorem Jf (r:ER)(h:bz (aj [r])=true):aU (aj [r])=r.e.allow/\r.e.kind=1:=by
 simp only [aj,List.map_cons,List.map_nil,bz,Ug,Um]at h;exact ⟨by simp [aj,aU,h.1],h.1⟩
theorem Jg {rows:List ER}(h:bz (aj rows)=true):∃ r,rows=[r]:=by
 rcases rows with _|⟨r,_|⟨r2,rs⟩⟩
 ·simp [aj,bz]at h
 ·exact ⟨r,rfl⟩
 simp [aj,bz]at h
set_option maxRecDepth 100000 in
theorem xQ (b n:Nat)(rs:List TR)(ad:Option Addr)(M:ByteArray×ByteArray->Option Value)(typ:bI)(x:ER)(w:af)(hV:aO dS prog 94 w b n M)(hT:Tab rs M)(hs:kX w ad rs)(hl:∀ r∈rs,r.light)(hf:∀ r∈rs,r.fits)(ht:typ.size<=maxLen)(ho:x.e.over.size<=maxLen)(hn:x.e.name.size<=maxLen) :
  Calls prog 185 #[.map (some b),.string typ,x.val] w fun e w'=>(∃ (UX:Option Addr) (cap':Nat),e=.returned (.slice UX (gy (ae rs) typ x.e.over x.e.name).length cap')/\Sv w' UX (gy (ae rs) typ x.e.over x.e.name)/\∀ p,UX=some p->w.heap.size<=p.block)/\ag w w':=by
 have HV:Hid (aO dS prog 94 w b n M):=hV;have HT:=aA hT;have HS:=aA hs;have HL:=aA hl;have UY:=aA hf;obtain ⟨kl,hkl⟩:=jC (typ,x.e.over) ht ho;have VD:Hid (keyOf prog 94 (dS (typ,x.e.over))=some kl):=hkl;clear hkl hV hT hs hl hf;obtain ⟨i0,hi,hz0,hz1,hz2⟩:=info_parts LW;obtain ⟨W0,hW0⟩:∃ W0,W0=w.alloc (.cells #[.int .i64 x.e.kind,.slice x.adA x.e.allow.length x.capA,.string x.e.over,.string x.e.name,.slice x.adK x.e.kids.length x.capK] 39):=⟨_,rfl⟩;have hal:ag w W0:=by rw [hW0];exact (Uf _ _).alloc (Ue _) _
 have HB0:=aA hal;have HV0:=aA (HV.out.below hal);have c3:W0.cell? ⟨w.heap.size,3,none⟩=some (.string x.e.name):=by rw [hW0];simp
 have hg0:w.heap.size<W0.heap.size:=by rw [hW0];simp
 -- what lies in the table
 obtain ⟨rows,UO,capE,HM,HE,HF,HFL⟩:∃ (rows:List ER) (UO:Option Addr) (capE:Nat),Hid ((M (typ,x.e.over)).getD (.slice none 0 0)=.slice UO rows.length capE)/\Hid (aj rows=aB (ae rs) typ x.e.over)/\Hid (pV rs UO rows)/\Hid (∀ q∈rows,q.e.fits):=by
  cases e:M (typ,x.e.over) with
  | none=>exact ⟨[],none,0,rfl,by show _=_;unfold aB;rw [HT.out.no _ e];rfl,.inl rfl,by show ∀ _,_;simp⟩
  | some v =>
   obtain ⟨t,htm,q,hq,-,rfl,e1,-⟩:=HT.out.yes _ v e;exact ⟨q.rows,q.ad,q.cap,rfl,by show _=_;unfold aB;rw [e1];rfl,.inr ⟨t,htm,q,hq,rfl,rfl⟩,((UY.out t htm).2.2 q hq).2.2⟩
 have WU:Hid (iC W0 UO rows):=HF.out.sl (HS.out.below hal);have Vs:=HF.out.light HL.out;have HLE1:rows.length<=1048576:=Vs.1;have HLE2:Hid (∀ q∈rows,q.e.light):=Vs.2;clear Vs hal;go_enter func185,ntmps185;unfold ER.val;go_wp2_with (at_lookup;rw [<-hW0];refine jB _ rfl _ _ 91 rfl 94 33 ic underlying91 (lF _) b n M rfl HV0.out (typ,x.e.over) kl rfl VD.out ?_;rw [HM.out];clear hW0);refine (uS UO capE rows _ HLE1 WU.out HLE2.out).mono ?_;rintro e w1 ⟨rfl,hb1⟩;have HB1:=jP HB0 hb1;have HNM:Hid (w1.cell? ⟨w.heap.size,3,none⟩=some (.string x.e.name)/\w.heap.size<w1.heap.size):=⟨aH hb1 hg0 c3,Uc hg0 hb1.size⟩;clear hb1 c3 hg0;cases hd:bz (aj rows);case false=>
  have HG:Hid (gy (ae rs) typ x.e.over x.e.name=[]):=by show _=_;unfold gy;rw [<-HE.out,hd];rfl
  go_wp2;go_ret;refine ⟨⟨none,0,by rw [HG.out];rfl,by rw [HG.out];exact .inl rfl,fun p hp=>by cases hp⟩,HB1.out⟩
 obtain ⟨r,rfl⟩:=Jg hd;have HG:Hid (gy (ae rs) typ x.e.over x.e.name=gl (ae rs) x.e.name r.e.allow):=by
  show _=_;unfold gy ig;rw [<-HE.out,hd,if_pos rfl,(Jf r hd).1]
 rcases WU.out with h|⟨bE,offE,rfl,hbE,hrE,hokE⟩
 ·cases h
 have HSW:Hid (iC w1 (some ⟨bE,offE,none⟩) [r]):=HF.out.sl (HS.out.below HB1.out);rcases HSW.out with h|⟨bE',offE',heE,hbE1,hrE1,hokE1⟩
 ·cases h
 injection heE with heE;injection heE with heE1 heE2;subst heE1;subst heE2;obtain ⟨s0,s1,s2,s3,s4⟩:=hrE1 0 (by simp);simp only [Nat.zero_mul,Nat.add_zero,List.getElem_cons_zero]at s0 s1 s2 s3 s4;have HOKR:Hid (r.ok w):=by
  have h1:=HF.out.sl HS.out;exact h1.mem (by simp)
 have lgA:r.e.allow.length<=1048576:=(HLE2.out r (by simp)).1;have HFA:Hid (∀ a∈r.e.allow,a.fits):=(HFL.out r (by simp)).1;have hone:([r]:List ER).length=1:=rfl;rw [hone];clear hrE hokE hrE1 hokE1 HE HM hd hbE;go_wp2_with fail;go_loopw [8,25] (fun v i wr=>∃ k:Nat,k<=r.e.allow.length/\i=.int .i64 k/\Hid (wr.ownsRow w.heap.size 9 1 v (gl (ae rs) x.e.name (r.e.allow.take k)).length (qB (gl (ae rs) x.e.name (r.e.allow.take k))))/\Hid (ag w wr)/\Hid (wr.cell? ⟨w.heap.size,3,none⟩=some (.string x.e.name)/\w.heap.size<wr.heap.size/\v.ownBlock≠some w.heap.size)) (fun _ i _=>r.e.allow.length-(intOf i).toNat);case atStart=>exact ⟨0,Ui _,rfl,World.ownsRow_nil _ _ _ _,HB1,HNM.out.1,HNM.out.2,by simp [Value.ownBlock]⟩
 clear HB1 HNM s0 s1 s2 s3 s4;obtain ⟨k,hk,rfl,HOW,HB,HC⟩:=hrel;by_cases hlt:k<r.e.allow.length
 ·rcases (HOKR.out.1).below HB.out with hnil|⟨ba,WH,had,WA,hra⟩
  ·rw [hnil]at hlt;simp at hlt
  obtain ⟨t0,t1⟩:=hra k hlt;have hk1:=bF k;have hk2:(k:Int)<(r.e.allow.length:Int):=by omega
  have zA:=HFA.out _ (Ud hlt);have z1:r.e.allow[k].t.size<=maxLen:=zA.1;obtain ⟨hc3,hcl,hco⟩:=HC.out;obtain ⟨W1,hW1⟩:∃ W1,W1=wr.alloc (.cells #[.string r.e.allow[k].t,.string r.e.allow[k].s] 43):=⟨_,rfl⟩;have hal:ag wr W1:=by rw [hW1];exact (Uf _ _).alloc (Ue _) _
  have UU:=jP HB hal;have HVW:=aA (HV.out.below UU.out);have WS:Hid (W1.ownsRow w.heap.size 9 1 u8 (gl (ae rs) x.e.name (r.e.allow.take k)).length (qB (gl (ae rs) x.e.name (r.e.allow.take k)))):=own_below HOW.out hal;have g0:W1.cell? ⟨wr.heap.size,0,none⟩=some (.string r.e.allow[k].t):=by rw [hW1];simp
  have g3:=aH hal hcl hc3;have hgl1:wr.heap.size<W1.heap.size:=by rw [hW1];simp
  have hgl:=Ir (ae rs) x.e.name (r.e.allow.take k);rw [UF]at hgl;have HI:=HT.out.some_iff (r.e.allow[k].t,x.e.name);have hwsz:w.heap.size<=W1.heap.size:=UU.out.size;rw [had];clear hra hal HC HOW;go_wp2_with fail;rw [<-hW1];refine (yN b n M r.e.allow[k].t x.e.name _ z1 hn HVW.out).mono ?_;rintro e w' ⟨rfl,hw'⟩;rw [hw'];clear hw' w' hW1 t0 t1 hc3;cases hz:(M (r.e.allow[k].t,x.e.name)).isSome;case false=>
   have HE:Hid (gl (ae rs) x.e.name (r.e.allow.take (k+1))=gl (ae rs) x.e.name (r.e.allow.take k)):=by
    refine RG _ _ _ _ hlt ?_;rw [hz]at HI;simpa using HI.symm
   clear HI;go_wp2;go_roundw;case rel=>exact ⟨k+1,by omega,by go_num,by rw [HE.out];exact WS,UU,g3,by omega,hco⟩
   simp [intOf] <;> omega
  have HX:Hid (gl (ae rs) x.e.name (r.e.allow.take (k+1))=gl (ae rs) x.e.name (r.e.allow.take k)++[r.e.allow[k].t]):=by
   refine Oe _ _ _ _ hlt ?_;rw [hz]at HI;simpa using HI.symm
  clear HI;go_wp2_with (at_builtin;refine wpList_append_own_at _ rfl _ _ 142 rfl w.heap.size 9 i0 (.string ⟨#[]⟩) 1 16 underlying142 hi hz0 hz1 hz2 rfl (by decide) _ _ _ rfl (WS.out.alloc _) ⟨W1.heap.size,0,none⟩ 1 1 [.string r.e.allow[k].t] rfl rfl (cell_one_new _ _ _) (by intro u hu;simp at hu;subst hu;rfl) (by unfold maxLen;omega) (by omega) (by simp;omega) ?_);intro v' w3 hown3 hgrow _ hloc;have hb3:Hid (ag w w3):=(UU.out.alloc UU.out.size _).grown hgrow (by simp;omega) (fun i hi=>(WS.out.lt i hi).1);have U9:Hid (w3.ownsRow w.heap.size 9 1 v' (gl (ae rs) x.e.name (r.e.allow.take (k+1))).length (qB (gl (ae rs) x.e.name (r.e.allow.take (k+1))))):=by
   show World.ownsRow _ _ _ _ _ _ _;rw [HX.out];simpa [qB] using hown3
  have XT:Hid (w3.cell? ⟨w.heap.size,3,none⟩=some (.string x.e.name)/\w.heap.size<w3.heap.size/\v'.ownBlock≠some w.heap.size):=by
   refine ⟨?_,?_,?_⟩
   ·rw [hgrow.cell_far _ (by simp;omega) (Ne.symm hco)];exact aH ((Uf _ _).alloc (Ue _) _) (by omega) g3
   ·have:=hgrow.size;simp at this;omega
   rcases hloc with e|e
   ·rw [e];exact hco
   rw [e];simp;omega
  clear hown3 hgrow hloc WS g0 g3;go_wp2;go_roundw;case rel=>exact ⟨k+1,by omega,by go_num,U9,hb3,XT⟩
  simp [intOf] <;> omega
 obtain rfl:k=r.e.allow.length:=by omega
 have hown:=HOW.out;rw [Us]at hown;obtain ⟨UX,cp,rfl,hS',hN'⟩:=Og hown;have HS2:=aA hS';have Wq:Hid (∀ p,UX=some p->w.heap.size<=p.block):=hN';clear hown HOW hS' hN' HC;go_wp2;go_ret;refine ⟨⟨UX,cp,by rw [HG.out];rfl,by rw [HG.out];exact HS2.out,Wq.out⟩,HB.out⟩
theorem Ar (t:TR)(g:Nat)(nm:bI)(w:af)(hg:g<w.heap.size)(hc:w.cell? ⟨g,0,none⟩=some (.string nm)) :
  Calls prog 223 #[.agg #[.string t.name,.slice t.ad t.rows.length t.cap],.pointer (some ⟨g,0,none⟩)] w fun e w'=>e=.returned (.bool (t.name.toList==nm.toList))/\ag w w':=by
 go_enter func223,ntmps223;go_wp2;go_ret;exact ⟨rfl,(Uf _ _).alloc (Ue _) _⟩
theorem C9 (rs:List TR)(k:Nat)(h:k<rs.length)(nm:bI):lh (ae (rs.drop k)) nm=((rs[k].name.toList==nm.toList) || lh (ae (rs.drop (k+1))) nm):=by
 rw [nV _ _ h];rfl
theorem Au (ad:Option Addr)(cap:Nat)(rs:List TR)(g:Nat)(nm:bI)(w:af)(hlen:rs.length<=1048576)(hs:kX w ad rs)(hg:g<w.heap.size)(hc:w.cell? ⟨g,0,none⟩=some (.string nm)) :
  Calls prog 241 #[.slice ad rs.length cap,.func (Fn.func 223) #[] #[.pointer (some ⟨g,0,none⟩)]] w fun e w'=>(∃ r:Int,e=.returned (.int .i64 r)/\decide (0<=r)=lh (ae rs) nm)/\ag w w':=by
 have HS:=aA hs;have HC:Hid (w.cell? ⟨g,0,none⟩=some (.string nm)):=hc;clear hs hc;go_enter func241,ntmps241;go_wp2_with fail;go_loopw [8] (fun i wr=>∃ k:Nat,k<=rs.length/\i=.int .i64 k/\Hid (lh (ae (rs.drop k)) nm=lh (ae rs) nm)/\Hid (ag w wr)) (fun i _=>rs.length-(intOf i).toNat);case atStart=>exact ⟨0,Ui _,rfl,rfl,Uf _ _⟩
 obtain ⟨k,hk,rfl,HP,HB⟩:=hrel;by_cases hlt:k<rs.length
 ·rcases HS.out.below HB.out with rfl|⟨b,off,rfl,hb,hr,-⟩
  ·simp at hlt
  obtain ⟨t0,t1⟩:=hr k hlt;have hk1:=bF k;have hk2:(k:Int)<(rs.length:Int):=by omega
  have HCW:Hid (wr.cell? ⟨g,0,none⟩=some (.string nm)):=aH HB.out hg HC.out;have HGW:Hid (g<wr.heap.size):=Uc hg HB.out.size;clear hr;cases he:(rs[k].name.toList==nm.toList);case true=>
   have HN:Hid (lh (ae rs) nm=true):=by show _=_;rw [<-HP.out,C9 _ _ hlt,he];rfl
   go_wp2_with (go_at_call 223;refine (Ar rs[k] g nm _ HGW.out HCW.out).mono ?_;rintro e w' ⟨he2,hbx⟩;rw [he]at he2;subst he2);go_ret;exact ⟨⟨k,rfl,by rw [HN.out];simp⟩,HB.out.trans (hbx.mono HB.out.size)⟩
  have UW:Hid (lh (ae (rs.drop (k+1))) nm=lh (ae rs) nm):=by show _=_;rw [<-HP.out,C9 _ _ hlt,he];rfl
  go_wp2_with (go_at_call 223;refine (Ar rs[k] g nm _ HGW.out HCW.out).mono ?_;rintro e w' ⟨he2,hbx⟩;rw [he]at he2;subst he2);go_roundw;case rel=>exact ⟨k+1,by omega,by go_num,UW,HB.out.trans (hbx.mono HB.out.size)⟩
  simp [intOf] <;> omega
 have HN:Hid (lh (ae rs) nm=false):=by show _=_;rw [<-HP.out,List.drop_of_length_le (by omega)];rfl
 go_wp2;go_ret;exact ⟨⟨-1,rfl,by rw [HN.out];simp⟩,HB.out⟩
theorem vD (ad:Option Addr)(cap:Nat)(rs:List TR)(g:Nat)(nm:bI)(w:af)(hlen:rs.length<=1048576)(hs:kX w ad rs)(hg:g<w.heap.size)(hc:w.cell? ⟨g,0,none⟩=some (.string nm)) :
  Calls prog 222 #[.slice ad rs.length cap,.func (Fn.func 223) #[] #[.pointer (some ⟨g,0,none⟩)]] w fun e w'=>e=.returned (.bool (lh (ae rs) nm))/\ag w w':=by
 go_enter func222,ntmps222;go_wp2_with fail;refine (Au ad cap rs g nm _ hlen hs hg hc).mono ?_;rintro e w' ⟨⟨r,rfl,hr⟩,hbx⟩;have HR:Hid (decide (0<=r)=lh (ae rs) nm):=hr;clear hr hs hc;go_wp2;go_ret;exact ⟨by rw [<-HR.out];rfl,hbx⟩
set_option maxRecDepth 100000 in
theorem Av (ad adA:Option Addr)(cap capA:Nat)(rs:List TR)(b n:Nat)(M:ByteArray×ByteArray->Option Value)(xs:List Al)(w:af)(hlen:rs.length<=1048576)(hs:kX w ad rs)(hV:aO dS prog 94 w b n M)(hT:Tab rs M)(hla:xs.length<=1048576)(hsa:jM w adA xs)(hfa:∀ a∈xs,a.fits) :
  Calls prog 183 #[.slice ad rs.length cap,.map (some b),.slice adA xs.length capA] w fun e w'=>e=.returned (.bool (o6 (ae rs) xs))/\ag w w':=by
 have HS:=aA hs;have HV:Hid (aO dS prog 94 w b n M):=hV;have HT:=aA hT;have HA:=aA hsa;have HFA:=aA hfa;clear hs hV hT hsa hfa;go_enter func183,ntmps183;go_wp2_with fail;go_loopw [11] (fun i wr=>∃ k:Nat,k<=xs.length/\i=.int .i64 k/\Hid (nW (ae rs) xs k=true)/\Hid (ag w wr)) (fun i _=>xs.length-(intOf i).toNat);case atStart=>exact ⟨0,Ui _,rfl,zH _ _,Uf _ _⟩
 obtain ⟨k,hk,rfl,HP,HB⟩:=hrel;by_cases hlt:k<xs.length
 ·rcases HA.out.below HB.out with rfl|⟨ba,WH,rfl,WA,hra⟩
  ·simp at hlt
  obtain ⟨t0,t1⟩:=hra k hlt;have hk1:=bF k;have hk2:(k:Int)<(xs.length:Int):=by omega
  have zA:=HFA.out _ (Ud hlt);have z1:xs[k].t.size<=maxLen:=zA.1;have z2:xs[k].s.size<=maxLen:=zA.2;have HI:Hid ((M (xs[k].t,xs[k].s)).isSome=!(aB (ae rs) xs[k].t xs[k].s).isEmpty):=HT.out.some_iff (xs[k].t,xs[k].s);obtain ⟨W1,hW1⟩:∃ W1,W1=wr.alloc (.cells #[.string xs[k].t,.string xs[k].s] 43):=⟨_,rfl⟩;have hal:ag wr W1:=by rw [hW1];exact (Uf _ _).alloc (Ue _) _
  have UU:=jP HB hal;have g0:W1.cell? ⟨wr.heap.size,0,none⟩=some (.string xs[k].t):=by rw [hW1];simp
  have g1:W1.cell? ⟨wr.heap.size,1,none⟩=some (.string xs[k].s):=by rw [hW1];simp
  have hgl:wr.heap.size<W1.heap.size:=by rw [hW1];simp
  clear hra hal zA;go_wp2_with fail;rw [<-hW1];clear hW1 t0 t1;refine (vD ad cap rs wr.heap.size xs[k].t _ hlen (HS.out.below UU.out) hgl g0).mono ?_;rintro e w2 ⟨rfl,hb2⟩;have HB2:=jP UU hb2;replace g0:=aH hb2 hgl g0;replace g1:=aH hb2 hgl g1;have Zh:=aA (HV.out.below HB2.out);clear hb2 hgl;cases ht:lh (ae rs) xs[k].t;case false=>
   have HN:Hid (o6 (ae rs) xs=false):=uP _ _ k hlt (by simp [pW,ht]);go_wp2;go_ret;exact ⟨by rw [HN.out];rfl,HB2.out⟩
  cases he:xs[k].s.toList.isEmpty;case true=>
   have UW:Hid (nW (ae rs) xs (k+1)=true):=by show _=_;rw [o7 _ _ _ hlt,HP.out];simp [pW,ht,he]
   go_wp2;go_roundw;case rel=>exact ⟨k+1,by omega,by go_num,UW,HB2⟩
   simp [intOf] <;> omega
  cases hz:(M (xs[k].t,xs[k].s)).isSome;case false=>
   have HN:Hid (o6 (ae rs) xs=false):=uP _ _ k hlt (by have:=HI.out;rw [hz]at this;simp [pW,ht,he];simpa using this.symm);go_wp2_with (go_at_call 184;refine (yN b n M xs[k].t xs[k].s _ z1 z2 Zh.out).mono ?_;rintro e w' ⟨he2,rfl⟩;rw [hz]at he2;subst he2);go_ret;exact ⟨by rw [HN.out];rfl,HB2.out⟩
  have UW:Hid (nW (ae rs) xs (k+1)=true):=by show _=_;rw [o7 _ _ _ hlt,HP.out];have:=HI.out;rw [hz]at this;simp [pW,ht,he];simpa using this.symm
  go_wp2_with (go_at_call 184;refine (yN b n M xs[k].t xs[k].s _ z1 z2 Zh.out).mono ?_;rintro e w' ⟨he2,rfl⟩;rw [hz]at he2;subst he2);go_roundw;case rel=>exact ⟨k+1,by omega,by go_num,UW,HB2⟩
  simp [intOf] <;> omega
 have HN:Hid (o6 (ae rs) xs=true):=by
  have:=HP.out;obtain rfl:k=xs.length:=by omega
  unfold nW at this;rw [Us]at this;exact this
 go_wp2;go_ret;exact ⟨by rw [HN.out];rfl,HB.out⟩
theorem uf {e:Ex}(h:av e=true)(h1:e.kind≠1):e.allow=[]:=by
 unfold av at h;rw [if_neg h1]at h;split at h
 ·simp only [Ug,Um]at h;exact Uu.1 h.1.1.2
 split at h
 ·simp only [Ug,Um]at h;exact Uu.1 h.1.2
 split at h
 ·simp only [Ug,Um]at h;exact Uu.1 h.1.1.2
 split at h
 ·simp only [Ug,Um]at h;exact Uu.1 h.1.1.2
 cases h
theorem Jh (ts:List Ty)(typ:bI)(rows:List ER)(k:Nat)(h:k<rows.length):aS ts typ (aj (rows.drop k))=if o6 ts rows[k].e.allow&&ll ts typ rows[k].e then aS ts typ (aj (rows.drop (k+1))) else false:=by
 rw [gI _ _ h];rfl
theorem Gp (ts:List Ty)(typ:bI)(e:Ex)(h:e.kind=3):ll ts typ e=!(gy ts typ e.over e.name).isEmpty:=by
 unfold ll gy;rw [if_neg (by omega),if_pos h];cases bz (aB ts typ e.over) <;> simp
set_option maxRecDepth 100000 in
theorem Aw (ad UO:Option Addr)(cap capE:Nat)(rs:List TR)(b n:Nat)(M:ByteArray×ByteArray->Option Value)(typ:bI)(rows:List ER)(w:af)(hlen:rs.length<=1048576)(hs:kX w ad rs)(hl:∀ r∈rs,r.light)(hf:∀ r∈rs,r.fits)(hV:aO dS prog 94 w b n M)(hT:Tab rs M)(ht:typ.size<=maxLen)(hle:rows.length<=1048576)(hse:iC w UO rows)(ZZ:∀ q∈rows,q.e.light)(hfE:∀ q∈rows,q.e.fits)(hnb:∀ q∈rows,av q.e=true) :
  Calls prog 132 #[.slice ad rs.length cap,.map (some b),.string typ,.slice UO rows.length capE] w fun e w'=>e=.returned (.bool (aS (ae rs) typ (aj rows)))/\ag w w':=by
 have HS:=aA hs;have HL:=aA hl;have UY:=aA hf;have HV:Hid (aO dS prog 94 w b n M):=hV;have HT:=aA hT;have HE:=aA hse;have Vs:=aA ZZ;have WZ:=aA hfE;have HNB:Hid (∀ q∈rows,av q.e=true):=hnb;clear hs hl hf hV hT hse ZZ hfE hnb;go_enter func132,ntmps132;go_wp2_with fail;go_loopw [13] (fun i wr=>∃ k:Nat,k<=rows.length/\i=.int .i64 k/\Hid (aS (ae rs) typ (aj (rows.drop k))=aS (ae rs) typ (aj rows))/\Hid (ag w wr)) (fun i _=>rows.length-(intOf i).toNat);case atStart=>exact ⟨0,Ui _,rfl,rfl,Uf _ _⟩
 obtain ⟨k,hk,rfl,HP,HB⟩:=hrel;by_cases hlt:k<rows.length
 ·rcases HE.out.below HB.out with rfl|⟨bE,offE,rfl,hbE,hrE,hokE⟩
  ·simp at hlt
  obtain ⟨t0,t1,t2,t3,t4⟩:=hrE k hlt;have HOKW:Hid (rows[k].ok w):=HE.out.mem (Ud hlt);have hk1:=bF k;have hk2:(k:Int)<(rows.length:Int):=by omega
  have lgA:rows[k].e.allow.length<=1048576:=(Vs.out _ (Ud hlt)).1;have HFK:Hid (rows[k].e.fits):=WZ.out _ (Ud hlt);have HNK:Hid (av rows[k].e=true):=HNB.out _ (Ud hlt);have HDR:=Jh (ae rs) typ rows k hlt;have HD:Hid (aS (ae rs) typ (aj rows)=if o6 (ae rs) rows[k].e.allow&&ll (ae rs) typ rows[k].e then aS (ae rs) typ (aj (rows.drop (k+1))) else false):=by show _=_;rw [<-HP.out];exact HDR
  obtain ⟨W1,hW1⟩:∃ W1,W1=wr.alloc (.cells #[.int .i64 rows[k].e.kind,.slice rows[k].adA rows[k].e.allow.length rows[k].capA,.string rows[k].e.over,.string rows[k].e.name,.slice rows[k].adK rows[k].e.kids.length rows[k].capK] 39):=⟨_,rfl⟩;have hal:ag wr W1:=by rw [hW1];exact (Uf _ _).alloc (Ue _) _
  have UU:=jP HB hal;have HVW:=aA (HV.out.below UU.out);have zO:rows[k].e.over.size<=maxLen:=HFK.out.2.1;have zN:rows[k].e.name.size<=maxLen:=HFK.out.2.2.1;clear hrE hokE hal HDR;by_cases h1:rows[k].e.kind=1
  ·have Wp:Hid (ll (ae rs) typ rows[k].e=true):=by show _=_;unfold ll;rw [if_neg (by omega),if_neg (by omega)]
   have hq1:(rows[k].e.kind==1)=true:=by simpa using h1
   replace h1:Hid (rows[k].e.kind=1):=h1;go_wp2_with fail;rw [<-hW1];refine (Av ad rows[k].adA cap rows[k].capA rs b n M rows[k].e.allow _ hlen (HS.out.below UU.out) HVW.out HT.out lgA (HOKW.out.1.below UU.out) HFK.out.1).mono ?_;rintro e w2 ⟨rfl,hb2⟩;have HB2:=jP UU hb2;clear hb2 hW1 t0 t1 t2 t3 t4;cases hz:o6 (ae rs) rows[k].e.allow;case false=>
    have HN:Hid (aS (ae rs) typ (aj rows)=false):=by show _=_;rw [HD.out,hz];rfl
    go_wp2;go_ret;exact ⟨by rw [HN.out];rfl,HB2.out⟩
   have UW:Hid (aS (ae rs) typ (aj (rows.drop (k+1)))=aS (ae rs) typ (aj rows)):=by show _=_;rw [HD.out,hz,Wp.out];rfl
   go_wp2;go_roundw;case rel=>exact ⟨k+1,by omega,by go_num,UW,HB2⟩
   simp [intOf] <;> omega
  have hq1:(rows[k].e.kind==1)=false:=by simpa using h1
  have Xz:Hid (o6 (ae rs) rows[k].e.allow=true):=by show _=_;rw [uf HNK.out h1];rfl
  by_cases h2:rows[k].e.kind=2
  ·have hq2:(rows[k].e.kind==2)=true:=by simpa using h2
   have HI:=HT.out.some_iff (typ,rows[k].e.name);have Wp:Hid (ll (ae rs) typ rows[k].e=(M (typ,rows[k].e.name)).isSome):=by show _=_;unfold ll;rw [if_pos h2,HI]
   clear HI;replace h2:Hid (rows[k].e.kind=2):=h2;go_wp2_with fail;rw [<-hW1];refine (yN b n M typ rows[k].e.name _ ht zN HVW.out).mono ?_;rintro e w2 ⟨rfl,hw2⟩;rw [hw2];clear hw2 w2 hW1 t0 t1 t2 t3 t4;cases hz:(M (typ,rows[k].e.name)).isSome;case false=>
    have HN:Hid (aS (ae rs) typ (aj rows)=false):=by show _=_;rw [HD.out,Wp.out,hz,Xz.out];rfl
    go_wp2;go_ret;exact ⟨by rw [HN.out];rfl,UU.out⟩
   have UW:Hid (aS (ae rs) typ (aj (rows.drop (k+1)))=aS (ae rs) typ (aj rows)):=by show _=_;rw [HD.out,Wp.out,hz,Xz.out];rfl
   go_wp2;go_roundw;case rel=>exact ⟨k+1,by omega,by go_num,UW,UU⟩
   simp [intOf] <;> omega
  have hq2:(rows[k].e.kind==2)=false:=by simpa using h2
  by_cases h3:rows[k].e.kind=3
  ·have hq3:(rows[k].e.kind==3)=true:=by simpa using h3
   have Wp:Hid (ll (ae rs) typ rows[k].e=!(gy (ae rs) typ rows[k].e.over rows[k].e.name).isEmpty):=Gp _ _ _ h3;replace h3:Hid (rows[k].e.kind=3):=h3;go_wp2_with fail;rw [<-hW1];refine (xQ b n rs ad M typ rows[k] _ HVW.out HT.out (HS.out.below UU.out) HL.out UY.out ht zO zN).mono ?_;rintro e w2 ⟨⟨UX,cap',rfl,-,-⟩,hb2⟩;have HB2:=jP UU hb2;clear hb2 hW1 t0 t1 t2 t3 t4;generalize gy (ae rs) typ rows[k].e.over rows[k].e.name=gs at Wp ⊢;cases gs with
   | nil =>
    have HN:Hid (aS (ae rs) typ (aj rows)=false):=by show _=_;rw [HD.out,Wp.out,Xz.out];rfl
    go_wp2;go_ret;exact ⟨by rw [HN.out];rfl,HB2.out⟩
   | cons g gs =>
    have UW:Hid (aS (ae rs) typ (aj (rows.drop (k+1)))=aS (ae rs) typ (aj rows)):=by show _=_;rw [HD.out,Wp.out,Xz.out];rfl
    have hlz:(((g::gs).length:Int)==0)=false:=by
     have:¬ (((g::gs).length:Int)=0):=by simp;omega
     simpa using this
    obtain ⟨ln,hln⟩:∃ ln,ln=(g::gs).length:=⟨_,rfl⟩;rw [<-hln]at hlz ⊢;clear hln;go_wp2;go_roundw;case rel=>exact ⟨k+1,by omega,by go_num,UW,HB2⟩
    simp [intOf] <;> omega
  have hq3:(rows[k].e.kind==3)=false:=by simpa using h3
  have Wp:Hid (ll (ae rs) typ rows[k].e=true):=by show _=_;unfold ll;rw [if_neg h2,if_neg h3]
  have UW:Hid (aS (ae rs) typ (aj (rows.drop (k+1)))=aS (ae rs) typ (aj rows)):=by show _=_;rw [HD.out,Wp.out,Xz.out];rfl
  have Vg:Hid (ag w (wr.alloc (.cells #[.int .i64 rows[k].e.kind,.slice rows[k].adA rows[k].e.allow.length rows[k].capA,.string rows[k].e.over,.string rows[k].e.name,.slice rows[k].adK rows[k].e.kids.length rows[k].capK] 39))):=by rw [<-hW1];exact UU
  clear hW1;go_wp2;go_roundw;case rel=>exact ⟨k+1,by omega,by go_num,UW,Vg⟩
  simp [intOf] <;> omega
 have HN:Hid (aS (ae rs) typ (aj rows)=true):=by show _=_;rw [<-HP.out,List.drop_of_length_le (by omega)];rfl
 go_wp2;go_ret;exact ⟨by rw [HN.out];rfl,HB.out⟩
def Al.cells (a:Al):List Value:=[.string a.t,.string a.s]
def iw:List Al->List Value
 | []=>[]
 | a::xs=>a.cells++iw xs
theorem Eu (xs ys:List Al):iw (xs++ys)=iw xs++iw ys:=by
 induction xs with
 | nil=>rfl
 | cons d ds ih=>simp [iw,ih]
theorem Ay (xs:List Al)(d:Al):iw (xs++[d])=iw xs++d.cells:=by rw [Eu];simp [iw]
theorem Da (xs:List Al)(i:Nat)(h:i<xs.length)(o:Nat)(ho:o<2):(iw xs)[i*2+o]?=(xs[i].cells)[o]?:=by
 induction xs generalizing i with
 | nil=>simp at h
 | cons s xs ih =>
  cases i with
  | zero =>
   simp only [iw,Nat.zero_mul,Uz,List.getElem_cons_zero];rw [List.getElem?_append_left (by simp [Al.cells];omega)]
  | succ i =>
   simp only [iw,List.getElem_cons_succ];rw [List.getElem?_append_right (by simp [Al.cells];omega)];have e:(i+1)*2+o-s.cells.length=i*2+o:=by simp [Al.cells];omega
   rw [e];exact ih i (by simpa using h)
theorem OM {w:af}{base:Nat}{v:Value}{xs:List Al}(h:w.ownsRow base 94 2 v xs.length (iw xs)):∃ ad cp,v=.slice ad xs.length cp/\jM w ad xs/\∀ p,ad=some p->base<=p.block:=by
 have h2:=h;rcases h.2 with ⟨rfl,h0⟩|⟨g,cp,cur,rfl,hbg,hg,hnc,-⟩
 ·exact ⟨none,0,by rw [h0],.inl (Uu.1 h0),fun p hp=>by cases hp⟩
 have hlt:=h2.lt g rfl;refine ⟨_,cp,rfl,.inr ⟨g,0,rfl,hlt.2,fun i hi=>?_⟩,fun p hp=>by injection hp with hp;rw [<-hp];exact hlt.1⟩;have h3:∀ (o:Nat) (u:Value),(iw xs)[i*2+o]?=some u->w.cell? ⟨g,0+i*2+o,none⟩=some u:=fun o u hu=>by
  have:=h2.cells (g:=g) rfl (i*2+o) u hu;rw [FW]at this;rw [Uz];exact this
 exact ⟨h3 0 _ (by have:=Da xs i hi 0 (by omega);simpa [Al.cells] using this),h3 1 _ (by have:=Da xs i hi 1 (by omega);simpa [Al.cells] using this)⟩
def dJ:List Al->List Al
 | []=>[]
 | a::xs=>if a.s.toList.isEmpty then dJ xs else a::dJ xs
theorem vF (xs ys:List Al):dJ (xs++ys)=dJ xs++dJ ys:=by
 induction xs with
 | nil=>rfl
 | cons a xs ih=>simp only [List.cons_append,dJ,ih];split <;> simp
theorem OO (xs:List Al)(k:Nat)(h:k<xs.length)(he:xs[k].s.toList.isEmpty=true):dJ (xs.take (k+1))=dJ (xs.take k):=by
 rw [Uh h,vF];simp [dJ]at he ⊢;simp [he]
theorem LX (xs:List Al)(k:Nat)(h:k<xs.length)(he:xs[k].s.toList.isEmpty=false):dJ (xs.take (k+1))=dJ (xs.take k)++[xs[k]]:=by
 rw [Uh h,vF];simp [dJ,he]
theorem Db (xs:List Al):(dJ xs).length<=xs.length:=by
 induction xs with
 | nil=>simp [dJ]
 | cons a xs ih=>simp only [dJ];split <;> simp <;> omega
def ji (ts:List Ty)(typ:ByteArray)(e:Ex):List Al :=
 if e.kind=1 then dJ e.allow else if e.kind=2 then [⟨typ,e.name⟩] else if e.kind=3 then (gy ts typ e.over e.name).map fun g=>⟨g,e.name⟩ else []
theorem OP:(prog.info? 94).map (fun i=>(i.zero,i.size,i.bytes))=some (some (.agg #[.string ⟨#[]⟩,.string ⟨#[]⟩]),2,32):=by kernel_rfl
theorem Ev (rs:List TR)(hl:∀ r∈rs,r.light)(typ over rel:bI):(gy (ae rs) typ over rel).length<=1048576:=by
 unfold gy;split
 ·exact xM rs hl typ over rel
 simp
theorem wY (w:af)(o o':Obj):((w.alloc o).alloc o').heap[w.heap.size+1]?=some o':=by
 have:=heap_alloc_new (w.alloc o) o';simpa using this
set_option maxRecDepth 100000 in
theorem Gq (b n:Nat)(rs:List TR)(ad:Option Addr)(M:ByteArray×ByteArray->Option Value)(typ:bI)(x:ER)(w:af)(hV:aO dS prog 94 w b n M)(hT:Tab rs M)(hs:kX w ad rs)(hl:∀ r∈rs,r.light)(hf:∀ r∈rs,r.fits)(ht:typ.size<=maxLen)(Y0:x.e.fits)(hxl:x.e.light)(hxo:x.ok w) :
  Calls prog 188 #[.map (some b),.string typ,x.val] w fun e w'=>(∃ (UX:Option Addr) (cap':Nat),e=.returned (.slice UX (ji (ae rs) typ x.e).length cap')/\jM w' UX (ji (ae rs) typ x.e)/\∀ p,UX=some p->w.heap.size<=p.block)/\ag w w':=by
 have HV:Hid (aO dS prog 94 w b n M):=hV;have HT:=aA hT;have HS:=aA hs;have HL:=aA hl;have UY:=aA hf;have XD:=aA Y0;have HXO:=aA hxo;have lgA:x.e.allow.length<=1048576:=hxl.1;clear hV hT hs hl hf Y0 hxo hxl;obtain ⟨i0,hi,hz0,hz1,hz2⟩:=info_parts OP;obtain ⟨W0,hW0⟩:∃ W0,W0=w.alloc (.cells #[.int .i64 x.e.kind,.slice x.adA x.e.allow.length x.capA,.string x.e.over,.string x.e.name,.slice x.adK x.e.kids.length x.capK] 39):=⟨_,rfl⟩;have hal:ag w W0:=by rw [hW0];exact (Uf _ _).alloc (Ue _) _
 have HB0:=aA hal;have hg0:w.heap.size<W0.heap.size:=by rw [hW0];simp
 have c0:W0.cell? ⟨w.heap.size,0,none⟩=some (.int .i64 x.e.kind):=by rw [hW0];simp
 have c1:W0.cell? ⟨w.heap.size,1,none⟩=some (.slice x.adA x.e.allow.length x.capA):=by rw [hW0];simp
 have c2:W0.cell? ⟨w.heap.size,2,none⟩=some (.string x.e.over):=by rw [hW0];simp
 have c3:W0.cell? ⟨w.heap.size,3,none⟩=some (.string x.e.name):=by rw [hW0];simp
 have c4:W0.cell? ⟨w.heap.size,4,none⟩=some (.slice x.adK x.e.kids.length x.capK):=by rw [hW0];simp
 clear hal;unfold ER.val;by_cases h1:x.e.kind=1
 ·have Yf:Hid (ji (ae rs) typ x.e=dJ x.e.allow):=by show _=_;unfold ji;rw [if_pos h1]
  have hq1:(x.e.kind==1)=true:=by simpa using h1
  replace h1:Hid (x.e.kind=1):=h1;go_enter func188,ntmps188;go_wp2_with fail;rw [<-hW0];clear hW0;go_loopw [7,19] (fun v i wr=>∃ k:Nat,k<=x.e.allow.length/\i=.int .i64 k/\Hid (wr.ownsRow w.heap.size 94 2 v (dJ (x.e.allow.take k)).length (iw (dJ (x.e.allow.take k))))/\Hid (ag w wr)) (fun _ i _=>x.e.allow.length-(intOf i).toNat);case atStart=>exact ⟨0,Ui _,rfl,World.ownsRow_nil _ _ _ _,HB0⟩
  clear HB0 c0 c1 c2 c3 c4 hg0;obtain ⟨k,hk,rfl,HOW,HB⟩:=hrel;by_cases hlt:k<x.e.allow.length
  ·rcases (HXO.out.1).below HB.out with hnil|⟨ba,WH,had,WA,hra⟩
   ·rw [hnil]at hlt;simp at hlt
   obtain ⟨t0,t1⟩:=hra k hlt;have hk1:=bF k;have hk2:(k:Int)<(x.e.allow.length:Int):=by omega
   obtain ⟨W1,hW1⟩:∃ W1,W1=wr.alloc (.cells #[.string x.e.allow[k].t,.string x.e.allow[k].s] 43):=⟨_,rfl⟩;have hal:ag wr W1:=by rw [hW1];exact (Uf _ _).alloc (Ue _) _
   have UU:=jP HB hal;have WS:Hid (W1.ownsRow w.heap.size 94 2 u7 (dJ (x.e.allow.take k)).length (iw (dJ (x.e.allow.take k)))):=own_below HOW.out hal;have g0:W1.cell? ⟨wr.heap.size,0,none⟩=some (.string x.e.allow[k].t):=by rw [hW1];simp
   have g1:W1.cell? ⟨wr.heap.size,1,none⟩=some (.string x.e.allow[k].s):=by rw [hW1];simp
   have hgl1:wr.heap.size<W1.heap.size:=by rw [hW1];simp
   have hgl:=Db (x.e.allow.take k);rw [UF]at hgl;have hwsz:w.heap.size<=W1.heap.size:=UU.out.size;rw [had];clear hra hal HOW;cases he:x.e.allow[k].s.toList.isEmpty;case true=>
    have HE:Hid (dJ (x.e.allow.take (k+1))=dJ (x.e.allow.take k)):=OO _ _ hlt he;have Vg:Hid (ag w (wr.alloc (.cells #[.string x.e.allow[k].t,.string x.e.allow[k].s] 43))):=by rw [<-hW1];exact UU
    have HOX:Hid ((wr.alloc (.cells #[.string x.e.allow[k].t,.string x.e.allow[k].s] 43)).ownsRow w.heap.size 94 2 u7 (dJ (x.e.allow.take (k+1))).length (iw (dJ (x.e.allow.take (k+1))))):=by rw [<-hW1,HE.out];exact WS
    clear hW1 g0 g1;go_wp2;go_roundw;case rel=>exact ⟨k+1,by omega,by go_num,HOX,Vg⟩
    simp [intOf] <;> omega
   have HX:Hid (dJ (x.e.allow.take (k+1))=dJ (x.e.allow.take k)++[x.e.allow[k]]):=LX _ _ hlt he;have HOX:Hid ((wr.alloc (.cells #[.string x.e.allow[k].t,.string x.e.allow[k].s] 43)).ownsRow w.heap.size 94 2 u7 (dJ (x.e.allow.take k)).length (iw (dJ (x.e.allow.take k)))):=by rw [<-hW1];exact WS
   have Vg:Hid (ag w (wr.alloc (.cells #[.string x.e.allow[k].t,.string x.e.allow[k].s] 43))):=by rw [<-hW1];exact UU
   have hws:w.heap.size<=wr.heap.size:=HB.out.size;clear hW1 WS UU g0 g1 hgl1 hwsz W1;go_wp2_with (at_builtin;refine wpList_append_own_at _ rfl _ _ 277 rfl w.heap.size 94 i0 _ 2 32 underlying277 hi hz0 hz1 hz2 rfl (by decide) _ _ _ rfl (HOX.out.alloc _) ⟨wr.heap.size+1,0,none⟩ 1 1 [.string x.e.allow[k].t,.string x.e.allow[k].s] rfl rfl (World.news_of_block (cs:=#[.string x.e.allow[k].t,.string x.e.allow[k].s]) (t:=94) (fr:=(0,0)) (wY wr _ _)) (by simp [Value.oneCell']) (by unfold maxLen;omega) (by omega) (by simp;omega) ?_);intro v' w3 hown3 hgrow _ hloc;have HB3:Hid (ag w w3):=(Vg.out.alloc Vg.out.size _).grown hgrow (by simp;omega) (fun i hi=>(HOX.out.lt i hi).1);have U9:Hid (w3.ownsRow w.heap.size 94 2 v' (dJ (x.e.allow.take (k+1))).length (iw (dJ (x.e.allow.take (k+1))))):=by
    show World.ownsRow _ _ _ _ _ _ _;rw [HX.out,Ay,Ul];exact hown3
   clear hown3 hgrow hloc HOX Vg;go_wp2;go_roundw;case rel=>exact ⟨k+1,by omega,by go_num,U9,HB3⟩
   simp [intOf] <;> omega
  obtain rfl:k=x.e.allow.length:=by omega
  have hown:=HOW.out;rw [Us]at hown;obtain ⟨UX,cp,rfl,hS',hN'⟩:=OM hown;have HS2:=aA hS';have Wq:Hid (∀ p,UX=some p->w.heap.size<=p.block):=hN';clear hown HOW hS' hN';go_wp2;go_ret;exact ⟨⟨UX,cp,by rw [Yf.out];rfl,by rw [Yf.out];exact HS2.out,Wq.out⟩,HB.out⟩
 have hq1:(x.e.kind==1)=false:=by simpa using h1
 by_cases h2:x.e.kind=2
 ·have Yf:Hid (ji (ae rs) typ x.e=[⟨typ,x.e.name⟩]):=by show _=_;unfold ji;rw [if_neg h1,if_pos h2]
  have hq2:(x.e.kind==2)=true:=by simpa using h2
  replace h2:Hid (x.e.kind=2):=h2;have HOX:Hid ((w.alloc (.cells #[.int .i64 x.e.kind,.slice x.adA x.e.allow.length x.capA,.string x.e.over,.string x.e.name,.slice x.adK x.e.kids.length x.capK] 39)).ownsRow w.heap.size 94 2 (.slice none 0 0) 0 []):=World.ownsRow_nil _ _ _ _;have Vg:Hid (ag w (w.alloc (.cells #[.int .i64 x.e.kind,.slice x.adA x.e.allow.length x.capA,.string x.e.over,.string x.e.name,.slice x.adK x.e.kids.length x.capK] 39))):=by rw [<-hW0];exact HB0
  clear hW0 HB0 c0 c1 c2 c3 c4 hg0 W0;go_enter func188,ntmps188;go_wp2_with (at_builtin;refine wpList_append_own_at _ rfl _ _ 277 rfl w.heap.size 94 i0 _ 2 32 underlying277 hi hz0 hz1 hz2 rfl (by decide) _ _ _ rfl (HOX.out.alloc _) ⟨w.heap.size+1,0,none⟩ 1 1 [.string typ,.string x.e.name] rfl rfl (World.news_of_block (cs:=#[.string typ,.string x.e.name]) (t:=94) (fr:=(0,0)) (wY w _ _)) (by simp [Value.oneCell']) (by unfold maxLen;omega) (by omega) (by simp;omega) ?_);intro v' w3 hown3 hgrow _ hloc;have HB3:Hid (ag w w3):=(Vg.out.alloc Vg.out.size _).grown hgrow (by simp;omega) (fun i hi=>(HOX.out.lt i hi).1);have Ve:w3.ownsRow w.heap.size 94 2 v' ([⟨typ,x.e.name⟩]:List Al).length (iw [⟨typ,x.e.name⟩]):=hown3;obtain ⟨UX,cp,rfl,hS',hN'⟩:=OM Ve;have HS2:=aA hS';have Wq:Hid (∀ p,UX=some p->w.heap.size<=p.block):=hN';clear hown3 Ve hgrow hloc HOX Vg hS' hN';go_wp2;go_ret;exact ⟨⟨UX,cp,by rw [Yf.out];rfl,by rw [Yf.out];exact HS2.out,Wq.out⟩,HB3.out⟩
 have hq2:(x.e.kind==2)=false:=by simpa using h2
 by_cases h3:x.e.kind=3
 ·have Yf:Hid (ji (ae rs) typ x.e=(gy (ae rs) typ x.e.over x.e.name).map fun g=>(⟨g,x.e.name⟩:Al)):=by show _=_;unfold ji;rw [if_neg h1,if_neg h2,if_pos h3]
  have hq3:(x.e.kind==3)=true:=by simpa using h3
  replace h3:Hid (x.e.kind=3):=h3;have HGL:(gy (ae rs) typ x.e.over x.e.name).length<=1048576:=Ev rs HL.out _ _ _;have HV0:=aA (HV.out.below HB0.out);go_enter func188,ntmps188;go_wp2_with fail;rw [<-hW0];refine (xQ b n rs ad M typ x _ HV0.out HT.out (HS.out.below HB0.out) HL.out UY.out ht XD.out.2.1 XD.out.2.2.1).mono ?_;rintro e w1 ⟨⟨adG,cpG,rfl,hSG,hNG⟩,hb1⟩;generalize gy (ae rs) typ x.e.over x.e.name=gs at *
  have HB1:=jP HB0 hb1;have HSG:=aA hSG;have HNG:Hid (∀ p,adG=some p->W0.heap.size<=p.block):=hNG;have VS:Hid (w1.cell? ⟨w.heap.size,3,none⟩=some (.string x.e.name)/\w.heap.size<w1.heap.size):=⟨aH hb1 hg0 c3,Uc hg0 hb1.size⟩;clear hW0 hSG hNG hb1 c0 c1 c2 c3 c4 HB0 HV0 hg0 HNG;go_wp2_with fail;go_loopw [7,51] (fun v i wr=>∃ m:Nat,m<=gs.length/\i=.int .i64 m/\Hid (wr.ownsRow w.heap.size 94 2 v m (iw ((gs.take m).map fun g=>(⟨g,x.e.name⟩:Al))))/\Hid (ag w wr)/\Hid (Aside w1 (.slice none 0 0) wr v)) (fun _ i _=>gs.length-(intOf i).toNat);case atStart=>exact ⟨0,Ui _,rfl,World.ownsRow_nil _ _ _ _,HB1,Aside.refl _ _⟩
  clear HB1;obtain ⟨m,hm,rfl,HO,HB,HA⟩:=hrel;have x3:=qE HA.out VS.out.2 (by simp [Value.ownBlock]) VS.out.1;by_cases Vl:m<gs.length
  ·rcases HSG.out with rfl|⟨bg,offg,rfl,hbg,hrg⟩
   ·simp at Vl
   have q0:=qE HA.out hbg (by simp [Value.ownBlock]) (hrg m Vl);have hm1:=bF m;have hm2:(m:Int)<(gs.length:Int):=by omega
   have hws:w.heap.size<=wr.heap.size:=HB.out.size;have HFX:Hid (iw ((gs.take (m+1)).map fun g=>(⟨g,x.e.name⟩:Al))=iw ((gs.take m).map fun g=>(⟨g,x.e.name⟩:Al))++[.string gs[m],.string x.e.name]):=by
    show _=_;rw [Uh Vl,List.map_append,List.map_singleton,Ay];rfl
   clear hrg;go_wp2_with (at_builtin;refine wpList_append_own_at _ rfl _ _ 277 rfl w.heap.size 94 i0 _ 2 32 underlying277 hi hz0 hz1 hz2 rfl (by decide) _ _ _ rfl (HO.out.alloc _) ⟨wr.heap.size,0,none⟩ 1 1 [.string gs[m],.string x.e.name] rfl rfl (World.news_of_block (cs:=#[.string gs[m],.string x.e.name]) (t:=94) (fr:=(0,0)) (heap_alloc_new wr _)) (by simp [Value.oneCell']) (by unfold maxLen;omega) (by omega) (by simp;omega) ?_);intro v' w3 hown3 hgrow _ hloc;have HB3:Hid (ag w w3):=(HB.out.alloc HB.out.size _).grown hgrow (by simp;omega) (fun i hi=>(HO.out.lt i hi).1);have U9:Hid (w3.ownsRow w.heap.size 94 2 v' (m+1) (iw ((gs.take (m+1)).map fun g=>(⟨g,x.e.name⟩:Al)))):=by
    show World.ownsRow _ _ _ _ _ _ _;rw [HFX.out];simpa [List.map_take] using hown3
   have HA3:Hid (Aside w1 (.slice none 0 0) w3 v'):=HA.out.trans ((Aside.below ((Uf _ _).alloc (Ue _) _)).trans (Aside.app hgrow (by simpa using hloc)));clear hown3 hgrow hloc HO HA;go_wp2;go_roundw;case rel=>exact ⟨m+1,by omega,by go_num,U9,HB3,HA3⟩
   simp [intOf] <;> omega
  obtain rfl:m=gs.length:=by omega
  have hown:=HO.out;rw [Us]at hown;have e:gs.length=(gs.map fun g=>(⟨g,x.e.name⟩:Al)).length:=by simp
  rw [e]at hown;obtain ⟨UX,cp,rfl,hS',hN'⟩:=OM hown;have HS2:Hid (jM wr UX (gs.map fun g=>(⟨g,x.e.name⟩:Al))):=hS';have Wq:Hid (∀ p,UX=some p->w.heap.size<=p.block):=hN';obtain ⟨ln,hln⟩:∃ ln,ln=(gs.map fun g=>(⟨g,x.e.name⟩:Al)).length:=⟨_,rfl⟩;rw [<-hln];have HLN:Hid (ln=(gs.map fun g=>(⟨g,x.e.name⟩:Al)).length):=hln;clear hown HO hS' hN' e HA x3 hln;go_wp2;go_ret;exact ⟨⟨UX,cp,by rw [Yf.out,<-HLN.out];rfl,by rw [Yf.out];exact HS2.out,Wq.out⟩,HB.out⟩
 have Yf:Hid (ji (ae rs) typ x.e=[]):=by show _=_;unfold ji;rw [if_neg h1,if_neg h2,if_neg h3]
 have hq3:(x.e.kind==3)=false:=by simpa using h3
 have Vg:Hid (ag w (w.alloc (.cells #[.int .i64 x.e.kind,.slice x.adA x.e.allow.length x.capA,.string x.e.over,.string x.e.name,.slice x.adK x.e.kids.length x.capK] 39))):=by rw [<-hW0];exact HB0
 clear hW0 HB0 c0 c1 c2 c3 c4 hg0;go_enter func188,ntmps188;go_wp2;go_ret;exact ⟨⟨none,0,by rw [Yf.out];rfl,by rw [Yf.out];exact .inl rfl,fun p hp=>by cases hp⟩,Vg.out⟩
abbrev Ky:=ByteArray×ByteArray
def lookL (E:List (Ky×St))(k:Ky):List St:=E.filterMap fun p=>if p.1=k then some p.2 else none
theorem lookL_append (E F:List (Ky×St))(k:Ky):lookL (E++F) k=lookL E k++lookL F k:=by unfold lookL;rw [List.filterMap_append]
theorem tq (E:List (Ky×St))(k:Ky)(s:St):lookL (E++[(k,s)]) k=lookL E k++[s]:=by rw [lookL_append];simp [lookL]
theorem qp (E:List (Ky×St)){k y:Ky}(s:St)(h:k≠y):lookL (E++[(y,s)]) k=lookL E k:=by rw [lookL_append];simp [lookL,Ne.symm h]
theorem mem_lookL {E:List (Ky×St)}{k:Ky}{s:St}:s∈lookL E k ↔ (k,s)∈E:=by
 unfold lookL;rw [List.mem_filterMap];constructor
 ·rintro ⟨⟨a,b⟩,h1,h2⟩;simp only at h2;split at h2
  ·rename_i e;injection h2 with h2;rw [<-e,<-h2];exact h1
  cases h2
 intro h;exact ⟨(k,s),h,by simp⟩
def FreeB (M:Ky->Option Value)(g:Nat):Prop:=∀ k v,M k=some v->v.ownBlock≠some g
structure Grp (w:World)(bL n:Nat)(M:Ky->Option Value)(E:List (Ky×St)):Prop where
 map:aO dS prog 94 w bL n M
 row:∀ k,(M k=none/\lookL E k=[]) \/ ∃ v,M k=some v/\w.ownsRow (bL+1) 274 3 v (lookL E k).length (iK (lookL E k))
 apart:∀ k k' v v',k≠k'->M k=some v->M k'=some v'->∀ g,v.ownBlock=some g->v'.ownBlock≠some g
theorem Grp.lt {w:af}{bL n:Nat}{M:Ky->Option Value}{E:List (Ky×St)}(h:Grp w bL n M E){k:Ky}{v:Value}(hk:M k=some v){g:Nat}(hg:v.ownBlock=some g):bL<g/\g<w.heap.size:=by
 rcases h.row k with ⟨e,-⟩|⟨v',e,ho⟩
 ·rw [e]at hk;cases hk
 rw [e]at hk;injection hk with hk;subst hk;have:=ho.lt g hg;exact ⟨by omega,this.2⟩
theorem Grp.fresh {w:af}{bL n:Nat}{M:Ky->Option Value}{E:List (Ky×St)}(h:Grp w bL n M E){g:Nat}(hg:w.heap.size<=g):FreeB M g:=fun k v hk e=>by
 have:=(h.lt hk e).2;omega
theorem Grp.mono {w:af}{bL n n':Nat}{M:Ky->Option Value}{E:List (Ky×St)}(h:Grp w bL n M E)(hn:n<=n'):Grp w bL n' M E:=⟨h.map.mono hn,h.row,h.apart⟩
theorem Grp.below {w w':af}{bL n:Nat}{M:Ky->Option Value}{E:List (Ky×St)}(h:Grp w bL n M E)(hB:ag w w'):Grp w' bL n M E where
 map:=h.map.below hB
 row k:=by
  rcases h.row k with e|⟨v,e,ho⟩
  ·exact .inl e
  exact .inr ⟨v,e,own_below ho hB⟩
 apart:=h.apart
theorem grp_made (w:af):Grp (w.alloc (.map #[] 0)) w.heap.size 0 (fun _=>none) [] where
 map:=nN _ _ _ w
 row k:=.inl ⟨rfl,rfl⟩
 apart k k' v v' _ h:=by cases h
structure Stl (W:World)(M:Ky->Option Value)(w2:World)(M2:Ky->Option Value)(bL:Nat):Prop where
 size:W.heap.size<=w2.heap.size
 block:∀ g,g<W.heap.size->g≠bL->FreeB M g->w2.heap[g]?=W.heap[g]?
 free:∀ g,g<W.heap.size->FreeB M g->FreeB M2 g
theorem Stl.refl (W:af)(M:Ky->Option Value)(bL:Nat):Stl W M W M bL:=⟨Ue _,fun _ _ _ _=>rfl,fun _ _ h=>h⟩
theorem Stl.trans {W w2 w3:af}{M M2 M3:Ky->Option Value}{bL:Nat}(h:Stl W M w2 M2 bL)(h2:Stl w2 M2 w3 M3 bL):Stl W M w3 M3 bL where
 size:=Uk h.size h2.size
 block g hg hb hf:=(h2.block g (Uc hg h.size) hb (h.free g hg hf)).trans (h.block g hg hb hf)
 free g hg hf:=h2.free g (Uc hg h.size) (h.free g hg hf)
theorem Stl.below {W w2:af}{M:Ky->Option Value}{bL:Nat}(hB:ag W w2):Stl W M w2 M bL:=⟨hB.size,fun g hg _ _=>hB.block g hg,fun _ _ h=>h⟩
structure Cel (w:World)(M:Ky->Option Value)(bL g o:Nat)(u:Value):Prop where
 cell:w.cell? ⟨g,o,none⟩=some u
 lt:g<w.heap.size
 free:FreeB M g
 ne:g≠bL
theorem Cel.stl {w w2:af}{M M2:Ky->Option Value}{bL g o:Nat}{u:Value}(h:Cel w M bL g o u)(hS:Stl w M w2 M2 bL):Cel w2 M2 bL g o u where
 cell:=(Uy (w:=w) (hS.block g h.lt h.ne h.free)).trans h.cell
 lt:=Uc h.lt hS.size
 free:=hS.free g h.lt h.free
 ne:=h.ne
theorem Grp.step {W0 w1 w2 w3:af}{bL n:Nat}{M:Ky->Option Value}{E:List (Ky×St)}{y:Ky}{v':Value}{s:St}(h:Grp W0 bL n M E)(hg1:W0.grownBy w1 (some bL))(hown:w2.ownsRow (bL+1) 274 3 v' ((lookL E y).length+1) (iK (lookL E y)++s.cells))
  (hg2:w1.grownBy w2 ((M y).getD (.slice none 0 0)).ownBlock) (hloc:v'.ownBlock=((M y).getD (.slice none 0 0)).ownBlock\/v'.ownBlock=some w1.heap.size) (hg3:w2.grownBy w3 (some bL)) (hM:aO dS prog 94 w3 bL (n+1) (lc M y (some v'))) :
  Grp w3 bL (n+1) (lc M y (some v')) (E++[(y,s)])/\Stl W0 M w3 (lc M y (some v')) bL:=by
 have hrow0:∀ k v,M k=some v->∃ xs m,W0.ownsRow (bL+1) 274 3 v m xs:=fun k v hk=>by
  rcases h.row k with ⟨e,-⟩|⟨v1,e,ho⟩
  ·rw [e]at hk;cases hk
  rw [e]at hk;injection hk with hk;subst hk;exact ⟨_,_,ho⟩
 have hne2:∀ k v,k≠y->M k=some v->v.ownBlock=none\/v.ownBlock≠((M y).getD (.slice none 0 0)).ownBlock:=fun k v Zp hk=>by
  cases e:v.ownBlock with
  | none=>exact .inl rfl
  | some g =>
   right;cases ey:M y with
   | none=>simp [Value.ownBlock]
   | some vy=>intro e2;exact h.apart k y v vy Zp hk ey g e (by simpa using e2.symm)
 have hnb:∀ v,(∃ k,M k=some v)->v.ownBlock=none\/v.ownBlock≠some bL:=fun v ⟨k,hk⟩=>by
  cases e:v.ownBlock with
  | none=>exact .inl rfl
  | some g=>right;have:=(h.lt hk e).1;intro e2;injection e2 with e2;omega
 have hnew:∀ g,v'.ownBlock=some g->bL<g:=fun g e=>by have:=(hown.lt g e).1;omega
 have hv'b:v'.ownBlock=none\/v'.ownBlock≠some bL:=by
  cases e:v'.ownBlock with
  | none=>exact .inl rfl
  | some g=>right;have:=hnew g e;intro e2;injection e2 with e2;omega
 constructor
 ·refine ⟨hM,fun k=>?_,fun k k' v u hkk hk hk' g e=>?_⟩
  ·by_cases ek:k=y
   ·subst ek;rw [dZ,tq];refine .inr ⟨v',rfl,?_⟩;rw [zR,Ul];exact hown.kept hg3 hv'b
   rw [cZ ek,qp _ _ ek];rcases h.row k with e|⟨v,e,ho⟩
   ·exact .inl e
   exact .inr ⟨v,e,((ho.kept hg1 (hnb v ⟨k,e⟩)).kept hg2 (hne2 k v ek e)).kept hg3 (hnb v ⟨k,e⟩)⟩
  by_cases ek:k=y
  ·subst ek;rw [dZ]at hk;injection hk with hk;subst hk;rw [cZ (Ne.symm hkk)]at hk';intro e2;rcases hloc with el|el
   ·rw [e]at el;cases ey:M k with
    | none=>rw [ey]at el;simp [Value.ownBlock]at el
    | some vy=>rw [ey]at el;exact h.apart k k' vy u hkk ey hk' g (by simpa using el.symm) e2
   rw [e]at el;injection el with el;have:=(h.lt hk' e2).2;have:=hg1.size;omega
  rw [cZ ek]at hk;by_cases ek':k'=y
  ·subst ek';rw [dZ]at hk';injection hk' with hk';subst hk';intro e2;rcases hloc with el|el
   ·rw [e2]at el;cases ey:M k' with
    | none=>rw [ey]at el;simp [Value.ownBlock]at el
    | some vy=>rw [ey]at el;exact h.apart k k' v vy hkk hk ey g e (by simpa using el.symm)
   rw [e2]at el;injection el with el;have:=(h.lt hk e).2;have:=hg1.size;omega
  rw [cZ ek']at hk';exact h.apart k k' v u hkk hk hk' g e
 refine ⟨Uk hg1.size (Uk hg2.size hg3.size),fun g hg hb hf=>?_,fun g hg hf k v hk=>?_⟩
 ·have h1:=hg1.block g hg (fun e=>hb (by injection e));have h2:=hg2.block g (Uc hg hg1.size) (fun e=>by
   cases ey:M y with
   | none=>rw [ey]at e;simp [Value.ownBlock]at e
   | some vy=>rw [ey]at e;exact hf y vy ey (by simpa using e.symm))
  have h3:=hg3.block g (Uc hg (Uk hg1.size hg2.size)) (fun e=>hb (by injection e));rw [h3,h2,h1]
 by_cases ek:k=y
 ·subst ek;rw [dZ]at hk;injection hk with hk;subst hk;intro e2;rcases hloc with el|el
  ·rw [e2]at el;cases ey:M k with
   | none=>rw [ey]at el;simp [Value.ownBlock]at el
   | some vy=>rw [ey]at el;exact hf k vy ey (by simpa using el.symm)
  rw [e2]at el;injection el with el;have:=hg1.size;omega
 rw [cZ ek]at hk;exact hf k v hk
end Go.Proofs.YtajkkeikihhejaaGreat
