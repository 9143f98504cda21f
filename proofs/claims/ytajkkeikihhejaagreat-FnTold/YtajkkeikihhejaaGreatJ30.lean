/- What leans on what, in the program's list and in the document's words: the same. -/
import Derived.Test.YtajkkeikihhejaaGreatSq
import Derived.Test.YtajkkeikihhejaaGreatJ29
import Derived.Test.YtajkkeikihhejaaGreatSpecSchema11
open Go.Proofs.Tryz
set_option maxHeartbeats 80000000
namespace Go.Proofs.YtajkkeikihhejaaGreat
open Pl
theorem Mw (ng:Bool) (xs:List Al):df ng xs=(dH xs).map fun a=>(⟨a.t,a.s,ng⟩:Dp):=by
 induction xs with
 | nil=>rfl
 | cons a xs ih=>simp only [df,dH]; split <;> simp [ih]
theorem Dq (ts:List Ty) (typ:bF) (ng:Bool) (e:Ex) (hn:av e=true) (hd:e.kind=3→bu (aA ts typ e.over)=true):df ng e.allow ++ kM ts typ ng e=(jg ts typ e).map fun a=>(⟨a.t,a.s,ng⟩:Dp):=by
 by_cases h1:e.kind=1
 ·unfold kM jg;rw [if_neg (by omega),if_neg (by omega),if_pos h1,List.append_nil,Mw]
 rw [tQ hn h1];unfold kM jg;rw [if_neg h1];by_cases h2:e.kind=2
 ·rw [if_pos h2,if_pos h2]; rfl
 rw [if_neg h2,if_neg h2];by_cases h3:e.kind=3
 ·rw [if_pos h3,if_pos h3];unfold gy;rw [if_pos (hd h3),List.map_map];rfl
 rw [if_neg h3,if_neg h3]; rfl
theorem Dr {ts:List Ty} {typ:ByteArray} {es:List Ex} {d:Dp} {i:Nat} (hd:d ∈ ik ts typ es i):∀ {k:Nat},i < k→d ∈ aN ts typ es k
 | 0,h=>by omega
 | k + 1,h=>by
  simp only [aN];by_cases e:i=k
  ·subst e; exact Uc.2 (.inr hd)
  exact Uc.2 (.inl (Dr hd (by omega)))
theorem A7 {ts:List Ty} {t r:ByteArray} {es:List Ex} {x:Ky × St}:∀ {k:Nat},x ∈ relE ts t r es k ↔ ∃ i,i < k∧∃ e,es[i]?=some e∧x ∈ AZ ts t r ((dz es).getD i false) e
 | 0=>by simp [relE]
 | k + 1=>by
  simp only [relE,Uc];rw [A7];constructor
  ·rintro (⟨i,hi,h⟩ | h)
   ·exact ⟨i,by omega,h⟩
   cases e:es[k]? with
   | none=>rw [e] at h; cases h
   | some y=>rw [e] at h; exact ⟨k,by omega,y,e,h⟩
  rintro ⟨i,hi,e,he,h⟩;by_cases ek:i=k
  ·subst ek; right; rw [he]; exact h
  exact .inl ⟨i,by omega,e,he,h⟩
theorem pz {rs:List TR} (h:bf (ae rs)=true) {t:TR} (ht:t ∈ rs) {q:RR} (hq:q ∈ t.rows):fH (ae rs) t.name q.name=some (aj q.rows):=by
 have hT:=wD h;have hs:=si (M:=fun _=>none) (rs:=rs) (k:=(t.name,q.name)) (.inr ⟨t,ht,q,hq,rfl⟩);obtain ⟨v,hv⟩:=Option.isSome_iff_exists.1 hs;obtain ⟨t',ht',q',hq',e,-,e2,-⟩:=hT.yes _ v hv;injection e with e3 e4;have h1:t=t':=FR h ht ht' e3;subst h1;obtain ⟨i,hi,rfl⟩:=List.mem_iff_getElem.1 ht;have h2:q=q':=FT (lu h i hi).2.2 hq hq' e4;subst h2;exact e2
theorem jm {es:List Ex} (h:aK es=true):∀ e ∈ es,av e=true:=by
 simp only [aK,TU] at h;exact Ub.1 h.1.1.1.2
theorem GK (t r:bF) (ng:Bool):stepOf ⟨t,r,ng⟩=xW ng:=by cases ng <;> rfl
theorem QN {rs:List TR} (h:bf (ae rs)=true) (hr:iD (ae rs)=true):Edge (ae rs) (jk (ae rs) rs):=by
 have UA:∀ t ∈ rs,∀ q ∈ t.rows,∀ e ∈ aj q.rows,av e=true∧(e.kind=3→bu (aA (ae rs) t.name e.over)=true):=by
  intro t ht q hq e he;have h1:=((bq h).2.2 t ht q hq).1;refine ⟨jm h1 e he,fun h3=>?_⟩;unfold iD at hr;rw [Ub] at hr;have h2:=hr t.p (List.mem_map_of_mem ht);unfold qB at h2;rw [Ub] at h2;have h4:aR (ae rs) t.name (aj q.rows)=true:=h2 q.p (List.mem_map_of_mem hq);have h5:=(Cy h4 e he).2;unfold lh at h5;rw [if_neg (by omega),if_pos h3,TU] at h5;exact h5.1
 intro on t0 r0 s;constructor
 ·intro hm;unfold jk ji at hm;rw [Uf] at hm;obtain ⟨t,ht,hm⟩:=hm;rw [Uf] at hm;obtain ⟨q,hq,hm⟩:=hm;obtain ⟨i,hi,e,he,hm⟩:=A7.1 hm;unfold AZ at hm;obtain ⟨a,ha,e1⟩:=Ue.1 hm;injection e1 with e2 e3;injection e3 with e4 e5 e6;subst e4; subst e5;refine ⟨qD.2 ⟨t.p,List.mem_map_of_mem ht,q.p,List.mem_map_of_mem hq,rfl⟩,⟨a.t,a.s,(dz (aj q.rows)).getD i false⟩,?_,e2,by rw [GK]; exact e6⟩;unfold il pR;have ero:aA (ae rs) t.name q.name=aj q.rows:=by unfold aA; rw [pz h ht hq]; rfl
  simp only [ero];have hi2:i < (aj q.rows).length:=(List.getElem?_eq_some_iff.1 he).1;refine Dr (i:=i) ?_ hi2;unfold ik;rw [he];obtain ⟨n1,n2⟩:=UA t ht q hq e (List.mem_of_getElem? he);simp only;rw [Dq _ _ _ _ n1 n2];exact List.mem_map_of_mem (f:=fun a:Al=>(⟨a.t,a.s,(dz (aj q.rows)).getD i false⟩:Dp)) ha
 rintro ⟨hk,d,hd,e1,e2⟩;obtain ⟨t',ht',r',hr',e3⟩:=qD.1 hk;obtain ⟨t,ht,rfl⟩:=Ue.1 ht';obtain ⟨q,hq,rfl⟩:=Ue.1 hr';injection e3 with e4 e5;subst e4; subst e5;unfold il pR at hd;have ero:aA (ae rs) t.p.name q.p.name=aj q.rows:=by
  have:=pz h ht hq;show aA (ae rs) t.name q.name=_;unfold aA; rw [this]; rfl
 simp only [ero] at hd;obtain ⟨i,hi,hd⟩:=tq hd;unfold ik at hd;split at hd
 ·cases hd
 rename_i e he;obtain ⟨n1,n2⟩:=UA t ht q hq e (List.mem_of_getElem? he);have hdn:df ((dz (aj q.rows)).getD i false) e.allow ++ kM (ae rs) t.p.name ((dz (aj q.rows)).getD i false) e=_:=Dq (ae rs) t.name _ e n1 n2;rw [hdn] at hd;obtain ⟨a,ha,rfl⟩:=Ue.1 hd;unfold jk ji;rw [Uf];refine ⟨t,ht,?_⟩;rw [Uf];refine ⟨q,hq,A7.2 ⟨i,by rw [aT] at hi; exact hi,e,he,?_⟩⟩;unfold AZ;rw [Ue];refine ⟨a,ha,?_⟩;rw [← e1,← e2,GK];rfl
theorem Pn {rs:List TR} (h:bf (ae rs)=true):∀ r ∈ rs,∀ q ∈ r.rows,∀ e ∈ q.rows,e.e.allow.length≤6:=by
 intro r hr q hq e he;have h1:=jm ((bq h).2.2 r hr q hq).1 e.e (by unfold aj; exact List.mem_map_of_mem he);by_cases h2:e.e.kind=1
 ·unfold av at h1;rw [if_pos h2] at h1;simp only [TU,ed,Ud] at h1;exact h1.1.1.1.1.2
 rw [tQ h1 h2]; simp
theorem qR {α β:Type} (f:α→List β) (B:Nat):∀ (xs:List α),(∀ x ∈ xs,(f x).length≤B)→(xs.flatMap f).length≤xs.length * B
 | [],_=>by simp
 | x::xs,h=>by
  rw [List.flatMap_cons,T9,List.length_cons,Nat.succ_mul];have h1:=h x (by simp);have h2:=qR f B xs fun q hq=>h q (by simp [hq]);omega
theorem Mx (rs:List TR) (h6:∀ r ∈ rs,r.rows.length≤6) (hex:∀ r ∈ rs,∀ q ∈ r.rows,aK (aj q.rows)=true∧q.rows.length≤15∧∀ e ∈ q.rows,dV q.rows.length e.e.kids) (h66:∀ r ∈ rs,∀ q ∈ r.rows,∀ e ∈ q.rows,e.e.allow.length≤6) (hl:rs.length≤6:=by omega):(jk (ae rs) rs).length≤100000:=by
 have h1:∀ t ∈ rs,(ji (ae rs) t.name t.rows).length≤540:=by
  intro t ht;have h2:∀ q ∈ t.rows,(relE (ae rs) t.name q.name (aj q.rows) q.rows.length).length≤90:=by
   intro q hq;have h3:∀ k,k≤q.rows.length→(relE (ae rs) t.name q.name (aj q.rows) k).length≤k * 6:=by
    intro k
    induction k with
    | zero=>intro _; simp [relE]
    | succ k ih =>
     intro hk;rw [Dl _ _ _ _ _ (by omega) _ rfl,T9];have h4:=ih (by omega);have h5:(AZ (ae rs) t.name q.name ((dz (aj q.rows)).getD k false) q.rows[k].e).length≤6:=by
      unfold AZ;rw [Uy];exact Dm rs h66 _ _ (h66 t ht q hq _ (TQ (by omega)))
     omega
   have h4:=h3 q.rows.length (TS _);have h5:=(hex t ht q hq).2.1;omega
  have h3:=qR (fun q:RR=>relE (ae rs) t.name q.name (aj q.rows) q.rows.length) 90 t.rows h2;have h4:=h6 t ht;unfold ji;omega
 have h2:=qR (fun t:TR=>ji (ae rs) t.name t.rows) 540 rs h1;unfold jk;omega
open Go.ChangeAt Go.ChangeShapes Go.RowKit Go.Sort Go.WideShapes
def gX (rs:List RR):Bool:=decide (rs.length≤6) && dG (eD rs) rs.length
theorem JA {rs:List RR} {k:Nat} (h:k < rs.length):l6 (eD rs) k=(aP rs[k].name && xV (eD rs) rs[k].name k && aK (aj rs[k].rows)):=Dk h
theorem JB {rs:List TR} {k:Nat} (h:k < rs.length):kv (ae rs) k=(aP rs[k].name && vF (ae rs) rs[k].name k && gX rs[k].rows):=by
 rw [Dj h]; unfold gX; rw [Bool.and_assoc]
set_option maxRecDepth 100000 in
theorem yo (ad:Option Addr) (cap:Nat) (rs:List RR) (w:af) (hlen:rs.length≤1048576) (hs:M8 w ad rs) (hl:∀ r ∈ rs,r.light) (hf:∀ r ∈ rs,r.fits) (hcp:∀ r ∈ rs,r.caps) :
  Calls prog 182 #[.slice ad rs.length cap] w fun e w'=>e=.returned (.bool (gX rs))∧ag w w':=by
 have HS:=az hs;have HL:=az hl;have UL:=az hf;have WS:=az hcp;clear hs hl hf hcp;have Yf:Hid (gX rs=(decide (rs.length≤6) && dG (eD rs) rs.length)):=by show _=_; rfl
 by_cases h6:6 < rs.length
 ·have HN:Hid (gX rs=false):=by show _=_; rw [Yf.out]; simp; omega
  go_enter func182,ntmps182;go_wp2;go_ret;exact ⟨ah HN.out.symm,TT _ _⟩
 go_enter func182,ntmps182;go_wp2;go_loopw [10] (fun i wr=>∃ k:Nat,k≤rs.length∧i=.int .i64 k∧Hid (dG (eD rs) k=true)∧Hid (ag w wr)) (fun i _=>rs.length - (intOf i).toNat);case atStart=>exact ⟨0,TW _,rfl,rfl,TT _ _⟩
 obtain ⟨k,hk,rfl,HP,HB⟩:=hrel;by_cases hlt:k < rs.length
 ·rcases HS.out.below HB.out with rfl | ⟨b,off,rfl,hb,hr,hok⟩
  ·simp at hlt
  obtain ⟨t0,t1⟩:=hr k hlt;have WA:Hid (rs[k].ok wr):=hok rs[k] (TQ hlt);have z1:rs[k].name.size≤maxLen:=(UL.out _ (TQ hlt)).1;have WE:Hid (rs[k].light):=HL.out _ (TQ hlt);have WH:Hid (rs[k].fits):=UL.out _ (TQ hlt);have HCP:Hid (rs[k].caps):=WS.out _ (TQ hlt);have hk1:=bB k;have hk2:(k:Int) < (rs.length:Int):=by omega
  have HTP:Hid (∀ (m:Nat) (h:m < rs.length),wr.cell? ⟨b,off + m * 2,none⟩=some (.string rs[m].name)):=fun m h=>(hr m h).1;have YM:Hid (l6 (eD rs) k=(aP rs[k].name && xV (eD rs) rs[k].name k && aK (aj rs[k].rows))):=JA hlt;have HBAD:Hid (l6 (eD rs) k=false→gX rs=false):=fun h=>by rw [Yf.out,sW _ k h _ hlt]; simp
  obtain ⟨W1,hW1⟩:∃ W1,W1=wr.alloc (.cells #[.string rs[k].name,.slice rs[k].ad rs[k].rows.length rs[k].cap] 147):=⟨_,rfl⟩;have hal:ag wr W1:=by rw [hW1]; exact (TT _ _).alloc (TS _) _
  have UN:=az hal;have hgl:wr.heap.size < W1.heap.size:=by rw [hW1]; simp
  have g0:W1.cell? ⟨wr.heap.size,0,none⟩=some (.string rs[k].name):=by rw [hW1]; simp
  have g1:W1.cell? ⟨wr.heap.size,1,none⟩=some (.slice rs[k].ad rs[k].rows.length rs[k].cap):=by rw [hW1]; simp
  have hb4:b < W1.heap.size:=Nat.lt_trans hb hgl;clear hr hok;go_wp2_with fail;rw [← hW1];clear hW1 t0 t1 hal;have q0:=cell_regrown g0;have q1:=cell_regrown g1;have Vk:=pU (jQ (W:=W1) (fun W'=>aL rs[k].name W' z1));have YN:Hid (∀ d os,Calls prog 221 #[.slice rs[k].ad rs[k].rows.length rs[k].cap] (grow (redrawn W1 d) os) fun e w''=>e=.returned (.bool (aK (aj rs[k].rows)))∧∃ p:Regrown,w''=grow (redrawn W1 p.d) p.os):=by
   show ∀ d os,Calls prog 221 #[.slice rs[k].ad rs[k].rows.length rs[k].cap] (grow (redrawn W1 d) os) fun e w''=>e=.returned (.bool (aK (aj rs[k].rows)))∧∃ p:Regrown,w''=grow (redrawn W1 p.d) p.os;rw [vY];refine dm fun W' hb=>?_;exact Ar _ _ rs[k].rows _ WE.out.1 WE.out.2 WH.out.2.2 HCP.out.2 (WA.out.below (UN.out.trans (hb.mono UN.out.size)))
  have Va:Hid (∀ d os,ag w (grow (redrawn W1 d) os)):=fun d os=>HB.out.trans ((UN.out.mono HB.out.size).trans ((below_regrown W1 d os).mono (TZ HB.out.size UN.out.size)));cases hnm:aP rs[k].name;case false=>
   rw [hnm] at Vk;have HN:Hid (gX rs=false):=HBAD.out (by rw [YM.out]; simp [hnm]);refine wp_region_quiet_below (by kernel_rfl) (by kernel_rfl) ?_
   repeat (go_big_quiet_step (exact Vk.out _ _))
   refine wpQuiet_nil ?_;rintro _ ⟨⟨dq,osq⟩,rfl⟩;go_wp2;go_ret;exact ⟨ah HN.out.symm,Va.out dq osq⟩
  rw [hnm] at Vk;obtain ⟨ex,hex⟩:∃ ex,ex=aK (aj rs[k].rows):=⟨_,rfl⟩;rw [← hex] at YN YM;have fin:Hid (∀ pv,xV (eD rs) rs[k].name k=pv→l6 (eD rs) k=(pv && ex)):=fun pv h=>by rw [YM.out,hnm,h]; simp
  clear hex YM hnm;by_cases hpos:k=0
  ·have hk0:¬ (0:Int) < (k:Int):=by omega
   have Z4:decide (0 < k)=false:=by simp; omega
   have VW:=pU (fin.out _ (AX hpos));replace hpos:Hid (k=0):=hpos;refine wp_region_quiet_below (by kernel_rfl) (by kernel_rfl) ?_
   repeat (go_big_quiet_step (first | exact Vk.out _ _ | exact YN.out _ _))
   refine wpQuiet_nil ?_;rintro _ ⟨⟨dq,osq⟩,rfl⟩;cases ex;case false=>
    have HN:Hid (gX rs=false):=HBAD.out (by rw [VW.out]; rfl);go_wp2;go_ret;exact ⟨ah HN.out.symm,Va.out dq osq⟩
   have VZ:Hid (dG (eD rs) (k + 1)=true):=by show _=_; simp only [dG]; rw [HP.out,VW.out]; rfl
   go_wp2;go_roundw;case rel=>exact ⟨k + 1,by omega,by go_num,VZ,Va.out dq osq⟩
   simp [intOf] <;> omega
  obtain ⟨m,hm⟩:∃ m,k=m + 1:=⟨k - 1,by omega⟩;have U5:m < rs.length:=by omega
  have hk0:(0:Int) < (k:Int):=by omega
  have Z4:decide (0 < k)=true:=by simp; omega
  have hkm:(k:Int) - 1=(m:Int):=by omega
  have hwm:IntKind.i64.wrap (m:Int)=(m:Int):=by rw [IntKind.wrap_i64]; omega
  have hm1:=bB m;have hm2:(m:Int) < (rs.length:Int):=by omega
  have qm:=cell_regrown (aG UN.out hb (HTP.out m U5));have VW:=pU (fin.out _ (AU hm U5));replace hm:Hid (k=m + 1):=hm;cases hless:Op.bytesLess rs[m].name.toList rs[k].name.toList;case false=>
   have HN:Hid (gX rs=false):=HBAD.out (by rw [VW.out]; simp [je,hless]);refine wp_region_quiet_below (by kernel_rfl) (by kernel_rfl) ?_
   repeat (go_big_quiet_step (first | exact Vk.out _ _ | exact YN.out _ _))
   refine wpQuiet_nil ?_;rintro _ ⟨⟨dq,osq⟩,rfl⟩;go_wp2;go_ret;exact ⟨ah HN.out.symm,Va.out dq osq⟩
  refine wp_region_quiet_below (by kernel_rfl) (by kernel_rfl) ?_
  repeat (go_big_quiet_step (first | exact Vk.out _ _ | exact YN.out _ _))
  refine wpQuiet_nil ?_;rintro _ ⟨⟨dq,osq⟩,rfl⟩;cases ex;case false=>
   have HN:Hid (gX rs=false):=HBAD.out (by rw [VW.out]; simp);go_wp2;go_ret;exact ⟨ah HN.out.symm,Va.out dq osq⟩
  have VZ:Hid (dG (eD rs) (k + 1)=true):=by show _=_; simp only [dG]; rw [HP.out,VW.out]; simp [je,hless]
  go_wp2;go_roundw;case rel=>exact ⟨k + 1,by omega,by go_num,VZ,Va.out dq osq⟩
  simp [intOf] <;> omega
 obtain rfl:k=rs.length:=by omega
 have HY:Hid (gX rs=true):=by show _=_; rw [Yf.out,HP.out]; simp; omega
 go_wp2;go_ret;exact ⟨ah HY.out.symm,HB.out⟩
set_option maxRecDepth 100000 in
theorem GL (ad:Option Addr) (cap:Nat) (rs:List TR) (w:af) (hlen:rs.length≤1048576) (hs:kW w ad rs) (hl:∀ r ∈ rs,r.light) (hf:∀ r ∈ rs,r.fits) (hcp:∀ r ∈ rs,r.caps) :
  Calls prog 131 #[.slice ad rs.length cap] w fun e w'=>e=.returned (.bool (bf (ae rs)))∧ag w w':=by
 have HS:=az hs;have HL:=az hl;have UL:=az hf;have WS:=az hcp;clear hs hl hf hcp;have Yf:Hid (bf (ae rs)=(decide (rs.length≤6) && iK (ae rs) rs.length)):=by show _=_; unfold bf; rw [kX]
 by_cases h6:6 < rs.length
 ·have HN:Hid (bf (ae rs)=false):=by show _=_; rw [Yf.out]; simp; omega
  go_enter func131,ntmps131;go_wp2;go_ret;exact ⟨ah HN.out.symm,TT _ _⟩
 go_enter func131,ntmps131;go_wp2;go_loopw [10] (fun i wr=>∃ k:Nat,k≤rs.length∧i=.int .i64 k∧Hid (iK (ae rs) k=true)∧Hid (ag w wr)) (fun i _=>rs.length - (intOf i).toNat);case atStart=>exact ⟨0,TW _,rfl,rfl,TT _ _⟩
 obtain ⟨k,hk,rfl,HP,HB⟩:=hrel;by_cases hlt:k < rs.length
 ·rcases HS.out.below HB.out with rfl | ⟨b,off,rfl,hb,hr,hok⟩
  ·simp at hlt
  obtain ⟨t0,t1⟩:=hr k hlt;have WA:Hid (rs[k].ok wr):=hok rs[k] (TQ hlt);have z1:rs[k].name.size≤maxLen:=(UL.out _ (TQ hlt)).1;have WE:Hid (rs[k].light):=HL.out _ (TQ hlt);have WH:Hid (rs[k].fits):=UL.out _ (TQ hlt);have HCP:Hid (rs[k].caps):=WS.out _ (TQ hlt);have hk1:=bB k;have hk2:(k:Int) < (rs.length:Int):=by omega
  have HTP:Hid (∀ (m:Nat) (h:m < rs.length),wr.cell? ⟨b,off + m * 2,none⟩=some (.string rs[m].name)):=fun m h=>(hr m h).1;have YM:Hid (kv (ae rs) k=(aP rs[k].name && vF (ae rs) rs[k].name k && gX rs[k].rows)):=JB hlt;have HBAD:Hid (kv (ae rs) k=false→bf (ae rs)=false):=fun h=>by rw [Yf.out,sZ _ k h _ hlt]; simp
  obtain ⟨W1,hW1⟩:∃ W1,W1=wr.alloc (.cells #[.string rs[k].name,.slice rs[k].ad rs[k].rows.length rs[k].cap] 127):=⟨_,rfl⟩;have hal:ag wr W1:=by rw [hW1]; exact (TT _ _).alloc (TS _) _
  have UN:=az hal;have hgl:wr.heap.size < W1.heap.size:=by rw [hW1]; simp
  have g0:W1.cell? ⟨wr.heap.size,0,none⟩=some (.string rs[k].name):=by rw [hW1]; simp
  have g1:W1.cell? ⟨wr.heap.size,1,none⟩=some (.slice rs[k].ad rs[k].rows.length rs[k].cap):=by rw [hW1]; simp
  have hb4:b < W1.heap.size:=Nat.lt_trans hb hgl;clear hr hok;go_wp2_with fail;rw [← hW1];clear hW1 t0 t1 hal;have q0:=cell_regrown g0;have q1:=cell_regrown g1;have Vk:=pU (jQ (W:=W1) (fun W'=>aL rs[k].name W' z1));have YN:Hid (∀ d os,Calls prog 182 #[.slice rs[k].ad rs[k].rows.length rs[k].cap] (grow (redrawn W1 d) os) fun e w''=>e=.returned (.bool (gX rs[k].rows))∧∃ p:Regrown,w''=grow (redrawn W1 p.d) p.os):=by
   refine dm fun W' hb=>?_;exact yo _ _ rs[k].rows _ WE.out.1 (WA.out.below (UN.out.trans (hb.mono UN.out.size))) WE.out.2 WH.out.2.2 HCP.out.2
  have Va:Hid (∀ d os,ag w (grow (redrawn W1 d) os)):=fun d os=>HB.out.trans ((UN.out.mono HB.out.size).trans ((below_regrown W1 d os).mono (TZ HB.out.size UN.out.size)));cases hnm:aP rs[k].name;case false=>
   rw [hnm] at Vk;have HN:Hid (bf (ae rs)=false):=HBAD.out (by rw [YM.out]; simp [hnm]);refine wp_region_quiet_below (by kernel_rfl) (by kernel_rfl) ?_
   repeat (go_big_quiet_step (exact Vk.out _ _))
   refine wpQuiet_nil ?_;rintro _ ⟨⟨dq,osq⟩,rfl⟩;go_wp2;go_ret;exact ⟨ah HN.out.symm,Va.out dq osq⟩
  rw [hnm] at Vk;obtain ⟨ex,hex⟩:∃ ex,ex=gX rs[k].rows:=⟨_,rfl⟩;rw [← hex] at YN YM;have fin:Hid (∀ pv,vF (ae rs) rs[k].name k=pv→kv (ae rs) k=(pv && ex)):=fun pv h=>by rw [YM.out,hnm,h]; simp
  clear hex YM hnm;by_cases hpos:k=0
  ·have hk0:¬ (0:Int) < (k:Int):=by omega
   have Z4:decide (0 < k)=false:=by simp; omega
   have VW:=pU (fin.out _ (AV hpos));replace hpos:Hid (k=0):=hpos;refine wp_region_quiet_below (by kernel_rfl) (by kernel_rfl) ?_
   repeat (go_big_quiet_step (first | exact Vk.out _ _ | exact YN.out _ _))
   refine wpQuiet_nil ?_;rintro _ ⟨⟨dq,osq⟩,rfl⟩;cases ex;case false=>
    have HN:Hid (bf (ae rs)=false):=HBAD.out (by rw [VW.out]; rfl);go_wp2;go_ret;exact ⟨ah HN.out.symm,Va.out dq osq⟩
   have VZ:Hid (iK (ae rs) (k + 1)=true):=by show _=_; simp only [iK]; rw [HP.out,VW.out]; rfl
   go_wp2;go_roundw;case rel=>exact ⟨k + 1,by omega,by go_num,VZ,Va.out dq osq⟩
   simp [intOf] <;> omega
  obtain ⟨m,hm⟩:∃ m,k=m + 1:=⟨k - 1,by omega⟩;have U5:m < rs.length:=by omega
  have hk0:(0:Int) < (k:Int):=by omega
  have Z4:decide (0 < k)=true:=by simp; omega
  have hkm:(k:Int) - 1=(m:Int):=by omega
  have hwm:IntKind.i64.wrap (m:Int)=(m:Int):=by rw [IntKind.wrap_i64]; omega
  have hm1:=bB m;have hm2:(m:Int) < (rs.length:Int):=by omega
  have qm:=cell_regrown (aG UN.out hb (HTP.out m U5));have VW:=pU (fin.out _ (AR hm U5));replace hm:Hid (k=m + 1):=hm;cases hless:Op.bytesLess rs[m].name.toList rs[k].name.toList;case false=>
   have HN:Hid (bf (ae rs)=false):=HBAD.out (by rw [VW.out]; simp [je,hless]);refine wp_region_quiet_below (by kernel_rfl) (by kernel_rfl) ?_
   repeat (go_big_quiet_step (first | exact Vk.out _ _ | exact YN.out _ _))
   refine wpQuiet_nil ?_;rintro _ ⟨⟨dq,osq⟩,rfl⟩;go_wp2;go_ret;exact ⟨ah HN.out.symm,Va.out dq osq⟩
  refine wp_region_quiet_below (by kernel_rfl) (by kernel_rfl) ?_
  repeat (go_big_quiet_step (first | exact Vk.out _ _ | exact YN.out _ _))
  refine wpQuiet_nil ?_;rintro _ ⟨⟨dq,osq⟩,rfl⟩;cases ex;case false=>
   have HN:Hid (bf (ae rs)=false):=HBAD.out (by rw [VW.out]; simp);go_wp2;go_ret;exact ⟨ah HN.out.symm,Va.out dq osq⟩
  have VZ:Hid (iK (ae rs) (k + 1)=true):=by show _=_; simp only [iK]; rw [HP.out,VW.out]; simp [je,hless]
  go_wp2;go_roundw;case rel=>exact ⟨k + 1,by omega,by go_num,VZ,Va.out dq osq⟩
  simp [intOf] <;> omega
 obtain rfl:k=rs.length:=by omega
 have HY:Hid (bf (ae rs)=true):=by show _=_; rw [Yf.out,HP.out]; simp; omega
 go_wp2;go_ret;exact ⟨ah HY.out.symm,HB.out⟩
end Go.Proofs.YtajkkeikihhejaaGreat
