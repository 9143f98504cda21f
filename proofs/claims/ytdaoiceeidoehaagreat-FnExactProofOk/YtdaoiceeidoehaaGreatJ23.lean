/- What leans on what, in the program's list and in the document's words: the same. -/
import Derived.Test.YtdaoiceeidoehaaGreatNodeI6
open Go.Proofs.Tryz
set_option maxHeartbeats 80000000
namespace Go.Proofs.YtdaoiceeidoehaaGreat
open Pl
theorem Gj (ng:Bool) (xs:List Al):bq ng xs=(bP xs).map fun a=>(⟨a.t,a.s,ng⟩:Dp):=by
 induction xs with
 | nil=>rfl
 | cons a xs ih=>simp only [bq,bP]; split <;> simp [ih]
theorem yg (ts:List Ty) (typ:ByteArray) (ng:Bool) (e:Ex) (hn:ak e=true) (hd:e.kind=3→aV (aC ts typ e.over)=true):bq ng e.allow ++ jR ts typ ng e=(fQ ts typ e).map fun a=>(⟨a.t,a.s,ng⟩:Dp):=by
 by_cases h1:e.kind=1
 ·unfold jR fQ;rw [if_neg (by omega),if_neg (by omega),if_pos h1,List.append_nil,Gj]
 ·rw [oF hn h1];unfold jR fQ;rw [if_neg h1];by_cases h2:e.kind=2
  ·rw [if_pos h2,if_pos h2]; rfl
  ·rw [if_neg h2,if_neg h2];by_cases h3:e.kind=3
   ·rw [if_pos h3,if_pos h3];unfold eB;rw [if_pos (hd h3),List.map_map];rfl
   ·rw [if_neg h3,if_neg h3]; rfl
theorem yh {ts:List Ty} {typ:ByteArray} {es:List Ex} {d:Dp} {i:Nat} (hd:d ∈ iP ts typ es i):∀ {k:Nat},i < k→d ∈ aH ts typ es k
 | 0,h=>by omega
 | k + 1,h=>by
  simp only [aH];by_cases e:i=k
  ·subst e; exact List.mem_append.2 (.inr hd)
  ·exact List.mem_append.2 (.inl (yh hd (by omega)))
theorem vJ {ts:List Ty} {t r:ByteArray} {es:List Ex} {x:Ky × St}:∀ {k:Nat},x ∈ relE ts t r es k ↔ ∃ i,i < k∧∃ e,es[i]?=some e∧x ∈ vz ts t r ((cO es).getD i false) e
 | 0=>by simp [relE]
 | k + 1=>by
  simp only [relE,List.mem_append];rw [vJ];constructor
  ·rintro (⟨i,hi,h⟩ | h)
   ·exact ⟨i,by omega,h⟩
   ·cases e:es[k]? with
    | none=>rw [e] at h; cases h
    | some y=>rw [e] at h; exact ⟨k,by omega,y,e,h⟩
  ·rintro ⟨i,hi,e,he,h⟩;by_cases ek:i=k
   ·subst ek; right; rw [he]; exact h
   ·exact .inl ⟨i,by omega,e,he,h⟩
theorem kK {rs:List TR} (h:aS (ae rs)=true) {t:TR} (ht:t ∈ rs) {q:RR} (hq:q ∈ t.rows):dM (ae rs) t.name q.name=some (ah q.rows):=by
 have hT:=kH h;have hs:=nN (M:=fun _=>none) (rs:=rs) (k:=(t.name,q.name)) (.inr ⟨t,ht,q,hq,rfl⟩);obtain ⟨v,hv⟩:=Option.isSome_iff_exists.1 hs;obtain ⟨t',ht',q',hq',e,-,e2,-⟩:=hT.yes _ v hv;injection e with e3 e4;have h1:t=t':=Bh h ht ht' e3;subst h1;obtain ⟨i,hi,rfl⟩:=List.mem_iff_getElem.1 ht;have h2:q=q':=Bi (jX h i hi).2.2 hq hq' e4;subst h2;exact e2
theorem fE {es:List Ex} (h:aR es=true):∀ e ∈ es,ak e=true:=by
 simp only [aR,Bool.and_eq_true] at h;exact List.all_eq_true.1 h.1.1.1.2
theorem BA (t r:ByteArray) (ng:Bool):stepOf ⟨t,r,ng⟩=kX ng:=by cases ng <;> rfl
theorem Ke {rs:List TR} (h:aS (ae rs)=true) (hr:iD (ae rs)=true):Edge (ae rs) (gM (ae rs) rs):=by
 have hnode:∀ t ∈ rs,∀ q ∈ t.rows,∀ e ∈ ah q.rows,ak e=true∧(e.kind=3→aV (aC (ae rs) t.name e.over)=true):=by
  intro t ht q hq e he;have h1:=((aX h).2.2 t ht q hq).1;refine ⟨fE h1 e he,fun h3=>?_⟩;unfold iD at hr;rw [List.all_eq_true] at hr;have h2:=hr t.p (List.mem_map_of_mem ht);unfold lJ at h2;rw [List.all_eq_true] at h2;have h4:aJ (ae rs) t.name (ah q.rows)=true:=h2 q.p (List.mem_map_of_mem hq);have h5:=(xw h4 e he).2;unfold jK at h5;rw [if_neg (by omega),if_pos h3,Bool.and_eq_true] at h5;exact h5.1
 intro on t0 r0 s;constructor
 ·intro hm;unfold gM gJ at hm;rw [List.mem_flatMap] at hm;obtain ⟨t,ht,hm⟩:=hm;rw [List.mem_flatMap] at hm;obtain ⟨q,hq,hm⟩:=hm;obtain ⟨i,hi,e,he,hm⟩:=vJ.1 hm;unfold vz at hm;obtain ⟨a,ha,e1⟩:=List.mem_map.1 hm;injection e1 with e2 e3;injection e3 with e4 e5 e6;subst e4; subst e5;refine ⟨lN.2 ⟨t.p,List.mem_map_of_mem ht,q.p,List.mem_map_of_mem hq,rfl⟩,⟨a.t,a.s,(cO (ah q.rows)).getD i false⟩,?_,e2,by rw [BA]; exact e6⟩;unfold fM lG;have ero:aC (ae rs) t.name q.name=ah q.rows:=by unfold aC; rw [kK h ht hq]; rfl
  simp only [ero];have hi2:i < (ah q.rows).length:=(List.getElem?_eq_some_iff.1 he).1;refine yh (i:=i) ?_ hi2;unfold iP;rw [he];obtain ⟨n1,n2⟩:=hnode t ht q hq e (List.mem_of_getElem? he);simp only;rw [yg _ _ _ _ n1 n2];exact List.mem_map_of_mem (f:=fun a:Al=>(⟨a.t,a.s,(cO (ah q.rows)).getD i false⟩:Dp)) ha
 ·rintro ⟨hk,d,hd,e1,e2⟩;obtain ⟨t',ht',r',hr',e3⟩:=lN.1 hk;obtain ⟨t,ht,rfl⟩:=List.mem_map.1 ht';obtain ⟨q,hq,rfl⟩:=List.mem_map.1 hr';injection e3 with e4 e5;subst e4; subst e5;unfold fM lG at hd;have ero:aC (ae rs) t.p.name q.p.name=ah q.rows:=by
   have:=kK h ht hq;show aC (ae rs) t.name q.name=_;unfold aC; rw [this]; rfl
  simp only [ero] at hd;obtain ⟨i,hi,hd⟩:=oo hd;unfold iP at hd;split at hd
  ·cases hd
  ·rename_i e he;obtain ⟨n1,n2⟩:=hnode t ht q hq e (List.mem_of_getElem? he);have hdn:bq ((cO (ah q.rows)).getD i false) e.allow ++ jR (ae rs) t.p.name ((cO (ah q.rows)).getD i false) e=_:=yg (ae rs) t.name _ e n1 n2;rw [hdn] at hd;obtain ⟨a,ha,rfl⟩:=List.mem_map.1 hd;unfold gM gJ;rw [List.mem_flatMap];refine ⟨t,ht,?_⟩;rw [List.mem_flatMap];refine ⟨q,hq,vJ.2 ⟨i,by rw [aI] at hi; exact hi,e,he,?_⟩⟩;unfold vz;rw [List.mem_map];refine ⟨a,ha,?_⟩;rw [← e1,← e2,BA];rfl
theorem I7 {rs:List TR} (h:aS (ae rs)=true):∀ r ∈ rs,∀ q ∈ r.rows,∀ e ∈ q.rows,e.e.allow.length≤6:=by
 intro r hr q hq e he;have h1:=fE ((aX h).2.2 r hr q hq).1 e.e (by unfold ah; exact List.mem_map_of_mem he);by_cases h2:e.e.kind=1
 ·unfold ak at h1;rw [if_pos h2] at h1;simp only [Bool.and_eq_true,fB,decide_eq_true_eq] at h1;exact h1.1.1.1.1.2
 ·rw [oF h1 h2]; simp
theorem mi {α β:Type} (f:α→List β) (B:Nat):∀ (xs:List α),(∀ x ∈ xs,(f x).length≤B)→(xs.flatMap f).length≤xs.length * B
 | [],_=>by simp
 | x::xs,h=>by
  rw [List.flatMap_cons,List.length_append,List.length_cons,Nat.succ_mul];have h1:=h x (by simp);have h2:=mi f B xs fun q hq=>h q (by simp [hq]);omega
theorem Gl (rs:List TR) (h6:∀ r ∈ rs,r.rows.length≤6) (hex:∀ r ∈ rs,∀ q ∈ r.rows,aR (ah q.rows)=true∧q.rows.length≤15∧∀ e ∈ q.rows,bQ q.rows.length e.e.kids) (h66:∀ r ∈ rs,∀ q ∈ r.rows,∀ e ∈ q.rows,e.e.allow.length≤6) (hl:rs.length≤6:=by omega):(gM (ae rs) rs).length≤100000:=by
 have h1:∀ t ∈ rs,(gJ (ae rs) t.name t.rows).length≤540:=by
  intro t ht;have h2:∀ q ∈ t.rows,(relE (ae rs) t.name q.name (ah q.rows) q.rows.length).length≤90:=by
   intro q hq;have h3:∀ k,k≤q.rows.length→(relE (ae rs) t.name q.name (ah q.rows) k).length≤k * 6:=by
    intro k
    induction k with
    | zero=>intro _; simp [relE]
    | succ k ih =>
     intro hk;rw [qU _ _ _ _ _ (by omega) _ rfl,List.length_append];have h4:=ih (by omega);have h5:(vz (ae rs) t.name q.name ((cO (ah q.rows)).getD k false) q.rows[k].e).length≤6:=by
      unfold vz;rw [List.length_map];exact qV rs h66 _ _ (h66 t ht q hq _ (List.getElem_mem (by omega)))
     omega
   have h4:=h3 q.rows.length (Nat.le_refl _);have h5:=(hex t ht q hq).2.1;omega
  have h3:=mi (fun q:RR=>relE (ae rs) t.name q.name (ah q.rows) q.rows.length) 90 t.rows h2;have h4:=h6 t ht;unfold gJ;omega
 have h2:=mi (fun t:TR=>gJ (ae rs) t.name t.rows) 540 rs h1;unfold gM;omega
open Go.ChangeAt Go.ChangeShapes Go.Maps Go.RowKit Go.WideShapes
set_option linter.unusedSectionVars false
set_option linter.unusedVariables false
def iN (sts:List St) (xu:List Al) (n:Int) (o:Al) (k:Nat):List Fc:=((sts.take k).filter fun s=>s.typ.toList == o.t.toList && decide (s.n=n)).flatMap fun s=>iw o s.rel xu
def Lf (sts:List St) (xu:List Al) (n:Int) (o:Al):List Fc:=iN sts xu n o sts.length
def ny (sts:List St) (xo xu:List Al) (n:Int) (i:Nat):List Fc:=(xo.take i).flatMap (Lf sts xu n)
theorem Gm (sts:List St) (xu:List Al) (n:Int) (o:Al):iN sts xu n o 0=[]:=rfl
theorem Kg {sts:List St} {xu:List Al} {n:Int} {o:Al} {k:Nat} (h:k < sts.length) (hc:(sts[k].typ.toList == o.t.toList && decide (sts[k].n=n))=false):iN sts xu n o (k + 1)=iN sts xu n o k:=by
 unfold iN;rw [List.take_succ_eq_append_getElem h,List.filter_append,List.flatMap_append];simp [hc]
theorem I8 {sts:List St} {xu:List Al} {n:Int} {o:Al} {k:Nat} (h:k < sts.length) (hc:(sts[k].typ.toList == o.t.toList && decide (sts[k].n=n))=true):iN sts xu n o (k + 1)=iN sts xu n o k ++ iw o sts[k].rel xu:=by
 unfold iN;rw [List.take_succ_eq_append_getElem h,List.filter_append,List.flatMap_append];simp [hc]
theorem Gn {sts:List St} {xo xu:List Al} {n:Int} {i:Nat} (h:i < xo.length):ny sts xo xu n (i + 1)=ny sts xo xu n i ++ iN sts xu n xo[i] sts.length:=by
 unfold ny;rw [List.take_succ_eq_append_getElem h,List.flatMap_append];simp [Lf]
theorem I9 {ts:List Ty} {sts:List St} (hk:fO sts=aj ts) (hn:(aj ts).Nodup) (xo xu:List Al) (n:Int):ny sts xo xu n xo.length=bF ts (dU sts) xo xu n:=by
 unfold ny bF;rw [List.take_length];congr 1
 funext o
 unfold Lf iN su;rw [List.take_length,J9 hk hn,List.flatMap_map];rfl
theorem Gp (o:Al) (rel:ByteArray) {xu:List Al} {j:Nat} (h:j < xu.length):iw o rel (xu.take (j + 1))=iw o rel (xu.take j) ++ [⟨o.t,o.s,rel,xu[j].t,xu[j].s⟩]:=by
 unfold iw;rw [List.take_succ_eq_append_getElem h,List.map_append]; rfl
theorem vL {e:Ex} (h:ak e=true):e.kids.length≤5∧(e.kind=6→2≤e.kids.length):=by
 unfold ak at h;by_cases k1:e.kind=1
 ·rw [if_pos k1] at h; simp only [Bool.and_eq_true,decide_eq_true_eq] at h; exact ⟨by omega,fun h6=>by omega⟩
 by_cases k2:e.kind=2
 ·rw [if_neg k1,if_pos k2] at h; simp only [Bool.and_eq_true,decide_eq_true_eq] at h; exact ⟨by omega,fun h6=>by omega⟩
 by_cases k3:e.kind=3
 ·rw [if_neg k1,if_neg k2,if_pos k3] at h; simp only [Bool.and_eq_true,decide_eq_true_eq] at h; exact ⟨by omega,fun h6=>by omega⟩
 by_cases k4:e.kind=4 ∨ e.kind=5
 ·rw [if_neg k1,if_neg k2,if_neg k3,if_pos k4] at h; simp only [Bool.and_eq_true,decide_eq_true_eq] at h; exact ⟨by omega,fun h6=>by omega⟩
 by_cases k6:e.kind=6
 ·rw [if_neg k1,if_neg k2,if_neg k3,if_neg k4,if_pos k6] at h; simp only [Bool.and_eq_true,decide_eq_true_eq] at h; exact ⟨by omega,fun h6=>by omega⟩
 ·rw [if_neg k1,if_neg k2,if_neg k3,if_neg k4,if_neg k6] at h; cases h
theorem tK {rows:List ER} (h:aR (ah rows)=true):NodOk rows∧1≤rows.length:=by
 have hl:1≤rows.length∧rows.length≤15:=by
  unfold aR at h;simp only [Bool.and_eq_true,decide_eq_true_eq,aI] at h;exact ⟨h.1.1.1.1.1,h.1.1.1.1.2⟩
 have hlow:=CQ h;have hkl:∀ q ∈ rows,q.e.kids.length≤1000:=fun q hq=>by
  have:=(vL (fE h q.e (List.mem_map.2 ⟨q,hq,rfl⟩))).1;omega
 refine ⟨⟨by omega,hkl,hlow,fun e he h6=>?_⟩,hl.1⟩;exact (vL (fE h e he)).2 h6
section
variable [DecidableEq Fc]
theorem ni (H:List Fc→Fc→Bool) (qs:List Fc) (f:Fc) (out:List Fc):aZ H (qs ++ [f]) out=dG H (aZ H qs out) f:=by rw [Ae]; rfl
theorem qh {H:List Fc→Fc→Bool} {out:List Fc} {f:Fc} (h:df out f=true ∨ H out f=false):dG H out f=out:=by
 unfold dG;rw [if_pos];rcases h with h | h
 ·exact .inl (iK.1 h)
 ·exact .inr h
theorem yj {H:List Fc→Fc→Bool} {out:List Fc} {f:Fc} (h1:df out f=false) (h2:H out f=true):dG H out f=out ++ [f]:=by
 unfold dG;rw [if_neg];rintro (h | h)
 ·rw [iK.2 h] at h1; cases h1
 ·rw [h2] at h; cases h
theorem BB (H:List Fc→Fc→Bool) (qs out:List Fc):out.length≤(aZ H qs out).length:=by
 obtain ⟨n,e,-⟩:=iI (H:=H) qs out;rw [e,List.length_append]; omega
theorem DX {H:List Fc→Fc→Bool} {qs out:List Fc} (h:decide (out.length < (aZ H qs out).length)=false):aZ H qs out=out:=by
 obtain ⟨n,e,-⟩:=iI (H:=H) qs out;rw [e,List.length_append,decide_eq_false_iff_not] at h;have:n=[]:=List.length_eq_zero_iff.1 (by omega);rw [e,this,List.append_nil]
end
set_option maxRecDepth 100000
theorem vM {e:Ex} (h:ak e=true):(e.kind=2→e.name.size≤maxLen)∧(e.kind=3→e.over.size≤maxLen∧e.name.size≤maxLen)∧(e.kind=1 ∨ e.kind=2 ∨ e.kind=3 ∨ e.kind=4 ∨ e.kind=5 ∨ e.kind=6):=by
 unfold ak at h;have hle:∀ s:ByteArray,aO s=true→s.size≤maxLen:=fun s hs=>by have:=(lQ hs).2; unfold maxLen; omega
 by_cases k1:e.kind=1
 ·exact ⟨fun h2=>by omega,fun h3=>by omega,.inl k1⟩
 by_cases k2:e.kind=2
 ·rw [if_neg k1,if_pos k2] at h; simp only [Bool.and_eq_true] at h; exact ⟨fun _=>hle _ h.1.1.1,fun h3=>by omega,.inr (.inl k2)⟩
 by_cases k3:e.kind=3
 ·rw [if_neg k1,if_neg k2,if_pos k3] at h; simp only [Bool.and_eq_true] at h; exact ⟨fun h2=>by omega,fun _=>⟨hle _ h.1.1.1,hle _ h.1.1.2⟩,.inr (.inr (.inl k3))⟩
 refine ⟨fun h2=>absurd h2 k2,fun h3=>absurd h3 k3,?_⟩;by_cases k4:e.kind=4 ∨ e.kind=5
 ·rcases k4 with k4 | k4
  ·exact .inr (.inr (.inr (.inl k4)))
  ·exact .inr (.inr (.inr (.inr (.inl k4))))
 by_cases k6:e.kind=6
 ·exact .inr (.inr (.inr (.inr (.inr k6))))
 ·rw [if_neg k1,if_neg k2,if_neg k3,if_neg k4,if_neg k6] at h; cases h
section
variable {rs:List TR} {D br bp bt bK nK:Nat} {n1:Int} {nr:Nat} {Mr:KL→Option Value} {Er:List (KL × RR)} {ts:List Tp} {xo xu:List Al} {np:Nat} {Mp:K3→Option Value} {vo vu:Value} {out:List Fc} {f:Fc} {adE:Option Addr} {capE:Nat} {rows:List ER}
theorem jN (hN:NodOk rows) (hnb:∀ e ∈ ah rows,ak e=true) (hf:f.fits) (hts:∀ t ∈ ts,t.fits) (htl:ts.length≤1000) :
  ∀ (k n:Nat) (w:World),n < k→n < rows.length→DatA w rs D br bp bt n1 nr Mr Er (aN ts) xo xu np Mp vo vu→aB fT prog 42 w bK nK (oG out)→dw w adE rows →
  Calls prog 100 #[.pointer (some ⟨D,0,none⟩),.slice adE rows.length capE,.int .i64 (n:Int),.agg #[.string f.a,.string f.b,.string f.r,.string f.c,.string f.d],.map (some bK)] w fun e w'=>e=.returned (.bool (dW ts (ah rows) out f k out n))∧Below w.heap.size w w'
 | 0,_,_,h,_,_,_,_=>absurd h (Nat.not_lt_zero _)
 | k + 1,n,w,hk,hn,hD,hK,hex=>by
  have e:(ah rows)[n]?=some rows[n].e:=by simp [ah,hn]
  have hkid:∀ i ∈ rows[n].e.kids,zI D (.slice adE rows.length capE) f bK w i (dW ts (ah rows) out f k out i.toNat):=fun i hi w1 hb1=>by
   have h1:=hN.kid hn hi;have h2:=jN hN hnb hf hts htl k i.toNat w1 (by omega) (by omega) (hD.below hb1) (hK.below hb1) (hex.below hb1);have e2:((i.toNat:Nat):Int)=i:=by omega
   rw [e2] at h2;exact h2
  have hm:rows[n] ∈ rows:=List.getElem_mem hn;have hme:rows[n].e ∈ ah rows:=List.mem_map.2 ⟨_,hm,rfl⟩;obtain ⟨hn2,hn3,hkd⟩:=vM (hnb _ hme);unfold dW;rw [e];by_cases k1:rows[n].e.kind=1
  ·simp only [if_pos k1];exact Gg hn hD hK hf hts htl hex hN.len k1
  by_cases k2:rows[n].e.kind=2
  ·simp only [if_neg k1,if_pos k2];exact I5 hn hK hf (hn2 k2) hex hN.len k2
  by_cases k3:rows[n].e.kind=3
  ·simp only [if_neg k1,if_neg k2,if_pos k3];exact Gh hn hD hK hf (hn3 k3) hts htl hex hN.len k3
  by_cases k4:rows[n].e.kind=4
  ·simp only [if_neg k1,if_neg k2,if_neg k3,if_pos k4];exact DW hn (fun i=>dW ts (ah rows) out f k out i.toNat) (hN.kids _ hm) hkid hex hN.len k4
  by_cases k5:rows[n].e.kind=5
  ·simp only [if_neg k1,if_neg k2,if_neg k3,if_neg k4,if_pos k5];exact Gi hn (fun i=>dW ts (ah rows) out f k out i.toNat) (hN.kids _ hm) hkid hex hN.len k5
  have k6:rows[n].e.kind=6:=by omega
  simp only [if_neg k1,if_neg k2,if_neg k3,if_neg k4,if_neg k5,if_pos k6];have h2:=hN.two _ hme k6;have hg:∀ q,q < 2→rows[n].e.kids.getD q 0 ∈ rows[n].e.kids:=fun q hq=>by
   rw [List.getD_eq_getElem?_getD,List.getElem?_eq_getElem (by omega)];exact List.getElem_mem _
  exact I6 hn _ _ (hN.kids _ hm) h2 (hkid _ (hg 0 (by omega))) (hkid _ (hg 1 (by omega))) hex hN.len k6
theorem EY {rs:List TR} (h:aS (ae rs)=true) {k:ByteArray × ByteArray} (hk:k ∈ aj (ae rs)):∃ t ∈ rs,∃ q ∈ t.rows,jy rs k=some q.sl∧ah q.rows=aC (ae rs) k.1 k.2∧aR (ah q.rows)=true:=by
 have hk':=hk;unfold aj at hk;obtain ⟨T,hT,hk⟩:=List.mem_flatMap.1 hk;obtain ⟨t,ht,rfl⟩:=List.mem_map.1 hT;unfold il at hk;obtain ⟨r,hr,rfl⟩:=List.mem_map.1 hk;obtain ⟨q,hq,rfl⟩:=List.mem_map.1 hr;have hrel:=kK h ht hq;cases e:jy rs (t.p.name,q.p.name) with
 | none =>
  have h1:=(kH h).no _ e;have h2:dM (ae rs) t.name q.name=none:=h1;rw [hrel] at h2; cases h2
 | some v =>
  obtain ⟨t',ht',q',hq',-,rfl,e1,-⟩:=(kH h).yes _ v e;refine ⟨t',ht',q',hq',rfl,?_,((aX h).2.2 t' ht' q' hq').1⟩;unfold aC; rw [e1]; rfl
theorem Gq {w:World} {ad:Option Addr} (hD:DatA w rs D br bp bt n1 nr Mr Er (aN ts) xo xu np Mp vo vu) (hK:aB fT prog 42 w bK nK (oG out)) (hf:f.fits) (hts:∀ t ∈ ts,t.fits) (htl:ts.length≤1000) (hsh:aS (ae rs)=true) (hkey:(f.a,f.r) ∈ aj (ae rs)) (hs:eY w ad rs) :
  Calls prog 126 #[.pointer (some ⟨D,0,none⟩),.agg #[.string f.a,.string f.b,.string f.r,.string f.c,.string f.d],.map (some bK)] w fun e w'=>e=.returned (.bool (fZ (ae rs) ts out f))∧Below w.heap.size w w':=by
 obtain ⟨t,htm,q,hq,htab,hrx,hsp⟩:=EY hsh hkey;obtain ⟨hN,hr1⟩:=tK hsp;have hnb:=fE hsp;have HFR:jP rs q.ad q.rows:=.inr ⟨t,htm,q,hq,rfl,rfl⟩;obtain ⟨kl,hkl⟩:=gp (f.a,f.r) hf.1 hf.2.2.1;obtain ⟨W0,hW0⟩:∃ W0,W0=w.alloc (.cells #[.string f.a,.string f.b,.string f.r,.string f.c,.string f.d] 42):=⟨_,rfl⟩;have HB0:=nX hW0;have c0:W0.cell? ⟨w.heap.size,0,none⟩=some (.string f.a):=by rw [hW0]; simp
 have c1:W0.cell? ⟨w.heap.size,1,none⟩=some (.string f.b):=by rw [hW0]; simp
 have c2:W0.cell? ⟨w.heap.size,2,none⟩=some (.string f.r):=by rw [hW0]; simp
 have c3:W0.cell? ⟨w.heap.size,3,none⟩=some (.string f.c):=by rw [hW0]; simp
 have c4:W0.cell? ⟨w.heap.size,4,none⟩=some (.string f.d):=by rw [hW0]; simp
 have d0:=HB0.out.cell (p:=⟨D,0,none⟩) hD.dat.lt |>.trans hD.dat.c0;obtain ⟨adE,hadE⟩:∃ a,a=q.ad:=⟨_,rfl⟩;obtain ⟨capE,hcapE⟩:∃ a,a=q.cap:=⟨_,rfl⟩;obtain ⟨rows,hrows⟩:∃ a,a=q.rows:=⟨_,rfl⟩;have hsl:q.sl=.slice adE rows.length capE:=by rw [hadE,hcapE,hrows]; rfl
 rw [← hrows] at hN hnb hr1 hrx;rw [← hrows,← hadE] at HFR;have hlk:∀ m,(Instr.lookup 124 (.map (some bt)) (.agg #[.string f.a,.string f.r]) false).run prog (W0.drewN m)=.ok (.slice adE rows.length capE) (W0.drewN m):=fun m=>by
  have h:=((hD.tab.below HB0.out).below (below_drewN (Below.refl _ _) m)).look (t:=124) (e:=105) fU underlying124 (jW _) (x:=(f.a,f.r)) hkl;rw [htab,hsl] at h;exact h
 have hr1000:=hN.len;have hwr:IntKind.i64.wrap ((rows.length:Int) - 1)=((rows.length - 1:Nat):Int):=by rw [IntKind.wrap_i64]; omega
 have HC:Hid (∀ nq,Calls prog 100 #[.pointer (some ⟨D,0,none⟩),.slice adE rows.length capE,.int .i64 ((rows.length - 1:Nat):Int),.agg #[.string f.a,.string f.b,.string f.r,.string f.c,.string f.d],.map (some bK)] (W0.drewN nq) fun e w'=>e=.returned (.bool (fZ (ae rs) ts out f))∧Below (W0.drewN nq).heap.size (W0.drewN nq) w'):=fun nq=>by
  have hb:Below w.heap.size w (W0.drewN nq):=below_drewN HB0.out nq;have h:=jN (capE:=capE) hN hnb hf hts htl rows.length (rows.length - 1) (W0.drewN nq) (by omega) (by omega) (hD.below hb) (hK.below hb) (HFR.sl (hs.below hb));unfold fZ;rw [← hrx,aI];exact h
 clear hD hK hs hsp hkl htab hsl hN hnb hf hadE hcapE hrows HFR hrx hkey;go_enter func126,ntmps126;go_wp2_with fail;rw [← hW0];clear hW0;go_quiet (fail);clear d0 hlk;go_wp2_with fail;refine (HC.out _).mono ?_;rintro e w1 ⟨rfl,hb1⟩;have HB1:=ag ((below_drewN HB0.out _).trans (hb1.mono HB0.out.size));clear hb1 c0 c1 c2 c3 c4;go_wp2;go_ret;exact ⟨rfl,HB1.out⟩
end
end Go.Proofs.YtdaoiceeidoehaaGreat
namespace Go.Proofs.YtdaoiceeidoehaaGreat
set_option linter.unusedVariables false
set_option maxRecDepth 100000
open Go.ChangeShapes Go.WideShapes Go.ChangeAt Go.RowKit Go.Maps Go.Shelf
open Pl
attribute [local go_sem] Oper.semAt_some
theorem DY {n m:Nat} {P:Program} {l:Nat} {f:FuncId} {tmps:Array Value} {assign body:Code} {w:World} {R:Ending→World→Prop} (h:RoundIn Fence.wide n P l f tmps assign body w R):RoundIn Fence.wide m P l f tmps assign body w R :=
 ⟨h.1,fun c cs _=>h.2 c cs (room_wide _)⟩
theorem vN (D:Nat) (sn:Int) (adU:Option Addr) (nU capU:Nat) (w:World) :
  Calls prog 125 #[.pointer (some ⟨D,0,none⟩),.int .i64 sn,.slice adU nU capU] w fun e w'=>e=.returned (.func (.func 151) #[] #[.pointer (some ⟨w.heap.size,0,none⟩),.pointer (some ⟨w.heap.size + 1,0,none⟩),.pointer (some ⟨w.heap.size + 1 + 1,0,none⟩)])∧w'=((w.alloc (.cells #[.pointer (some ⟨D,0,none⟩)] 93)).alloc (.cells #[.int .i64 sn] 2)).alloc (.cells #[.slice adU nU capU] 108):=by
 go_enter func125,ntmps125;go_wp2;go_ret;exact ⟨rfl,rfl⟩
theorem zJ (D:Nat) (sn:Int) (adU:Option Addr) (nU capU:Nat) (bK:Nat) (w:World) :
  Calls prog 92 #[.pointer (some ⟨D,0,none⟩),.int .i64 sn,.slice adU nU capU,.map (some bK)] w fun e w'=>e=.returned (.func (.func 124) #[] #[.pointer (some ⟨w.heap.size,0,none⟩),.pointer (some ⟨w.heap.size + 1,0,none⟩),.pointer (some ⟨w.heap.size + 1 + 1,0,none⟩),.pointer (some ⟨w.heap.size + 1 + 1 + 1,0,none⟩)])∧w'=(((w.alloc (.cells #[.pointer (some ⟨D,0,none⟩)] 93)).alloc (.cells #[.int .i64 sn] 2)).alloc (.cells #[.slice adU nU capU] 108)).alloc (.cells #[.map (some bK)] 84):=by
 go_enter func92,ntmps92;go_wp2;go_ret;exact ⟨rfl,rfl⟩
structure NewM (W:World) (rs:List TR) (adS:Option Addr) (D br bp bt:Nat) (n1:Int) (nr:Nat) (Mr:KL→Option Value) (Er:List (KL × RR)) (ts:List Tp) (xo xu:List Al) (np:Nat) (Mp:K3→Option Value) (vo vu:Value) (bK:Nat) (out:List Fc) (hD hS hU hK:Nat) (sn:Int) (adU:Option Addr) (capU:Nat) (us:List Al):Prop where
 dat:DatA W rs D br bp bt n1 nr Mr Er (aN ts) xo xu np Mp vo vu
 sch:eY W adS rs
 map:∃ nK,aB fT prog 42 W bK nK (oG out)
 bD:W.cell? ⟨hD,0,none⟩=some (.pointer (some ⟨D,0,none⟩))
 bS:W.cell? ⟨hS,0,none⟩=some (.int .i64 sn)
 bU:W.cell? ⟨hU,0,none⟩=some (.slice adU us.length capU)
 bM:W.cell? ⟨hK,0,none⟩=some (.map (some bK))
 users:fV W adU us
def Lg (l:Nat):Value:=.func (.yield l) #[] #[]
def eX (W:World) (g:Nat) (v:Value) (T:TypeId):Prop:=W.heap[g]?=some (.cells #[v] T (0,0))
theorem eX.c {W:World} {g:Nat} {v:Value} {T:TypeId} (h:eX W g v T):W.cell? ⟨g,0,none⟩=some v:=by
 unfold eX at h;simp [World.cell?,h]
theorem eX.kp {b l:Nat} {W W':World} {g:Nat} {v:Value} {T:TypeId} (h:eX W g v T) (hk:KpO b l W W') (h1:T ≠ 42) (h2:T ≠ 38):eX W' g v T:=hk.cells g _ _ _ h h1 h2
theorem eX.bel {W W':World} {g:Nat} {v:Value} {T:TypeId} (h:eX W g v T) (hb:Below W.heap.size W W'):eX W' g v T:=(hb.block g (Array.getElem?_eq_some_iff.1 h).1).trans h
structure NBx (W:World) (B l D:Nat) (sn:Int) (vU:Value):Prop where
 y:eX W B (Lg l) 65
 d:eX W (B + 1) (.pointer (some ⟨D,0,none⟩)) 93
 s:eX W (B + 1 + 1) (.int .i64 sn) 2
 u:eX W (B + 1 + 1 + 1) vU 108
theorem NBx.kp {b l0:Nat} {W W':World} {B l D:Nat} {sn:Int} {vU:Value} (h:NBx W B l D sn vU) (hk:KpO b l0 W W'):NBx W' B l D sn vU :=
 ⟨h.y.kp hk (by decide) (by decide),h.d.kp hk (by decide) (by decide),h.s.kp hk (by decide) (by decide),h.u.kp hk (by decide) (by decide)⟩
theorem NBx.bel {W W':World} {B l D:Nat} {sn:Int} {vU:Value} (h:NBx W B l D sn vU) (hb:Below W.heap.size W W'):NBx W' B l D sn vU:=⟨h.y.bel hb,h.d.bel hb,h.s.bel hb,h.u.bel hb⟩
theorem Kh {β:Type} {B0 B l D:Nat} {sn:Int} {vU:Value} (hB:B + 1 + 1 + 1 < B0):OwnFrom B0 (fun (_:β) W=>NBx W B l D sn vU):=fun s X Y row hs hg hr=>by
 have key:∀ g v T,g < B0→eX X g v T→eX Y g v T:=fun g v T hl h=>(hg.block g (Array.getElem?_eq_some_iff.1 h).1 fun e=>by have:=(hr g e.symm).1; omega).trans h;exact ⟨key _ _ _ (by omega) hs.y,key _ _ _ (by omega) hs.d,key _ _ _ (by omega) hs.s,key _ _ _ (by omega) hs.u⟩
def wP (W:World) (g:Nat) (x:Fc):Prop:=W.heap[g]?=some (.cells #[.string x.a,.string x.b,.string x.r,.string x.c,.string x.d] 42 (0,0))
theorem wP.c {W:World} {g:Nat} {x:Fc} (h:wP W g x):W.cell? ⟨g,0,none⟩=some (.string x.a)∧W.cell? ⟨g,1,none⟩=some (.string x.b)∧W.cell? ⟨g,2,none⟩=some (.string x.r)∧W.cell? ⟨g,3,none⟩=some (.string x.c)∧W.cell? ⟨g,4,none⟩=some (.string x.d)∧g < W.heap.size:=by
 have hl:=(Array.getElem?_eq_some_iff.1 h).1;unfold wP at h;exact ⟨by simp [World.cell?,h],by simp [World.cell?,h],by simp [World.cell?,h],by simp [World.cell?,h],by simp [World.cell?,h],hl⟩
theorem wP.bel {W W':World} {g:Nat} {x:Fc} (h:wP W g x) (hb:Below W.heap.size W W'):wP W' g x:=(hb.block g (Array.getElem?_eq_some_iff.1 h).1).trans h
theorem BC {B0 g:Nat} {x:Fc}:OwnFrom B0 (fun (_:Unit) W=>wP W g x):=fun s X Y row hs hg hr=>by
 refine (hg.block g (Array.getElem?_eq_some_iff.1 hs).1 fun e=>?_).trans hs;obtain ⟨-,o,ho,hc⟩:=hr g e.symm;rw [show X.heap[g]?=_ from hs] at ho;cases ho; cases hc
theorem Ja {l' m:Nat} {P:Program} {f:FuncId} {args:Array Value} {w:World} {R:Ending→World→Prop} (h:Calls P f args w R):CallsIn (Fence.wide.inRound l') m P f args w R:=(callsIn_wide (n:=m)).2 h
theorem Lh {l' n m:Nat} {P:Program} {l:Nat} {f:FuncId} {tmps:Array Value} {assign body:Code} {w:World} {R:Ending→World→Prop} (h:RoundIn Fence.wide n P l f tmps assign body w R):RoundIn (Fence.wide.inRound l') m P l f tmps assign body w R:=DY (m:=m) h
theorem rY {B:Nat} {W W':World} (h:Below W.heap.size W W'):KeepsFrom B W W':=⟨h.size,fun k o _ hk _=>(h.block k (Array.getElem?_eq_some_iff.1 hk).1).trans hk⟩
theorem Jb {B b l:Nat} {W W':World} (h:KpO b l W W') (hl:l < B) (hb:b < B):KeepsFrom B W W':=⟨h.size,fun k o hB hk hc=>h.other k o hk hc (by omega) (by omega)⟩
theorem BD {rs:List TR} {st:ByteArray × ByteArray→Int} {xo us:List Al} {sn:Int} {x:Fc} (hof:∀ o ∈ xo,o.t.size≤maxLen∧o.s.size≤maxLen) (huf:∀ o ∈ us,o.t.size≤maxLen∧o.s.size≤maxLen) (hrf:∀ k ∈ aj (ae rs),k.2.size≤maxLen) (h:x ∈ bF (ae rs) st xo us sn):(x.a,x.r) ∈ aj (ae rs)∧x.fits:=by
 unfold bF su at h;obtain ⟨o,ho,h⟩:=List.mem_flatMap.1 h;obtain ⟨k,hk,h⟩:=List.mem_flatMap.1 h;obtain ⟨u,hu,rfl⟩:=List.mem_map.1 h;obtain ⟨h1,h2⟩:=List.mem_filter.1 hk;rw [Bool.and_eq_true,dJ] at h2;have e:(o.t,k.2)=k:=Prod.ext h2.1.symm rfl;refine ⟨?_,(hof o ho).1,(hof o ho).2,hrf k h1,(huf u hu).1,(huf u hu).2⟩;show (o.t,k.2) ∈ _;rw [e]; exact h1
theorem Gr [DecidableEq Fc] (n:Nat) (hn:4≤n) (rs:List TR) (adS:Option Addr) (D br bp bt:Nat) (n1:Int) (nr:Nat) (Mr:KL→Option Value) (st:ByteArray × ByteArray→Int) (ts:List Tp) (adO:Option Addr) (capO:Nat) (xo xu:List Al) (np:Nat) (Mp:K3→Option Value) (vu:Value) (bK:Nat) (out0:List Fc) (hD hS hU hK:Nat) (sn:Int) (adU:Option Addr) (capU:Nat) (us:List Al) (w0:World) (hs0:0≤sn) (hs1:sn≤1000) (hol:xo.length≤1000) (hul:us.length≤1000) (hrl:∀ k,(G.lookL (dF st rs) k).length≤1000) (hsh:aS (ae rs)=true) (hts:∀ t ∈ ts,t.fits) (htl:ts.length≤1000) (hof:∀ o ∈ xo,o.t.size≤maxLen∧o.s.size≤maxLen) (huf:∀ o ∈ us,o.t.size≤maxLen∧o.s.size≤maxLen) (hrf:∀ k ∈ aj (ae rs),k.2.size≤maxLen) :
  yH Fence.wide n prog 124 #[.pointer (some ⟨hD,0,none⟩),.pointer (some ⟨hS,0,none⟩),.pointer (some ⟨hU,0,none⟩),.pointer (some ⟨hK,0,none⟩)] yf (KpO bK) (fun pre W=>NewM W rs adS D br bp bt n1 nr Mr (dF st rs) ts xo xu np Mp (.slice adO xo.length capO) vu bK (out0 ++ pre) hD hS hU hK sn adU capU us) (fun pre x=>x ∈ bF (ae rs) st xo us sn∧x ∉ out0 ++ pre) (fun xs=>aZ (fZ (ae rs) ts) (bF (ae rs) st xo us sn) out0=out0 ++ xs) w0:=by
 intro l J W _ hlW _ hJ hT hY h0;have hM:=hT _ _ h0;obtain ⟨nK0,hmap0⟩:=hM.map;have hbK:=hmap0.lt;have bD:=hM.bD;have bS:=hM.bS;have bU:=hM.bU;have lD:=ax bD;have lS:=ax bS;have lU:=ax bU;obtain ⟨W1,hW1⟩:∃ W1,W1=W.alloc (.cells #[.func (.yield l) #[] #[]] 65):=⟨_,rfl⟩;have hB1:Below W.heap.size W W1:=by rw [hW1]; exact (Below.refl _ _).alloc (Nat.le_refl _) _
 have s1:W1.heap.size=W.heap.size + 1:=by rw [hW1,World.size_alloc]
 have y1:eX W1 W.heap.size (Lg l) 65:=by rw [hW1]; exact World.alloc_heap_new W _
 have bD1:=aD hB1 lD bD;have bS1:=aD hB1 lS bS;have bU1:=aD hB1 lU bU;clear hM hmap0;refine callsIn_of_wp_marks func124 rfl trivial ?_ rfl;simp only [ntmps124,List.size_toArray,List.length_cons,List.length_nil,Nat.reduceAdd,Nat.reduceSub,Array.replicate_succ,Array.replicate_zero,List.push_toArray,List.append_toArray,List.nil_append,List.cons_append]
 gi_wp2_with fail
 rw [← hW1];clear hW1;refine ⟨trivial,fun _=>by omega,(callsIn_wide.2 (vN D sn adU us.length capU W1)).mono ?_⟩;rintro e W2 ⟨rfl,hW2⟩;have hB2:Below W1.heap.size W1 W2:=by rw [hW2]; exact (((Below.refl _ _).alloc (Nat.le_refl _) _).alloc (by simp) _).alloc (by simp; omega) _
 have s2:W2.heap.size=W.heap.size + 1 + 1 + 1 + 1:=by rw [hW2,World.size_alloc,World.size_alloc,World.size_alloc,s1]
 have NB:NBx W2 W.heap.size l D sn (.slice adU us.length capU):=by
  obtain ⟨V1,e1⟩:∃ V,V=W1.alloc (.cells #[.pointer (some ⟨D,0,none⟩)] 93):=⟨_,rfl⟩;obtain ⟨V2,e2⟩:∃ V,V=V1.alloc (.cells #[.int .i64 sn] 2):=⟨_,rfl⟩;rw [← e1,← e2] at hW2;have t1:V1.heap.size=W.heap.size + 1 + 1:=by rw [e1,World.size_alloc,s1]
  have t2:V2.heap.size=W.heap.size + 1 + 1 + 1:=by rw [e2,World.size_alloc,t1]
  have f1:Below W1.heap.size W1 V1:=by rw [e1]; exact (Below.refl _ _).alloc (Nat.le_refl _) _
  have f2:Below V1.heap.size V1 V2:=by rw [e2]; exact (Below.refl _ _).alloc (Nat.le_refl _) _
  have f3:Below V2.heap.size V2 W2:=by rw [hW2]; exact (Below.refl _ _).alloc (Nat.le_refl _) _
  have g1:eX V1 (W.heap.size + 1) (.pointer (some ⟨D,0,none⟩)) 93:=by rw [e1,← s1]; exact World.alloc_heap_new W1 _
  have g2:eX V2 (W.heap.size + 1 + 1) (.int .i64 sn) 2:=by rw [e2,← t1]; exact World.alloc_heap_new V1 _
  have g3:eX W2 (W.heap.size + 1 + 1 + 1) (.slice adU us.length capU) 108:=by rw [hW2,← t2]; exact World.alloc_heap_new V2 _
  exact ⟨((y1.bel f1).bel f2).bel f3,(g1.bel f2).bel f3,g2.bel f3,g3⟩
 have hB02:Below W.heap.size W W2:=hB1.trans (hB2.mono hB1.size);have J2:=jF hJ h0 hB02;rw [s1];clear hW2 y1 bD bS bU bD1 bS1 bU1 hB1 hB2 lD lS lU;gi_wp2
 refine ll (α:=Fc) rfl (by omega) (gf:=151) (lb:=#[.pointer (some ⟨W.heap.size + 1,0,none⟩),.pointer (some ⟨W.heap.size + 1 + 1,0,none⟩),.pointer (some ⟨W.heap.size + 1 + 1 + 1,0,none⟩)]) rfl trivial (enters_of func151 (by kernel_rfl) rfl)
  (I1 (n - 1) (by omega) D br nr Mr st rs adO capO xo (W.heap.size + 1) (W.heap.size + 1 + 1) (W.heap.size + 1 + 1 + 1) sn adU capU us W2 hs0 hs1 hol hul hrl (fun o ho=>(hof o ho).1)) (Below.refl _ _) (fun _=>rfl) (fun h k=>h.trans k) (fun X lx o o' h1 h2=>KpI.put h1 h2)
  (fun pre X=>(∃ xs,aZ (fZ (ae rs) ts) pre out0=out0 ++ xs∧J xs X)∧NBx X W.heap.size l D sn (.slice adU us.length capU))
  ?own ?tell ⟨⟨[],by rw [List.append_nil]; rfl,J2⟩,NB⟩
  (fun x a' X=>∃ Bx,wP X Bx x∧a'={ tmps:=#[.func (.yield l) #[] #[],.pointer (some ⟨hD,0,none⟩),.pointer (some ⟨hS,0,none⟩),.pointer (some ⟨hU,0,none⟩),.pointer (some ⟨hK,0,none⟩),.pointer (some ⟨W.heap.size,0,none⟩),.pointer (some ⟨Bx,0,none⟩),.pointer (some ⟨D,0,none⟩),.int .i64 sn,.slice adU us.length capU,.func (.func 151) #[] #[.pointer (some ⟨W.heap.size + 1,0,none⟩),.pointer (some ⟨W.heap.size + 1 + 1,0,none⟩),.pointer (some ⟨W.heap.size + 1 + 1 + 1,0,none⟩)],.agg #[.string x.a,.string x.b,.string x.r,.string x.c,.string x.d],undef,undef,undef,undef,undef,undef,undef,undef,undef,undef,undef,undef,undef,undef,undef,undef],defers:=[] })
  (fun x a' s X Y row hs hg hr=>by obtain ⟨Bx,h,e⟩:=hs; exact ⟨Bx,BC (B0:=W2.heap.size) (g:=Bx) (x:=x) () X Y row h hg hr,e⟩) ?assign ?body ?done
 case own =>
  refine OwnFrom.and (fun pre X Y row hs hg hr=>?_) (Kh (by omega));obtain ⟨xs,h1,h2⟩:=hs;exact ⟨xs,h1,hJ xs X Y row h2 hg fun r e=>⟨by have:=(hr r e).1; have:=hB02.size; omega,(hr r e).2⟩⟩
 case tell =>
  rintro pre X ⟨⟨xs,h1,h2⟩,hb⟩;have hm:=hT _ _ h2;obtain ⟨ad',cap',e,hso⟩:=iL hm.dat.dat.objs;injection e with ea eb ec;exact ⟨hm.dat.dat.c2,hm.dat.dat.c4,by rw [ea]; exact hso,hm.dat.rel,hb.d.c,hb.s.c,hb.u.c,hm.users⟩
 case assign =>
  rintro l' pre x X K ⟨⟨xs,h1,h2⟩,hb⟩ hKK;unfold yf;gi_wp2;have hbl:Below X.heap.size X (X.alloc (.cells #[.string x.a,.string x.b,.string x.r,.string x.c,.string x.d] 42)):=(Below.refl _ _).alloc (Nat.le_refl _) _;exact hKK _ _ ((KeepsOthers.alloc _ _).from _) (KpI.below hbl) ⟨⟨xs,h1,jF hJ h2 hbl⟩,hb.bel hbl⟩ ⟨X.heap.size,World.alloc_heap_new X _,rfl⟩
 case body =>
  rintro l' pre x a' X hl hEx ⟨⟨xs,hrun,hJx⟩,NBX⟩ ⟨Bx,bX,rfl⟩;have hm:=hT _ _ hJx;obtain ⟨nK,hmap⟩:=hm.map;obtain ⟨c0,c1,c2,c3,c4,cl⟩:=bX.c;have bM:=hm.bM;have lM:=ax bM;obtain ⟨hkey,hxf⟩:=BD hof huf hrf hEx
  gi_wp2_with fail
  refine ⟨trivial,fun _=>by omega,(Ja (mg bK nK (out0 ++ xs) x X hxf hmap)).mono ?_⟩;rintro e X2 ⟨rfl,hb2⟩;have J2':=jF hJ hJx hb2;have NB2:=NBX.bel hb2;cases hh:df (out0 ++ xs) x with
  | true =>
   have hr2:aZ (fZ (ae rs) ts) (pre ++ [x]) out0=out0 ++ xs:=by rw [ni,hrun,qh (.inl hh)]
   clear c0 c1 c2 c3 c4 cl bM lM hm;gi_wp2;refine ⟨trivial,?_⟩;gi_wp2;refine ⟨fun f h=>(by cases h),?_⟩;gi_wp2;exact ⟨rY hb2,KpI.below hb2,⟨xs,hr2,J2'⟩,NB2⟩
  | false =>
   have bX2:=bX.bel hb2;have hm2:=hT _ _ J2';obtain ⟨nK2,hmap2⟩:=hm2.map;have bM2:=hm2.bM;have bD2:=hm2.bD;obtain ⟨d0,d1,d2,d3,d4,dl⟩:=bX2.c;clear c0 c1 c2 c3 c4 cl bM lM hm
   gi_wp2_with fail
   refine ⟨trivial,fun _=>by omega,(Ja (Gq hm2.dat hmap2 hxf hts htl hsh hkey hm2.sch)).mono ?_⟩;rintro e X3 ⟨rfl,hb3⟩;have hb23:Below X.heap.size X X3:=hb2.trans (hb3.mono hb2.size);have J3':=jF hJ J2' hb3;have NB3:=NB2.bel hb3;clear hm2;cases hv:fZ (ae rs) ts (out0 ++ xs) x with
   | false =>
    have hr2:aZ (fZ (ae rs) ts) (pre ++ [x]) out0=out0 ++ xs:=by rw [ni,hrun,qh (.inr hv)]
    clear d0 d1 d2 d3 d4 dl bM2 bD2;gi_wp2;refine ⟨fun f h=>(by cases h),?_⟩;gi_wp2;exact ⟨rY hb23,KpI.below hb23,⟨xs,hr2,J3'⟩,NB3⟩
   | true =>
    have hr2:aZ (fZ (ae rs) ts) (pre ++ [x]) out0=out0 ++ (xs ++ [x]):=by rw [ni,hrun,yj hh hv,List.append_assoc]
    obtain ⟨fn,tmps,assign,body,hy,hR⟩:=hY xs x X3 J3' ⟨hEx,fun hm=>by rw [iK.2 hm] at hh; cases hh⟩;unfold yf at hy;obtain ⟨f0,f1,f2,f3,f4,fl⟩:=(bX2.bel hb3).c;have yc:=NB3.y.c;have yl:=ax yc;unfold Lg at yc;clear d0 d1 d2 d3 d4 dl bM2 bD2;gi_wp2;refine ⟨fun _=>by omega,(Lh hR).mono ?_⟩;rintro e X4 ⟨rfl,hJ4,hK4⟩;have hk24:KpO bK l X X4:=(KpO.below hb23).trans hK4;have NB4:=NB3.kp hK4;clear f0 f1 f2 f3 f4 fl yc yl hy;gi_wp2;exact ⟨Jb hk24 (by omega) (by omega),hk24.toI,⟨xs ++ [x],hr2,hJ4⟩,NB4⟩
 case done =>
  rintro Dd ys X hDd hS ⟨⟨xs,h1,h2⟩,-⟩ hKd;rw [hS] at h1;gi_wp2;refine ⟨by simp,.inl ⟨_,_,rfl,run_takeDeferred hKd,?_⟩⟩;exact ⟨_,results_none rfl _ _ _,⟨_,rfl⟩,xs,h1,hJ.putObj _ h2 (by have:=hB02.size; omega) hKd rfl⟩
end Go.Proofs.YtdaoiceeidoehaaGreat
