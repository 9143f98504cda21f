/- What is found is a proof, step by step; where its rest is one still, those steps that ask for what is left out follow without it. -/
import Derived.Test.YtdaoiceeidoehaaGreatJ33
import Derived.Laws.AppendOwnNone
open Go.Proofs.Tryz
set_option maxHeartbeats 80000000
namespace Go.Proofs.YtdaoiceeidoehaaGreat
set_option linter.unusedVariables false
set_option linter.unusedSectionVars false
open Pl
theorem Js {rs:List TR} (h:aV (ae rs)=true) {k:ByteArray × ByteArray} (hk:k ∈ ai (ae rs)):aR k.2=true∧hasB (ae rs) k.1 k.2=true:=by
 obtain ⟨es,h1,h2⟩:=Fg h hk;refine ⟨?_,?_⟩
 ·unfold ai at hk;obtain ⟨T,hT,hk⟩:=Sk.1 hk;obtain ⟨t,ht,rfl⟩:=Sa.1 hT;unfold iB at hk;obtain ⟨r,hr,rfl⟩:=Sa.1 hk;obtain ⟨q,hq,rfl⟩:=Sa.1 hr;obtain ⟨i,hi,rfl⟩:=Sz ht;obtain ⟨j,hj,rfl⟩:=Sz hq;exact (tV (j6 h i hi).2.2 j hj (by first | exact hj | omega)).1
 ·rw [El];unfold ax;rw [h1];intro e;have e2:es=[]:=e;rw [e2] at h2;simp [aU] at h2
section
variable [DecidableEq Fc]
theorem FI {ts:List Tp} (h:∀ t ∈ ts,t.ok=true) {o:Al} (ho:∃ t ∈ ts,o=⟨t.a,t.b⟩ ∨ o=⟨t.c,t.d⟩):eH o.t o.s=true:=by
 obtain ⟨t,ht,e⟩:=ho;have h1:=h t ht;unfold Tp.ok df at h1;simp only [R7] at h1;rcases e with rfl | rfl
 ·exact h1.1.1.1
 ·exact h1.1.2
theorem KW {st:ByteArray × ByteArray→Int} {rs:List TR} {ts:List Tp}:∀ x ∈ aI st rs ts,okB x=true:=fun x hx=>by
 cases hr:aP (fC rs) rs ts with
 | false=>rw [iI hr] at hx; cases hx
 | true =>
  rw [fD hr] at hx;unfold aP at hr;simp only [R7] at hr;have hsh:=(bq.1 hr.1.1).1;obtain ⟨-,hok,-⟩:=MI hr.1.2;have h1:=(kN st rs ts (fI ts) (dG ts) _).sub x hx;unfold zT at h1;obtain ⟨o,ho,h1⟩:=Sk.1 h1;obtain ⟨k,hk,h1⟩:=Sk.1 h1;unfold iJ at h1;obtain ⟨u,hu,rfl⟩:=Sa.1 h1;have hO:eH o.t o.s=true:=by
   rcases zg ts [] o ho with h | h
   ·cases h
   ·exact FI hok h
  have hU:eH u.t u.s=true:=by
   rcases zh ts [] u hu with h | h
   ·cases h
   ·exact FI hok h
  rw [NN];show ((eH o.t o.s && aR k.2) && eH u.t u.s)=true;rw [hO,hU,(Js hsh hk).1]; rfl
theorem Iw {st:ByteArray × ByteArray→Int} {rs:List TR} {ts:List Tp} (hle:bI (ae rs)=true→Least (ae rs) st):z8 (dE rs ts (aI st rs ts)) (aI st rs ts):=by
 cases hr:aP (fC rs) rs ts with
 | false=>rw [iI hr]; exact fun i h=>absurd h (SE _)
 | true =>
  have hr2:=hr;unfold aP at hr2;simp only [R7] at hr2;have hSP:=bq.1 hr2.1.1;obtain ⟨-,hok,-⟩:=MI hr2.1.2;intro i hi;rw [uC];rw [fD hr] at hi;simp only [fD hr];exact EU (hle hr2.1.1).sol hSP.1 hSP.2.1 (fun t ht=>by
   have h1:=Sg.1 hr2.2 t ht;rw [← BD hr2.1.1 (hok t ht)] at h1;exact h1) (fun k hk=>(Js hSP.1 hk).2) _ hi
theorem vO {st:ByteArray × ByteArray→Int} {rs:List TR} {ts:List Tp}:(aI st rs ts).Nodup:=by
 cases hr:aP (fC rs) rs ts with
 | false=>rw [iI hr]; exact List.nodup_nil
 | true=>rw [fD hr]; exact tq _ _ _ _ _ _
end
theorem FJ {rs:List TR} {ts:List Tp} {Q L:List Fc} (h:∀ x ∈ L,okB x=true):p8 rs ts Q L L.length=true ↔ z8 (dE rs ts Q) L:=by
 unfold p8 z8;rw [Sg];refine ⟨fun hh i hi=>?_,fun hh i hi=>?_⟩
 ·have:=hh i (List.mem_range.2 hi);rw [R8 hi] at this;simp only [R7] at this;rw [uC]; exact this.2
 ·have hi2:=List.mem_range.1 hi;rw [R8 hi2];simp only [R7];refine ⟨h _ (RY hi2),?_⟩;rw [← uC]; exact hh i hi2
theorem KX {rs:List TR} {ts:List Tp} {Q kept:List Fc} {i:Nat} (hi:i < Q.length) (hok:∀ x ∈ Q,okB x=true) (hk:∀ x ∈ kept,x ∈ Q) (qs:Fc→List Fc) (hH:∀ x ∈ kept,gu (dE rs ts Q x) (qs x)) (hP:z8 (dE rs ts Q) (Q.take (i + 1) ++ kept)) :
  gy rs ts Q i kept=true ↔ ∀ j (hj:j < kept.length),Q[i] ∈ qs kept[j]→dE rs ts Q kept[j] (aO (Q.take i ++ kept.take j))=true:=by
 unfold gy;rw [FJ (fun x hx=>by
  rcases Sd.1 hx with h | h
  ·exact hok x (List.mem_of_mem_take h)
  ·exact hok x (hk x h))]
 rw [R5 hi,List.append_assoc] at hP;exact FE hH hP
theorem KY {rs:List TR} {ts:List Tp} {Q kept:List Fc} {i:Nat} (hi:i < Q.length) (hok:∀ x ∈ Q,okB x=true) (hk:∀ x ∈ kept,x ∈ Q) (hP:z8 (dE rs ts Q) (Q.take (i + 1) ++ kept)) :
  z8 (dE rs ts Q) (Q.take i ++ (if gy rs ts Q i kept then kept else Q[i]::kept)):=by
 cases h:gy rs ts Q i kept with
 | true =>
  simp only [if_true];unfold gy at h;exact (FJ (fun x hx=>by
   rcases Sd.1 hx with h | h
   ·exact hok x (List.mem_of_mem_take h)
   ·exact hok x (hk x h))).1 h
 | false =>
  rw [R5 hi,List.append_assoc] at hP;exact hP
open Go.ChangeAt Go.ChangeShapes Go.Maps Go.RowKit Go.WideShapes
set_option maxRecDepth 100000
def o6 (n:Nat):Nat:=40 * 5 ^ n
theorem KZ (n:Nat):o6 (n + 1)=5 * o6 n:=by unfold o6; rw [Nat.pow_succ]; omega
theorem NS (n:Nat):40≤o6 n:=by
 unfold o6;have:0 < 5 ^ n:=Nat.pos_of_ne_zero (by simp);omega
theorem PE:∀ {n m:Nat},n≤m→o6 n≤o6 m
 | n,m,h=>by
  unfold o6;exact Nat.mul_le_mul_left _ (Nat.pow_le_pow_right (by omega) h)
theorem Iy {n:Nat} (h:n≤14):o6 n≤244140625000:=Sb (PE h) (by decide)
theorem K4 {w:World} {b off:Nat} {fs:List Fc} (h:O8 w b off fs):∀ j u,(au fs)[j]?=some u→w.cell? ((⟨b,off,none⟩:Addr).add j)=some u:=by
 intro j u hu;have hl:=jo fs;have hj:j < fs.length * 5:=by
  rcases Nat.lt_or_ge j (au fs).length with h | h
  ·omega
  ·rw [List.getElem?_eq_none h] at hu; cases hu
 have hi:j / 5 < fs.length:=by omega
 have hr:j % 5 < 5:=Nat.mod_lt _ (by omega);have e:j=j / 5 * 5 + j % 5:=by omega
 rw [e,oQ fs _ hi _ hr] at hu;rw [show ((⟨b,off,none⟩:Addr).add j)=⟨b,off + j / 5 * 5 + j % 5,none⟩ by rw [show (⟨b,off,none⟩:Addr).add j=⟨b,off + j,none⟩ by simp [Addr.add]]; congr 1; omega];obtain ⟨c0,c1,c2,c3,c4⟩:=h (j / 5) hi;have h6:j % 5=0 ∨ j % 5=1 ∨ j % 5=2 ∨ j % 5=3 ∨ j % 5=4:=by omega
 rcases h6 with e6 | e6 | e6 | e6 | e6 <;> rw [e6] at hu ⊢ <;> simp only [Fc.row,List.getElem?_cons_zero,List.getElem?_cons_succ] at hu <;> rw [← hu] <;> assumption
theorem NT {w:World} {a:Addr} {fs:List Fc} (h:gX w (some a) fs):∀ j u,(au fs)[j]?=some u→w.cell? (a.add j)=some u:=by
 rcases h with h | ⟨b,off,e,-,hr⟩
 ·intro j u hu; rw [h] at hu; simp [au] at hu
 ·injection e with e; rw [e]; exact K4 hr
def QN (S:Nat→Prop) (w:World) (ad:Option Addr) (fs:List Fc):Prop:=fs=[] ∨ ∃ g,ad=some ⟨g,0,none⟩∧(S g ∨ w.heap.size≤g)
theorem QN.old {S:Nat→Prop} {w w':World} {ad:Option Addr} {fs:List Fc} (h:QN S w' ad fs) (hs:w.heap.size≤w'.heap.size):QN S w ad fs:=by
 rcases h with h | ⟨g,e,h | h⟩
 ·exact .inl h
 ·exact .inr ⟨g,e,.inl h⟩
 ·exact .inr ⟨g,e,.inr (Sb hs h)⟩
def Iz (S:Nat→Prop) (w:World) (H:List Fc→Prop) (m:Nat) (e:Ending) (w':World):Prop:=(∃ (ad:Option Addr) (cap:Nat) (fs:List Fc),e=.returned (.slice ad fs.length cap)∧(ad=none→cap=0)∧gX w' ad fs∧H fs∧fs.length≤m∧(∀ x ∈ fs,x.fits)∧QN S w ad fs)∧Below w.heap.size w w'
theorem o7 {S:Nat→Prop} (n:Nat) (hn:n≤14) (IH:∀ (w:World) (v:Value) (G:Ru),av w S n v G→Calls prog 74 #[v] w (Iz S w (gu G) (o6 n))) (ad:Option Addr) (cap:Nat) (Gs:List Ru) (w:World) (hl:Gs.length≤5) (hr:nu w S (av w S n) ad Gs) :
  Calls prog 104 #[.slice ad Gs.length cap] w (Iz S w (fun fs=>∀ G ∈ Gs,gu G fs) (o6 (n + 1))):=by
 obtain ⟨iR,hiR,zR0,zR1,zR2⟩:=mQ;have UB:Hid (prog.info? 42=some iR∧iR.zero=some (.agg #[.string ⟨#[]⟩,.string ⟨#[]⟩,.string ⟨#[]⟩,.string ⟨#[]⟩,.string ⟨#[]⟩])∧iR.size=5∧iR.bytes=80):=⟨hiR,zR0,zR1,zR2⟩;have HR:=ag hr;have HI:=ag IH;have hs0:=Iy (n:=n) (by omega);have Vw:=ag (KZ n);obtain ⟨M,hM⟩:∃ M,M=o6 n:=⟨_,rfl⟩;rw [← hM] at hs0 Vw HI;clear hr IH hiR zR0 zR1 zR2 hM;go_enter func104,ntmps104;go_wp2_with fail;go_loopw [3,8] (fun v i wr=>∃ (k:Nat) (fs:List Fc),k≤Gs.length∧i=.int .i64 k∧fs.length≤k * M∧Hid (wr.ownsRow w.heap.size 42 5 v fs.length (au fs))∧Hid (∀ G ∈ Gs.take k,gu G fs)∧Hid (∀ x ∈ fs,x.fits)∧Hid (Below w.heap.size w wr)) (fun _ i _=>Gs.length - (intOf i).toNat);case atStart=>exact ⟨0,[],R6 _,rfl,by simp,World.ownsRow_nil _ _ _ _,(fun G hG=>by simp at hG),(fun x hx=>by cases hx),R3 _ _⟩
 case round =>
  obtain ⟨k,fs,hk,rfl,hfl,HO,HH,HF,HB⟩:=hrel;by_cases hlt:k < Gs.length
  ·have hg:∃ g,ad=some ⟨g,0,none⟩∧∃ u,wr.cell? ⟨g,k,none⟩=some u∧g < wr.heap.size∧av wr S n u Gs[k]:=by
    rcases HR.out with h | ⟨g,e,-,h2,h3⟩
    ·rw [h] at hlt; simp at hlt
    ·obtain ⟨u,hu,hp⟩:=h3 k hlt;exact ⟨g,e,u,(HB.out.cell (p:=⟨g,k,none⟩) h2).trans hu,RZ h2 HB.out.size,hp.below HB.out⟩
   obtain ⟨g,SL,u,hu,hgl,hp⟩:=hg;obtain ⟨uT,ua,hue⟩:=hp.is;subst hue;have hi1:=bn k;have hi2:(k:Int) < (Gs.length:Int):=by omega
   have HC:=ag (HI.out wr _ _ hp);have U9:Hid (Gs.take (k + 1)=Gs.take k ++ [Gs[k]]):=R5 hlt;have hkM:k * M + M≤5 * M:=by
    have:(k + 1) * M≤5 * M:=Nat.mul_le_mul_right _ (by omega);rw [Nat.add_mul] at this; omega
   subst SL;clear hp;go_wp2_with fail;refine HC.out.mono ?_;rintro e w2 ⟨⟨ad2,cap2,Yk,rfl,hc2,hs2,hh2,hl2,hf2,-⟩,hb2⟩;have HB2:=gY HB hb2;have Ta:=ag (aM HO.out hb2);have HH2:Hid (∀ G ∈ Gs.take (k + 1),gu G (fs ++ Yk)):=fun G hG=>by
    rw [U9.out] at hG;rcases Sd.1 hG with h | h
    ·exact (HH.out G h).more fun x hx=>List.mem_append_left _ hx
    ·rw [Sm.1 h]; exact hh2.more fun x hx=>List.mem_append_right _ hx
   have UC:Hid (∀ x ∈ fs ++ Yk,x.fits):=fun x hx=>by
    rcases Sd.1 hx with h | h
    ·exact HF.out x h
    ·exact hf2 x h
   have hl3:(fs ++ Yk).length≤(k + 1) * M:=by rw [R9,Nat.add_mul]; omega
   have hsz:w.heap.size≤w2.heap.size:=HB2.out.size;cases ad2 with
   | none =>
    have e2:Yk=[]:=by
     rcases hs2 with h | ⟨b,off,e,-⟩
     ·exact h
     ·cases e
    subst e2;obtain rfl:=hc2 rfl;rw [List.append_nil] at HH2 UC hl3;have HL3:=ag hl3;clear hb2 hs2 hh2 hl2 hf2 HC HO HH HF hl3 hc2 hu;go_wp2_with (at_builtin; go_must (refine wpList_append_own_none rfl _ _ 38 rfl w.heap.size 42 iR 5 underlying38 UB.out.1 _ _ _ rfl Ta.out rfl ?_));go_wp2;go_roundw;case rel=>exact ⟨k + 1,fs,by omega,by go_num,HL3.out,Ta,HH2,UC,HB2⟩
    case measure=>simp [intOf] <;> omega
   | some a2 =>
    have HS2:=ag hs2;have HL3:=ag hl3;clear hb2 hs2 hh2 hf2 HC HO HH HF hl3 hc2 hu;go_wp2_with (at_builtin; go_must (refine wpList_append_own_at _ rfl _ _ 38 rfl w.heap.size 42 iR (.agg #[.string ⟨#[]⟩,.string ⟨#[]⟩,.string ⟨#[]⟩,.string ⟨#[]⟩,.string ⟨#[]⟩]) 5 80 underlying38 UB.out.1 UB.out.2.1 UB.out.2.2.1 UB.out.2.2.2 rfl (by decide) _ fs.length (au fs) rfl Ta.out a2 Yk.length cap2 (au Yk) rfl (jo Yk) (NT HS2.out) (yN _) (by unfold maxLen; omega) (by omega) hsz ?_));intro v5 w5 hown5 hgr5 _ _;have TA:Hid (w5.ownsRow w.heap.size 42 5 v5 (fs ++ Yk).length (au (fs ++ Yk))):=by
     show World.ownsRow _ _ _ _ _ _ _;have e:au (fs ++ Yk)=au fs ++ au Yk:=by simp [au]
     rw [e,R9]; exact hown5
    have TK:Hid (Below w.heap.size w w5):=HB2.out.grown hgr5 HB2.out.size (fun z hz=>(Ta.out.lt z hz).1);clear hown5 hgr5 Ta;go_wp2;go_roundw;case rel=>exact ⟨k + 1,fs ++ Yk,by omega,by go_num,HL3.out,TA,HH2,UC,TK⟩
    case measure=>simp [intOf] <;> omega
  ·obtain ⟨Xz,Wd,hv3,hs3⟩:=iH HO.out;have hc3:Xz=none→Wd=0:=fun e=>by
    subst e;rcases HO.out.2 with ⟨e2,-⟩ | ⟨g,c2,cur,e2,-⟩
    ·rw [hv3] at e2; injection e2
    ·rw [hv3] at e2; cases e2
   subst hv3;have hat3:QN S w Xz fs:=by
    by_cases hx:fs=[]
    ·exact .inl hx
    ·rcases HO.out.2 with ⟨-,h0⟩ | ⟨g,cap2,cur,e2,hbg,-⟩
     ·exact absurd (Si.1 h0) hx
     ·injection e2 with e2;exact .inr ⟨g,e2,.inr hbg⟩
   have HX:Hid (Iz S w (fun fs=>∀ G ∈ Gs,gu G fs) (o6 (n + 1)) (.returned (.slice Xz fs.length Wd)) wr) :=
    ⟨⟨Xz,Wd,fs,rfl,hc3,hs3,fun G hG=>HH.out G (by rw [List.take_of_length_le (by omega)]; exact hG),by
     rw [Vw.out];exact Sb hfl (Nat.mul_le_mul_right _ (by omega)),HF.out,hat3⟩,HB.out⟩
   clear HO HH HF hs3 hc3 hat3;go_wp2;go_ret;exact HX.out
theorem Ro (b:Bool) (w:World):(Instr.typeAssert (.iface 132 (.agg #[.bool b])) 80 185 true).run prog w=.ok (.tuple #[.agg #[.slice none 0 0],.bool false]) w:=by kernel_rfl
theorem Rp (b:Bool) (w:World):(Instr.typeAssert (.iface 132 (.agg #[.bool b])) 80 190 true).run prog w=.ok (.tuple #[.agg #[.slice none 0 0],.bool false]) w:=by kernel_rfl
theorem Rq (b:Bool) (w:World):(Instr.typeAssert (.iface 132 (.agg #[.bool b])) 80 191 true).run prog w=.ok (.tuple #[.agg #[.slice none 0 0],.bool false]) w:=by kernel_rfl
theorem Rs (ad:Option Addr) (n cap:Nat) (w:World):(Instr.typeAssert (.iface 185 (.agg #[.slice ad n cap])) 80 185 true).run prog w=.ok (.tuple #[.agg #[.slice ad n cap],.bool true]) w:=by kernel_rfl
theorem Rt (ad:Option Addr) (n cap:Nat) (w:World):(Instr.typeAssert (.iface 190 (.agg #[.slice ad n cap])) 80 185 true).run prog w=.ok (.tuple #[.agg #[.slice none 0 0],.bool false]) w:=by kernel_rfl
theorem Rv (ad:Option Addr) (n cap:Nat) (w:World):(Instr.typeAssert (.iface 190 (.agg #[.slice ad n cap])) 80 190 true).run prog w=.ok (.tuple #[.agg #[.slice ad n cap],.bool true]) w:=by kernel_rfl
theorem Rx (ad:Option Addr) (n cap:Nat) (w:World):(Instr.typeAssert (.iface 191 (.agg #[.slice ad n cap])) 80 185 true).run prog w=.ok (.tuple #[.agg #[.slice none 0 0],.bool false]) w:=by kernel_rfl
theorem Ry (ad:Option Addr) (n cap:Nat) (w:World):(Instr.typeAssert (.iface 191 (.agg #[.slice ad n cap])) 80 190 true).run prog w=.ok (.tuple #[.agg #[.slice none 0 0],.bool false]) w:=by kernel_rfl
theorem RA (ad:Option Addr) (n cap:Nat) (w:World):(Instr.typeAssert (.iface 191 (.agg #[.slice ad n cap])) 80 191 true).run prog w=.ok (.tuple #[.agg #[.slice ad n cap],.bool true]) w:=by kernel_rfl
theorem nu.belowR {w w':World} {S:Nat→Prop} {n:Nat} {ad:Option Addr} {Gs:List Ru} (h:nu w S (av w S n) ad Gs) (hb:Below w.heap.size w w'):nu w' S (av w' S n) ad Gs:=by
 rcases h with h | ⟨g,e,h1,h2,h3⟩
 ·exact .inl h
 ·refine .inr ⟨g,e,h1,RZ h2 hb.size,fun i hi=>?_⟩;obtain ⟨u,hu,hp⟩:=h3 i hi;exact ⟨u,(hb.cell (p:=⟨g,i,none⟩) h2).trans hu,hp.below hb⟩
theorem uD {S:Nat→Prop}:∀ (n:Nat),n≤15→∀ (w:World) (v:Value) (G:Ru),av w S n v G→Calls prog 74 #[v] w (Iz S w (gu G) (o6 n))
 | 0,_,_,_,_,h=>h.elim
 | n + 1,hn,w,v,G,h=>by
  rcases h with ⟨b,rfl,rfl⟩ | ⟨ad,cap,fs,rfl,hz,h1,⟨h2,h2c⟩,h3,rfl⟩ | ⟨ad,cap,Gs,rfl,h1,h2,rfl⟩ | ⟨ad,cap,Gs,rfl,h1,h2,rfl⟩
  ·have r1:=Ro b;have r2:=Rp b;have r3:=Rq b;go_enter func74,ntmps74;go_wp2;go_ret;exact ⟨⟨none,0,[],rfl,fun _=>rfl,.inl rfl,KR b,R6 _,fun x hx=>(by cases hx),.inl rfl⟩,R3 _ _⟩
  ·obtain ⟨W0,hW0⟩:∃ W0,W0=w.alloc (.cells #[.slice ad fs.length cap] 185):=⟨_,rfl⟩;have hB0:Below w.heap.size w W0:=by rw [hW0]; exact (R3 _ _).alloc (R4 _) _
   have hat:QN S w ad fs:=by
    rcases hz with h | ⟨g,e,h⟩
    ·exact .inl h
    ·exact .inr ⟨g,e,.inl h⟩
   have HX:Hid (Iz S w (gu fun K=>fs.any K) (o6 (n + 1)) (.returned (.slice ad fs.length cap)) W0):=⟨⟨ad,cap,fs,rfl,h2c,h1.below hB0,KS fs,by have:=NS (n + 1); omega,h3,hat⟩,hB0⟩;have r1:=Rs ad fs.length cap;have c0:W0.cell? ⟨w.heap.size,0,none⟩=some (.slice ad fs.length cap):=by rw [hW0]; simp
   clear hz h1 h2 h2c h3 hB0 hat;go_enter func74,ntmps74;go_wp2;rw [← hW0];go_ret;exact HX.out
  ·have r1:=Rt ad Gs.length cap;have r2:=Rv ad Gs.length cap;have HH:Hid (Gs.length≤5∧nu w S (av w S n) ad Gs):=⟨h1,h2⟩;clear h1 h2;obtain ⟨W0,hW0⟩:∃ W0,W0=w.alloc (.cells #[.slice ad Gs.length cap] 190):=⟨_,rfl⟩;have HB0:=pu hW0;have HX:=ag (o7 n (by omega) (fun w v G h=>uD n (by omega) w v G h) ad cap Gs W0 HH.out.1 (HH.out.2.belowR HB0.out));have c0:W0.cell? ⟨w.heap.size,0,none⟩=some (.slice ad Gs.length cap):=by rw [hW0]; simp
   go_enter func74,ntmps74;go_wp2_with fail;rw [← hW0];clear hW0;refine HX.out.mono ?_;rintro e w1 ⟨⟨ad1,VB,fs,rfl,hc,hs,hh,hl,hf⟩,hb1⟩;have HR:Hid (Iz S w (gu fun K=>Gs.any fun H=>H K) (o6 (n + 1)) (.returned (.slice ad1 fs.length VB)) w1):=⟨⟨ad1,VB,fs,rfl,hc,hs,KT hh,hl,hf.1,hf.2.old HB0.out.size⟩,HB0.out.trans (hb1.mono HB0.out.size)⟩;clear hc hs hh hl hf hb1 HX c0;go_wp2;go_ret;exact HR.out
  ·have r1:=Rx ad Gs.length cap;have r2:=Ry ad Gs.length cap;have r3:=RA ad Gs.length cap;have HH:Hid (Gs.length≤5∧nu w S (av w S n) ad Gs):=⟨h1,h2⟩;clear h1 h2;obtain ⟨W0,hW0⟩:∃ W0,W0=w.alloc (.cells #[.slice ad Gs.length cap] 191):=⟨_,rfl⟩;have HB0:=pu hW0;have HX:=ag (o7 n (by omega) (fun w v G h=>uD n (by omega) w v G h) ad cap Gs W0 HH.out.1 (HH.out.2.belowR HB0.out));have c0:W0.cell? ⟨w.heap.size,0,none⟩=some (.slice ad Gs.length cap):=by rw [hW0]; simp
   go_enter func74,ntmps74;go_wp2_with fail;rw [← hW0];clear hW0;refine HX.out.mono ?_;rintro e w1 ⟨⟨ad1,VB,fs,rfl,hc,hs,hh,hl,hf⟩,hb1⟩;have HR:Hid (Iz S w (gu fun K=>Gs.all fun H=>H K) (o6 (n + 1)) (.returned (.slice ad1 fs.length VB)) w1):=⟨⟨ad1,VB,fs,rfl,hc,hs,KU hh,hl,hf.1,hf.2.old HB0.out.size⟩,HB0.out.trans (hb1.mono HB0.out.size)⟩;clear hc hs hh hl hf hb1 HX c0;go_wp2;go_ret;exact HR.out
section
variable [DecidableEq Fc]
def IA (st:ByteArray × ByteArray→Int) (rs:List TR) (ts:List Tp) (w:World) (e:Ending) (w':World):Prop :=
 Below w.heap.size w w'∧((aP (fC rs) rs ts=false∧e=.returned (.tuple #[.pointer none,.bool false])) ∨
  (aP (fC rs) rs ts=true∧∃ (P D br bp bt nr np:Nat) (n1:Int) (Mr:KL→Option Value) (Er:List (KL × RR)) (Mp:K3→Option Value) (vo vu:Value) (TF:Option Addr) (Te bK nK:Nat),e=.returned (.tuple #[.pointer (some ⟨P,0,none⟩),.bool true])∧PrM w' P D TF Te (aI st rs ts) bK nK ∧
   DatA w' rs D br bp bt n1 nr Mr Er (aW ts) (fI ts) (dG ts) np Mp vo vu∧(aI st rs ts).length≤Te))
theorem Dg (st:ByteArray × ByteArray→Int) (ad:Option Addr) (cap:Nat) (rs:List TR) (SQ:Option Addr) (cap':Nat) (ts:List Tp) (w:World) (hlen:rs.length≤1048576) (hs:jd w ad rs) (hl:∀ r ∈ rs,r.light) (hfr:∀ r ∈ rs,r.fits) (hcp:∀ r ∈ rs,r.caps) (hlt:ts.length≤1048576) (hst:Sl w SQ ts) (hft:∀ x ∈ ts,x.fits) (hle:bI (ae rs)=true→Least (ae rs) st) :
  Calls prog 37 #[.slice ad rs.length cap,.slice SQ ts.length cap'] w (IA st rs ts w):=by
 have HC:=ag (G7 (fC rs) ad cap rs SQ cap' ts w hlen hs hl hfr (Da ad cap rs w hlen hs hl hfr hcp) (fun h t ht=>BD h ht) hlt hst hft);have HS:=ag hs;have Tj:=ag hft;have TD:=ag hfr;have TG:=ag hle;clear hs hl hfr hcp hst hft hle;go_enter func37,ntmps37;go_wp2_with fail;refine HC.out.mono ?_;rintro e w1 ⟨hb1,⟨hr,rfl⟩ | ⟨hr,D,br,bp,bt,nr,np,Mr,Mp,vo,vu,f,rfl,hbt,hLf,Us⟩⟩
 ·have HP:Hid (IA st rs ts w (.returned (.tuple #[.pointer none,.bool false])) w1):=⟨hb1,.inl ⟨hr,rfl⟩⟩;clear hb1 HC hr;go_wp2;exact bodyPost_ret (v:=.tuple #[.pointer none,.bool false]) (by simp [results,Tryz.results37,go_sem]) rfl HP.out
 ·have hsd:bI (ae rs)=true∧ts.length≤40:=by
   unfold aP eQ at hr;simp only [R7,Sj] at hr;exact ⟨hr.1.1,hr.1.2.1⟩
  obtain ⟨hsd,ht40⟩:=hsd;have hSP:=bq.1 hsd;obtain ⟨h6,Xn,-⟩:=bH hSP.1;have WT:=wW h6 Xn;have hfk:∀ k ∈ ai (ae rs),f k + 1≤(ai (ae rs)).length:=fun k hk=>by
   obtain ⟨g,hg,hb⟩:=hLf.sol.few (kE hSP.2.1);have h1:=hLf.low k hk g hg;have h2:=hb k hk;omega
  have hc0:0≤jb (dY f rs):=(Db (dY f rs) 0).1;have hcl:jb (dY f rs)≤(ai (ae rs)).length:=Jq _ _ _ (by omega) fun x hx=>by
   obtain ⟨k,hk,e,-⟩:=QD hx;rw [e]; exact hfk k hk
  obtain ⟨N,hN⟩:∃ N:Nat,jb (dY f rs)=N:=⟨(jb (dY f rs)).toNat,by omega⟩;have hkN:∀ k ∈ ai (ae rs),f k < (N:Int):=fun k hk=>by
   obtain ⟨x,hx,e⟩:=Ps (f:=f) hk;have h2:=(Db (dY f rs) 0).2 x hx;have h3:x.1.2 + 1≤jb (dY f rs):=h2;rw [e,hN] at h3;omega
  have hLs:gI (ae rs) ts f (fI ts) (dG ts) N=aI st rs ts:=by
   rw [fD hr];unfold mY;rw [← uq (fun k hk=>hLf.same (TG.out hsd) k hk)];exact (JY hkN _ (by omega)).symm
  rw [hN] at Us;have HF1:=ag (KI w1 rs ad D br bp bt N nr Mr f ts (fI ts) (dG ts) np Mp vo vu Us (HS.out.below hb1) (by omega) (by have:=lX ts; omega) (by have:=kK ts; omega) WT (fun k=>by
   have:(G.lookL (dY f rs) k).length≤(dY f rs).length:=List.length_filterMap_le _ _;rw [Pt] at this; omega) hSP.1 Tj.out (by omega) (kP Tj.out) (jJ Tj.out) (uA TD.out))
  rw [hLs] at HF1;have hGO:=kN f rs ts (fI ts) (dG ts) N;rw [hLs] at hGO;have HB1:=ag hb1;have hll:=hGO.len (by have:=lX ts; omega) WT (by have:=kK ts; omega);have YV:Hid (∀ x ∈ aI st rs ts,x.fits):=fun x hx=>by
   have h1:=hGO.sub x hx;unfold zT at h1;obtain ⟨o,ho,h1⟩:=Sk.1 h1;obtain ⟨k,hk,h1⟩:=Sk.1 h1;obtain ⟨u,hu,rfl⟩:=Sa.1 h1;exact ⟨(kP Tj.out o ho).1,(kP Tj.out o ho).2,uA TD.out k hk,(jJ Tj.out u hu).1,(jJ Tj.out u hu).2⟩
  obtain ⟨L0,hL0⟩:∃ L0,L0=aI st rs ts:=⟨_,rfl⟩;rw [← hL0] at HF1 hll YV;have HL0:=ag hL0;have Vn:=ag Us;have HRI:=ag hr;clear HC hb1 Us hLf hfk hc0 hcl hN hkN hLs hGO hSP hsd h6 Xn WT hr hbt hL0;go_wp2_with fail;refine HF1.out.mono ?_;rintro e w2 ⟨⟨v,rfl,hown⟩,hb2⟩;have HB2:=ag (HB1.out.trans (hb2.mono HB1.out.size));have HD2:=ag (Vn.out.below hb2);obtain ⟨TF,Te,rfl,hsF⟩:=iH hown;have hcp:=Jo hown;have HSF:=ag hsF;clear HF1 hown hb2 HB1 Vn hsF;go_wp2_with fail;refine (zX TF Te L0 _ (by omega) HSF.out YV.out).mono ?_;rintro e w3 ⟨⟨bK,nK,rfl,hV⟩,hb3⟩;obtain ⟨W4,Tg⟩:∃ W4,W4=w3.alloc (.cells #[.pointer (some ⟨D,0,none⟩),.slice TF L0.length Te,.map (some bK)] 95):=⟨_,rfl⟩;have hb4:Below w3.heap.size w3 W4:=by rw [Tg]; exact (R3 _ _).alloc (R4 _) _
  have hb34:Below w2.heap.size w2 W4:=hb3.trans (hb4.mono hb3.size);have HP:Hid (IA st rs ts w (.returned (.tuple #[.pointer (some ⟨w3.heap.size,0,none⟩),.bool true])) W4):=by
   refine ⟨HB2.out.trans (hb34.mono HB2.out.size),.inr ⟨HRI.out,w3.heap.size,D,br,bp,bt,nr,np,_,Mr,_,Mp,vo,vu,TF,Te,bK,nK,rfl,?_,HD2.out.below hb34,by rw [← HL0.out]; exact hcp⟩⟩;rw [← HL0.out];exact ⟨by rw [Tg]; simp,by rw [Tg]; simp,by rw [Tg]; simp,by rw [Tg]; simp,HSF.out.below hb34,hV.below hb4⟩
  clear hb3 hb4 hb34 hV;go_wp2;rw [← Tg];exact bodyPost_ret (v:=.tuple #[.pointer (some ⟨w3.heap.size,0,none⟩),.bool true]) (by simp [results,Tryz.results37,go_sem]) rfl HP.out
theorem av.kind {w:World} {S:Nat→Prop} {n:Nat} {v:Value} {G:Ru} (h:av w S n v G):∃ T a,v=.iface T a∧Qd T a:=by
 match n,h with
 | 0,h=>exact h.elim
 | n + 1,h =>
  rcases h with ⟨b,e,-⟩ | ⟨ad,cap,fs,e,-⟩ | ⟨ad,cap,Gs,e,-⟩ | ⟨ad,cap,Gs,e,-⟩
  ·exact ⟨_,_,e,.inl ⟨rfl,_,rfl⟩⟩
  ·exact ⟨_,_,e,.inr ⟨.inl rfl,_,_,_,rfl⟩⟩
  ·exact ⟨_,_,e,.inr ⟨.inr (.inl rfl),_,_,_,rfl⟩⟩
  ·exact ⟨_,_,e,.inr ⟨.inr (.inr rfl),_,_,_,rfl⟩⟩
theorem NU {w:World} {T:TypeId} {a:Value} {S:Nat→Prop} {n:Nat} {G:Ru} {FC:Nat} {rc cp:Array Value} {K:Fc→Bool} (hr:av w S n (.iface T a) G) (hK:KnF w FC rc cp K):Calls prog (Io T) #[a,.func (Fn.func FC) rc cp] w fun e w'=>e=.returned (.bool (G K))∧Below w.heap.size w w':=by
 obtain ⟨T',a',e,-,hc⟩:=FB n w _ G hK hr;injection e with e1 e2;subst e1 e2;exact hc w (R3 _ _)
end
end Go.Proofs.YtdaoiceeidoehaaGreat
