/- Contract of the document's function on what an expression names. -/
import Derived.Test.YtdaoiceeidoehaaGreatJ3
import Derived.Deep.RegionWith
open Go.Proofs.Tryz
set_option maxHeartbeats 80000000
namespace Go.Proofs.YtdaoiceeidoehaaGreat
open Go.ChangeShapes Go.WideShapes Go.ChangeAt Go.RowKit
open Pl
def kU (ts:List Ty) (a:Al):Bool:=iZ ts a.t && (a.s.toList.isEmpty || !(aC ts a.t a.s).isEmpty)
def lw (ts:List Ty) (xs:List Al):Bool:=xs.all (kU ts)
def jK (ts:List Ty) (typ:ByteArray) (e:Ex):Bool :=
 if e.kind=2 then !(aC ts typ e.name).isEmpty
 else if e.kind=3 then aV (aC ts typ e.over) && !(fw ts typ e.over e.name).isEmpty
 else true
def aJ (ts:List Ty) (typ:ByteArray):List Ex→Bool
 | []=>true
 | e::es=>if lw ts e.allow && jK ts typ e then aJ ts typ es else false
def jQ (ts:List Ty) (xs:List Al) (k:Nat):Bool:=lw ts (xs.take k)
theorem uj (ts:List Ty) (xs:List Al):jQ ts xs 0=true:=by simp [jQ,lw]
theorem kr (ts:List Ty) (xs:List Al) (k:Nat) (h:k < xs.length):jQ ts xs (k + 1)=(jQ ts xs k && kU ts xs[k]):=by
 unfold jQ lw; rw [List.take_succ_eq_append_getElem h,List.all_append]; simp
theorem oQ (ts:List Ty) (xs:List Al) (k:Nat) (h:k < xs.length) (hb:kU ts xs[k]=false):lw ts xs=false:=by
 unfold lw;rw [Bool.eq_false_iff]; intro h2; rw [List.all_eq_true] at h2; have:=h2 xs[k] (List.getElem_mem h); rw [hb] at this; cases this
theorem ai {w w':World} {g o:Nat} {v:Value} (hB:Below w.heap.size w w') (hg:g < w.heap.size) (h:w.cell? ⟨g,o,none⟩=some v):w'.cell? ⟨g,o,none⟩=some v:=(hB.cell (p:=⟨g,o,none⟩) hg).trans h
set_option maxRecDepth 8000 in
theorem CL (ad adE:Option Addr) (cap capE:Nat) (rs:List TR) (typ:ByteArray) (rows:List ER) (w:World) (hlen:rs.length≤1048576) (hs:eY w ad rs) (hl:∀ r ∈ rs,r.light) (hle:rows.length≤1048576) (hse:dw w adE rows) (hlE:∀ q ∈ rows,q.e.light) :
  Calls prog 79 #[.slice ad rs.length cap,.string typ,.slice adE rows.length capE] w fun e w'=>e=.returned (.bool (aJ (ae rs) typ (ah rows)))∧Below w.heap.size w w':=by
 have HS:Hid (eY w ad rs):=hs;have HL:Hid (∀ r ∈ rs,r.light):=hl;have HE:Hid (dw w adE rows):=hse;have HLE:Hid (∀ q ∈ rows,q.e.light):=hlE;clear hs hl hse hlE;go_enter func79,ntmps79;go_wp2_with fail;go_loopw [7] (fun i wr=>∃ k:Nat,k≤rows.length∧i=.int .i64 k∧Hid (aJ (ae rs) typ (ah (rows.drop k))=aJ (ae rs) typ (ah rows))∧Hid (Below w.heap.size w wr)) (fun i _=>rows.length - (intOf i).toNat);case atStart=>exact ⟨0,Nat.zero_le _,rfl,rfl,Below.refl _ _⟩
 case round =>
  obtain ⟨k,hk,rfl,HP,HB⟩:=hrel;by_cases hlt:k < rows.length
  ·have HS1:Hid (eY _ ad rs):=HS.out.below HB.out;rcases HE.out.below HB.out with rfl | ⟨b,off,rfl,hb,hr,hok⟩
   ·simp at hlt
   obtain ⟨t0,t1,t2,t3,t4⟩:=hr k hlt;have HOK:Hid (rows[k].ok wr):=hok rows[k] (List.getElem_mem hlt);have lg:=(HLE.out rows[k] (List.getElem_mem hlt)).1;have hk1:=aY k;have hk2:(k:Int) < (rows.length:Int):=by omega
   clear hr hok;obtain ⟨W1,hW1⟩:∃ W1,W1=wr.alloc (.cells #[.int .i64 rows[k].e.kind,.slice rows[k].adA rows[k].e.allow.length rows[k].capA,.string rows[k].e.over,.string rows[k].e.name,.slice rows[k].adK rows[k].e.kids.length rows[k].capK] 166):=⟨_,rfl⟩;have hal:Below wr.heap.size wr W1:=by rw [hW1]; exact (Below.refl _ _).alloc (Nat.le_refl _) _
   have HAL:Hid (Below wr.heap.size wr W1):=hal;have HBW:=fK HB hal;have hgl:wr.heap.size < W1.heap.size:=by rw [hW1]; simp
   have g0:W1.cell? ⟨wr.heap.size,0,none⟩=some (.int .i64 rows[k].e.kind):=by rw [hW1]; simp
   have g1:W1.cell? ⟨wr.heap.size,1,none⟩=some (.slice rows[k].adA rows[k].e.allow.length rows[k].capA):=by rw [hW1]; simp
   have g2:W1.cell? ⟨wr.heap.size,2,none⟩=some (.string rows[k].e.over):=by rw [hW1]; simp
   have g3:W1.cell? ⟨wr.heap.size,3,none⟩=some (.string rows[k].e.name):=by rw [hW1]; simp
   clear hal;go_wp2_with fail;rw [← hW1];clear hW1;go_loopw [9] (fun i w2=>∃ j:Nat,j≤rows[k].e.allow.length∧i=.int .i64 j∧Hid (jQ (ae rs) rows[k].e.allow j=true)∧Hid (Below W1.heap.size W1 w2)) (fun i _=>rows[k].e.allow.length - (intOf i).toNat);case atStart=>exact ⟨0,Nat.zero_le _,rfl,uj _ _,Below.refl _ _⟩
   case round =>
    obtain ⟨j,hj,rfl,HJ,HB2⟩:=hrel;have d0:=ai HB2.out hgl g0;have d1:=ai HB2.out hgl g1;have d2:=ai HB2.out hgl g2;have d3:=ai HB2.out hgl g3;clear g0 g1 g2 g3 t0 t1 t2 t3 t4;have HBO:Hid (Below w.heap.size w _):=HBW.out.trans (HB2.out.mono HBW.out.size);have HS2:Hid (eY _ ad rs):=HS.out.below HBO.out;by_cases hjl:j < rows[k].e.allow.length
    ·have hA2:fV _ rows[k].adA rows[k].e.allow:=((HOK.out.1).below HAL.out).below HB2.out;rcases hA2 with hnil | ⟨ba,offa,hadA,hba,hra⟩
     ·rw [hnil] at hjl; simp at hjl
     rw [hadA] at d1;obtain ⟨q0,q1⟩:=hra j hjl;have hj1:=aY j;have hj2:(j:Int) < (rows[k].e.allow.length:Int):=by omega
     clear hra hadA;go_wp2_with fail;refine (CG ad cap rs _ _ hlen (HS2.out.below ((Below.refl _ _).alloc (Nat.le_refl _) _))).mono ?_;rintro e w3 ⟨rfl,rfl⟩;cases hty:iZ (ae rs) rows[k].e.allow[j].t with
     | false =>
      have HN:Hid (aJ (ae rs) typ (ah rows)=false):=by
       show _=_;rw [← HP.out,eG _ _ hlt];simp [aJ,oQ (ae rs) _ j hjl (by simp [kU,hty])]
      go_wp2;go_ret;exact ⟨by rw [HN.out]; rfl,HBO.out.alloc HBO.out.size _⟩
     | true =>
      cases he:rows[k].e.allow[j].s.toList.isEmpty with
      | true =>
       have HJ2:Hid (jQ (ae rs) rows[k].e.allow (j + 1)=true):=by show _=_; rw [kr _ _ _ hjl,HJ.out]; simp [kU,hty,he]
       go_wp2;go_roundw;case rel=>exact ⟨j + 1,by omega,by go_num,HJ2,HB2.out.alloc HB2.out.size _⟩
       case measure=>simp [intOf] <;> omega
      | false =>
       go_wp2_with fail;refine (fG ad cap rs _ _ _ hlen (HS2.out.below ((Below.refl _ _).alloc (Nat.le_refl _) _)) HL.out).mono ?_;rintro e w3 ⟨⟨rows2,ad3,cap3,rfl,hx3,-,-⟩,rfl⟩;by_cases hz:rows2.length=0
       ·have HN:Hid (aJ (ae rs) typ (ah rows)=false):=by
         have h1:aC (ae rs) rows[k].e.allow[j].t rows[k].e.allow[j].s=[]:=by unfold aC; rw [← hx3,List.length_eq_zero_iff.1 hz]; rfl
         show _=_;rw [← HP.out,eG _ _ hlt];simp [aJ,oQ (ae rs) _ j hjl (by simp [kU,he,h1])]
        rw [hz];clear hx3;go_wp2;go_ret;exact ⟨by rw [HN.out]; rfl,HBO.out.alloc HBO.out.size _⟩
       ·have HJ2:Hid (jQ (ae rs) rows[k].e.allow (j + 1)=true):=by
         have h1:aC (ae rs) rows[k].e.allow[j].t rows[k].e.allow[j].s ≠ []:=by
          unfold aC;rw [← hx3];intro h2;apply hz;rw [← aI,h2]; rfl
         show _=_;rw [kr _ _ _ hjl,HJ.out]; simp [kU,hty,h1]
        have hzb:((rows2.length:Int) == 0)=false:=by simp; intro h; apply hz; rw [h]; rfl
        clear hx3;go_wp2;go_roundw;case rel=>exact ⟨j + 1,by omega,by go_num,HJ2,HB2.out.alloc HB2.out.size _⟩
        case measure=>simp [intOf] <;> omega
    ·have HRA:Hid (lw (ae rs) rows[k].e.allow=true):=by
      have:=HJ.out;unfold jQ at this;rwa [List.take_of_length_le (by omega)] at this
     by_cases h2:rows[k].e.kind=2
     ·go_wp2_with fail;refine (fG ad cap rs _ _ _ hlen HS2.out HL.out).mono ?_;rintro e w3 ⟨⟨rows2,ad3,cap3,rfl,hx3,-,-⟩,rfl⟩;by_cases hz:rows2.length=0
      ·have HN:Hid (aJ (ae rs) typ (ah rows)=false):=by
        have h1:aC (ae rs) typ rows[k].e.name=[]:=by unfold aC; rw [← hx3,List.length_eq_zero_iff.1 hz]; rfl
        show _=_;rw [← HP.out,eG _ _ hlt];simp [aJ,jK,h2,h1]
       rw [hz];clear hx3;go_wp2;go_ret;exact ⟨by rw [HN.out]; rfl,HBO.out⟩
      ·have HP2:Hid (aJ (ae rs) typ (ah (rows.drop (k + 1)))=aJ (ae rs) typ (ah rows)):=by
        have h1:aC (ae rs) typ rows[k].e.name ≠ []:=by
         unfold aC;rw [← hx3];intro h2;apply hz;rw [← aI,h2]; rfl
        show _=_;rw [← HP.out,eG _ _ hlt];simp [aJ,jK,h2,h1,HRA.out]
       have hzb:((rows2.length:Int) == 0)=false:=by simp; intro h; apply hz; rw [h]; rfl
       clear hx3;go_wp2;go_roundw;case rel=>exact ⟨k + 1,by omega,by go_num,HP2,HBO⟩
       case measure=>simp [intOf] <;> omega
     by_cases h3:rows[k].e.kind=3
     ·go_wp2_with fail;refine (fG ad cap rs _ _ _ hlen HS2.out HL.out).mono ?_;rintro e w3 ⟨⟨rows2,ad3,cap3,rfl,hx3,hs3,hf3⟩,rfl⟩;have hl3:=hf3.light HL.out;go_wp2_with fail;refine (yL ad3 cap3 rows2 _ hl3.1 hs3 hl3.2).mono ?_;rintro e w3 ⟨rfl,rfl⟩;have HX:Hid (ah rows2=aC (ae rs) typ rows[k].e.over):=hx3;clear hx3 hs3 hf3 hl3;rw [HX.out];cases hd:aV (aC (ae rs) typ rows[k].e.over) with
      | false =>
       have HN:Hid (aJ (ae rs) typ (ah rows)=false):=by
        show _=_;rw [← HP.out,eG _ _ hlt];simp [aJ,jK,h3,hd]
       go_wp2;go_ret;exact ⟨by rw [HN.out]; rfl,HBO.out⟩
      | true =>
       go_wp2_with fail;refine (rF ad cap rs _ _ _ _ hlen HS2.out HL.out).mono ?_;rintro e w4 ⟨⟨ad4,cap4,rfl,-⟩,hb4⟩;have HB4:=fK HBO hb4;clear hb4;by_cases hz:(fw (ae rs) typ rows[k].e.over rows[k].e.name).length=0
       ·have HN:Hid (aJ (ae rs) typ (ah rows)=false):=by
         show _=_;rw [← HP.out,eG _ _ hlt];simp [aJ,jK,h3,List.length_eq_zero_iff.1 hz]
        rw [hz];go_wp2;go_ret;exact ⟨by rw [HN.out]; rfl,HB4.out⟩
       ·have HP2:Hid (aJ (ae rs) typ (ah (rows.drop (k + 1)))=aJ (ae rs) typ (ah rows)):=by
         have h1:fw (ae rs) typ rows[k].e.over rows[k].e.name ≠ []:=by intro h; apply hz; rw [h]; rfl
         show _=_;rw [← HP.out,eG _ _ hlt];simp [aJ,jK,h3,h1,hd,HRA.out]
        have hzb:(((fw (ae rs) typ rows[k].e.over rows[k].e.name).length:Int) == 0)=false:=by simp; intro h; apply hz; rw [h]; rfl
        go_wp2;go_roundw;case rel=>exact ⟨k + 1,by omega,by go_num,HP2,HB4⟩
        case measure=>simp [intOf] <;> omega
     ·have HP2:Hid (aJ (ae rs) typ (ah (rows.drop (k + 1)))=aJ (ae rs) typ (ah rows)):=by
       show _=_;rw [← HP.out,eG _ _ hlt];simp [aJ,jK,h2,h3,HRA.out]
      have hb2:(rows[k].e.kind == 2)=false:=by simpa using h2
      have hb3:(rows[k].e.kind == 3)=false:=by simpa using h3
      go_wp2;go_roundw;case rel=>exact ⟨k + 1,by omega,by go_num,HP2,HBO⟩
      case measure=>simp [intOf] <;> omega
  ·have HN:Hid (aJ (ae rs) typ (ah rows)=true):=by show _=_; rw [← HP.out,List.drop_of_length_le (by omega)]; rfl
   go_wp2;go_ret;exact ⟨by rw [HN.out]; rfl,HB.out⟩
theorem Hm {α:Type} (p q:α→Bool) (l:List α) (h:∀ x ∈ l,q x=true→p x=true) (y:α) (hy:y ∈ l) (hp:p y=true) (hq:q y=false):l.countP q < l.countP p:=by
 induction l with
 | nil=>cases hy
 | cons a l ih =>
  rw [List.countP_cons,List.countP_cons];rcases List.mem_cons.1 hy with rfl | hy
  ·have:=List.countP_mono_left (p:=q) (q:=p) (l:=l) (fun x hx=>h x (List.mem_cons_of_mem _ hx));simp [hp,hq]; omega
  ·have h1:=ih (fun x hx=>h x (List.mem_cons_of_mem _ hx)) hy;have h2:=h a (List.mem_cons_self ..);cases hqa:q a with
   | true=>simp [h2 hqa]; omega
   | false=>simp; omega
section
variable {P:Program} {ops:Array Oper} {Q:Exit→Act→World→Prop} {md:Region.Mode}
theorem aa {i:Nat} {o:Oper} {K:Act→World→Prop} {a:Act} {w:World} (ho:ops[i]?=some o)
  (h:∀ K':Act→World→Prop,Hid (∀ a w,K a w→K' a w)→if Region.wanted o (yielded ops a.tmps)=true then Oper.wp P o a w K' Q else K' (a.put o.dst undef) w):wpOp P ops Q i K a w:=wpOp_step ho h
def left (ops:Array Oper) (listed:Array Bool):Nat:=(List.range ops.size).countP (fun i=>!(listed.getD i true))
theorem Aj (listed:Array Bool) (i j:Nat):(listed.setIfInBounds i true).getD j true=if j=i then true else listed.getD j true:=by
 rw [Array.getD_eq_getD_getElem?,Array.getD_eq_getD_getElem?,Array.getElem?_setIfInBounds];by_cases e:i=j
 ·subst e;by_cases h:i < listed.size <;> simp [h]
 ·simp [e,Ne.symm e]
theorem Ak {listed:Array Bool} {i:Nat} (hi:i < ops.size) (hl:listed.getD i true=false):left ops (listed.setIfInBounds i true) < left ops listed:=by
 refine Hm _ _ _ ?_ i (by simpa using hi) (by simp [hl]) (by rw [Aj]; simp);intro x _ hx;simp only [Aj,Bool.not_eq_true'] at hx ⊢;by_cases e:x=i
 ·simp [e] at hx
 ·simpa [e] using hx
theorem Fy (Inv:Array Bool→Act→World→Prop)
  (hstep:∀ listed a w,Inv listed a w→∀ i ∈ Region.ready md ops listed,wpOp P ops Q i (Inv (listed.setIfInBounds i true)) a w)
  (hend:∀ listed a w,Inv listed a w→Region.ready md ops listed=[]→Q .normal a w) :
  ∀ (fuel:Nat) (listed:Array Bool) (a:Act) (w:World),left ops listed≤fuel→Inv listed a w→wpAny P md ops Q fuel listed a w:=by
 intro fuel
 induction fuel with
 | zero =>
  intro listed a w hc hI;have hr:Region.ready md ops listed=[]:=by
   rw [List.eq_nil_iff_forall_not_mem];intro i hi;obtain ⟨h1,o,h2,-⟩:=mem_ready.1 hi;have:=Ak (ops:=ops) (Array.getElem?_eq_some_iff.1 h2).1 h1;omega
  exact ⟨hr,hend _ _ _ hI hr⟩
 | succ n ih =>
  intro listed a w hc hI;refine ⟨fun hr=>hend _ _ _ hI hr,fun i hi=>wpOp_mono (fun a' w' h=>ih _ _ _ ?_ h) (hstep _ _ _ hI i hi)⟩;obtain ⟨h1,o,h2,-⟩:=mem_ready.1 hi;have:=Ak (ops:=ops) (Array.getElem?_eq_some_iff.1 h2).1 h1;omega
theorem JK (ops:Array Oper) (listed:Array Bool):left ops listed≤ops.size:=by
 unfold left;exact Nat.le_trans List.countP_le_length (by simp)
theorem iC {id:Nat} {a:Act} {w:World} (Inv:Array Bool→Act→World→Prop) (hm:P.follows .mixedOrders=true)
  (h0:Inv (Array.replicate ops.size false) a w.drew)
  (hstep:∀ listed a w,Inv listed a w→∀ i ∈ Region.ready .any ops listed,wpOp P ops Q i (Inv (listed.setIfInBounds i true)) a w)
  (hend:∀ listed a w,Inv listed a w→Region.ready .any ops listed=[]→Q .normal a w):(Code.region id ops true).wp P Q a w :=
 wp_region_any hm (Fy Inv hstep hend _ _ _ _ (JK _ _) h0)
theorem uk {listed:Array Bool} {n:Nat} (hr:Region.ready md ops listed=[]) (hs:ops.size=n) (hord:∀ (i:Nat) (o:Oper),ops[i]?=some o→∀ e ∈ o.after,e.on < i) (hsz:listed.size=n):∀ i,i < n→listed.getD i true=true:=by
 intro i
 induction i using Nat.strongRecOn with
 | ind i ih =>
  intro hi;cases hl:listed.getD i true with
  | true=>rfl
  | false =>
   exfalso;have hmem:i ∈ Region.ready md ops listed:=by
    refine mem_ready.2 ⟨hl,ops[i]'(by omega),Array.getElem?_eq_getElem (by omega),fun e he _=>?_⟩;have hlt:=hord i _ (Array.getElem?_eq_getElem (by omega)) e he;have:=ih e.on hlt (by omega);rw [Array.getD_eq_getD_getElem?,Array.getElem?_eq_getElem (by omega)] at this ⊢;simpa using this
   rw [hr] at hmem;cases hmem
end
def upd (f:Nat→Value) (i:Nat) (v:Value):Nat→Value:=fun k=>if k=i then v else f k
section
variable {P:Program} {ops:Array Oper} {Q:Exit→Act→World→Prop}
theorem eQ (listed:Array Bool) (i j:Nat) (hi:i < listed.size):(listed.setIfInBounds i true).getD j false=if j=i then true else listed.getD j false:=by
 rw [Array.getD_eq_getD_getElem?,Array.getD_eq_getD_getElem?,Array.getElem?_setIfInBounds];by_cases e:i=j
 ·subst e; simp [hi]
 ·simp [e,Ne.symm e]
theorem oU {listed:Array Bool} {i:Nat} (hi:i < listed.size):listed.getD i true=listed.getD i false:=by
 rw [Array.getD_eq_getD_getElem?,Array.getD_eq_getD_getElem?,Array.getElem?_eq_getElem hi]; rfl
def EE (ops:Array Oper):Bool:=(List.range ops.size).all (fun i=>(ops[i]?.map (fun o=>o.after.all (fun e=>decide (e.on < i)))).getD true)
def yM (ops:Array Oper) (L:Nat):Bool:=(List.range L).all (fun j=>(ops[L]?.map (fun o=>o.after.any (fun e=>e.on == j && Region.binds .any e))).getD false)
theorem oV {ops:Array Oper} (h:EE ops=true):∀ (i:Nat) (o:Oper),ops[i]?=some o→∀ e ∈ o.after,e.on < i:=by
 intro i o ho e he;rw [EE,List.all_eq_true] at h;have h1:=h i (by simpa using (Array.getElem?_eq_some_iff.1 ho).1);rw [ho] at h1;simp only [Option.map_some,Option.getD_some,Array.all_eq_true_iff_forall_mem] at h1;simpa using h1 e he
theorem wZ {ops:Array Oper} {L:Nat} (h:yM ops L=true):∀ (o:Oper),ops[L]?=some o→∀ j,j < L→∃ e ∈ o.after,e.on=j∧Region.binds .any e=true:=by
 intro o ho j hj;rw [yM,List.all_eq_true] at h;have h1:=h j (by simpa using hj);rw [ho] at h1;simp only [Option.map_some,Option.getD_some] at h1;rw [Array.any_eq_true'] at h1;obtain ⟨e,he,h2⟩:=h1;simp only [Bool.and_eq_true,beq_iff_eq] at h2;exact ⟨e,he,h2.1,h2.2⟩
theorem bY {id:Nat} {a:Act} {w:World} (L:Nat) (f0:Nat→Value) (F:(Nat→Value)→Act) (V:Nat→Value→World→Prop) (G:World→Prop)
  (hm:P.follows .mixedOrders=true) (hsz:ops.size=L + 1) (hord:EE ops=true) (hlo:yM ops L=true)
  (h0:a=F f0) (hG0:G w.drew)
  (hstep:∀ i,i < L→∀ o,ops[i]?=some o→∀ f w',G w'→(∀ e ∈ o.after,Region.binds .any e=true→V e.on (f e.on) w') →
   wpOp P ops Q i (fun a' w''=>∃ v,a'=F (upd f i v)∧G w''∧V i v w''∧∀ k u,V k u w'→V k u w'') (F f) w')
  (hfin:∀ o,ops[L]?=some o→∀ f w',G w'→(∀ k,k < L→V k (f k) w')→wpOp P ops Q L (fun a' w''=>Q .normal a' w'') (F f) w') :
  (Code.region id ops true).wp P Q a w:=by
 refine iC (fun listed a' w'=>listed.size=L + 1∧((listed.getD L false=false∧∃ f,a'=F f∧G w'∧∀ k,k < L→listed.getD k false=true→V k (f k) w') ∨ ((∀ j,j≤L→listed.getD j true=true)∧Q .normal a' w'))) hm ?_ ?_ ?_
 ·refine ⟨by simpa using hsz,Or.inl ⟨?_,_,h0,hG0,fun k _ h=>?_⟩⟩
  ·rw [Array.getD_eq_getD_getElem?,Array.getElem?_replicate]; split <;> rfl
  ·rw [Array.getD_eq_getD_getElem?,Array.getElem?_replicate] at h; split at h <;> cases h
 ·rintro listed a' w' ⟨hs,h⟩ i hi;obtain ⟨hl,o,ho,hpre⟩:=mem_ready.1 hi;have hiL:i < L + 1:=by have:=(Array.getElem?_eq_some_iff.1 ho).1; omega
  rcases h with ⟨hn,f,rfl,hG,hV⟩ | ⟨hall,-⟩
  ·by_cases e:i=L
   ·subst e;have hall:∀ k,k < i→listed.getD k false=true:=fun k hk=>by
     obtain ⟨e,he,rfl,hb⟩:=wZ hlo o ho k hk;exact hpre e he hb
    refine wpOp_mono (fun a'' w'' hq=>⟨by simpa using hs,Or.inr ⟨fun j hj=>?_,hq⟩⟩) (hfin o ho f w' hG (fun k hk=>hV k hk (hall k hk)));rw [oU (by simp; omega),eQ _ _ _ (by omega)];by_cases e:j=i
    ·simp [e]
    ·rw [if_neg e]; exact hall j (by omega)
   ·refine wpOp_mono ?_ (hstep i (by omega) o ho f w' hG (fun e he hb=>hV e.on (by have:=oV hord i o ho e he; omega) (hpre e he hb)));rintro a'' w'' ⟨v,rfl,hG',hv,hmono⟩;refine ⟨by simpa using hs,Or.inl ⟨?_,_,rfl,hG',fun k hk hkl=>?_⟩⟩
    ·rw [eQ _ _ _ (by omega),if_neg (Ne.symm e)]; exact hn
    ·rw [eQ _ _ _ (by omega)] at hkl;by_cases ek:k=i
     ·subst ek; simpa [upd] using hv
     ·rw [if_neg ek] at hkl;simp only [upd,if_neg ek];exact hmono _ _ (hV k hk hkl)
  ·rw [hall i (by omega)] at hl; cases hl
 ·rintro listed a' w' ⟨hs,h⟩ hr;rcases h with ⟨hn,-⟩ | ⟨-,hq⟩
  ·have:=uk hr hsz (oV hord) hs L (by omega);rw [oU (by omega)] at this;rw [this] at hn; cases hn
  ·exact hq
theorem au {id:Nat} {a:Act} {w:World} (N:Nat) (f0:Nat→Value) (F:(Nat→Value)→Act) (V:Nat→Value→World→Prop) (G:World→Prop)
  (hm:P.follows .mixedOrders=true) (hsz:ops.size=N) (hord:EE ops=true)
  (h0:a=F f0) (hG0:G w.drew)
  (hstep:∀ i,i < N→∀ o,ops[i]?=some o→∀ f w',G w'→(∀ e ∈ o.after,Region.binds .any e=true→V e.on (f e.on) w') →
   wpOp P ops Q i (fun a' w''=>∃ v,a'=F (upd f i v)∧G w''∧V i v w''∧∀ k u,V k u w'→V k u w'') (F f) w')
  (hend:∀ f w',G w'→(∀ k,k < N→V k (f k) w')→Q .normal (F f) w') :
  (Code.region id ops true).wp P Q a w:=by
 refine iC (fun listed a' w'=>listed.size=N∧∃ f,a'=F f∧G w'∧∀ k,k < N→listed.getD k false=true→V k (f k) w') hm ?_ ?_ ?_
 ·refine ⟨by simpa using hsz,_,h0,hG0,fun k _ h=>?_⟩;rw [Array.getD_eq_getD_getElem?,Array.getElem?_replicate] at h; split at h <;> cases h
 ·rintro listed a' w' ⟨hs,f,rfl,hG,hV⟩ i hi;obtain ⟨hl,o,ho,hpre⟩:=mem_ready.1 hi;have hiN:i < N:=by have:=(Array.getElem?_eq_some_iff.1 ho).1; omega
  refine wpOp_mono ?_ (hstep i hiN o ho f w' hG (fun e he hb=>hV e.on (by have:=oV hord i o ho e he; omega) (hpre e he hb)));rintro a'' w'' ⟨v,rfl,hG',hv,hmono⟩;refine ⟨by simpa using hs,_,rfl,hG',fun k hk hkl=>?_⟩;rw [eQ _ _ _ (by omega)] at hkl;by_cases ek:k=i
  ·subst ek; simpa [upd] using hv
  ·rw [if_neg ek] at hkl;simp only [upd,if_neg ek];exact hmono _ _ (hV k hk hkl)
 ·rintro listed a' w' ⟨hs,f,rfl,hG,hV⟩ hr;refine hend f w' hG fun k hk=>hV k hk ?_;have:=uk hr hsz (oV hord) hs k hk;rwa [oU (by omega)] at this
end
end Go.Proofs.YtdaoiceeidoehaaGreat
