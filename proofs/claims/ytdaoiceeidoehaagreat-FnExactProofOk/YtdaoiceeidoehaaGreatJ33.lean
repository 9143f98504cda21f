/- Contracts of the law's helpers that weigh a schema. -/
import Derived.Test.YtdaoiceeidoehaaGreatJ3
open Go.Proofs.Tryz
set_option maxHeartbeats 80000000
namespace Go.Proofs.YtdaoiceeidoehaaGreat
open Go.ChangeShapes Go.WideShapes Go.ChangeAt Go.RowKit
open Pl
theorem ww (r:RR) (w:World) (hr:r.ok w) (hl:r.light) :
  Calls prog 86 #[r.val] w fun e w'=>∃ r':RR,e=.returned r'.val∧r'.p=r.p∧r'.new w.heap.size∧r'.ok w'∧r'.caps∧Below w.heap.size w w':=by
 obtain ⟨name,rows,ad,cap⟩:=r;obtain ⟨l1,l2⟩:=hl;have HO:Hid (dw w ad rows):=hr;have HL:Hid (∀ q ∈ rows,q.e.light):=l2;simp only at l1;simp only [RR.val];clear hr l2;go_enter func86,ntmps86;go_wp2_with fail;obtain ⟨W1,hW1⟩:∃ W1,W1=((w.alloc (.cells #[.string name,.slice ad rows.length cap] 157)).alloc (.cells #[.string ⟨#[]⟩,.slice none 0 0] 152)).alloc (.cells #[.string name,.slice none 0 0] 152):=⟨_,rfl⟩;rw [← hW1];have hz1:w.heap.size + 3≤W1.heap.size:=by rw [hW1]; simp only [World.size_alloc]; omega
 have hb0:Below w.heap.size w W1:=by rw [hW1]; exact (((Below.refl w.heap.size w).alloc (Nat.le_refl _) _).alloc (by simp) _).alloc (by simp; omega) _
 have bC:Below ((w.alloc (.cells #[.string name,.slice ad rows.length cap] 157)).alloc (.cells #[.string ⟨#[]⟩,.slice none 0 0] 152)).heap.size ((w.alloc (.cells #[.string name,.slice ad rows.length cap] 157)).alloc (.cells #[.string ⟨#[]⟩,.slice none 0 0] 152)) W1:=by rw [hW1]; exact (Below.refl _ _).alloc (Nat.le_refl _) _
 have f1:∀ i,W1.frozen? ⟨w.heap.size + 1,i,none⟩=false:=fun i=>kS bC (by simp) (sZ _ _ _ _);have f2:∀ i,W1.frozen? ⟨w.heap.size + 1 + 1,i,none⟩=false:=fun i=>by rw [hW1]; exact yJ _ _ _ _ _
 have z0:W1.cell? ⟨w.heap.size + 1,0,none⟩=some (.string ⟨#[]⟩):=kept bC (by simp) (gT _ _ _ _ _ rfl);have z1:W1.cell? ⟨w.heap.size + 1,1,none⟩=some (.slice none 0 0):=kept bC (by simp) (gT _ _ _ _ _ rfl);have o0:W1.cell? ⟨w.heap.size + 1 + 1,0,none⟩=some (.string name):=by rw [hW1]; exact jJ _ _ _ _ _ _ rfl
 have o1:W1.cell? ⟨w.heap.size + 1 + 1,1,none⟩=some (.slice none 0 0):=by rw [hW1]; exact jJ _ _ _ _ _ _ rfl
 clear hW1 bC;refine (Ag ad cap rows W1 l1 (dw.below HO.out hb0) HL.out).mono ?_;rintro e w1 ⟨qs,rfl,hqe,hqs,hqc,hqn,hb1⟩;replace z0:=kept hb1 (by omega) z0;replace z1:=kept hb1 (by omega) z1;replace o0:=kept hb1 (by omega) o0;replace o1:=kept hb1 (by omega) o1;have k1:∀ i,w1.frozen? ⟨w.heap.size + 1,i,none⟩=false:=fun i=>kS hb1 (by omega) (f1 i);have k2:∀ i,w1.frozen? ⟨w.heap.size + 1 + 1,i,none⟩=false:=fun i=>kS hb1 (by omega) (f2 i);have HB1:Hid (Below w.heap.size w w1):=hb0.trans (hb1.mono (by omega));have hs1:w.heap.size + 3≤w1.heap.size:=by have:=hb1.size; omega
 have hnew:∀ B,B≤W1.heap.size→(⟨name,qs,some ⟨W1.heap.size,0,none⟩,qs.length⟩:RR).new w.heap.size∧(B < W1.heap.size→(⟨name,qs,some ⟨W1.heap.size,0,none⟩,qs.length⟩:RR).new B):=fun B hB =>
  ⟨⟨⟨_,rfl,by omega⟩,fun q hq=>(hqn q hq).mono (by omega)⟩,fun hlt=>⟨⟨_,rfl,hlt⟩,fun q hq=>(hqn q hq).mono (by omega)⟩⟩
 have HN0:Hid ((⟨name,qs,some ⟨W1.heap.size,0,none⟩,qs.length⟩:RR).new w.heap.size):=(hnew 0 (Nat.zero_le _)).1;have HN1:Hid ((⟨name,qs,some ⟨W1.heap.size,0,none⟩,qs.length⟩:RR).new (w.heap.size + 1)):=(hnew _ (by omega)).2 (by omega);have HN2:Hid ((⟨name,qs,some ⟨W1.heap.size,0,none⟩,qs.length⟩:RR).new (w.heap.size + 1 + 1)):=(hnew _ (by omega)).2 (by omega);have HK:Hid ((⟨name,qs,some ⟨W1.heap.size,0,none⟩,qs.length⟩:RR).ok w1):=hqs;have HC:Hid ((⟨name,qs,some ⟨W1.heap.size,0,none⟩,qs.length⟩:RR).caps):=⟨Nat.le_refl _,fun q hq=>Nat.le_of_eq (hqc q hq).symm⟩;have HE:Hid ((⟨name,qs,some ⟨W1.heap.size,0,none⟩,qs.length⟩:RR).p=⟨name,ah rows⟩):=by show _=_; simp only [RR.p,hqe]
 clear hqe hqs hqc hqn hb1 hb0 f1 f2 hnew;go_wp2;refine bodyPost_ret (v:=.agg #[.string name,.slice (some ⟨W1.heap.size,0,none⟩) qs.length qs.length]) (by simp [results,Tryz.results86,go_sem, *]) rfl ⟨⟨name,qs,some ⟨W1.heap.size,0,none⟩,qs.length⟩,rfl,HE.out,HN0.out,?_,HC.out,?_⟩
 ·exact ((HK.out.set HN2.out).set HN1.out).set HN1.out
 ·exact ((HB1.out.setCell (p:=⟨w.heap.size + 1 + 1,1,none⟩) (by simp; omega) _).setCell (p:=⟨w.heap.size + 1,0,none⟩) (by simp) _).setCell (p:=⟨w.heap.size + 1,1,none⟩) (by simp) _
def RR.row (r:RR):List Value:=[.string r.name,.slice r.ad r.rows.length r.cap]
def rowRR (rs:List RR):List Value:=rs.flatMap RR.row
theorem rA:∀ rs:List RR,(rowRR rs).length=rs.length * 2
 | []=>rfl
 | r::rs=>by have:=rA rs; simp only [rowRR,RR.row,List.flatMap_cons,List.length_append,List.length_cons,List.length_nil] at this ⊢; omega
theorem Cn:∀ (rs:List RR) (i:Nat) (h:i < rs.length) (j:Nat),j < 2→(rowRR rs)[i * 2 + j]?=(rs[i]).row[j]?
 | [],i,h,_,_=>by simp at h
 | r::rs,0,_,j,hj=>by
  simp only [rowRR,List.flatMap_cons,Nat.zero_mul,Nat.zero_add,List.getElem_cons_zero];rw [List.getElem?_append_left (by simpa [RR.row] using hj)]
 | r::rs,i + 1,h,j,hj=>by
  have:=Cn rs i (by simpa using h) j hj;simp only [rowRR,List.flatMap_cons,List.getElem_cons_succ] at this ⊢;rw [List.getElem?_append_right (by simp [RR.row]; omega),← this];congr 1;simp [RR.row]; omega
theorem Fil.rowRR {w w':World} {g:Nat} {rs:List RR} (h:Fil w w' g (rs.length * 2) (rowRR rs)) (hok:∀ r ∈ rs,r.ok w'):oL w' (some ⟨g,0,none⟩) rs:=by
 refine .inr ⟨g,0,rfl,h.lt,fun i hi=>?_,hok⟩;have hl:=rA rs;have key:∀ j,j < 2→w'.cell? ⟨g,0 + i * 2 + j,none⟩=(rs[i]).row[j]?:=fun j hj=>by
  rw [Nat.zero_add,h.done (i * 2 + j) (by omega),← Cn rs i hi j hj,List.getElem?_eq_getElem (by omega)]
 exact ⟨key 0 (by omega),key 1 (by omega)⟩
theorem sP (ad:Option Addr) (cap:Nat) (rs:List RR) (w:World) (hlen:rs.length≤1048576) (hs:oL w ad rs) (hl:∀ r ∈ rs,r.light) :
  Calls prog 62 #[.slice ad rs.length cap] w fun e w'=>∃ rs':List RR,e=.returned (.slice (some ⟨w.heap.size,0,none⟩) rs'.length rs'.length)∧cB rs'=cB rs∧oL w' (some ⟨w.heap.size,0,none⟩) rs'∧(∀ r ∈ rs',r.caps)∧(∀ r ∈ rs',r.new w.heap.size)∧Below w.heap.size w w':=by
 obtain ⟨inf,z,hi,hz0,hz1,hz2⟩:=tY (t:=152) (n:=2) (b:=40) (by kernel_rfl);have HSL:Hid (oL w ad rs):=hs;have HLI:Hid (∀ r ∈ rs,r.light):=hl;clear hs hl;go_enter func62,ntmps62;go_wp2_with (at_make; refine wpList_make_full _ rfl _ _ 68 rfl w.heap.size 152 inf z 2 underlying68 hi hz0 hz1 .i64 .i64 _ _ rs.length rfl rfl rfl rfl (by rw [hz2]; omega) (by unfold maxLen; omega) (Nat.le_refl _) ?_; intro w0 hown0 hgrow0);have F0:Fil w w0 w.heap.size (rs.length * 2) []:=lq hown0 hgrow0;clear hown0 hgrow0 hi hz0 hz1 hz2;go_loopw [4] (fun i wr=>∃ (k:Nat) (qs:List RR),k≤rs.length∧i=.int .i64 k∧Hid (qs.length=k∧cB qs=(cB rs).take k∧(∀ q ∈ qs,q.ok wr∧q.new w.heap.size∧q.caps))∧Fil w wr w.heap.size (rs.length * 2) (rowRR qs)) (fun i _=>rs.length - (intOf i).toNat);case atStart=>exact ⟨0,[],Nat.zero_le _,rfl,⟨rfl,by simp [cB],(fun q hq=>by cases hq)⟩,F0⟩
 case round =>
  obtain ⟨k,qs,hk,rfl,HQ,F⟩:=hrel;by_cases hlt:k < rs.length
  ·rcases HSL.out.below F.below with rfl | ⟨b,off,rfl,hb,hr,hok⟩
   ·simp at hlt
   obtain ⟨t0,t1⟩:=hr k hlt;have ok:=hok rs[k] (List.getElem_mem hlt);have lg:=HLI.out rs[k] (List.getElem_mem hlt);clear hr hok;go_wp2_with fail;refine (ww rs[k] _ ok lg).mono ?_;rintro e w1 ⟨q,rfl,hqe,hqn,hqok,hqc,hb1⟩;have F1:=F.later hb1;have fz:=F1.free;obtain ⟨v0,u0⟩:=Option.isSome_iff_exists.mp (F1.there (k * 2) (by omega));obtain ⟨v1,u1⟩:=Option.isSome_iff_exists.mp (F1.there (k * 2 + 1) (by omega));have hpl:(rowRR qs).length=k * 2:=by rw [rA,HQ.out.1]
   have F2:=(F1.put (.string q.name) (o:=k * 2) hpl.symm (by omega)).put (.slice q.ad q.rows.length q.cap) (o:=k * 2 + 1) (by simp [hpl]) (by omega);have e5:(rowRR qs ++ [.string q.name]) ++ [.slice q.ad q.rows.length q.cap]=rowRR (qs ++ [q]):=by simp [rowRR,RR.row]
   rw [e5] at F2;obtain ⟨wn,hwn⟩:∃ wn,wn=(w1.setCell ⟨w.heap.size,k * 2,none⟩ (.string q.name)).setCell ⟨w.heap.size,k * 2 + 1,none⟩ (.slice q.ad q.rows.length q.cap):=⟨_,rfl⟩;have hnew:q.new w.heap.size:=hqn.mono (Nat.le_of_lt F.lt);have HQ2:Hid ((qs ++ [q]).length=k + 1∧cB (qs ++ [q])=(cB rs).take (k + 1)∧∀ p ∈ qs ++ [q],p.ok wn∧p.new w.heap.size∧p.caps):=by
    obtain ⟨h1,h2,h3⟩:=HQ.out;refine ⟨by simp [h1],?_,?_⟩
    ·rw [List.take_succ_eq_append_getElem (by rw [fF]; exact hlt),← h2];simp [cB,hqe]
    ·intro p hp;rw [List.mem_append,List.mem_singleton] at hp;have st:∀ p:RR,p.ok w1→p.new w.heap.size→p.ok wn:=fun p h n=>by rw [hwn]; exact (h.set n).set n
     rcases hp with hp | rfl
     ·exact ⟨st p ((h3 p hp).1.below hb1) (h3 p hp).2.1,(h3 p hp).2⟩
     ·exact ⟨st p hqok hnew,hnew,hqc⟩
   rw [← hwn] at F2;have HF:Hid (Fil w wn w.heap.size (rs.length * 2) (rowRR (qs ++ [q]))):=F2;clear F F0 F1 F2 t0 t1 hb1 hpl e5 ok lg HQ hqe hqn hqok hqc hnew;simp only [RR.val];go_wp2;rw [← hwn];go_roundw;case rel=>exact ⟨k + 1,qs ++ [q],by omega,by go_num,HQ2,HF.out⟩
   case measure=>simp [intOf]; omega
  ·obtain rfl:k=rs.length:=by omega
   obtain ⟨h1,h2,h3⟩:=HQ.out;have HQ3:Hid (qs.length=rs.length):=h1;have HE3:Hid (cB qs=cB rs):=by rw [← fF rs,List.take_length] at h2; exact h2
   have HS3:Hid (oL wr (some ⟨w.heap.size,0,none⟩) qs):=by
    rw [← h1] at F;exact F.rowRR fun r hr=>(h3 r hr).1
   have HB3:Hid (Below w.heap.size w wr):=F.below;have HN3:Hid (∀ r ∈ qs,r.new w.heap.size):=fun r hr=>(h3 r hr).2.1;have HC3:Hid (∀ r ∈ qs,r.caps):=fun r hr=>(h3 r hr).2.2;clear h1 h2 h3 F F0 HQ;go_wp2;go_ret;exact ⟨qs,by rw [HQ3.out]; rfl,HE3.out,HS3.out,HC3.out,HN3.out,HB3.out⟩
theorem Ep (r:TR) (w:World) (hr:r.ok w) (hl:r.light) :
  Calls prog 34 #[r.val] w fun e w'=>∃ r':TR,e=.returned r'.val∧r'.p=r.p∧r'.new w.heap.size∧r'.ok w'∧r'.caps∧Below w.heap.size w w':=by
 obtain ⟨name,rows,ad,cap⟩:=r;obtain ⟨l1,l2⟩:=hl;have HO:Hid (oL w ad rows):=hr;have HL:Hid (∀ q ∈ rows,q.light):=l2;simp only at l1;simp only [TR.val];clear hr l2;go_enter func34,ntmps34;go_wp2_with fail;obtain ⟨W1,hW1⟩:∃ W1,W1=((w.alloc (.cells #[.string name,.slice ad rows.length cap] 59)).alloc (.cells #[.string ⟨#[]⟩,.slice none 0 0] 70)).alloc (.cells #[.string name,.slice none 0 0] 70):=⟨_,rfl⟩;rw [← hW1];have hz1:w.heap.size + 3≤W1.heap.size:=by rw [hW1]; simp only [World.size_alloc]; omega
 have hb0:Below w.heap.size w W1:=by rw [hW1]; exact (((Below.refl w.heap.size w).alloc (Nat.le_refl _) _).alloc (by simp) _).alloc (by simp; omega) _
 have bC:Below ((w.alloc (.cells #[.string name,.slice ad rows.length cap] 59)).alloc (.cells #[.string ⟨#[]⟩,.slice none 0 0] 70)).heap.size ((w.alloc (.cells #[.string name,.slice ad rows.length cap] 59)).alloc (.cells #[.string ⟨#[]⟩,.slice none 0 0] 70)) W1:=by rw [hW1]; exact (Below.refl _ _).alloc (Nat.le_refl _) _
 have f1:∀ i,W1.frozen? ⟨w.heap.size + 1,i,none⟩=false:=fun i=>kS bC (by simp) (sZ _ _ _ _);have f2:∀ i,W1.frozen? ⟨w.heap.size + 1 + 1,i,none⟩=false:=fun i=>by rw [hW1]; exact yJ _ _ _ _ _
 have z0:W1.cell? ⟨w.heap.size + 1,0,none⟩=some (.string ⟨#[]⟩):=kept bC (by simp) (gT _ _ _ _ _ rfl);have z1:W1.cell? ⟨w.heap.size + 1,1,none⟩=some (.slice none 0 0):=kept bC (by simp) (gT _ _ _ _ _ rfl);have o0:W1.cell? ⟨w.heap.size + 1 + 1,0,none⟩=some (.string name):=by rw [hW1]; exact jJ _ _ _ _ _ _ rfl
 have o1:W1.cell? ⟨w.heap.size + 1 + 1,1,none⟩=some (.slice none 0 0):=by rw [hW1]; exact jJ _ _ _ _ _ _ rfl
 clear hW1 bC;refine (sP ad cap rows W1 l1 (oL.below HO.out hb0) HL.out).mono ?_;rintro e w1 ⟨qs,rfl,hqe,hqs,hqc,hqn,hb1⟩;replace z0:=kept hb1 (by omega) z0;replace z1:=kept hb1 (by omega) z1;replace o0:=kept hb1 (by omega) o0;replace o1:=kept hb1 (by omega) o1;have k1:∀ i,w1.frozen? ⟨w.heap.size + 1,i,none⟩=false:=fun i=>kS hb1 (by omega) (f1 i);have k2:∀ i,w1.frozen? ⟨w.heap.size + 1 + 1,i,none⟩=false:=fun i=>kS hb1 (by omega) (f2 i);have HB1:Hid (Below w.heap.size w w1):=hb0.trans (hb1.mono (by omega));have hs1:w.heap.size + 3≤w1.heap.size:=by have:=hb1.size; omega
 have hnew:∀ B,B≤W1.heap.size→(⟨name,qs,some ⟨W1.heap.size,0,none⟩,qs.length⟩:TR).new w.heap.size∧(B < W1.heap.size→(⟨name,qs,some ⟨W1.heap.size,0,none⟩,qs.length⟩:TR).new B):=fun B hB =>
  ⟨⟨⟨_,rfl,by omega⟩,fun q hq=>(hqn q hq).mono (by omega)⟩,fun hlt=>⟨⟨_,rfl,hlt⟩,fun q hq=>(hqn q hq).mono (by omega)⟩⟩
 have HN0:Hid ((⟨name,qs,some ⟨W1.heap.size,0,none⟩,qs.length⟩:TR).new w.heap.size):=(hnew 0 (Nat.zero_le _)).1;have HN1:Hid ((⟨name,qs,some ⟨W1.heap.size,0,none⟩,qs.length⟩:TR).new (w.heap.size + 1)):=(hnew _ (by omega)).2 (by omega);have HN2:Hid ((⟨name,qs,some ⟨W1.heap.size,0,none⟩,qs.length⟩:TR).new (w.heap.size + 1 + 1)):=(hnew _ (by omega)).2 (by omega);have HK:Hid ((⟨name,qs,some ⟨W1.heap.size,0,none⟩,qs.length⟩:TR).ok w1):=hqs;have HC:Hid ((⟨name,qs,some ⟨W1.heap.size,0,none⟩,qs.length⟩:TR).caps):=⟨Nat.le_refl _,hqc⟩;have HE:Hid ((⟨name,qs,some ⟨W1.heap.size,0,none⟩,qs.length⟩:TR).p=⟨name,cB rows⟩):=by show _=_; simp only [TR.p,hqe]
 clear hqe hqs hqc hqn hb1 hb0 f1 f2 hnew;go_wp2;refine bodyPost_ret (v:=.agg #[.string name,.slice (some ⟨W1.heap.size,0,none⟩) qs.length qs.length]) (by simp [results,Tryz.results34,go_sem, *]) rfl ⟨⟨name,qs,some ⟨W1.heap.size,0,none⟩,qs.length⟩,rfl,HE.out,HN0.out,?_,HC.out,?_⟩
 ·exact ((HK.out.set HN2.out).set HN1.out).set HN1.out
 ·exact ((HB1.out.setCell (p:=⟨w.heap.size + 1 + 1,1,none⟩) (by simp; omega) _).setCell (p:=⟨w.heap.size + 1,0,none⟩) (by simp) _).setCell (p:=⟨w.heap.size + 1,1,none⟩) (by simp) _
def TR.row (r:TR):List Value:=[.string r.name,.slice r.ad r.rows.length r.cap]
def rowTR (rs:List TR):List Value:=rs.flatMap TR.row
theorem rC:∀ rs:List TR,(rowTR rs).length=rs.length * 2
 | []=>rfl
 | r::rs=>by have:=rC rs; simp only [rowTR,TR.row,List.flatMap_cons,List.length_append,List.length_cons,List.length_nil] at this ⊢; omega
theorem Co:∀ (rs:List TR) (i:Nat) (h:i < rs.length) (j:Nat),j < 2→(rowTR rs)[i * 2 + j]?=(rs[i]).row[j]?
 | [],i,h,_,_=>by simp at h
 | r::rs,0,_,j,hj=>by
  simp only [rowTR,List.flatMap_cons,Nat.zero_mul,Nat.zero_add,List.getElem_cons_zero];rw [List.getElem?_append_left (by simpa [TR.row] using hj)]
 | r::rs,i + 1,h,j,hj=>by
  have:=Co rs i (by simpa using h) j hj;simp only [rowTR,List.flatMap_cons,List.getElem_cons_succ] at this ⊢;rw [List.getElem?_append_right (by simp [TR.row]; omega),← this];congr 1;simp [TR.row]; omega
theorem Fil.rowTR {w w':World} {g:Nat} {rs:List TR} (h:Fil w w' g (rs.length * 2) (rowTR rs)) (hok:∀ r ∈ rs,r.ok w'):eY w' (some ⟨g,0,none⟩) rs:=by
 refine .inr ⟨g,0,rfl,h.lt,fun i hi=>?_,hok⟩;have hl:=rC rs;have key:∀ j,j < 2→w'.cell? ⟨g,0 + i * 2 + j,none⟩=(rs[i]).row[j]?:=fun j hj=>by
  rw [Nat.zero_add,h.done (i * 2 + j) (by omega),← Co rs i hi j hj,List.getElem?_eq_getElem (by omega)]
 exact ⟨key 0 (by omega),key 1 (by omega)⟩
theorem mJ (ad:Option Addr) (cap:Nat) (rs:List TR) (w:World) (hlen:rs.length≤1048576) (hs:eY w ad rs) (hl:∀ r ∈ rs,r.light) :
  Calls prog 11 #[.slice ad rs.length cap] w fun e w'=>∃ rs':List TR,e=.returned (.slice (some ⟨w.heap.size,0,none⟩) rs'.length rs'.length)∧ae rs'=ae rs∧eY w' (some ⟨w.heap.size,0,none⟩) rs'∧(∀ r ∈ rs',r.caps)∧(∀ r ∈ rs',r.new w.heap.size)∧Below w.heap.size w w':=by
 obtain ⟨inf,z,hi,hz0,hz1,hz2⟩:=tY (t:=70) (n:=2) (b:=40) (by kernel_rfl);have HSL:Hid (eY w ad rs):=hs;have HLI:Hid (∀ r ∈ rs,r.light):=hl;clear hs hl;go_enter func11,ntmps11;go_wp2_with (at_make; refine wpList_make_full _ rfl _ _ 34 rfl w.heap.size 70 inf z 2 underlying34 hi hz0 hz1 .i64 .i64 _ _ rs.length rfl rfl rfl rfl (by rw [hz2]; omega) (by unfold maxLen; omega) (Nat.le_refl _) ?_; intro w0 hown0 hgrow0);have F0:Fil w w0 w.heap.size (rs.length * 2) []:=lq hown0 hgrow0;clear hown0 hgrow0 hi hz0 hz1 hz2;go_loopw [4] (fun i wr=>∃ (k:Nat) (qs:List TR),k≤rs.length∧i=.int .i64 k∧Hid (qs.length=k∧ae qs=(ae rs).take k∧(∀ q ∈ qs,q.ok wr∧q.new w.heap.size∧q.caps))∧Fil w wr w.heap.size (rs.length * 2) (rowTR qs)) (fun i _=>rs.length - (intOf i).toNat);case atStart=>exact ⟨0,[],Nat.zero_le _,rfl,⟨rfl,by simp [ae],(fun q hq=>by cases hq)⟩,F0⟩
 case round =>
  obtain ⟨k,qs,hk,rfl,HQ,F⟩:=hrel;by_cases hlt:k < rs.length
  ·rcases HSL.out.below F.below with rfl | ⟨b,off,rfl,hb,hr,hok⟩
   ·simp at hlt
   obtain ⟨t0,t1⟩:=hr k hlt;have ok:=hok rs[k] (List.getElem_mem hlt);have lg:=HLI.out rs[k] (List.getElem_mem hlt);clear hr hok;go_wp2_with fail;refine (Ep rs[k] _ ok lg).mono ?_;rintro e w1 ⟨q,rfl,hqe,hqn,hqok,hqc,hb1⟩;have F1:=F.later hb1;have fz:=F1.free;obtain ⟨v0,u0⟩:=Option.isSome_iff_exists.mp (F1.there (k * 2) (by omega));obtain ⟨v1,u1⟩:=Option.isSome_iff_exists.mp (F1.there (k * 2 + 1) (by omega));have hpl:(rowTR qs).length=k * 2:=by rw [rC,HQ.out.1]
   have F2:=(F1.put (.string q.name) (o:=k * 2) hpl.symm (by omega)).put (.slice q.ad q.rows.length q.cap) (o:=k * 2 + 1) (by simp [hpl]) (by omega);have e5:(rowTR qs ++ [.string q.name]) ++ [.slice q.ad q.rows.length q.cap]=rowTR (qs ++ [q]):=by simp [rowTR,TR.row]
   rw [e5] at F2;obtain ⟨wn,hwn⟩:∃ wn,wn=(w1.setCell ⟨w.heap.size,k * 2,none⟩ (.string q.name)).setCell ⟨w.heap.size,k * 2 + 1,none⟩ (.slice q.ad q.rows.length q.cap):=⟨_,rfl⟩;have hnew:q.new w.heap.size:=hqn.mono (Nat.le_of_lt F.lt);have HQ2:Hid ((qs ++ [q]).length=k + 1∧ae (qs ++ [q])=(ae rs).take (k + 1)∧∀ p ∈ qs ++ [q],p.ok wn∧p.new w.heap.size∧p.caps):=by
    obtain ⟨h1,h2,h3⟩:=HQ.out;refine ⟨by simp [h1],?_,?_⟩
    ·rw [List.take_succ_eq_append_getElem (by rw [eZ]; exact hlt),← h2];simp [ae,hqe]
    ·intro p hp;rw [List.mem_append,List.mem_singleton] at hp;have st:∀ p:TR,p.ok w1→p.new w.heap.size→p.ok wn:=fun p h n=>by rw [hwn]; exact (h.set n).set n
     rcases hp with hp | rfl
     ·exact ⟨st p ((h3 p hp).1.below hb1) (h3 p hp).2.1,(h3 p hp).2⟩
     ·exact ⟨st p hqok hnew,hnew,hqc⟩
   rw [← hwn] at F2;have HF:Hid (Fil w wn w.heap.size (rs.length * 2) (rowTR (qs ++ [q]))):=F2;clear F F0 F1 F2 t0 t1 hb1 hpl e5 ok lg HQ hqe hqn hqok hqc hnew;simp only [TR.val];go_wp2;rw [← hwn];go_roundw;case rel=>exact ⟨k + 1,qs ++ [q],by omega,by go_num,HQ2,HF.out⟩
   case measure=>simp [intOf]; omega
  ·obtain rfl:k=rs.length:=by omega
   obtain ⟨h1,h2,h3⟩:=HQ.out;have HQ3:Hid (qs.length=rs.length):=h1;have HE3:Hid (ae qs=ae rs):=by rw [← eZ rs,List.take_length] at h2; exact h2
   have HS3:Hid (eY wr (some ⟨w.heap.size,0,none⟩) qs):=by
    rw [← h1] at F;exact F.rowTR fun r hr=>(h3 r hr).1
   have HB3:Hid (Below w.heap.size w wr):=F.below;have HN3:Hid (∀ r ∈ qs,r.new w.heap.size):=fun r hr=>(h3 r hr).2.1;have HC3:Hid (∀ r ∈ qs,r.caps):=fun r hr=>(h3 r hr).2.2;clear h1 h2 h3 F F0 HQ;go_wp2;go_ret;exact ⟨qs,by rw [HQ3.out]; rfl,HE3.out,HS3.out,HC3.out,HN3.out,HB3.out⟩
end Go.Proofs.YtdaoiceeidoehaaGreat
