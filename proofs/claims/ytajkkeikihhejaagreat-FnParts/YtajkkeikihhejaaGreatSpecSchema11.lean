/- Contract of the document's function on schemas. -/
import Derived.Test.YtajkkeikihhejaaGreatSq
import Derived.Test.YtajkkeikihhejaaGreatSpecSchema10
import Derived.Test.YtajkkeikihhejaaGreatJ8
open Go.Proofs.Tryz
set_option maxHeartbeats 80000000
namespace Go.Proofs.YtajkkeikihhejaaGreat
open Go.Sort
open Go.ChangeShapes Go.WideShapes Go.ChangeAt Go.RowKit
open Pl
def uU (ts:List Ty)(n:ByteArray):Nat->Bool
 | 0=>true
 | i+1=>(ts[i]?.map fun p=>jf p.name n).getD true
def xP (ts:List Rl)(n:ByteArray):Nat->Bool
 | 0=>true
 | i+1=>(ts[i]?.map fun p=>jf p.name n).getD true
theorem CR {rs:List TR}{k:Nat}(h:k<rs.length):kw (ae rs) k=(aR rs[k].name&&uU (ae rs) rs[k].name k&&decide (rs[k].rows.length<=6)&&dI (eF rs[k].rows) rs[k].rows.length):=by
 unfold kw;have e:(ae rs)[k]?=some rs[k].p:=by simp [ae,h]
 rw [e];have e2:rs[k].p.rels.length=rs[k].rows.length:=by simp [TR.p,eF]
 simp only [e2];cases k <;> rfl
theorem CS {rs:List RR}{k:Nat}(h:k<rs.length):ma (eF rs) k=(aR rs[k].name&&xP (eF rs) rs[k].name k&&aK (aj rs[k].rows)):=by
 unfold ma;have e:(eF rs)[k]?=some rs[k].p:=by simp [eF,h]
 rw [e];cases k <;> rfl
theorem zW {rs:List TR}{n:ByteArray}{k m:Nat}(hk:k=m+1)(h0:m<rs.length):uU (ae rs) n k=jf rs[m].name n:=by
 subst hk;have e:(ae rs)[m]?=some rs[m].p:=by simp [ae,h0]
 simp only [uU,e];rfl
theorem zX {rs:List RR}{n:ByteArray}{k m:Nat}(hk:k=m+1)(h0:m<rs.length):xP (eF rs) n k=jf rs[m].name n:=by
 subst hk;have e:(eF rs)[m]?=some rs[m].p:=by simp [eF,h0]
 simp only [xP,e];rfl
theorem zY {ts:List Ty}{n:ByteArray}{k:Nat}(hk:k=0):uU ts n k=true:=by subst hk;rfl
theorem zZ {ts:List Rl}{n:ByteArray}{k:Nat}(hk:k=0):xP ts n k=true:=by subst hk;rfl
theorem QH {P:Program}{c:Code}{Q:Exit->Act->World->Prop}{a:Act}{w:af}(H:(Act->World->Prop)->Prop)(hc:H (Q .normal))(hr:H (Q .normal)->c.wp P Q a w):c.wp P Q a w:=hr hc
theorem F6 (rs:List TR)(k:Nat)(h:k<rs.length):(ae rs).take (k+1)=(ae rs).take k++[rs[k].p]:=by
 rw [Uh (by rw [kY];exact h)];simp [ae]
theorem F7 (rs:List RR)(k:Nat)(h:k<rs.length):(eF rs).take (k+1)=(eF rs).take k++[rs[k].p]:=by
 rw [Uh (by rw [rq];exact h)];simp [eF]
theorem keepR {wr W w':af}{b b2 o1 o2 o3:Nat}{x y z:Value}(h:W.cell? ⟨b,o1,none⟩=some x/\W.cell? ⟨b,o2,none⟩=some y/\W.cell? ⟨b2,o3,none⟩=some z/\b<W.heap.size/\b2<W.heap.size/\ag wr W)(hb:ag W w') :
  w'.cell? ⟨b,o1,none⟩=some x/\w'.cell? ⟨b,o2,none⟩=some y/\w'.cell? ⟨b2,o3,none⟩=some z/\b<w'.heap.size/\b2<w'.heap.size/\ag wr w' :=
 ⟨aH hb h.2.2.2.1 h.1,aH hb h.2.2.2.1 h.2.1,aH hb h.2.2.2.2.1 h.2.2.1,Uc h.2.2.2.1 hb.size,Uc h.2.2.2.2.1 hb.size,h.2.2.2.2.2.trans (hb.mono h.2.2.2.2.2.size)⟩
theorem IR {rs:List TR}{k:Nat}(hk:k<rs.length)(h:kw (ae rs) k=false):¬ bW (ae rs):=fun hs=>by
 have h1:=hs.1;simp only [bi,Ug]at h1;rw [tJ _ k h _ (by rw [kY];exact hk)]at h1;cases h1.2
set_option maxRecDepth 100000 in
theorem jU (ad:Option Addr)(cap:Nat)(rs:List TR)(w:af)(hlen:rs.length<=1048576)(hs:kX w ad rs)(hl:∀ r∈rs,r.light)(hf:∀ r∈rs,r.fits) :
  Calls prog 92 #[.slice ad rs.length cap] w fun e w'=>e=.returned (.bool (aL (ae rs)))/\ag w w':=by
 have HS:=aA hs;have HL:=aA hl;have UY:=aA hf;clear hs hl hf;by_cases h6:6<rs.length
 ·have HN:Hid (¬ bW (ae rs)):=fun h=>by have:=(bu h.1).1;omega
  go_enter func92,ntmps92;go_wp2;go_ret;exact ⟨ah (dO HN.out).symm,Uf _ _⟩
 go_enter func92,ntmps92;go_wp2;go_loopw [3] (fun i wr=>∃ k:Nat,k<=rs.length/\i=.int .i64 k/\Hid (iM (ae rs) k=true)/\Hid (ag w wr)) (fun i _=>rs.length-(intOf i).toNat);case atStart=>exact ⟨0,Ui _,rfl,rfl,Uf _ _⟩
 obtain ⟨k,hk,rfl,HP,HB⟩:=hrel;by_cases hlt:k<rs.length
 ·rcases HS.out.below HB.out with rfl|⟨b,off,rfl,hb,hr,hok⟩
  ·simp at hlt
  obtain ⟨t0,t1⟩:=hr k hlt;have VP:Hid (rs[k].ok wr):=hok rs[k] (Ud hlt);have HSW:=aA (HS.out.below HB.out);have z0:rs[k].name.size<=maxLen:=(UY.out _ (Ud hlt)).1;have hk1:=bF k;have hk2:(k:Int)<(rs.length:Int):=by omega
  have HTP:Hid (∀ (m:Nat) (h:m<rs.length),wr.cell? ⟨b,off+m*2,none⟩=some (.string rs[m].name)):=fun m h=>(hr m h).1;have HTA:=CR hlt;have HTH:Hid (kw (ae rs) k=_):=HTA;have HBAD:Hid (kw (ae rs) k=false->¬ bW (ae rs)):=IR hlt;clear hr hok HTA;go_wp2_with fail;refine QH (fun K=>∀ (v0 v1 v2 v3 v4 v5 v6 v7 v8 v9 v10 v11 v12 v13 v14 v15 v16 v17 v18 v19 v20 v21 v22 v23 v24 v25 v26 v27 v28 v29 v30 v31 v32:Value) (w':World),ag wr w'->kw (ae rs) k=dI (eF rs[k].rows) rs[k].rows.length->K { tmps:=List.toArray (Value.slice (some ⟨b,off,none⟩) rs.length cap::undef::u2::.int .i64 k::u4::u5::undef::undef::undef::undef::.slice (some ⟨b,off,none⟩) rs.length cap::.int .i64 rs.length::.bool (decide (6<(rs.length:Int)))::.int .i64 k::.slice (some ⟨b,off,none⟩) rs.length cap::.int .i64 rs.length::.bool true::u17::u18::v0::v1::v2::v3::v4::v5::v6::v7::v8::v9::v10::v11::v12::v13::v14::v15::v16::v17::v18::v19::v20::v21::v22::v23::v24::v25::v26::v27::v28::v29::v30::v31::v32::.bool false::u53::u54::u55::u56::u57::u58::u59::u60::u61::u62::u63::u64::u65::u66::u67::u68::u69::u70::u71::u72::u73::u74::u75::u76::u77::u78::u79::u80::u81::u82::u83::u84::u85::u86::u87::u88::u89::u90::u91::u92::u93::u94::u95::u96::u97::u98::u99::undef::undef::undef::undef::undef::undef::undef::undef::undef::undef::undef::undef::undef::undef::undef::undef::undef::undef::undef::undef::undef::undef::undef::undef::undef::undef::undef::undef::undef::undef::undef::undef::undef::undef::undef::undef::undef::undef::undef::[]),defers:=[] } w') ?cont6 ?reg6;case cont6 =>
   intro v0 v1 v2 v3 v4 v5 v6 v7 v8 v9 v10 v11 v12 v13 v14 v15 v16 v17 v18 v19 v20 v21 v22 v23 v24 v25 v26 v27 v28 v29 v30 v31 v32 w' hG hpre;have HG:Hid (ag wr w'):=hG;have XP:Hid (kw (ae rs) k=dI (eF rs[k].rows) rs[k].rows.length):=hpre;clear hG hpre;obtain ⟨wo,hwo⟩:∃ wo,wo=wr:=⟨_,rfl⟩;subst hwo;have HB1:Hid (ag w w'):=HB.out.trans (HG.out.mono HB.out.size);have lgT:=(HL.out _ (Ud hlt)).1;have Z6:Hid (∀ q∈rs[k].rows,q.light):=(HL.out _ (Ud hlt)).2;have Xb:Hid (∀ q∈rs[k].rows,q.fits):=(UY.out _ (Ud hlt)).2.2;have YF:Hid (∀ j,j<rs[k].rows.length->ma (eF rs[k].rows) j=false->¬ bW (ae rs)):=fun j hj h=>HBAD.out (by rw [XP.out];exact tH _ j h _ hj);clear t0 t1 HTP HSW VP;go_wp2_with fail;go_loopw [4] (fun i w2=>∃ j:Nat,j<=rs[k].rows.length/\i=.int .i64 j/\Hid (dI (eF rs[k].rows) j=true)/\Hid (ag w w2)) (fun i _=>rs[k].rows.length-(intOf i).toNat);case atStart=>exact ⟨0,Ui _,rfl,rfl,HB1⟩
   clear HB1 HG HB;obtain ⟨j,hj,rfl,HRU,HB⟩:=hrel;rcases HS.out.below HB.out with rfl|⟨b',off',he,hb2,hr,hok⟩
   ·simp at hlt
   injection he with he;injection he with he1 he2;subst he1;subst he2;obtain ⟨t0,t1⟩:=hr k hlt;have VP:Hid (rs[k].ok wr):=hok rs[k] (Ud hlt);clear hr hok;by_cases hjl:j<rs[k].rows.length
   ·rcases VP.out with hnil|⟨b2,Vb,had,hbb,hr2,hok2⟩
    ·rw [hnil]at hjl;simp at hjl
    rw [had]at t1;obtain ⟨q0,q1⟩:=hr2 j hjl;have HQ:Hid (∀ (m:Nat) (h:m<rs[k].rows.length),wr.cell? ⟨b2,Vb+m*2,none⟩=some (.string rs[k].rows[m].name)):=fun m h=>(hr2 m h).1;have WU:Hid (iC wr rs[k].rows[j].ad rs[k].rows[j].rows):=hok2 _ (Ud hjl);have z1:rs[k].rows[j].name.size<=maxLen:=(Xb.out _ (Ud hjl)).1;have WV:Hid (rs[k].rows[j].light):=Z6.out _ (Ud hjl);have WZ:Hid (rs[k].rows[j].fits):=Xb.out _ (Ud hjl);have hj1:=bF j;have hj2:(j:Int)<(rs[k].rows.length:Int):=by omega
    have YT:Hid (ma (eF rs[k].rows) j=_):=CS hjl;obtain ⟨W1,hW1⟩:∃ W1,W1=wr.alloc (.cells #[.string rs[k].rows[j].name,.slice rs[k].rows[j].ad rs[k].rows[j].rows.length rs[k].rows[j].cap] 147):=⟨_,rfl⟩;have hal:ag wr W1:=by rw [hW1];exact (Uf _ _).alloc (Ue _) _
    have U2:=aA hal;have hgl:wr.heap.size<W1.heap.size:=by rw [hW1];simp
    have g0:W1.cell? ⟨wr.heap.size,0,none⟩=some (.string rs[k].rows[j].name):=by rw [hW1];simp
    have g1:W1.cell? ⟨wr.heap.size,1,none⟩=some (.slice rs[k].rows[j].ad rs[k].rows[j].rows.length rs[k].rows[j].cap):=by rw [hW1];simp
    have d1:=aH hal hb2 t1;have hb3:b<W1.heap.size:=Nat.lt_trans hb2 hgl;have hb4:b2<W1.heap.size:=Nat.lt_trans hbb hgl;clear hr2 hok2;go_wp2_with fail;rw [<-hW1];clear hW1 t0 q0 q1 hal t1;have p0:=cell_regrown g0;have p1:=cell_regrown g1;have p2:=cell_regrown d1;have Vo:Hid (∀ d os,Calls prog 111 #[.string rs[k].rows[j].name] (grow (redrawn W1 d) os) fun e w''=>e=.returned (.bool (aR rs[k].rows[j].name))/\∃ p:Regrown,w''=grow (redrawn W1 p.d) p.os):=by
     refine jQ fun W'=>?_;exact aT _ _ z1
    have YU:Hid (∀ d os,Calls prog 135 #[.slice rs[k].rows[j].ad rs[k].rows[j].rows.length rs[k].rows[j].cap] (grow (redrawn W1 d) os) fun e w''=>e=.returned (.bool (aK (aj rs[k].rows[j].rows)))/\∃ p:Regrown,w''=grow (redrawn W1 p.d) p.os):=by
     refine bP fun W' hb=>?_;exact l7 _ _ rs[k].rows[j].rows _ WV.out.1 WV.out.2 WZ.out.2.2 (WU.out.below (U2.out.trans (hb.mono U2.out.size)))
    have Vy:Hid (∀ d os,ag w (grow (redrawn W1 d) os)):=fun d os=>HB.out.trans ((U2.out.mono HB.out.size).trans ((below_regrown W1 d os).mono (Uk HB.out.size U2.out.size)));cases hnm:aR rs[k].rows[j].name;case false=>
     rw [hnm]at Vo;have HN:Hid (¬ bW (ae rs)):=YF.out j hjl (by rw [YT.out];simp [hnm]);refine wp_region_quiet_below (by kernel_rfl) (by kernel_rfl) ?_
     repeat (go_big_quiet_step (exact Vo.out _ _))
     refine wpQuiet_nil ?_;rintro _ ⟨⟨dq,osq⟩,rfl⟩;go_wp2;go_ret;exact ⟨ah (dO HN.out).symm,Vy.out dq osq⟩
    rw [hnm]at Vo;obtain ⟨ex,hex⟩:∃ ex,ex=aK (aj rs[k].rows[j].rows):=⟨_,rfl⟩;have fin:Hid (∀ pv,xP (eF rs[k].rows) rs[k].rows[j].name j=pv->ma (eF rs[k].rows) j=(pv&&ex)):=fun pv h=>by rw [YT.out,hnm,h,hex];simp
    rw [<-hex]at YU;clear hex YT hnm;by_cases hpos:j=0
    ·have hk0:¬ (0:Int)<(j:Int):=by omega
     have hk9:decide (0<j)=false:=by simp;omega
     have Wl:=qc (fin.out _ (zZ hpos));replace hpos:Hid (j=0):=hpos;refine wp_region_quiet_below (by kernel_rfl) (by kernel_rfl) ?_
     repeat (go_big_quiet_step (first|exact Vo.out _ _|exact YU.out _ _))
     refine wpQuiet_nil ?_;rintro _ ⟨⟨dq,osq⟩,rfl⟩;cases ex;case false=>
      have HN:Hid (¬ bW (ae rs)):=YF.out j hjl (by rw [Wl.out];rfl);go_wp2;go_ret;exact ⟨ah (dO HN.out).symm,Vy.out dq osq⟩
     have Wp:Hid (dI (eF rs[k].rows) (j+1)=true):=by show _=_;simp only [dI];rw [HRU.out,Wl.out];rfl
     go_wp2;go_roundw;case rel=>exact ⟨j+1,by omega,by go_num,Wp,Vy.out dq osq⟩
     simp [intOf] <;> omega
    obtain ⟨m,hm⟩:∃ m,j=m+1:=⟨j-1,by omega⟩;have Vl:m<rs[k].rows.length:=by omega
    have hk0:(0:Int)<(j:Int):=by omega
    have hk9:decide (0<j)=true:=by simp;omega
    have hkm:(j:Int)-1=(m:Int):=by omega
    have hwm:IntKind.i64.wrap (m:Int)=(m:Int):=by rw [IntKind.wrap_i64];omega
    have hm1:=bF m;have hm2:(m:Int)<(rs[k].rows.length:Int):=by omega
    have qm:=cell_regrown (aH U2.out hbb (HQ.out m Vl));have Wl:=qc (fin.out _ (zX hm Vl));replace hm:Hid (j=m+1):=hm;cases hless:Op.bytesLess rs[k].rows[m].name.toList rs[k].rows[j].name.toList;case false=>
     have HN:Hid (¬ bW (ae rs)):=YF.out j hjl (by rw [Wl.out];simp [jf,hless]);refine wp_region_quiet_below (by kernel_rfl) (by kernel_rfl) ?_
     repeat (go_big_quiet_step (exact Vo.out _ _))
     refine wpQuiet_nil ?_;rintro _ ⟨⟨dq,osq⟩,rfl⟩;go_wp2;go_ret;exact ⟨ah (dO HN.out).symm,Vy.out dq osq⟩
    refine wp_region_quiet_below (by kernel_rfl) (by kernel_rfl) ?_
    repeat (go_big_quiet_step (first|exact Vo.out _ _|exact YU.out _ _))
    refine wpQuiet_nil ?_;rintro _ ⟨⟨dq,osq⟩,rfl⟩;cases ex;case false=>
     have HN:Hid (¬ bW (ae rs)):=YF.out j hjl (by rw [Wl.out];simp);go_wp2;go_ret;exact ⟨ah (dO HN.out).symm,Vy.out dq osq⟩
    have Wp:Hid (dI (eF rs[k].rows) (j+1)=true):=by show _=_;simp only [dI];rw [HRU.out,Wl.out];simp [jf,hless]
    go_wp2;go_roundw;case rel=>exact ⟨j+1,by omega,by go_num,Wp,Vy.out dq osq⟩
    simp [intOf] <;> omega
   obtain rfl:j=rs[k].rows.length:=by omega
   have HTU:Hid (iM (ae rs) (k+1)=true):=by show _=_;simp only [iM];rw [HP.out,XP.out,HRU.out];rfl
   go_wp2;go_roundw;case rel=>exact ⟨k+1,by omega,by go_num,HTU,HB⟩
   simp [intOf] <;> omega
  intro hC;have HC:=qc hC;clear hC;have p0:=cell_regrown t0;have p1:=cell_regrown t1;have Vo:Hid (∀ d os,Calls prog 111 #[.string rs[k].name] (grow (redrawn wr d) os) fun e w''=>e=.returned (.bool (aR rs[k].name))/\∃ p:Regrown,w''=grow (redrawn wr p.d) p.os):=by
   refine jQ fun W'=>?_;exact aT _ _ z0
  have Vy:Hid (∀ d os,ag w (grow (redrawn wr d) os)):=fun d os=>HB.out.trans ((below_regrown wr d os).mono HB.out.size);cases hnm:aR rs[k].name;case false=>
   rw [hnm]at Vo;have HN:Hid (¬ bW (ae rs)):=HBAD.out (by rw [HTH.out];simp [hnm]);refine wp_region_quiet_below (by kernel_rfl) (by kernel_rfl) ?_
   repeat (go_big_quiet_step (exact Vo.out _ _))
   refine wpQuiet_nil ?_;rintro _ ⟨⟨dq,osq⟩,rfl⟩;go_wp2;go_ret;exact ⟨ah (dO HN.out).symm,Vy.out dq osq⟩
  rw [hnm]at Vo;obtain ⟨gt,hgt⟩:∃ gt,gt=decide (6<(rs[k].rows.length:Int)):=⟨_,rfl⟩;have HGT:Hid (decide (rs[k].rows.length<=6)=!gt):=by show _=_;rw [hgt];by_cases h:rs[k].rows.length<=6 <;> simp [h] <;> omega
  have hgn:decide (6<rs[k].rows.length)=gt:=by rw [hgt];by_cases h:6<rs[k].rows.length <;> simp [h] <;> omega
  replace hgt:=hgt.symm;by_cases hpos:k=0
  ·have hk0:¬ (0:Int)<(k:Int):=by omega
   have hk9:decide (0<k)=false:=by simp;omega
   have Wl:Hid (uU (ae rs) rs[k].name k=true):=zY hpos;replace hpos:Hid (k=0):=hpos;refine wp_region_quiet_below (by kernel_rfl) (by kernel_rfl) ?_
   repeat (go_big_quiet_step (exact Vo.out _ _))
   refine wpQuiet_nil ?_;rintro _ ⟨⟨dq,osq⟩,rfl⟩;clear hgt hgn;cases gt;case true=>
    have HN:Hid (¬ bW (ae rs)):=HBAD.out (by rw [HTH.out,Wl.out];simp [HGT.out]);go_wp2;go_ret;exact ⟨ah (dO HN.out).symm,Vy.out dq osq⟩
   exact HC.out _ _ _ _ _ _ _ _ _ _ _ _ _ _ _ _ _ _ _ _ _ _ _ _ _ _ _ _ _ _ _ _ _ _ (below_regrown wr dq osq) (by rw [HTH.out,Wl.out];simp [HGT.out, *])
  obtain ⟨m,hm⟩:∃ m,k=m+1:=⟨k-1,by omega⟩;have Vl:m<rs.length:=by omega
  have hk0:(0:Int)<(k:Int):=by omega
  have hk9:decide (0<k)=true:=by simp;omega
  have hkm:(k:Int)-1=(m:Int):=by omega
  have hwm:IntKind.i64.wrap (m:Int)=(m:Int):=by rw [IntKind.wrap_i64];omega
  have hm1:=bF m;have hm2:(m:Int)<(rs.length:Int):=by omega
  have qm:=cell_regrown (HTP.out m Vl);have Wl:Hid (uU (ae rs) rs[k].name k=jf rs[m].name rs[k].name):=zW hm Vl;replace hm:Hid (k=m+1):=hm;cases hless:Op.bytesLess rs[m].name.toList rs[k].name.toList;case false=>
   have HN:Hid (¬ bW (ae rs)):=HBAD.out (by rw [HTH.out,Wl.out];simp [jf,hless]);refine wp_region_quiet_below (by kernel_rfl) (by kernel_rfl) ?_
   repeat (go_big_quiet_step (exact Vo.out _ _))
   refine wpQuiet_nil ?_;rintro _ ⟨⟨dq,osq⟩,rfl⟩;go_wp2;go_ret;exact ⟨ah (dO HN.out).symm,Vy.out dq osq⟩
  refine wp_region_quiet_below (by kernel_rfl) (by kernel_rfl) ?_
  repeat (go_big_quiet_step (exact Vo.out _ _))
  refine wpQuiet_nil ?_;rintro _ ⟨⟨dq,osq⟩,rfl⟩;clear hgt hgn;cases gt;case true=>
   have HN:Hid (¬ bW (ae rs)):=HBAD.out (by rw [HTH.out,Wl.out];simp [HGT.out]);go_wp2;go_ret;exact ⟨ah (dO HN.out).symm,Vy.out dq osq⟩
  exact HC.out _ _ _ _ _ _ _ _ _ _ _ _ _ _ _ _ _ _ _ _ _ _ _ _ _ _ _ _ _ _ _ _ _ _ (below_regrown wr dq osq) (by rw [HTH.out,Wl.out];simp [jf,HGT.out, *])
 obtain rfl:k=rs.length:=by omega
 have HSH:Hid (bi (ae rs)=true):=by
  show _=_;unfold bi;rw [kY,HP.out];simp;omega
 have Zi:Hid (rs.length<=6/\(∀ r∈rs,r.rows.length<=6)/\∀ r∈rs,∀ q∈r.rows,aK (aj q.rows)=true/\q.rows.length<=15/\∀ e∈q.rows,dW q.rows.length e.e.kids):=bu HSH.out;clear HP;go_wp2_with fail;go_loopw [6] (fun i wr=>∃ k:Nat,k<=rs.length/\i=.int .i64 k/\Hid (((ae rs).take k).all (qH (ae rs))=true)/\Hid (ag w wr)) (fun i _=>rs.length-(intOf i).toNat);case atStart=>exact ⟨0,Ui _,rfl,(by show _=_;simp),HB⟩
 clear HB;obtain ⟨k,hk,rfl,HP,HB⟩:=hrel;by_cases hlt:k<rs.length
 ·have hk1:=bF k;have hk2:(k:Int)<(rs.length:Int):=by omega
  have lgT:=(HL.out _ (Ud hlt)).1;have Z6:Hid (∀ q∈rs[k].rows,q.light):=(HL.out _ (Ud hlt)).2;go_wp2_with fail;go_loopw [7] (fun i w2=>∃ j:Nat,j<=rs[k].rows.length/\i=.int .i64 j/\Hid (((eF rs[k].rows).take j).all (fun r=>aS (ae rs) rs[k].name r.expr)=true)/\Hid (ag w w2)) (fun i _=>rs[k].rows.length-(intOf i).toNat);case atStart=>exact ⟨0,Ui _,rfl,(by show _=_;simp),HB⟩
  clear HB;obtain ⟨j,hj,rfl,HR,HB⟩:=hrel;have HSW:=aA (HS.out.below HB.out);rcases HSW.out with rfl|⟨b,off,rfl,hb,hr,hok⟩
  ·simp at hlt
  obtain ⟨t0,t1⟩:=hr k hlt;have VP:Hid (rs[k].ok wr):=hok rs[k] (Ud hlt);clear hr hok;by_cases hjl:j<rs[k].rows.length
  ·rcases VP.out with hnil|⟨b2,Vb,had,hbb,hr2,hok2⟩
   ·rw [hnil]at hjl;simp at hjl
   rw [had]at t1;obtain ⟨q0,q1⟩:=hr2 j hjl;have WU:Hid (iC wr rs[k].rows[j].ad rs[k].rows[j].rows):=hok2 _ (Ud hjl);have WV:Hid (rs[k].rows[j].light):=Z6.out _ (Ud hjl);have hj1:=bF j;have hj2:(j:Int)<(rs[k].rows.length:Int):=by omega
   have c3:wr.drew.cell? ⟨b,off+k*2,none⟩=some (.string rs[k].name)/\wr.drew.cell? ⟨b,off+k*2+1,none⟩=some (.slice (some ⟨b2,Vb,none⟩) rs[k].rows.length rs[k].cap)/\wr.drew.cell? ⟨b2,Vb+j*2+1,none⟩=some (.slice rs[k].rows[j].ad rs[k].rows[j].rows.length rs[k].rows[j].cap)/\b<wr.drew.heap.size/\b2<wr.drew.heap.size/\ag wr wr.drew:=⟨t0,t1,q1,hb,hbb,(Uf _ _).drew⟩;clear hr2 hok2 q0 had;go_wp2_with fail
   go_region_held3 (fun w'=>w'.cell? ⟨b,off+k*2,none⟩=some (.string rs[k].name)/\w'.cell? ⟨b,off+k*2+1,none⟩=some (.slice (some ⟨b2,Vb,none⟩) rs[k].rows.length rs[k].cap)/\w'.cell? ⟨b2,Vb+j*2+1,none⟩=some (.slice rs[k].rows[j].ad rs[k].rows[j].rows.length rs[k].rows[j].cap)/\b<w'.heap.size/\b2<w'.heap.size/\ag wr w')
    (first|exact c3|assumption|exact keepR (by first|exact c3|assumption) hbx)
    (first|(go_at_call 136;refine (Iu (some ⟨b,off,none⟩) rs[k].rows[j].ad cap rs[k].rows[j].cap rs _ rs[k].rows[j].rows _ (by omega) (HSW.out.below ((Uf _ _).drew)) HL.out WV.out.1 (WU.out.below ((Uf _ _).drew)) WV.out.2).mono ?_;rintro e w' ⟨rfl,hbx⟩))
   rename_i hHeld;have HBN:Hid (ag w w'):=HB.out.trans (hHeld.2.2.2.2.2.mono HB.out.size);clear hHeld c3 t0 t1 q1 hbx;have HTS:=F7 rs[k].rows j hjl;cases hrf:aS (ae rs) rs[k].name (aj rs[k].rows[j].rows);case false=>
    have HN:Hid (¬ bW (ae rs)):=fun hs=>by
     have h1:=hs.2.1;unfold iH at h1;rw [Un]at h1;have h2:=h1 rs[k].p (by unfold ae;exact List.mem_map_of_mem (Ud hlt));unfold qH at h2;rw [Un]at h2;have h3:=h2 rs[k].rows[j].p (by show _∈eF rs[k].rows;unfold eF;exact List.mem_map_of_mem (Ud hjl));have h4:aS (ae rs) rs[k].name (aj rs[k].rows[j].rows)=true:=h3;rw [hrf]at h4;cases h4
    go_wp2;go_ret;exact ⟨ah (dO HN.out).symm,HBN.out⟩
   have Wp:Hid (((eF rs[k].rows).take (j+1)).all (fun r=>aS (ae rs) rs[k].name r.expr)=true):=by
    show _=_;rw [HTS,List.all_append,HR.out];have:aS (ae rs) rs[k].name rs[k].rows[j].p.expr=true:=hrf;simp [this]
   clear HTS;go_wp2;go_roundw;case rel=>exact ⟨j+1,by omega,by go_num,Wp,HBN⟩
   simp [intOf] <;> omega
  obtain rfl:j=rs[k].rows.length:=by omega
  have HPN:Hid (((ae rs).take (k+1)).all (qH (ae rs))=true):=by
   show _=_;rw [F6 rs k hlt,List.all_append,HP.out];have h1:=HR.out;rw [<-rq,Us]at h1;have:qH (ae rs) rs[k].p=true:=h1;simp [this]
  go_wp2;go_roundw;case rel=>exact ⟨k+1,by omega,by go_num,HPN,HB⟩
  simp [intOf] <;> omega
 obtain rfl:k=rs.length:=by omega
 have Xz:Hid (iH (ae rs)=true):=by
  have h1:=HP.out;rw [<-kY,Us]at h1;exact h1
 go_wp2_with fail;refine (uT ad cap rs _ Zi.out.1 (HS.out.below HB.out) HL.out Zi.out.2.1 (fun r hr q hq=>(Zi.out.2.2 r hr q hq).2) (kz Xz.out)).mono ?_;rintro e w' ⟨⟨UX,cap',out,rfl,-,-,WE⟩|⟨rfl,hno⟩,hbx⟩
 ·have HY:Hid (bW (ae rs)):=⟨HSH.out,Xz.out,_,WE.sol⟩;have HBN:=jP HB hbx;clear WE hbx;go_wp2;go_ret;exact ⟨ah (xL HY.out).symm,HBN.out⟩
 have HY:Hid (¬ bW (ae rs)):=fun h=>hno h.2.2;have HBN:=jP HB hbx;clear hno hbx;go_wp2;go_ret;exact ⟨ah (dO HY.out).symm,HBN.out⟩
end Go.Proofs.YtajkkeikihhejaaGreat
