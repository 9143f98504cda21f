/- Proved here: FnLookups answers true for every slice of bytes and leaves it as it was, with no condition on it. -/
import Derived.Test.YtajkkeikihhejaaGreatSq
import Derived.Test.YtajkkeikihhejaaGreatJ44
import Derived.OpenShut
import Derived.ShutString
import Derived.HandedShaped
open Go.Proofs.Tryz
set_option maxHeartbeats 80000000
namespace Go.Proofs.YtajkkeikihhejaaGreat.fnLookups
open Go.Sort
open Go.ChangeShapes Go.WideShapes Go.ChangeAt Go.RowKit
open Pl
set_option linter.unusedVariables false
structure St (w:World) (Ui:Option Addr) (g:Nat) (rs:List TR) (ts:List Tp) (W:World):Prop where
 bel:af w W
 sl:mD W Ui rs
 tu:Sl W (some ⟨g,0,none⟩) ts
theorem St.later {w W W':ae} {Ui:Option Addr} {g:Nat} {rs:List TR} {ts:List Tp} (h:St w Ui g rs ts W) (hb:af W W'):St w Ui g rs ts W' :=
 ⟨h.bel.trans (hb.mono h.bel.size),h.sl.below hb,h.tu.below hb⟩
def Bx (W:World) (n:Nat) (o:Al):Prop:=n < W.heap.size∧W.cell? ⟨n,0,none⟩=some (.string o.t)∧W.cell? ⟨n,1,none⟩=some (.string o.s)
theorem Bx.later {W W':ae} {n:Nat} {o:Al} (h:Bx W n o) (hb:af W W'):Bx W' n o :=
 ⟨Sv h.1 hb.size,(hb.cell (p:=⟨n,0,none⟩) h.1).trans h.2.1,(hb.cell (p:=⟨n,1,none⟩) h.1).trans h.2.2⟩
theorem Jj {p:Fc→Bool} {L:List Fc} {k:Nat} (h:k < L.length):((L.take (k + 1)).filter p).length=((L.take k).filter p).length + (if p L[k] then 1 else 0):=by
 rw [SA h,Tu,SE];congr 1;rw [List.filter_cons];split <;> rfl
set_option maxRecDepth 100000 in
theorem walk [DecidableEq Fc] (ad:Option Addr) (len cap:Nat) (w:ae) (h:Bytes w ad len) :
  Calls prog 5 #[.slice ad len cap] w fun e w'=>e=.returned (.bool true)∧af w w':=by
 have H:=cO h;clear h;go_enter func5,ntmps5;go_wp2_with fail;refine (PE ad len cap w).mono ?_;rintro e w0 ⟨rfl,rfl⟩;by_cases hbig:(1048576:Int) < (len:Int)
 ·go_wp2;go_ret;exact ⟨rfl,Sz _ _⟩
 go_wp2_with fail;refine (yh ad len cap _ H.out).mono ?_;rintro e w1 ⟨v,rs,g,c,ts,f,rfl,hT,⟨hG1,hG2,hG3⟩,Zk,hsh,hff,hown,hb1⟩;obtain ⟨Ui,TZ,rfl,hs1,hcp⟩:=hT.read;obtain ⟨hrow,hg,-,-⟩:=kr hown rfl;obtain ⟨W1,hW1⟩:∃ W1,W1=w1.alloc (.cells #[.string f.a,.string f.b] 27):=⟨_,rfl⟩;have VE:af w1 W1:=by rw [hW1]; exact (Sz _ _).alloc (Sy _) _
 have K1:Hid (St w0 Ui g rs ts W1):=⟨hb1.trans (VE.mono hb1.size),hs1.below VE,Sl.below (.inr ⟨g,0,rfl,hg,hrow⟩) VE⟩;have B1:Hid (Bx W1 w1.heap.size ⟨f.a,f.b⟩):=by
  refine ⟨?_,?_,?_⟩ <;> (rw [hW1]; simp)
 have hlen:rs.length≤1048576:=by omega
 have hlt:ts.length≤1048576:=by omega
 obtain ⟨st,hst0⟩:=QH (ah rs);have UH:=cO hst0;have HL:=cO hG2;have HF:=cO hG3;have HC:=cO hcp;have TP:=cO hsh.fits;obtain ⟨L,hL⟩:∃ L,L=gy st rs ts:=⟨_,rfl⟩;have Wz:L.length≤115200:=by rw [hL,Ba]; exact pq st
 have Zm:=cO hL;have HIF:Hid (∀ W,St w0 Ui g rs ts W→Calls prog 14 #[.slice Ui rs.length TZ,.slice (some ⟨g,0,none⟩) ts.length c] W fun e w'=>(∃ v,e=.returned v∧w'.ownsRow W.heap.size 29 5 v L.length (aF L))∧af W w'):=fun W K=>by
  rw [Zm.out];exact (sD st Ui TZ rs _ c ts W hlen K.sl HL.out HF.out HC.out hlt K.tu TP.out UH.out).mono fun e w' h=>Bz h
 have VI:Hid (∀ W,St w0 Ui g rs ts W→Calls prog 47 #[.slice Ui rs.length TZ,.slice (some ⟨g,0,none⟩) ts.length c] W fun e w'=>(∃ v,e=.returned v∧w'.ownsRow W.heap.size 29 5 v L.length (aF L))∧af W w'):=fun W K=>by
  rw [Zm.out];exact sG st Ui TZ rs _ c ts W hlen K.sl HL.out HF.out hlt K.tu TP.out UH.out
 clear hT hG2 hG3 hcp hb1 hs1 hbig hown hsh hff hrow hg VE hst0 hL;obtain ⟨-,x0,x1⟩:=B1.out;go_wp2_with fail;rw [← hW1];clear hW1;refine (Gr Ui rs.length TZ _ ts.length c L ⟨f.a,f.b⟩ f.r _ Wz fun W' hb=>HIF.out W' (K1.out.later hb)).mono ?_;rintro e w2 ⟨⟨v,rfl,ho2⟩,hb2⟩;obtain ⟨UB,TM,rfl,hU⟩:=gP ho2;obtain ⟨US,hUS⟩:∃ US,US=aZ (bW ⟨f.a,f.b⟩ f.r) fO L:=⟨_,rfl⟩;have hUl:US.length≤115200:=by rw [hUS]; exact SF (ow _ _ _) Wz
 have HUS:=cO hUS;rw [← hUS] at hU ⊢;have Wt:=cO hU;have K2:=cO (K1.out.later hb2);have B2:=cO (B1.out.later hb2);clear ho2 hU hUS hb2 K1 B1 x0 x1;go_wp2_with fail;refine (vG ad len cap _ (H.out.below K2.out.bel)).mono ?_;rintro e w3 ⟨v,rs',g',c',ts',f',rfl,-,-,-,-,-,-,hb3⟩;obtain ⟨W3,hW3⟩:∃ W3,W3=w3.alloc (.cells #[.string f'.c,.string f'.d] 27):=⟨_,rfl⟩;have VE:af w3 W3:=by rw [hW3]; exact (Sz _ _).alloc (Sy _) _
 have hbb:=hb3.trans (VE.mono hb3.size);have K3:=cO (K2.out.later hbb);have B3:=cO (B2.out.later hbb);have HU3:=cO (Wt.out.below hbb);have C3:Hid (Bx W3 w3.heap.size ⟨f'.c,f'.d⟩):=by
  refine ⟨?_,?_,?_⟩ <;> (rw [hW3]; simp)
 clear hb3 VE hbb K2 B2 Wt;obtain ⟨-,x0,x1⟩:=C3.out;go_wp2_with fail;rw [← hW3];clear hW3;refine (Jg Ui rs.length TZ _ ts.length c L f'.a f'.r ⟨f'.c,f'.d⟩ _ Wz fun W' hb=>HIF.out W' (K3.out.later hb)).mono ?_;rintro e w4 ⟨⟨v2,rfl,ho4⟩,hb4⟩;obtain ⟨UZ,Ux,rfl,hO⟩:=gP ho4;obtain ⟨OS,hOS⟩:∃ OS,OS=aZ (dh f'.a f'.r ⟨f'.c,f'.d⟩) fe L:=⟨_,rfl⟩;have hOl:OS.length≤115200:=by rw [hOS]; exact SF (ow _ _ _) Wz
 have HOS:=cO hOS;rw [← hOS] at hO ⊢;have TI:=cO hO;have K4:=cO (K3.out.later hb4);have B4:=cO (B3.out.later hb4);have C4:=cO (C3.out.later hb4);have HU4:=cO (HU3.out.below hb4);clear ho4 hO hOS hb4 K3 B3 C3 HU3 x0 x1;obtain ⟨-,x0,x1⟩:=B4.out;obtain ⟨-,z0,z1⟩:=C4.out;go_wp2_with fail;refine (Gs Ui rs.length TZ _ ts.length c L ⟨f.a,f.b⟩ f.r _ Wz fun W' hb=>VI.out W' (K4.out.later hb)).mono ?_;rintro e w5 ⟨⟨v3,rfl,ho5⟩,hb5⟩;obtain ⟨Vd,T9,rfl,hV⟩:=gP ho5;rw [← HUS.out] at hV ⊢;have HV5:=cO hV;have K5:=cO (K4.out.later hb5);have B5:=cO (B4.out.later hb5);have C5:=cO (C4.out.later hb5);have HU5:=cO (HU4.out.below hb5);have TK:=cO (TI.out.below hb5);clear ho5 hV hb5 K4 B4 C4 HU4 TI x0 x1 z0 z1;go_wp2_with fail;refine (pG UB Vd TM T9 US _ (by omega) HU5.out HV5.out).mono ?_;rintro e w6 ⟨rfl,hb6⟩;have K6:=cO (K5.out.later hb6);have B6:=cO (B5.out.later hb6);have C6:=cO (C5.out.later hb6);have HU6:=cO (HU5.out.below hb6);have Uq:=cO (TK.out.below hb6);clear hb6 K5 B5 C5 HU5 TK HV5;obtain ⟨-,z0,z1⟩:=C6.out;go_wp2_with fail;refine (Jh Ui rs.length TZ _ ts.length c L f'.a f'.r ⟨f'.c,f'.d⟩ _ Wz fun W' hb=>VI.out W' (K6.out.later hb)).mono ?_;rintro e w7 ⟨⟨v4,rfl,ho7⟩,Wl⟩;obtain ⟨Vd,T9,rfl,hV⟩:=gP ho7;rw [← HOS.out] at hV ⊢;have HV7:=cO hV;have K7:=cO (K6.out.later Wl);have B7:=cO (B6.out.later Wl);have C7:=cO (C6.out.later Wl);have HU7:=cO (HU6.out.below Wl);have Vt:=cO (Uq.out.below Wl);clear ho7 hV Wl K6 B6 C6 HU6 Uq z0 z1;go_wp2_with fail;refine (pG UZ Vd Ux T9 OS _ (by omega) Vt.out HV7.out).mono ?_;rintro e w8 ⟨rfl,Zg⟩;have K8:=cO (K7.out.later Zg);have B8:=cO (B7.out.later Zg);have C8:=cO (C7.out.later Zg);have HU8:=cO (HU7.out.below Zg);have HO8:=cO (Vt.out.below Zg);clear Zg K7 B7 C7 HU7 Vt HV7
 -- each user is checked
 go_wp2;go_loopw [14] (fun i wr=>∃ k:Nat,k≤US.length∧i=.int .i64 k∧Hid (af w8 wr)) (fun i _=>US.length - (intOf i).toNat);case atStart=>exact ⟨0,SC _,rfl,Sz _ _⟩
 obtain ⟨k,hk,rfl,HB⟩:=hrel;have hk1:=bq k;have KR:=cO (K8.out.later HB.out);by_cases hlk:k < US.length
 ·have hk2:(k:Int) < (US.length:Int):=by omega
  rcases HU8.out.below HB.out with hnil | ⟨b,off,rfl,hb,hr⟩
  ·rw [hnil] at hlk; simp at hlk
  obtain ⟨t0,t1⟩:=hr k hlk;obtain ⟨u,hu⟩:∃ u,u=US[k]:=⟨_,rfl⟩;have HTR:Hid (cZ (dB st rs ts) ⟨f.a,f.b,f.r,u.t,u.s⟩=true):=Md (o:=⟨f.a,f.b⟩) (by rw [← Zm.out,← HUS.out,hu]; exact Sw hlk);rw [← hu] at t0 t1;obtain ⟨-,x0,x1⟩:=B8.out.later HB.out;replace t0:=cell_regrown t0;replace t1:=cell_regrown t1;replace x0:=cell_regrown x0;replace x1:=cell_regrown x1;have Um:Hid (∀ d os,Calls prog 11 #[.slice Ui rs.length TZ,.slice (some ⟨g,0,none⟩) ts.length c,.agg #[.string f.a,.string f.b,.string f.r,.string u.t,.string u.s]] (grow (redrawn wr d) os) fun e w2=>e=.returned (.bool true)∧∃ p:Regrown,w2=grow (redrawn wr p.d) p.os):=by
   refine bC fun W' hb=>?_;refine (sF st Ui TZ rs _ c ts ⟨f.a,f.b,f.r,u.t,u.s⟩ W' hlen (KR.out.sl.below hb) HL.out HF.out HC.out hlt (KR.out.tu.below hb) TP.out UH.out).mono ?_;rintro e w' ⟨rfl,hb'⟩;exact ⟨by rw [HTR.out],hb'⟩
  clear hr hu;go_wp2_with fail;refine wp_region_quiet_below (by kernel_rfl) (by kernel_rfl) ?_
  repeat (go_big_quiet_step (exact Um.out _ _))
  refine wpQuiet_nil ?_;rintro _ ⟨⟨dq,osq⟩,rfl⟩;have HB2:=cO (HB.out.trans ((below_regrown wr dq osq).mono HB.out.size));clear t0 t1 x0 x1 Um HTR;go_wp2;go_roundw;case rel=>exact ⟨k + 1,by omega,by go_num,HB2⟩
  simp [intOf] <;> omega
 obtain rfl:k=US.length:=by omega
 have K9:=KR;have B9:=cO (B8.out.later HB.out);have C9:=cO (C8.out.later HB.out);have ZL:=cO (HO8.out.below HB.out);obtain ⟨w9,hw9⟩:∃ w9,w9=wr:=⟨_,rfl⟩;rw [← hw9] at K9 B9 C9 ZL ⊢;clear hw9 KR K8 B8 C8 HO8 HU8 HB
 -- each object is checked
 go_wp2;go_loopw [15] (fun i wr=>∃ k:Nat,k≤OS.length∧i=.int .i64 k∧Hid (af w9 wr)) (fun i _=>OS.length - (intOf i).toNat);case atStart=>exact ⟨0,SC _,rfl,Sz _ _⟩
 obtain ⟨k,hk,rfl,HB⟩:=hrel;have hk1:=bq k;have KR:=cO (K9.out.later HB.out);by_cases hlk:k < OS.length
 ·have hk2:(k:Int) < (OS.length:Int):=by omega
  rcases ZL.out.below HB.out with hnil | ⟨b,off,rfl,hb,hr⟩
  ·rw [hnil] at hlk; simp at hlk
  obtain ⟨t0,t1⟩:=hr k hlk;obtain ⟨u,hu⟩:∃ u,u=OS[k]:=⟨_,rfl⟩;obtain ⟨hut,hth⟩:=Me (st:=st) (rs:=rs) (ts:=ts) (typ:=f'.a) (rel:=f'.r) (u:=⟨f'.c,f'.d⟩) (o:=u) (by rw [← Zm.out,← HOS.out,hu]; exact Sw hlk);have HTR:Hid (cZ (dB st rs ts) ⟨f'.a,u.s,f'.r,f'.c,f'.d⟩=true):=by show _=_; rw [← hut]; exact hth
  rw [← hu] at t0 t1;rw [hut] at t0;obtain ⟨-,x0,x1⟩:=C9.out.later HB.out;replace t0:=cell_regrown t0;replace t1:=cell_regrown t1;replace x0:=cell_regrown x0;replace x1:=cell_regrown x1;have hne:(f'.a.toList != f'.a.toList)=false:=by simp
  have Um:Hid (∀ d os,Calls prog 11 #[.slice Ui rs.length TZ,.slice (some ⟨g,0,none⟩) ts.length c,.agg #[.string f'.a,.string u.s,.string f'.r,.string f'.c,.string f'.d]] (grow (redrawn wr d) os) fun e w2=>e=.returned (.bool true)∧∃ p:Regrown,w2=grow (redrawn wr p.d) p.os):=by
   refine bC fun W' hb=>?_;refine (sF st Ui TZ rs _ c ts ⟨f'.a,u.s,f'.r,f'.c,f'.d⟩ W' hlen (KR.out.sl.below hb) HL.out HF.out HC.out hlt (KR.out.tu.below hb) TP.out UH.out).mono ?_;rintro e w' ⟨rfl,hb'⟩;exact ⟨by rw [HTR.out],hb'⟩
  clear hr hu hut hth;go_wp2_with fail;refine wp_region_quiet_below (by kernel_rfl) (by kernel_rfl) ?_
  repeat (go_big_quiet_step (exact Um.out _ _))
  refine wpQuiet_nil ?_;rintro _ ⟨⟨dq,osq⟩,rfl⟩;have HB2:=cO (HB.out.trans ((below_regrown wr dq osq).mono HB.out.size));clear t0 t1 x0 x1 Um HTR;go_wp2;go_roundw;case rel=>exact ⟨k + 1,by omega,by go_num,HB2⟩
  simp [intOf] <;> omega
 obtain rfl:k=OS.length:=by omega
 have BX:=cO (B9.out.later HB.out);have VT:Hid (US.length=(L.filter (bW ⟨f.a,f.b⟩ f.r)).length):=by show _=_; rw [HUS.out]; exact Ji _ _ _
 clear HB C9 ZL B9 K9;go_wp2_with fail;refine (HIF.out _ KR.out).mono ?_;rintro e w10 ⟨⟨v5,rfl,ho⟩,hb10⟩;obtain ⟨Xc,UG,rfl,hsl⟩:=kJ ho;have VM:=cO hsl;have KX:=cO (KR.out.later hb10);have BY:=cO (BX.out.later hb10);clear ho hsl hb10 BX KR
 -- the facts of that object
 go_wp2;go_loopw [16,18] (fun m i wr=>∃ k:Nat,k≤L.length∧i=.int .i64 k∧m=.int .i64 (((L.take k).filter (bW ⟨f.a,f.b⟩ f.r)).length:Int)∧Hid (af w10 wr)) (fun _ i _=>L.length - (intOf i).toNat);case atStart=>exact ⟨0,SC _,rfl,rfl,Sz _ _⟩
 obtain ⟨k,hk,rfl,rfl,HB⟩:=hrel;by_cases hlk:k < L.length
 ·obtain ⟨b,off,TC,⟨t0,t1,t2,t3,t4⟩,hbl⟩:=wK.at0 (VM.out.below HB.out) hlk;have hi1:=bq k;have hi2:(k:Int) < (L.length:Int):=by omega
  have Uv:=cO (Jj (p:=bW ⟨f.a,f.b⟩ f.r) hlk);obtain ⟨x,hx⟩:∃ x,x=L[k]:=⟨_,rfl⟩;rw [← hx] at t0 t1 t2 t3 t4 Uv;obtain ⟨m,hm⟩:∃ m,m=((L.take k).filter (bW ⟨f.a,f.b⟩ f.r)).length:=⟨_,rfl⟩;have Uf:m≤115200:=by
   rw [hm];have h1:=List.length_filter_le (bW ⟨f.a,f.b⟩ f.r) (L.take k);rw [Tg] at h1; omega
  rw [← hm] at Uv ⊢;clear hx hm;obtain ⟨-,x0,x1⟩:=BY.out.later HB.out;subst TC;cases hq0:rE x.a x.b f.a f.b;case false=>
   have hv:=bf _ _ _ _ hq0;have HN:Hid (m=((L.take (k + 1)).filter (bW ⟨f.a,f.b⟩ f.r)).length):=by show _=_; rw [Uv.out,show bW ⟨f.a,f.b⟩ f.r x=false from by simp [bW,hq0]]; rfl
   clear hq0;go_wp2_with fail;go_quiet (fail);have HB2:=cO (below_drewN HB.out nq);clear t0 t1 t2 t3 t4 x0 x1;go_wp2;go_roundw;case rel=>exact ⟨k + 1,by omega,by go_num,by rw [← HN.out],HB2⟩
   simp [intOf] <;> omega
  cases hq1:(x.r.toList == f.r.toList);case false=>
   have hv:=bf _ _ _ _ hq0;have HN:Hid (m=((L.take (k + 1)).filter (bW ⟨f.a,f.b⟩ f.r)).length):=by show _=_; rw [Uv.out,show bW ⟨f.a,f.b⟩ f.r x=false from by simp [bW,hq0,hq1]]; rfl
   clear hq0;go_wp2_with fail;go_quiet (fail);have HB2:=cO (below_drewN HB.out nq);clear t0 t1 t2 t3 t4 x0 x1;go_wp2;go_roundw;case rel=>exact ⟨k + 1,by omega,by go_num,by rw [← HN.out],HB2⟩
   simp [intOf] <;> omega
  have hv:=bf _ _ _ _ hq0;have HN:Hid (m + 1=((L.take (k + 1)).filter (bW ⟨f.a,f.b⟩ f.r)).length):=by show _=_; rw [Uv.out,show bW ⟨f.a,f.b⟩ f.r x=true from by simp [bW,hq0,hq1]]; rfl
  clear hq0;go_wp2_with fail;go_quiet (fail);have HB2:=cO (below_drewN HB.out nq);clear t0 t1 t2 t3 t4 x0 x1;go_wp2;go_roundw;case rel=>exact ⟨k + 1,by omega,by go_num,by rw [← HN.out]; go_num,HB2⟩
  simp [intOf] <;> omega
 obtain rfl:k=L.length:=by omega
 have HBe:=cO (KX.out.later HB.out).bel;rw [SS,← VT.out];go_wp2;go_ret;exact ⟨by simp,HBe.out⟩
theorem own:ownKnob prog.godebug=none:=by kernel_rfl
theorem laidOut:laidOutB prog=true:=by kernel_rfl
set_option maxRecDepth 100000 in
theorem lifted (os:Os) (started:os.Started) (H:Type) (enc:TypeId × Value→H) :
  ReturnsInHanded {} Tryz.checked os 5 .any (Rows.fnLookupsSpec.pre6 enc prog Tryz.f5 Rows.fnLookupsRow.domain false) (Rows.fnLookupsSpec.post enc prog Tryz.f5 false true false false):=by
 refine returnsInHanded_of_change_shaped (C:=Tryz.checked) own started (by kernel_rfl) func5
  (ChangeSpec.witness6 (enc:=enc) (C:=Tryz.checked) false ⟨#[],#[.slice none 0 0],[]⟩ 8 (by kernel_rfl) (by kernel_rfl) (by kernel_rfl) (by kernel_rfl)) ?_
 intro W base args ds gs before hval0 hW hcnd _ hsh _;have hval:∀ (j:Nat) t v,Tryz.f5.params[j]?=some t→args[j]?=some v→Value.okWide prog W .any base t v:=hval0;have hW':=hW;obtain ⟨p,q,hA0,hV,rfl,hfz,hnd⟩:=hW;have hA:DataW.TrodAll enc prog W 0 (fun _=>true) true Tryz.f5.params.toList args.toList ds p:=hA0;rw [Tryz.params5] at hA hval;obtain ⟨v0,vs0,d0,ds0,p0,q0,hargs,rfl,rfl,h0,r0⟩:=trodAll_cons hA;obtain ⟨rfl,rfl,rfl⟩:=trodAll_nil r0;obtain rfl:args=#[v0]:=by cases args; simp_all
 obtain ⟨rfl,rfl⟩:=trodVars_none hV;have k0:=h0;have lt0:∀ x ∈ p0,x.block < W.heap.size:=by obtain ⟨m,hm⟩:=k0; exact DataW.trod_lt m _ _ _ hm
 obtain ⟨ad0,len0,cap0,hv0⟩:=okWide_slice underlying22 (hval 0 22 v0 rfl rfl);subst hv0;obtain ⟨fuel0,hf0⟩:=h0;have hby0:=Hz (by simpa [Value.cells] using hf0);clear hA0 hval0
 haveI:DecidableEq Fc:=fun x y=>Classical.propDecidable (x=y)
 refine (walk ad0 len0 cap0 W hby0).mono fun e W' ⟨he,bel⟩=>?_;subst he;exact ⟨_,rfl,_,_,_,[],_,[],hW',trodAll_mk1 (shut_bool underlying4 _),(trodAll_cons_mk (Below.trod laidOut (by kernel_rfl) (of_decide_eq_true (by kernel_rfl)) k0 bel lt0) trodAll_mk0),rfl,bel.frame _,fun h=>by cases h⟩
theorem over:Rows.fnLookupsRow.holds Tryz.pinned (OpenSpec.ofChange Rows.fnLookupsSpec) :=
 OpenClaim.holds_of_wide 5 Tryz.f5 rfl rfl rfl rfl rfl rfl rfl ⟨rfl,rfl,rfl,rfl,rfl⟩ rfl rfl rfl rfl rfl (by kernel_rfl) func5 (by kernel_rfl)
  (of_decide_eq_true (by kernel_rfl)) (by unfold Func.isWrapper; first | (rw [if_pos (by decide +kernel)]; kernel_rfl) | (rw [if_neg (by decide +kernel)]; exact ⟨rfl,rfl⟩))
  (fun os started H enc _=>lifted os started H enc)
end Go.Proofs.YtajkkeikihhejaaGreat.fnLookups
namespace Go.Proofs.YtajkkeikihhejaaGreat
theorem FnLookups_holds:Rows.FnLookupsSaid:=fnLookups.over
end Go.Proofs.YtajkkeikihhejaaGreat
