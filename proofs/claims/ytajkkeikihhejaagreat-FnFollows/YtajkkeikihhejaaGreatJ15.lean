/- Contracts of the program's functions on goals and on what a schema names. -/
import Derived.Test.YtajkkeikihhejaaGreatSq
import Derived.Test.YtajkkeikihhejaaGreatJ11
import Derived.Test.YtajkkeikihhejaaGreatJ4
import Derived.Test.YtajkkeikihhejaaGreatJ8
open Go.Proofs.Tryz
set_option maxHeartbeats 80000000
namespace Go.Proofs.YtajkkeikihhejaaGreat
open ChangeShapes WideShapes ChangeAt RowKit Maps
open Pl
def gI(ts:Q0b)(ty over rel:ByteArray):List ByteArray:=if bH (aB ts ty over) then iw ts ty over rel else []
theorem Mj:(prog.info? 9).map (fun i=>(i.zero,i.size,i.bytes))=some (some (.string ⟨#[]⟩),1,16):=by kernel_rfl
theorem Jn(r:ER)(h:bH (ak [r])=true):aX (ak [r])=r.e.allow/\r.e.kind=1:=by
 simp only[ak,VX,List.map_nil,bH,UW,U3]at h;exact⟨by simp[ak,aX,h.1],h.1⟩
theorem Jo{rows:Q08}(h:bH (ak rows)=true):∃r,rows=[r]:=by
 rcases rows with _|⟨r,_|⟨r2,rs⟩⟩
 ·simp[ak,bH]at h
 ·exact⟨r,rfl⟩
 simp[ak,bH]at h
set_option maxRecDepth 100000 in
theorem yt(b n:Nat)(rs:Q06)(ad:Q02)(M:ByteArray×ByteArray->Option Value)(typ:bQ)(x:ER)(w:af)(hV:aK dV prog 94 w b n M)(hT:Tab rs M)(hs:kU w ad rs)(hl:∀r∈rs,r.light)(hf:∀r∈rs,r.fits)(ht:typ.size<=maxLen)(ho:x.e.over.size<=maxLen)(hn:x.e.name.size<=maxLen):
  Calls prog 185 #[.map (some b),.string typ,x.val] w fun e w'=>(∃(We:Q02) (cap':Nat),e=.returned (.slice We (gI (ag rs) typ x.e.over x.e.name).length cap')/\Tk w' We (gI (ag rs) typ x.e.over x.e.name)/\∀p,We=some p->w.heap.size<=p.block)/\ae w w':=by
 have HV:Hid (aK dV prog 94 w b n M):=hV;have HT:=aC hT;have HS:=aC hs;have HL:=aC hl;have Wl:=aC hf;obtain⟨kl,hkl⟩:=jE (typ,x.e.over) ht ho;have Xh:Hid (keyOf prog 94 (dV (typ,x.e.over))=some kl):=hkl;clear hkl hV hT hs hl hf;obtain⟨i0,hi,hz0,hz1,hz2⟩:=info_parts Mj;obtain⟨W0,hW0⟩:∃W0,W0=w.alloc (.cells #[.int .i64 x.e.kind,.slice x.adA x.e.allow.length x.capA,.string x.e.over,.string x.e.name,.slice x.adK x.e.kids.length x.capK] 39):=⟨_,rfl⟩;have hal:ae w W0:=by rw[hW0];exact(UV _ _).alloc (UU _) _
 have HB0:=aC hal;have HV0:=aC (HV.out.below hal);have c3:W0.cell? ⟨w.heap.size,3,none⟩=some (.string x.e.name):=by rw[hW0];simp
 have hg0:w.heap.size<W0.heap.size:=by rw[hW0];simp
 -- what lies in the table
 obtain⟨rows,V5,capE,HM,HE,HF,HFL⟩:∃(rows:Q08) (V5:Q02) (capE:Nat),Hid ((M (typ,x.e.over)).getD (.slice none 0 0)=.slice V5 rows.length capE)/\Hid (ak rows=aB (ag rs) typ x.e.over)/\Hid (nQ rs V5 rows)/\Hid (∀q∈rows,q.e.fits):=by
  cases e:M (typ,x.e.over) with
  | none=>exact⟨[],none,0,rfl,by show _=_;unfold aB;rw[HT.out.no _ e];rfl,.inl rfl,by show ∀_,_;simp⟩
  | some v =>
   obtain⟨t,htm,q,hq,-,rfl,e1,-⟩:=HT.out.yes _ v e;exact⟨q.rows,q.ad,q.cap,rfl,by show _=_;unfold aB;rw[e1];rfl,.inr ⟨t,htm,q,hq,rfl,rfl⟩,((Wl.out t htm).2.2 q hq).2.2⟩
 have Yv:Hid (gZ W0 V5 rows):=HF.out.sl (HS.out.below hal);have WR:=HF.out.light HL.out;have HLE1:rows.length<=1048576:=WR.1;have HLE2:Hid (∀q∈rows,q.e.light):=WR.2;clear WR hal;go_enter func185,ntmps185;unfold ER.val;go_wp2_with(at_lookup;rw[<-hW0];refine jD _ rfl _ _ 91 rfl 94 33 iU underlying91 (nX _) b n M rfl HV0.out (typ,x.e.over) kl rfl Xh.out ?_;rw[HM.out];clear hW0);refine(vg V5 capE rows _ HLE1 Yv.out HLE2.out).mono ?_;rintro e w1 ⟨rfl,hb1⟩;have HB1:=jR HB0 hb1;have HNM:Hid (w1.cell? ⟨w.heap.size,3,none⟩=some (.string x.e.name)/\w.heap.size<w1.heap.size):=⟨aH hb1 hg0 c3,UT hg0 hb1.size⟩;clear hb1 c3 hg0;cases hd:bH (ak rows);case false=>
  have HG:Hid (gI (ag rs) typ x.e.over x.e.name=[]):=by show _=_;unfold gI;rw[<-HE.out,hd];rfl
  go_wp2;go_ret;refine⟨⟨none,0,by rw[HG.out];rfl,by rw[HG.out];exact .inl rfl,fun p hp=>by cases hp⟩,HB1.out⟩
 obtain⟨r,rfl⟩:=Jo hd;have HG:Hid (gI (ag rs) typ x.e.over x.e.name=gl (ag rs) x.e.name r.e.allow):=by
  show _=_;unfold gI iw;rw[<-HE.out,hd,if_pos rfl,(Jn r hd).1]
 rcases Yv.out with h|⟨bE,offE,rfl,hbE,hrE,hokE⟩
 ·cases h
 have HSW:Hid (gZ w1 (some ⟨bE,offE,none⟩) [r]):=HF.out.sl (HS.out.below HB1.out);rcases HSW.out with h|⟨bE',offE',heE,hbE1,hrE1,hokE1⟩
 ·cases h
 injection heE with heE;injection heE with heE1 heE2;subst heE1;subst heE2;obtain⟨s0,s1,s2,s3,s4⟩:=hrE1 0 (by simp);simp only[Nat.zero_mul,Nat.add_zero,List.getElem_cons_zero]at s0 s1 s2 s3 s4;have HOKR:Hid (r.ok w):=by
  have h1:=HF.out.sl HS.out;exact h1.mem (by simp)
 have lgA:r.e.allow.length<=1048576:=(HLE2.out r (by simp)).1;have HFA:Hid (∀a∈r.e.allow,a.fits):=(HFL.out r (by simp)).1;have hone:([r]:Q08).length=1:=rfl;rw[hone];clear hrE hokE hrE1 hokE1 HE HM hd hbE;go_wp2_with fail;go_loopw[8,25] (fun v i wr=>∃k:Nat,k<=r.e.allow.length/\i=.int .i64 k/\Hid (wr.ownsRow w.heap.size 9 1 v (gl (ag rs) x.e.name (r.e.allow.take k)).length (qB (gl (ag rs) x.e.name (r.e.allow.take k))))/\Hid (ae w wr)/\Hid (wr.cell? ⟨w.heap.size,3,none⟩=some (.string x.e.name)/\w.heap.size<wr.heap.size/\v.ownBlock≠some w.heap.size)) (fun _ i _=>r.e.allow.length-(intOf i).toNat);case atStart=>exact⟨0,UY _,rfl,World.ownsRow_nil _ _ _ _,HB1,HNM.out.1,HNM.out.2,by simp[Value.ownBlock]⟩
 clear HB1 HNM s0 s1 s2 s3 s4;obtain⟨k,hk,rfl,HOW,HB,HC⟩:=hrel;by_cases hlt:k<r.e.allow.length
 ·rcases (HOKR.out.1).below HB.out with hnil|⟨ba,Yi,had,ZK,hra⟩
  ·rw[hnil]at hlt;simp at hlt
  obtain⟨t0,t1⟩:=hra k hlt;have hk1:=bG k;have hk2:(k:Int)<(r.e.allow.length:Int):=by omega
  have zA:=HFA.out _ (UR hlt);have z1:r.e.allow[k].t.size<=maxLen:=zA.1;obtain⟨hc3,hcl,hco⟩:=HC.out;obtain⟨W1,hW1⟩:∃W1,W1=wr.alloc (.cells #[.string r.e.allow[k].t,.string r.e.allow[k].s] 43):=⟨_,rfl⟩;have hal:ae wr W1:=by rw[hW1];exact(UV _ _).alloc (UU _) _
  have V9:=jR HB hal;have HVW:=aC (HV.out.below V9.out);have Yz:Hid (W1.ownsRow w.heap.size 9 1 u8 (gl (ag rs) x.e.name (r.e.allow.take k)).length (qB (gl (ag rs) x.e.name (r.e.allow.take k)))):=own_below HOW.out hal;have g0:W1.cell? ⟨wr.heap.size,0,none⟩=some (.string r.e.allow[k].t):=by rw[hW1];simp
  have g3:=aH hal hcl hc3;have hgl1:wr.heap.size<W1.heap.size:=by rw[hW1];simp
  have hgl:=IX (ag rs) x.e.name (r.e.allow.take k);rw[Vy]at hgl;have HI:=HT.out.some_iff (r.e.allow[k].t,x.e.name);have hwsz:w.heap.size<=W1.heap.size:=V9.out.size;rw[had];clear hra hal HC HOW;go_wp2_with fail;rw[<-hW1];refine(zk b n M r.e.allow[k].t x.e.name _ z1 hn HVW.out).mono ?_;rintro e w' ⟨rfl,hw'⟩;rw[hw'];clear hw' w' hW1 t0 t1 hc3;cases hz:(M (r.e.allow[k].t,x.e.name)).isSome;case false=>
   have HE:Hid (gl (ag rs) x.e.name (r.e.allow.take (k+1))=gl (ag rs) x.e.name (r.e.allow.take k)):=by
    refine Sy _ _ _ _ hlt ?_;rw[hz]at HI;simpa using HI.symm
   clear HI;go_wp2;go_roundw;case rel=>exact⟨k+1,by omega,by go_num,by rw[HE.out];exact Yz,V9,g3,by omega,hco⟩
   simp[intOf]<;>omega
  have HX:Hid (gl (ag rs) x.e.name (r.e.allow.take (k+1))=gl (ag rs) x.e.name (r.e.allow.take k)++[r.e.allow[k].t]):=by
   refine OI _ _ _ _ hlt ?_;rw[hz]at HI;simpa using HI.symm
  clear HI;go_wp2_with(at_builtin;refine wpList_append_own_at _ rfl _ _ 142 rfl w.heap.size 9 i0 (.string ⟨#[]⟩) 1 16 underlying142 hi hz0 hz1 hz2 rfl (by decide) _ _ _ rfl (Yz.out.alloc _) ⟨W1.heap.size,0,none⟩ 1 1 [.string r.e.allow[k].t] rfl rfl (cell_one_new _ _ _) (by intro u hu;simp at hu;subst hu;rfl) (by unfold maxLen;omega) (by omega) (by simp;omega) ?_);intro v' w3 hown3 hgrow _ hloc;have hb3:Hid (ae w w3):=(V9.out.alloc V9.out.size _).grown hgrow (by simp;omega) (fun i hi=>(Yz.out.lt i hi).1);have Ww:Hid (w3.ownsRow w.heap.size 9 1 v' (gl (ag rs) x.e.name (r.e.allow.take (k+1))).length (qB (gl (ag rs) x.e.name (r.e.allow.take (k+1))))):=by
   show World.ownsRow _ _ _ _ _ _ _;rw[HX.out];simpa[qB] using hown3
  have Z9:Hid (w3.cell? ⟨w.heap.size,3,none⟩=some (.string x.e.name)/\w.heap.size<w3.heap.size/\v'.ownBlock≠some w.heap.size):=by
   refine⟨?_,?_,?_⟩
   ·rw[hgrow.cell_far _ (by simp;omega) (Ne.symm hco)];exact aH ((UV _ _).alloc (UU _) _) (by omega) g3
   ·have:=hgrow.size;simp at this;omega
   rcases hloc with e|e
   ·rw[e];exact hco
   rw[e];simp;omega
  clear hown3 hgrow hloc Yz g0 g3;go_wp2;go_roundw;case rel=>exact⟨k+1,by omega,by go_num,Ww,hb3,Z9⟩
  simp[intOf]<;>omega
 obtain rfl:k=r.e.allow.length:=by omega
 have hown:=HOW.out;rw[Va]at hown;obtain⟨We,cp,rfl,hS',hN'⟩:=OJ hown;have HS2:=aC hS';have YG:Hid (∀p,We=some p->w.heap.size<=p.block):=hN';clear hown HOW hS' hN' HC;go_wp2;go_ret;refine⟨⟨We,cp,by rw[HG.out];rfl,by rw[HG.out];exact HS2.out,YG.out⟩,HB.out⟩
theorem AB(t:TR)(g:Nat)(nm:bQ)(w:af)(hg:g<w.heap.size)(hc:w.cell? ⟨g,0,none⟩=some (.string nm)):
  Calls prog 223 #[.agg #[.string t.name,.slice t.ad t.rows.length t.cap],.pointer (some ⟨g,0,none⟩)] w fun e w'=>e=.returned (.bool (t.name.toList==nm.toList))/\ae w w':=by
 go_enter func223,ntmps223;go_wp2;go_ret;exact⟨rfl,(UV _ _).alloc (UU _) _⟩
theorem Dn(rs:Q06)(k:Nat)(h:k<rs.length)(nm:bQ):lH (ag (rs.drop k)) nm=((rs[k].name.toList==nm.toList) || lH (ag (rs.drop (k+1))) nm):=by
 rw[nP _ _ h];rfl
theorem AC(ad:Q02)(cap:Nat)(rs:Q06)(g:Nat)(nm:bQ)(w:af)(hlen:rs.length<=1048576)(hs:kU w ad rs)(hg:g<w.heap.size)(hc:w.cell? ⟨g,0,none⟩=some (.string nm)):
  Calls prog 241 #[.slice ad rs.length cap,.func (Fn.func 223) #[] #[.pointer (some ⟨g,0,none⟩)]] w fun e w'=>(∃r:Int,e=.returned (.int .i64 r)/\decide (0<=r)=lH (ag rs) nm)/\ae w w':=by
 have HS:=aC hs;have HC:Hid (w.cell? ⟨g,0,none⟩=some (.string nm)):=hc;clear hs hc;go_enter func241,ntmps241;go_wp2_with fail;go_loopw[8] (fun i wr=>∃k:Nat,k<=rs.length/\i=.int .i64 k/\Hid (lH (ag (rs.drop k)) nm=lH (ag rs) nm)/\Hid (ae w wr)) (fun i _=>rs.length-(intOf i).toNat);case atStart=>exact⟨0,UY _,rfl,rfl,UV _ _⟩
 obtain⟨k,hk,rfl,HP,HB⟩:=hrel;by_cases hlt:k<rs.length
 ·rcases HS.out.below HB.out with rfl|⟨b,off,rfl,hb,hr,-⟩
  ·simp at hlt
  obtain⟨t0,t1⟩:=hr k hlt;have hk1:=bG k;have hk2:(k:Int)<(rs.length:Int):=by omega
  have HCW:Hid (wr.cell? ⟨g,0,none⟩=some (.string nm)):=aH HB.out hg HC.out;have HGW:Hid (g<wr.heap.size):=UT hg HB.out.size;clear hr;cases he:(rs[k].name.toList==nm.toList);case true=>
   have HN:Hid (lH (ag rs) nm=true):=by show _=_;rw[<-HP.out,Dn _ _ hlt,he];rfl
   go_wp2_with(go_at_call 223;refine(AB rs[k] g nm _ HGW.out HCW.out).mono ?_;rintro e w' ⟨he2,hbx⟩;rw[he]at he2;subst he2);go_ret;exact⟨⟨k,rfl,by rw[HN.out];simp⟩,HB.out.trans (hbx.mono HB.out.size)⟩
  have Wj:Hid (lH (ag (rs.drop (k+1))) nm=lH (ag rs) nm):=by show _=_;rw[<-HP.out,Dn _ _ hlt,he];rfl
  go_wp2_with(go_at_call 223;refine(AB rs[k] g nm _ HGW.out HCW.out).mono ?_;rintro e w' ⟨he2,hbx⟩;rw[he]at he2;subst he2);go_roundw;case rel=>exact⟨k+1,by omega,by go_num,Wj,HB.out.trans (hbx.mono HB.out.size)⟩
  simp[intOf]<;>omega
 have HN:Hid (lH (ag rs) nm=false):=by show _=_;rw[<-HP.out,Vf (by omega)];rfl
 go_wp2;go_ret;exact⟨⟨-1,rfl,by rw[HN.out];simp⟩,HB.out⟩
theorem vI(ad:Q02)(cap:Nat)(rs:Q06)(g:Nat)(nm:bQ)(w:af)(hlen:rs.length<=1048576)(hs:kU w ad rs)(hg:g<w.heap.size)(hc:w.cell? ⟨g,0,none⟩=some (.string nm)):
  Calls prog 222 #[.slice ad rs.length cap,.func (Fn.func 223) #[] #[.pointer (some ⟨g,0,none⟩)]] w fun e w'=>e=.returned (.bool (lH (ag rs) nm))/\ae w w':=by
 go_enter func222,ntmps222;go_wp2_with fail;refine(AC ad cap rs g nm _ hlen hs hg hc).mono ?_;rintro e w' ⟨⟨r,rfl,hr⟩,hbx⟩;have HR:Hid (decide (0<=r)=lH (ag rs) nm):=hr;clear hr hs hc;go_wp2;go_ret;exact⟨by rw[<-HR.out];rfl,hbx⟩
set_option maxRecDepth 100000 in
theorem AJ(ad adA:Q02)(cap capA:Nat)(rs:Q06)(b n:Nat)(M:ByteArray×ByteArray->Option Value)(xs:Q0a)(w:af)(hlen:rs.length<=1048576)(hs:kU w ad rs)(hV:aK dV prog 94 w b n M)(hT:Tab rs M)(hla:xs.length<=1048576)(hsa:lq w adA xs)(hfa:∀a∈xs,a.fits):
  Calls prog 183 #[.slice ad rs.length cap,.map (some b),.slice adA xs.length capA] w fun e w'=>e=.returned (.bool (oL (ag rs) xs))/\ae w w':=by
 have HS:=aC hs;have HV:Hid (aK dV prog 94 w b n M):=hV;have HT:=aC hT;have HA:=aC hsa;have HFA:=aC hfa;clear hs hV hT hsa hfa;go_enter func183,ntmps183;go_wp2_with fail;go_loopw[11] (fun i wr=>∃k:Nat,k<=xs.length/\i=.int .i64 k/\Hid (nR (ag rs) xs k=true)/\Hid (ae w wr)) (fun i _=>xs.length-(intOf i).toNat);case atStart=>exact⟨0,UY _,rfl,zZ _ _,UV _ _⟩
 obtain⟨k,hk,rfl,HP,HB⟩:=hrel;by_cases hlt:k<xs.length
 ·rcases HA.out.below HB.out with rfl|⟨ba,Yi,rfl,ZK,hra⟩
  ·simp at hlt
  obtain⟨t0,t1⟩:=hra k hlt;have hk1:=bG k;have hk2:(k:Int)<(xs.length:Int):=by omega
  have zA:=HFA.out _ (UR hlt);have z1:xs[k].t.size<=maxLen:=zA.1;have z2:xs[k].s.size<=maxLen:=zA.2;have HI:Hid ((M (xs[k].t,xs[k].s)).isSome=!(aB (ag rs) xs[k].t xs[k].s).isEmpty):=HT.out.some_iff (xs[k].t,xs[k].s);obtain⟨W1,hW1⟩:∃W1,W1=wr.alloc (.cells #[.string xs[k].t,.string xs[k].s] 43):=⟨_,rfl⟩;have hal:ae wr W1:=by rw[hW1];exact(UV _ _).alloc (UU _) _
  have V9:=jR HB hal;have g0:W1.cell? ⟨wr.heap.size,0,none⟩=some (.string xs[k].t):=by rw[hW1];simp
  have g1:W1.cell? ⟨wr.heap.size,1,none⟩=some (.string xs[k].s):=by rw[hW1];simp
  have hgl:wr.heap.size<W1.heap.size:=by rw[hW1];simp
  clear hra hal zA;go_wp2_with fail;rw[<-hW1];clear hW1 t0 t1;refine(vI ad cap rs wr.heap.size xs[k].t _ hlen (HS.out.below V9.out) hgl g0).mono ?_;rintro e w2 ⟨rfl,hb2⟩;have HB2:=jR V9 hb2;replace g0:=aH hb2 hgl g0;replace g1:=aH hb2 hgl g1;have Z5:=aC (HV.out.below HB2.out);clear hb2 hgl;cases ht:lH (ag rs) xs[k].t;case false=>
   have HN:Hid (oL (ag rs) xs=false):=uY _ _ k hlt (by simp[pU,ht]);go_wp2;go_ret;exact⟨by rw[HN.out];rfl,HB2.out⟩
  cases he:xs[k].s.toList.isEmpty;case true=>
   have Wj:Hid (nR (ag rs) xs (k+1)=true):=by show _=_;rw[oM _ _ _ hlt,HP.out];simp[pU,ht,he]
   go_wp2;go_roundw;case rel=>exact⟨k+1,by omega,by go_num,Wj,HB2⟩
   simp[intOf]<;>omega
  cases hz:(M (xs[k].t,xs[k].s)).isSome;case false=>
   have HN:Hid (oL (ag rs) xs=false):=uY _ _ k hlt (by have:=HI.out;rw[hz]at this;simp[pU,ht,he];simpa using this.symm);go_wp2_with(go_at_call 184;refine(zk b n M xs[k].t xs[k].s _ z1 z2 Z5.out).mono ?_;rintro e w' ⟨he2,rfl⟩;rw[hz]at he2;subst he2);go_ret;exact⟨by rw[HN.out];rfl,HB2.out⟩
  have Wj:Hid (nR (ag rs) xs (k+1)=true):=by show _=_;rw[oM _ _ _ hlt,HP.out];have:=HI.out;rw[hz]at this;simp[pU,ht,he];simpa using this.symm
  go_wp2_with(go_at_call 184;refine(zk b n M xs[k].t xs[k].s _ z1 z2 Z5.out).mono ?_;rintro e w' ⟨he2,rfl⟩;rw[hz]at he2;subst he2);go_roundw;case rel=>exact⟨k+1,by omega,by go_num,Wj,HB2⟩
  simp[intOf]<;>omega
 have HN:Hid (oL (ag rs) xs=true):=by
  have:=HP.out;obtain rfl:k=xs.length:=by omega
  unfold nR at this;rw[Va]at this;exact this
 go_wp2;go_ret;exact⟨by rw[HN.out];rfl,HB.out⟩
theorem uq{e:Ex}(h:ax e=true)(h1:e.kind≠1):e.allow=[]:=by
 unfold ax at h;rw[if_neg h1]at h;split at h
 ·simp only[UW,U3]at h;exact Vb.1 h.1.1.2
 split at h
 ·simp only[UW,U3]at h;exact Vb.1 h.1.2
 split at h
 ·simp only[UW,U3]at h;exact Vb.1 h.1.1.2
 split at h
 ·simp only[UW,U3]at h;exact Vb.1 h.1.1.2
 cases h
theorem Jp(ts:Q0b)(typ:bQ)(rows:Q08)(k:Nat)(h:k<rows.length):aW ts typ (ak (rows.drop k))=if oL ts rows[k].e.allow&&lI ts typ rows[k].e then aW ts typ (ak (rows.drop (k+1))) else false:=by
 rw[gV _ _ h];rfl
theorem GG(ts:Q0b)(typ:bQ)(e:Ex)(h:e.kind=3):lI ts typ e=!(gI ts typ e.over e.name).isEmpty:=by
 unfold lI gI;rw[if_neg (by omega),if_pos h];cases bH (aB ts typ e.over)<;>simp
set_option maxRecDepth 100000 in
theorem AL(ad V5:Q02)(cap capE:Nat)(rs:Q06)(b n:Nat)(M:ByteArray×ByteArray->Option Value)(typ:bQ)(rows:Q08)(w:af)(hlen:rs.length<=1048576)(hs:kU w ad rs)(hl:∀r∈rs,r.light)(hf:∀r∈rs,r.fits)(hV:aK dV prog 94 w b n M)(hT:Tab rs M)(ht:typ.size<=maxLen)(hle:rows.length<=1048576)(hse:gZ w V5 rows)(hlE:∀q∈rows,q.e.light)(hfE:∀q∈rows,q.e.fits)(hnb:∀q∈rows,ax q.e=true):
  Calls prog 132 #[.slice ad rs.length cap,.map (some b),.string typ,.slice V5 rows.length capE] w fun e w'=>e=.returned (.bool (aW (ag rs) typ (ak rows)))/\ae w w':=by
 have HS:=aC hs;have HL:=aC hl;have Wl:=aC hf;have HV:Hid (aK dV prog 94 w b n M):=hV;have HT:=aC hT;have HE:=aC hse;have WR:=aC hlE;have YE:=aC hfE;have HNB:Hid (∀q∈rows,ax q.e=true):=hnb;clear hs hl hf hV hT hse hlE hfE hnb;go_enter func132,ntmps132;go_wp2_with fail;go_loopw[13] (fun i wr=>∃k:Nat,k<=rows.length/\i=.int .i64 k/\Hid (aW (ag rs) typ (ak (rows.drop k))=aW (ag rs) typ (ak rows))/\Hid (ae w wr)) (fun i _=>rows.length-(intOf i).toNat);case atStart=>exact⟨0,UY _,rfl,rfl,UV _ _⟩
 obtain⟨k,hk,rfl,HP,HB⟩:=hrel;by_cases hlt:k<rows.length
 ·rcases HE.out.below HB.out with rfl|⟨bE,offE,rfl,hbE,hrE,hokE⟩
  ·simp at hlt
  obtain⟨t0,t1,t2,t3,t4⟩:=hrE k hlt;have HOKW:Hid (rows[k].ok w):=HE.out.mem (UR hlt);have hk1:=bG k;have hk2:(k:Int)<(rows.length:Int):=by omega
  have lgA:rows[k].e.allow.length<=1048576:=(WR.out _ (UR hlt)).1;have HFK:Hid (rows[k].e.fits):=YE.out _ (UR hlt);have HNK:Hid (ax rows[k].e=true):=HNB.out _ (UR hlt);have HDR:=Jp (ag rs) typ rows k hlt;have HD:Hid (aW (ag rs) typ (ak rows)=if oL (ag rs) rows[k].e.allow&&lI (ag rs) typ rows[k].e then aW (ag rs) typ (ak (rows.drop (k+1))) else false):=by show _=_;rw[<-HP.out];exact HDR
  obtain⟨W1,hW1⟩:∃W1,W1=wr.alloc (.cells #[.int .i64 rows[k].e.kind,.slice rows[k].adA rows[k].e.allow.length rows[k].capA,.string rows[k].e.over,.string rows[k].e.name,.slice rows[k].adK rows[k].e.kids.length rows[k].capK] 39):=⟨_,rfl⟩;have hal:ae wr W1:=by rw[hW1];exact(UV _ _).alloc (UU _) _
  have V9:=jR HB hal;have HVW:=aC (HV.out.below V9.out);have zO:rows[k].e.over.size<=maxLen:=HFK.out.2.1;have zN:rows[k].e.name.size<=maxLen:=HFK.out.2.2.1;clear hrE hokE hal HDR;by_cases h1:rows[k].e.kind=1
  ·have XW:Hid (lI (ag rs) typ rows[k].e=true):=by show _=_;unfold lI;rw[if_neg (by omega),if_neg (by omega)]
   have hq1:(rows[k].e.kind==1)=true:=by simpa using h1
   replace h1:Hid (rows[k].e.kind=1):=h1;go_wp2_with fail;rw[<-hW1];refine(AJ ad rows[k].adA cap rows[k].capA rs b n M rows[k].e.allow _ hlen (HS.out.below V9.out) HVW.out HT.out lgA (HOKW.out.1.below V9.out) HFK.out.1).mono ?_;rintro e w2 ⟨rfl,hb2⟩;have HB2:=jR V9 hb2;clear hb2 hW1 t0 t1 t2 t3 t4;cases hz:oL (ag rs) rows[k].e.allow;case false=>
    have HN:Hid (aW (ag rs) typ (ak rows)=false):=by show _=_;rw[HD.out,hz];rfl
    go_wp2;go_ret;exact⟨by rw[HN.out];rfl,HB2.out⟩
   have Wj:Hid (aW (ag rs) typ (ak (rows.drop (k+1)))=aW (ag rs) typ (ak rows)):=by show _=_;rw[HD.out,hz,XW.out];rfl
   go_wp2;go_roundw;case rel=>exact⟨k+1,by omega,by go_num,Wj,HB2⟩
   simp[intOf]<;>omega
  have hq1:(rows[k].e.kind==1)=false:=by simpa using h1
  have YX:Hid (oL (ag rs) rows[k].e.allow=true):=by show _=_;rw[uq HNK.out h1];rfl
  by_cases h2:rows[k].e.kind=2
  ·have hq2:(rows[k].e.kind==2)=true:=by simpa using h2
   have HI:=HT.out.some_iff (typ,rows[k].e.name);have XW:Hid (lI (ag rs) typ rows[k].e=(M (typ,rows[k].e.name)).isSome):=by show _=_;unfold lI;rw[if_pos h2,HI]
   clear HI;replace h2:Hid (rows[k].e.kind=2):=h2;go_wp2_with fail;rw[<-hW1];refine(zk b n M typ rows[k].e.name _ ht zN HVW.out).mono ?_;rintro e w2 ⟨rfl,hw2⟩;rw[hw2];clear hw2 w2 hW1 t0 t1 t2 t3 t4;cases hz:(M (typ,rows[k].e.name)).isSome;case false=>
    have HN:Hid (aW (ag rs) typ (ak rows)=false):=by show _=_;rw[HD.out,XW.out,hz,YX.out];rfl
    go_wp2;go_ret;exact⟨by rw[HN.out];rfl,V9.out⟩
   have Wj:Hid (aW (ag rs) typ (ak (rows.drop (k+1)))=aW (ag rs) typ (ak rows)):=by show _=_;rw[HD.out,XW.out,hz,YX.out];rfl
   go_wp2;go_roundw;case rel=>exact⟨k+1,by omega,by go_num,Wj,V9⟩
   simp[intOf]<;>omega
  have hq2:(rows[k].e.kind==2)=false:=by simpa using h2
  by_cases h3:rows[k].e.kind=3
  ·have hq3:(rows[k].e.kind==3)=true:=by simpa using h3
   have XW:Hid (lI (ag rs) typ rows[k].e=!(gI (ag rs) typ rows[k].e.over rows[k].e.name).isEmpty):=GG _ _ _ h3;replace h3:Hid (rows[k].e.kind=3):=h3;go_wp2_with fail;rw[<-hW1];refine(yt b n rs ad M typ rows[k] _ HVW.out HT.out (HS.out.below V9.out) HL.out Wl.out ht zO zN).mono ?_;rintro e w2 ⟨⟨We,cap',rfl,-,-⟩,hb2⟩;have HB2:=jR V9 hb2;clear hb2 hW1 t0 t1 t2 t3 t4;generalize gI (ag rs) typ rows[k].e.over rows[k].e.name=gs at XW⊢;cases gs with
   | nil =>
    have HN:Hid (aW (ag rs) typ (ak rows)=false):=by show _=_;rw[HD.out,XW.out,YX.out];rfl
    go_wp2;go_ret;exact⟨by rw[HN.out];rfl,HB2.out⟩
   | cons g gs =>
    have Wj:Hid (aW (ag rs) typ (ak (rows.drop (k+1)))=aW (ag rs) typ (ak rows)):=by show _=_;rw[HD.out,XW.out,YX.out];rfl
    have hlz:(((g::gs).length:Int)==0)=false:=by
     have:¬(((g::gs).length:Int)=0):=by simp;omega
     simpa using this
    obtain⟨ln,hln⟩:∃ln,ln=(g::gs).length:=⟨_,rfl⟩;rw[<-hln]at hlz ⊢;clear hln;go_wp2;go_roundw;case rel=>exact⟨k+1,by omega,by go_num,Wj,HB2⟩
    simp[intOf]<;>omega
  have hq3:(rows[k].e.kind==3)=false:=by simpa using h3
  have XW:Hid (lI (ag rs) typ rows[k].e=true):=by show _=_;unfold lI;rw[if_neg h2,if_neg h3]
  have Wj:Hid (aW (ag rs) typ (ak (rows.drop (k+1)))=aW (ag rs) typ (ak rows)):=by show _=_;rw[HD.out,XW.out,YX.out];rfl
  have Wx:Hid (ae w (wr.alloc (.cells #[.int .i64 rows[k].e.kind,.slice rows[k].adA rows[k].e.allow.length rows[k].capA,.string rows[k].e.over,.string rows[k].e.name,.slice rows[k].adK rows[k].e.kids.length rows[k].capK] 39))):=by rw[<-hW1];exact V9
  clear hW1;go_wp2;go_roundw;case rel=>exact⟨k+1,by omega,by go_num,Wj,Wx⟩
  simp[intOf]<;>omega
 have HN:Hid (aW (ag rs) typ (ak rows)=true):=by show _=_;rw[<-HP.out,Vf (by omega)];rfl
 go_wp2;go_ret;exact⟨by rw[HN.out];rfl,HB.out⟩
def Al.cells(a:Al):List Value:=[.string a.t,.string a.s]
def iC:List Al->List Value
 | []=>[]
 | a::xs=>a.cells++iC xs
theorem EN(xs ys:Q0a):iC (xs++ys)=iC xs++iC ys:=by
 induction xs with
 | nil=>rfl
 | cons d ds ih=>simp[iC,ih]
theorem AO(xs:Q0a)(d:Al):iC (xs++[d])=iC xs++d.cells:=by rw[EN];simp[iC]
theorem Dq(xs:Q0a)(i:Nat)(h:i<xs.length)(o:Nat)(ho:o<2):(iC xs)[i*2+o]?=(xs[i].cells)[o]?:=by
 induction xs generalizing i with
 | nil=>simp at h
 | cons s xs ih =>
  cases i with
  | zero =>
   simp only[iC,Nat.zero_mul,Vj,List.getElem_cons_zero];rw[VP (by simp[Al.cells];omega)]
  | succ i =>
   simp only[iC,List.getElem_cons_succ];rw[VN (by simp[Al.cells];omega)];have e:(i+1)*2+o-s.cells.length=i*2+o:=by simp[Al.cells];omega
   rw[e];exact ih i (by simpa using h)
theorem O4{w:af}{base:Nat}{v:Value}{xs:Q0a}(h:w.ownsRow base 94 2 v xs.length (iC xs)):∃ad cp,v=.slice ad xs.length cp/\lq w ad xs/\∀p,ad=some p->base<=p.block:=by
 have h2:=h;rcases h.2 with⟨rfl,h0⟩|⟨g,cp,cur,rfl,hbg,hg,hnc,-⟩
 ·exact⟨none,0,by rw[h0],.inl (Vb.1 h0),fun p hp=>by cases hp⟩
 have hlt:=h2.lt g rfl;refine⟨_,cp,rfl,.inr ⟨g,0,rfl,hlt.2,fun i hi=>?_⟩,fun p hp=>by injection hp with hp;rw[<-hp];exact hlt.1⟩;have h3:∀(o:Nat) (u:Value),(iC xs)[i*2+o]?=some u->w.cell? ⟨g,0+i*2+o,none⟩=some u:=fun o u hu=>by
  have:=h2.cells (g:=g) rfl (i*2+o) u hu;rw[Gm]at this;rw[Vj];exact this
 exact⟨h3 0 _ (by have:=Dq xs i hi 0 (by omega);simpa[Al.cells] using this),h3 1 _ (by have:=Dq xs i hi 1 (by omega);simpa[Al.cells] using this)⟩
def dL:List Al->List Al
 | []=>[]
 | a::xs=>if a.s.toList.isEmpty then dL xs else a::dL xs
theorem vJ(xs ys:Q0a):dL (xs++ys)=dL xs++dL ys:=by
 induction xs with
 | nil=>rfl
 | cons a xs ih=>simp only[VC,dL,ih];split<;>simp
theorem O5(xs:Q0a)(k:Nat)(h:k<xs.length)(he:xs[k].s.toList.isEmpty=true):dL (xs.take (k+1))=dL (xs.take k):=by
 rw[UX h,vJ];simp[dL]at he ⊢;simp[he]
theorem Mk(xs:Q0a)(k:Nat)(h:k<xs.length)(he:xs[k].s.toList.isEmpty=false):dL (xs.take (k+1))=dL (xs.take k)++[xs[k]]:=by
 rw[UX h,vJ];simp[dL,he]
theorem Dr(xs:Q0a):(dL xs).length<=xs.length:=by
 induction xs with
 | nil=>simp[dL]
 | cons a xs ih=>simp only[dL];split<;>simp<;>omega
def jq(ts:Q0b)(typ:ByteArray)(e:Ex):List Al :=
 if e.kind=1 then dL e.allow else if e.kind=2 then [⟨typ,e.name⟩] else if e.kind=3 then (gI ts typ e.over e.name).map fun g=>⟨g,e.name⟩ else []
theorem O6:(prog.info? 94).map (fun i=>(i.zero,i.size,i.bytes))=some (some (.agg #[.string ⟨#[]⟩,.string ⟨#[]⟩]),2,32):=by kernel_rfl
theorem EO(rs:Q06)(hl:∀r∈rs,r.light)(typ over rel:bQ):(gI (ag rs) typ over rel).length<=1048576:=by
 unfold gI;split
 ·exact yh rs hl typ over rel
 simp
theorem xy(w:af)(o o':Obj):((w.alloc o).alloc o').heap[w.heap.size+1]?=some o':=by
 have:=heap_alloc_new (w.alloc o) o';simpa using this
set_option maxRecDepth 100000 in
theorem GH(b n:Nat)(rs:Q06)(ad:Q02)(M:ByteArray×ByteArray->Option Value)(typ:bQ)(x:ER)(w:af)(hV:aK dV prog 94 w b n M)(hT:Tab rs M)(hs:kU w ad rs)(hl:∀r∈rs,r.light)(hf:∀r∈rs,r.fits)(ht:typ.size<=maxLen)(hxf:x.e.fits)(hxl:x.e.light)(hxo:x.ok w):
  Calls prog 188 #[.map (some b),.string typ,x.val] w fun e w'=>(∃(We:Q02) (cap':Nat),e=.returned (.slice We (jq (ag rs) typ x.e).length cap')/\lq w' We (jq (ag rs) typ x.e)/\∀p,We=some p->w.heap.size<=p.block)/\ae w w':=by
 have HV:Hid (aK dV prog 94 w b n M):=hV;have HT:=aC hT;have HS:=aC hs;have HL:=aC hl;have Wl:=aC hf;have Yw:=aC hxf;have HXO:=aC hxo;have lgA:x.e.allow.length<=1048576:=hxl.1;clear hV hT hs hl hf hxf hxo hxl;obtain⟨i0,hi,hz0,hz1,hz2⟩:=info_parts O6;obtain⟨W0,hW0⟩:∃W0,W0=w.alloc (.cells #[.int .i64 x.e.kind,.slice x.adA x.e.allow.length x.capA,.string x.e.over,.string x.e.name,.slice x.adK x.e.kids.length x.capK] 39):=⟨_,rfl⟩;have hal:ae w W0:=by rw[hW0];exact(UV _ _).alloc (UU _) _
 have HB0:=aC hal;have hg0:w.heap.size<W0.heap.size:=by rw[hW0];simp
 have c0:W0.cell? ⟨w.heap.size,0,none⟩=some (.int .i64 x.e.kind):=by rw[hW0];simp
 have c1:W0.cell? ⟨w.heap.size,1,none⟩=some (.slice x.adA x.e.allow.length x.capA):=by rw[hW0];simp
 have c2:W0.cell? ⟨w.heap.size,2,none⟩=some (.string x.e.over):=by rw[hW0];simp
 have c3:W0.cell? ⟨w.heap.size,3,none⟩=some (.string x.e.name):=by rw[hW0];simp
 have c4:W0.cell? ⟨w.heap.size,4,none⟩=some (.slice x.adK x.e.kids.length x.capK):=by rw[hW0];simp
 clear hal;unfold ER.val;by_cases h1:x.e.kind=1
 ·have HLI:Hid (jq (ag rs) typ x.e=dL x.e.allow):=by show _=_;unfold jq;rw[if_pos h1]
  have hq1:(x.e.kind==1)=true:=by simpa using h1
  replace h1:Hid (x.e.kind=1):=h1;go_enter func188,ntmps188;go_wp2_with fail;rw[<-hW0];clear hW0;go_loopw[7,19] (fun v i wr=>∃k:Nat,k<=x.e.allow.length/\i=.int .i64 k/\Hid (wr.ownsRow w.heap.size 94 2 v (dL (x.e.allow.take k)).length (iC (dL (x.e.allow.take k))))/\Hid (ae w wr)) (fun _ i _=>x.e.allow.length-(intOf i).toNat);case atStart=>exact⟨0,UY _,rfl,World.ownsRow_nil _ _ _ _,HB0⟩
  clear HB0 c0 c1 c2 c3 c4 hg0;obtain⟨k,hk,rfl,HOW,HB⟩:=hrel;by_cases hlt:k<x.e.allow.length
  ·rcases (HXO.out.1).below HB.out with hnil|⟨ba,Yi,had,ZK,hra⟩
   ·rw[hnil]at hlt;simp at hlt
   obtain⟨t0,t1⟩:=hra k hlt;have hk1:=bG k;have hk2:(k:Int)<(x.e.allow.length:Int):=by omega
   obtain⟨W1,hW1⟩:∃W1,W1=wr.alloc (.cells #[.string x.e.allow[k].t,.string x.e.allow[k].s] 43):=⟨_,rfl⟩;have hal:ae wr W1:=by rw[hW1];exact(UV _ _).alloc (UU _) _
   have V9:=jR HB hal;have Yz:Hid (W1.ownsRow w.heap.size 94 2 u7 (dL (x.e.allow.take k)).length (iC (dL (x.e.allow.take k)))):=own_below HOW.out hal;have g0:W1.cell? ⟨wr.heap.size,0,none⟩=some (.string x.e.allow[k].t):=by rw[hW1];simp
   have g1:W1.cell? ⟨wr.heap.size,1,none⟩=some (.string x.e.allow[k].s):=by rw[hW1];simp
   have hgl1:wr.heap.size<W1.heap.size:=by rw[hW1];simp
   have hgl:=Dr (x.e.allow.take k);rw[Vy]at hgl;have hwsz:w.heap.size<=W1.heap.size:=V9.out.size;rw[had];clear hra hal HOW;cases he:x.e.allow[k].s.toList.isEmpty;case true=>
    have HE:Hid (dL (x.e.allow.take (k+1))=dL (x.e.allow.take k)):=O5 _ _ hlt he;have Wx:Hid (ae w (wr.alloc (.cells #[.string x.e.allow[k].t,.string x.e.allow[k].s] 43))):=by rw[<-hW1];exact V9
    have HOX:Hid ((wr.alloc (.cells #[.string x.e.allow[k].t,.string x.e.allow[k].s] 43)).ownsRow w.heap.size 94 2 u7 (dL (x.e.allow.take (k+1))).length (iC (dL (x.e.allow.take (k+1))))):=by rw[<-hW1,HE.out];exact Yz
    clear hW1 g0 g1;go_wp2;go_roundw;case rel=>exact⟨k+1,by omega,by go_num,HOX,Wx⟩
    simp[intOf]<;>omega
   have HX:Hid (dL (x.e.allow.take (k+1))=dL (x.e.allow.take k)++[x.e.allow[k]]):=Mk _ _ hlt he;have HOX:Hid ((wr.alloc (.cells #[.string x.e.allow[k].t,.string x.e.allow[k].s] 43)).ownsRow w.heap.size 94 2 u7 (dL (x.e.allow.take k)).length (iC (dL (x.e.allow.take k)))):=by rw[<-hW1];exact Yz
   have Wx:Hid (ae w (wr.alloc (.cells #[.string x.e.allow[k].t,.string x.e.allow[k].s] 43))):=by rw[<-hW1];exact V9
   have hws:w.heap.size<=wr.heap.size:=HB.out.size;clear hW1 Yz V9 g0 g1 hgl1 hwsz W1;go_wp2_with(at_builtin;refine wpList_append_own_at _ rfl _ _ 277 rfl w.heap.size 94 i0 _ 2 32 underlying277 hi hz0 hz1 hz2 rfl (by decide) _ _ _ rfl (HOX.out.alloc _) ⟨wr.heap.size+1,0,none⟩ 1 1 [.string x.e.allow[k].t,.string x.e.allow[k].s] rfl rfl (World.news_of_block (cs:=#[.string x.e.allow[k].t,.string x.e.allow[k].s]) (t:=94) (fr:=(0,0)) (xy wr _ _)) (by simp[Value.oneCell']) (by unfold maxLen;omega) (by omega) (by simp;omega) ?_);intro v' w3 hown3 hgrow _ hloc;have HB3:Hid (ae w w3):=(Wx.out.alloc Wx.out.size _).grown hgrow (by simp;omega) (fun i hi=>(HOX.out.lt i hi).1);have Ww:Hid (w3.ownsRow w.heap.size 94 2 v' (dL (x.e.allow.take (k+1))).length (iC (dL (x.e.allow.take (k+1))))):=by
    show World.ownsRow _ _ _ _ _ _ _;rw[HX.out,AO,U2];exact hown3
   clear hown3 hgrow hloc HOX Wx;go_wp2;go_roundw;case rel=>exact⟨k+1,by omega,by go_num,Ww,HB3⟩
   simp[intOf]<;>omega
  obtain rfl:k=x.e.allow.length:=by omega
  have hown:=HOW.out;rw[Va]at hown;obtain⟨We,cp,rfl,hS',hN'⟩:=O4 hown;have HS2:=aC hS';have YG:Hid (∀p,We=some p->w.heap.size<=p.block):=hN';clear hown HOW hS' hN';go_wp2;go_ret;exact⟨⟨We,cp,by rw[HLI.out];rfl,by rw[HLI.out];exact HS2.out,YG.out⟩,HB.out⟩
 have hq1:(x.e.kind==1)=false:=by simpa using h1
 by_cases h2:x.e.kind=2
 ·have HLI:Hid (jq (ag rs) typ x.e=[⟨typ,x.e.name⟩]):=by show _=_;unfold jq;rw[if_neg h1,if_pos h2]
  have hq2:(x.e.kind==2)=true:=by simpa using h2
  replace h2:Hid (x.e.kind=2):=h2;have HOX:Hid ((w.alloc (.cells #[.int .i64 x.e.kind,.slice x.adA x.e.allow.length x.capA,.string x.e.over,.string x.e.name,.slice x.adK x.e.kids.length x.capK] 39)).ownsRow w.heap.size 94 2 (.slice none 0 0) 0 []):=World.ownsRow_nil _ _ _ _;have Wx:Hid (ae w (w.alloc (.cells #[.int .i64 x.e.kind,.slice x.adA x.e.allow.length x.capA,.string x.e.over,.string x.e.name,.slice x.adK x.e.kids.length x.capK] 39))):=by rw[<-hW0];exact HB0
  clear hW0 HB0 c0 c1 c2 c3 c4 hg0 W0;go_enter func188,ntmps188;go_wp2_with(at_builtin;refine wpList_append_own_at _ rfl _ _ 277 rfl w.heap.size 94 i0 _ 2 32 underlying277 hi hz0 hz1 hz2 rfl (by decide) _ _ _ rfl (HOX.out.alloc _) ⟨w.heap.size+1,0,none⟩ 1 1 [.string typ,.string x.e.name] rfl rfl (World.news_of_block (cs:=#[.string typ,.string x.e.name]) (t:=94) (fr:=(0,0)) (xy w _ _)) (by simp[Value.oneCell']) (by unfold maxLen;omega) (by omega) (by simp;omega) ?_);intro v' w3 hown3 hgrow _ hloc;have HB3:Hid (ae w w3):=(Wx.out.alloc Wx.out.size _).grown hgrow (by simp;omega) (fun i hi=>(HOX.out.lt i hi).1);have WU:w3.ownsRow w.heap.size 94 2 v' ([⟨typ,x.e.name⟩]:Q0a).length (iC [⟨typ,x.e.name⟩]):=hown3;obtain⟨We,cp,rfl,hS',hN'⟩:=O4 WU;have HS2:=aC hS';have YG:Hid (∀p,We=some p->w.heap.size<=p.block):=hN';clear hown3 WU hgrow hloc HOX Wx hS' hN';go_wp2;go_ret;exact⟨⟨We,cp,by rw[HLI.out];rfl,by rw[HLI.out];exact HS2.out,YG.out⟩,HB3.out⟩
 have hq2:(x.e.kind==2)=false:=by simpa using h2
 by_cases h3:x.e.kind=3
 ·have HLI:Hid (jq (ag rs) typ x.e=(gI (ag rs) typ x.e.over x.e.name).map fun g=>(⟨g,x.e.name⟩:Al)):=by show _=_;unfold jq;rw[if_neg h1,if_neg h2,if_pos h3]
  have hq3:(x.e.kind==3)=true:=by simpa using h3
  replace h3:Hid (x.e.kind=3):=h3;have HGL:(gI (ag rs) typ x.e.over x.e.name).length<=1048576:=EO rs HL.out _ _ _;have HV0:=aC (HV.out.below HB0.out);go_enter func188,ntmps188;go_wp2_with fail;rw[<-hW0];refine(yt b n rs ad M typ x _ HV0.out HT.out (HS.out.below HB0.out) HL.out Wl.out ht Yw.out.2.1 Yw.out.2.2.1).mono ?_;rintro e w1 ⟨⟨adG,cpG,rfl,hSG,hNG⟩,hb1⟩;generalize gI (ag rs) typ x.e.over x.e.name=gs at *
  have HB1:=jR HB0 hb1;have HSG:=aC hSG;have HNG:Hid (∀p,adG=some p->W0.heap.size<=p.block):=hNG;have Xr:Hid (w1.cell? ⟨w.heap.size,3,none⟩=some (.string x.e.name)/\w.heap.size<w1.heap.size):=⟨aH hb1 hg0 c3,UT hg0 hb1.size⟩;clear hW0 hSG hNG hb1 c0 c1 c2 c3 c4 HB0 HV0 hg0 HNG;go_wp2_with fail;go_loopw[7,51] (fun v i wr=>∃m:Nat,m<=gs.length/\i=.int .i64 m/\Hid (wr.ownsRow w.heap.size 94 2 v m (iC ((gs.take m).map fun g=>(⟨g,x.e.name⟩:Al))))/\Hid (ae w wr)/\Hid (Aside w1 (.slice none 0 0) wr v)) (fun _ i _=>gs.length-(intOf i).toNat);case atStart=>exact⟨0,UY _,rfl,World.ownsRow_nil _ _ _ _,HB1,Aside.refl _ _⟩
  clear HB1;obtain⟨m,hm,rfl,HO,HB,HA⟩:=hrel;have x3:=qI HA.out Xr.out.2 (by simp[Value.ownBlock]) Xr.out.1;by_cases WH:m<gs.length
  ·rcases HSG.out with rfl|⟨bg,offg,rfl,hbg,hrg⟩
   ·simp at WH
   have q0:=qI HA.out hbg (by simp[Value.ownBlock]) (hrg m WH);have hm1:=bG m;have hm2:(m:Int)<(gs.length:Int):=by omega
   have hws:w.heap.size<=wr.heap.size:=HB.out.size;have HFX:Hid (iC ((gs.take (m+1)).map fun g=>(⟨g,x.e.name⟩:Al))=iC ((gs.take m).map fun g=>(⟨g,x.e.name⟩:Al))++[.string gs[m],.string x.e.name]):=by
    show _=_;rw[UX WH,VG,List.map_singleton,AO];rfl
   clear hrg;go_wp2_with(at_builtin;refine wpList_append_own_at _ rfl _ _ 277 rfl w.heap.size 94 i0 _ 2 32 underlying277 hi hz0 hz1 hz2 rfl (by decide) _ _ _ rfl (HO.out.alloc _) ⟨wr.heap.size,0,none⟩ 1 1 [.string gs[m],.string x.e.name] rfl rfl (World.news_of_block (cs:=#[.string gs[m],.string x.e.name]) (t:=94) (fr:=(0,0)) (heap_alloc_new wr _)) (by simp[Value.oneCell']) (by unfold maxLen;omega) (by omega) (by simp;omega) ?_);intro v' w3 hown3 hgrow _ hloc;have HB3:Hid (ae w w3):=(HB.out.alloc HB.out.size _).grown hgrow (by simp;omega) (fun i hi=>(HO.out.lt i hi).1);have Ww:Hid (w3.ownsRow w.heap.size 94 2 v' (m+1) (iC ((gs.take (m+1)).map fun g=>(⟨g,x.e.name⟩:Al)))):=by
    show World.ownsRow _ _ _ _ _ _ _;rw[HFX.out];simpa[List.map_take] using hown3
   have HA3:Hid (Aside w1 (.slice none 0 0) w3 v'):=HA.out.trans ((Aside.below ((UV _ _).alloc (UU _) _)).trans (Aside.app hgrow (by simpa using hloc)));clear hown3 hgrow hloc HO HA;go_wp2;go_roundw;case rel=>exact⟨m+1,by omega,by go_num,Ww,HB3,HA3⟩
   simp[intOf]<;>omega
  obtain rfl:m=gs.length:=by omega
  have hown:=HO.out;rw[Va]at hown;have e:gs.length=(gs.map fun g=>(⟨g,x.e.name⟩:Al)).length:=by simp
  rw[e]at hown;obtain⟨We,cp,rfl,hS',hN'⟩:=O4 hown;have HS2:Hid (lq wr We (gs.map fun g=>(⟨g,x.e.name⟩:Al))):=hS';have YG:Hid (∀p,We=some p->w.heap.size<=p.block):=hN';obtain⟨ln,hln⟩:∃ln,ln=(gs.map fun g=>(⟨g,x.e.name⟩:Al)).length:=⟨_,rfl⟩;rw[<-hln];have HLN:Hid (ln=(gs.map fun g=>(⟨g,x.e.name⟩:Al)).length):=hln;clear hown HO hS' hN' e HA x3 hln;go_wp2;go_ret;exact⟨⟨We,cp,by rw[HLI.out,<-HLN.out];rfl,by rw[HLI.out];exact HS2.out,YG.out⟩,HB.out⟩
 have HLI:Hid (jq (ag rs) typ x.e=[]):=by show _=_;unfold jq;rw[if_neg h1,if_neg h2,if_neg h3]
 have hq3:(x.e.kind==3)=false:=by simpa using h3
 have Wx:Hid (ae w (w.alloc (.cells #[.int .i64 x.e.kind,.slice x.adA x.e.allow.length x.capA,.string x.e.over,.string x.e.name,.slice x.adK x.e.kids.length x.capK] 39))):=by rw[<-hW0];exact HB0
 clear hW0 HB0 c0 c1 c2 c3 c4 hg0;go_enter func188,ntmps188;go_wp2;go_ret;exact⟨⟨none,0,by rw[HLI.out];rfl,by rw[HLI.out];exact .inl rfl,fun p hp=>by cases hp⟩,Wx.out⟩
abbrev Ky:=ByteArray×ByteArray
def lookL(E:List (Ky×St))(k:Ky):List St:=E.filterMap fun p=>if p.1=k then some p.2 else none
theorem lookL_append(E F:List (Ky×St))(k:Ky):lookL (E++F) k=lookL E k++lookL F k:=by unfold lookL;rw[List.filterMap_append]
theorem tX(E:List (Ky×St))(k:Ky)(s:St):lookL (E++[(k,s)]) k=lookL E k++[s]:=by rw[lookL_append];simp[lookL]
theorem qz(E:List (Ky×St)){k y:Ky}(s:St)(h:k≠y):lookL (E++[(y,s)]) k=lookL E k:=by rw[lookL_append];simp[lookL,Ne.symm h]
theorem mem_lookL{E:List (Ky×St)}{k:Ky}{s:St}:s∈lookL E k↔(k,s)∈E:=by
 unfold lookL;rw[List.mem_filterMap];constructor
 ·rintro⟨⟨a,b⟩,h1,h2⟩;simp only at h2;split at h2
  ·rename_i e;injection h2 with h2;rw[<-e,<-h2];exact h1
  cases h2
 intro h;exact⟨(k,s),h,by simp⟩
def FreeB(M:Ky->Option Value)(g:Nat):Prop:=∀k v,M k=some v->v.ownBlock≠some g
structure Grp(w:World)(bL n:Nat)(M:Ky->Option Value)(E:List (Ky×St)):Prop where
 map:aK dV prog 94 w bL n M
 row:∀k,(M k=none/\lookL E k=[]) \/ ∃v,M k=some v/\w.ownsRow (bL+1) 274 3 v (lookL E k).length (iN (lookL E k))
 apart:∀k k' v v',k≠k'->M k=some v->M k'=some v'->∀g,v.ownBlock=some g->v'.ownBlock≠some g
theorem Grp.lt{w:af}{bL n:Nat}{M:Ky->Option Value}{E:List (Ky×St)}(h:Grp w bL n M E){k:Ky}{v:Value}(hk:M k=some v){g:Nat}(hg:v.ownBlock=some g):bL<g/\g<w.heap.size:=by
 rcases h.row k with⟨e,-⟩|⟨v',e,ho⟩
 ·rw[e]at hk;cases hk
 rw[e]at hk;injection hk with hk;subst hk;have:=ho.lt g hg;exact⟨by omega,this.2⟩
theorem Grp.fresh{w:af}{bL n:Nat}{M:Ky->Option Value}{E:List (Ky×St)}(h:Grp w bL n M E){g:Nat}(hg:w.heap.size<=g):FreeB M g:=fun k v hk e=>by
 have:=(h.lt hk e).2;omega
theorem Grp.mono{w:af}{bL n n':Nat}{M:Ky->Option Value}{E:List (Ky×St)}(h:Grp w bL n M E)(hn:n<=n'):Grp w bL n' M E:=⟨h.map.mono hn,h.row,h.apart⟩
theorem Grp.below{w w':af}{bL n:Nat}{M:Ky->Option Value}{E:List (Ky×St)}(h:Grp w bL n M E)(hB:ae w w'):Grp w' bL n M E where
 map:=h.map.below hB
 row k:=by
  rcases h.row k with e|⟨v,e,ho⟩
  ·exact .inl e
  exact .inr ⟨v,e,own_below ho hB⟩
 apart:=h.apart
theorem grp_made(w:af):Grp (w.alloc (.map #[] 0)) w.heap.size 0 (fun _=>none) [] where
 map:=lK _ _ _ w
 row k:=.inl ⟨rfl,rfl⟩
 apart k k' v v' _ h:=by cases h
structure Stl(W:World)(M:Ky->Option Value)(w2:World)(M2:Ky->Option Value)(bL:Nat):Prop where
 size:W.heap.size<=w2.heap.size
 block:∀g,g<W.heap.size->g≠bL->FreeB M g->w2.heap[g]?=W.heap[g]?
 free:∀g,g<W.heap.size->FreeB M g->FreeB M2 g
theorem Stl.refl(W:af)(M:Ky->Option Value)(bL:Nat):Stl W M W M bL:=⟨UU _,fun _ _ _ _=>rfl,fun _ _ h=>h⟩
theorem Stl.trans{W w2 w3:af}{M M2 M3:Ky->Option Value}{bL:Nat}(h:Stl W M w2 M2 bL)(h2:Stl w2 M2 w3 M3 bL):Stl W M w3 M3 bL where
 size:=U0 h.size h2.size
 block g hg hb hf:=(h2.block g (UT hg h.size) hb (h.free g hg hf)).trans (h.block g hg hb hf)
 free g hg hf:=h2.free g (UT hg h.size) (h.free g hg hf)
theorem Stl.below{W w2:af}{M:Ky->Option Value}{bL:Nat}(hB:ae W w2):Stl W M w2 M bL:=⟨hB.size,fun g hg _ _=>hB.block g hg,fun _ _ h=>h⟩
structure Cel(w:World)(M:Ky->Option Value)(bL g o:Nat)(u:Value):Prop where
 cell:w.cell? ⟨g,o,none⟩=some u
 lt:g<w.heap.size
 free:FreeB M g
 ne:g≠bL
theorem Cel.stl{w w2:af}{M M2:Ky->Option Value}{bL g o:Nat}{u:Value}(h:Cel w M bL g o u)(hS:Stl w M w2 M2 bL):Cel w2 M2 bL g o u where
 cell:=(Vh (w:=w) (hS.block g h.lt h.ne h.free)).trans h.cell
 lt:=UT h.lt hS.size
 free:=hS.free g h.lt h.free
 ne:=h.ne
theorem Grp.step{W0 w1 w2 w3:af}{bL n:Nat}{M:Ky->Option Value}{E:List (Ky×St)}{y:Ky}{v':Value}{s:St}(h:Grp W0 bL n M E)(hg1:W0.grownBy w1 (some bL))(hown:w2.ownsRow (bL+1) 274 3 v' ((lookL E y).length+1) (iN (lookL E y)++s.cells))
  (hg2:w1.grownBy w2 ((M y).getD (.slice none 0 0)).ownBlock) (hloc:v'.ownBlock=((M y).getD (.slice none 0 0)).ownBlock\/v'.ownBlock=some w1.heap.size) (hg3:w2.grownBy w3 (some bL)) (hM:aK dV prog 94 w3 bL (n+1) (lu M y (some v'))) :
  Grp w3 bL (n+1) (lu M y (some v')) (E++[(y,s)])/\Stl W0 M w3 (lu M y (some v')) bL:=by
 have hrow0:∀k v,M k=some v->∃xs m,W0.ownsRow (bL+1) 274 3 v m xs:=fun k v hk=>by
  rcases h.row k with⟨e,-⟩|⟨v1,e,ho⟩
  ·rw[e]at hk;cases hk
  rw[e]at hk;injection hk with hk;subst hk;exact⟨_,_,ho⟩
 have hne2:∀k v,k≠y->M k=some v->v.ownBlock=none\/v.ownBlock≠((M y).getD (.slice none 0 0)).ownBlock:=fun k v hky hk=>by
  cases e:v.ownBlock with
  | none=>exact .inl rfl
  | some g =>
   right;cases ey:M y with
   | none=>simp[Value.ownBlock]
   | some vy=>intro e2;exact h.apart k y v vy hky hk ey g e (by simpa using e2.symm)
 have hnb:∀v,(∃k,M k=some v)->v.ownBlock=none\/v.ownBlock≠some bL:=fun v ⟨k,hk⟩=>by
  cases e:v.ownBlock with
  | none=>exact .inl rfl
  | some g=>right;have:=(h.lt hk e).1;intro e2;injection e2 with e2;omega
 have hnew:∀g,v'.ownBlock=some g->bL<g:=fun g e=>by have:=(hown.lt g e).1;omega
 have hv'b:v'.ownBlock=none\/v'.ownBlock≠some bL:=by
  cases e:v'.ownBlock with
  | none=>exact .inl rfl
  | some g=>right;have:=hnew g e;intro e2;injection e2 with e2;omega
 constructor
 ·refine⟨hM,fun k=>?_,fun k k' v u hkk hk hk' g e=>?_⟩
  ·by_cases ek:k=y
   ·subst ek;rw[ed,tX];refine .inr ⟨v',rfl,?_⟩;rw[Ae,U2];exact hown.kept hg3 hv'b
   rw[dw ek,qz _ _ ek];rcases h.row k with e|⟨v,e,ho⟩
   ·exact .inl e
   exact .inr ⟨v,e,((ho.kept hg1 (hnb v ⟨k,e⟩)).kept hg2 (hne2 k v ek e)).kept hg3 (hnb v ⟨k,e⟩)⟩
  by_cases ek:k=y
  ·subst ek;rw[ed]at hk;injection hk with hk;subst hk;rw[dw (Ne.symm hkk)]at hk';intro e2;rcases hloc with el|el
   ·rw[e]at el;cases ey:M k with
    | none=>rw[ey]at el;simp[Value.ownBlock]at el
    | some vy=>rw[ey]at el;exact h.apart k k' vy u hkk ey hk' g (by simpa using el.symm) e2
   rw[e]at el;injection el with el;have:=(h.lt hk' e2).2;have:=hg1.size;omega
  rw[dw ek]at hk;by_cases ek':k'=y
  ·subst ek';rw[ed]at hk';injection hk' with hk';subst hk';intro e2;rcases hloc with el|el
   ·rw[e2]at el;cases ey:M k' with
    | none=>rw[ey]at el;simp[Value.ownBlock]at el
    | some vy=>rw[ey]at el;exact h.apart k k' v vy hkk hk ey g e (by simpa using el.symm)
   rw[e2]at el;injection el with el;have:=(h.lt hk e).2;have:=hg1.size;omega
  rw[dw ek']at hk';exact h.apart k k' v u hkk hk hk' g e
 refine⟨U0 hg1.size (U0 hg2.size hg3.size),fun g hg hb hf=>?_,fun g hg hf k v hk=>?_⟩
 ·have h1:=hg1.block g hg (fun e=>hb (by injection e));have h2:=hg2.block g (UT hg hg1.size) (fun e=>by
   cases ey:M y with
   | none=>rw[ey]at e;simp[Value.ownBlock]at e
   | some vy=>rw[ey]at e;exact hf y vy ey (by simpa using e.symm))
  have h3:=hg3.block g (UT hg (U0 hg1.size hg2.size)) (fun e=>hb (by injection e));rw[h3,h2,h1]
 by_cases ek:k=y
 ·subst ek;rw[ed]at hk;injection hk with hk;subst hk;intro e2;rcases hloc with el|el
  ·rw[e2]at el;cases ey:M k with
   | none=>rw[ey]at el;simp[Value.ownBlock]at el
   | some vy=>rw[ey]at el;exact hf k vy ey (by simpa using el.symm)
  rw[e2]at el;injection el with el;have:=hg1.size;omega
 rw[dw ek]at hk;exact hf k v hk
end Go.Proofs.YtajkkeikihhejaaGreat
