/- Contract of the document's reader of a schema's lines: spec.l3Schema. -/
import Derived.Test.YtojjoblnpldniaaGreatSq
import Derived.Test.YtojjoblnpldniaaGreatJ15
import Derived.Deep.Cut
import Derived.Deep.CutRange
import Derived.Test.YtojjoblnpldniaaGreatJ16
open Go.Proofs.Tryz
set_option maxHeartbeats 80000000
namespace Go.Proofs.YtojjoblnpldniaaGreat
set_option maxRecDepth 100000
open ChangeShapes WideShapes ChangeAt RowKit Maps
open Pl
theorem dW{p:Prop}(h:p):Hid p:=h
def strOf:Value->Nat | .string b=>b.size|_=>0
def Ur(s:ByteArray)(w:World)(e:Ending)(w':World):Prop :=
 ag w w'/\((dV (s.size+1) s []=none/\e=.returned (.tuple #[.slice none 0 0,.bool false])) \/ ∃(v:Value) (rs:Q06),dV (s.size+1) s []=some (ae rs)/\e=.returned (.tuple #[v,.bool true])/\eZ w' w.heap.size v rs/\bz (ae rs)=s/\TG (ae rs))
theorem NZ{n:Nat}{rest:ByteArray}{acc:Q0b}(hn:rest.size<n)(h:rest.toList.isEmpty=true):dV n rest acc=some acc:=by
 cases n with
 | zero=>omega
 | succ n=>simp[dV,h]
theorem N7{n:Nat}{rest:ByteArray}{acc:Q0b}(hn:rest.size<n)(h:rest.toList.isEmpty=false)(hc:pg 10 rest=false):dV n rest acc=none:=by
 cases n with
 | zero=>omega
 | succ n=>simp[dV,h,hc]
theorem N8{n:Nat}{rest:ByteArray}{acc:Q0b}(hn:rest.size<n)(h:rest.toList.isEmpty=false)(hc:pg 10 rest=true)(hl:nV acc (kC 10 rest)=none):dV n rest acc=none:=by
 cases n with
 | zero=>omega
 | succ n=>simp[dV,h,hc,hl]
theorem QT{n:Nat}{rest:ByteArray}{acc a:Q0b}(hn:rest.size<n)(h:rest.toList.isEmpty=false)(hc:pg 10 rest=true)(hl:nV acc (kC 10 rest)=some a):dV n rest acc=dV (n-1) (ja 10 rest) a/\(ja 10 rest).size<n-1:=by
 have:=Ii hc;cases n with
 | zero=>omega
 | succ n=>exact⟨by simp[dV,h,hc,hl],by simp;omega⟩
theorem QU{b:ByteArray}(h:b.toList.isEmpty=true):b=⟨#[]⟩:=by
 have h2:b.toList=[]:=by simpa using h
 rw[nk]at h2;exact iU (by simpa using h2)
theorem BN:QG.toList=[116,121,112,101,32]:=by rw[nk];rfl
theorem Iy:U6.toList=[61,32]:=by rw[nk];rfl
theorem QV(w:af)(a b:Value)(t:TypeId):∀j u,[a,b][j]?=some u->(w.alloc (.cells #[a,b] t)).cell? ((⟨w.heap.size,0,none⟩:Addr).add j)=some u:=by
 intro j u hu;rw[show(⟨w.heap.size,0,none⟩:Addr).add j=⟨w.heap.size,0+j,none⟩ by simp[Addr.add];omega,VW];have:=World.cell?_alloc_mark w #[a,b] t (0,0) j;rw[this];simpa using hu
theorem QW(xs:Q06)(t t':TR)(hn:t'.name=t.name):((xs++[t]).flatMap TR.cells).set (xs.length*2+1) t'.vs=(xs++[t']).flatMap TR.cells:=by
 have hl:(xs.flatMap TR.cells).length=xs.length*2:=kr (fun _=>rfl) _;rw[WA,WA,List.set_append_right _ _ (by omega),hl];simp[TR.cells,hn]
theorem Vb(n:ByteArray)(ad:Q02)(k c:Nat):∀u∈[Value.string n,.slice ad k c],u.oneCell'=true:=by
 intro u hu;simp at hu;rcases hu with rfl|rfl<;>rfl
theorem FL(s:ByteArray)(w:af)(hs:s.size<=3000):Calls prog 188 #[.string s] w (Ur s w):=by
 obtain⟨iT0,Zg,Zh,Zi,Zj⟩:=info_parts (P:=prog) (e:=36) (z:=.agg #[.string ⟨#[]⟩,.slice none 0 0]) (size:=2) (bytes:=40) (by kernel_rfl);have HIT:Hid (prog.info? 36=some iT0/\iT0.zero=some (.agg #[.string ⟨#[]⟩,.slice none 0 0])/\iT0.size=2/\iT0.bytes=40):=⟨Zg,Zh,Zi,Zj⟩;obtain⟨iR0,ZV,zR0,zR1,zR2⟩:=info_parts (P:=prog) (e:=39) (z:=.agg #[.string ⟨#[]⟩,.slice none 0 0]) (size:=2) (bytes:=40) (by kernel_rfl);have Yo:Hid (prog.info? 39=some iR0/\iR0.zero=some (.agg #[.string ⟨#[]⟩,.slice none 0 0])/\iR0.size=2/\iR0.bytes=40):=⟨ZV,zR0,zR1,zR2⟩;obtain⟨W0,hW0⟩:=eQx (w.alloc (.cells #[] 36));have HB0:=qC hW0;have Y6:Hid (eZ W0 w.heap.size (.slice (some ⟨w.heap.size,0,none⟩) 0 0) []):=by
  show WP _ _ _ _ _ _ _ _ _;rw[hW0];exact⟨World.ownsRow_lit w #[] 0 (Vu _) (by unfold maxLen;omega) (by simp),fun q hq=>(by cases hq),fun q hq=>(by cases hq),fun x y hx=>absurd hx (by simp)⟩
 have hs5:(s.size:Int)<=50000:=by omega
 clear Zg Zh Zi Zj ZV zR0 zR1 zR2;go_enter func188,ntmps188;go_wp2;rw[<-hW0];clear hW0;go_loopw[4,5] (fun v r wr=>∃(rs:Q06) (rest:ByteArray) (n:Nat),r=.string rest/\rest.size<=3000/\Hid (eZ wr w.heap.size v rs)/\Hid (ag w wr)/\Hid (bz (ae rs)++rest=s)/\Hid (TG (ae rs))/\Hid (rest.size<n/\dV n rest (ae rs)=dV (s.size+1) s [])) (fun _ r _=>strOf r);case atStart=>exact⟨[],s,s.size+1,rfl,hs,Y6,HB0,by show _=_;exact su _,fun t ht=>(by cases ht),by omega,rfl⟩
 clear Y6 HB0;obtain⟨rs,rest,n,rfl,hrs,HM,HB,HT,HK,HN⟩:=hrel;cases he:rest.toList.isEmpty;case true=>
  have HTX:Hid (bz (ae rs)=s):=by show _=_;rw[<-HT.out,QU he,qi]
  have Yf:=dW (NZ (acc:=ae rs) HN.out.1 he);obtain⟨ad,cap,rfl,hsl,-⟩:=HM.out.read;obtain⟨k1,k2,k3,k4⟩:=rows_ok HK.out (by rw[HTX.out];exact hs);have WO:=dW (FH ad cap rs wr ⟨k1,fun r hr=>(k2 r hr).1,fun r hr=>(k2 r hr).2.1,fun r hr=>(k2 r hr).2.2⟩ hsl k3 k4);clear hsl k1 k2 k3 k4;go_wp2_with fail;refine WO.out.mono ?_;rintro e w1 ⟨hee,hb1⟩;rw[HTX.out]at hee;subst hee;have HB1:=dW (HB.out.trans (hb1.mono HB.out.size));have HM1:=dW (HM.out.below ko hb1);clear hb1 WO;go_wp2;exact bodyPost_ret (v:=.tuple #[.slice ad rs.length cap,.bool true]) (by simp[results,Tryz.results188,go_sem]) rfl ⟨HB1.out,.inr ⟨_,rs,by rw[<-HN.out.2,Yf.out],rfl,HM1.out,HTX.out,HK.out⟩⟩
 have HE:=dW he;have h500:rs.length<=500:=(rows_ok HK.out (by have:=congrArg ByteArray.size HT.out;rw[VK]at this;omega)).1;have HC:=dW (Dn rest 10 wr (by unfold maxLen;omega));go_wp2_with fail;refine HC.out.mono ?_;rintro e w1 ⟨rfl,n0,hw1⟩;have hb1:ag wr w1:=by rw[hw1];exact below_drewN (Vv _ _) n0
 have HB1:=dW (HB.out.trans (hb1.mono HB.out.size));have HM1:=dW (HM.out.below ko hb1);have hzz:=Lp 10 rest;have hza:=RB 10 rest;clear hw1 hb1 HC HM HB;cases hc:pg 10 rest;case false=>
  have Yp:=dW (N7 (acc:=ae rs) HN.out.1 HE.out hc);go_wp2;exact bodyPost_ret (v:=.tuple #[.slice none 0 0,.bool false]) (by simp[results,Tryz.results188,go_sem]) rfl ⟨HB1.out,.inl ⟨by rw[<-HN.out.2,Yp.out],rfl⟩⟩
 have HCF:=dW hc;have HJ:=dW (BH hc);have hless:=Ii hc;obtain⟨line,hline⟩:=eQx (kC 10 rest);obtain⟨more,hmore⟩:=eQx (ja 10 rest);rw[<-hline,<-hmore]at HJ;rw[<-hmore]at hzz hless;rw[<-hline]at hza;rw[<-hline,<-hmore];have ZM:=dW hline;have HMO:=dW hmore;clear hline hmore hc;have HON:Hid (∀a,nV (ae rs) line=some a->dV (n-1) more a=dV (s.size+1) s []/\more.size<n-1/\bz a++more=s/\TG a):=fun a ha=>by
  have h1:=QT (acc:=ae rs) HN.out.1 HE.out HCF.out (by rw[<-ZM.out];exact ha);rw[<-HMO.out]at h1;refine⟨by rw[<-h1.1,HN.out.2],h1.2,?_,Sz ha HK.out⟩;rw[NR ha,V5];have h2:=HT.out;rw[HJ.out]at h2;exact h2
 have HOFF:Hid (nV (ae rs) line=none->dV (s.size+1) s []=none):=fun ha=>by
  have h1:=N8 (acc:=ae rs) HN.out.1 HE.out HCF.out (by rw[<-ZM.out];exact ha);rw[<-HN.out.2,h1]
 cases ht:BF line;case true=>
  have hl5:5<line.size:=by unfold BF at ht;simp only[Vw,VH]at ht;exact ht.1
  have hty:((line.extract 0 5).toList==[116,121,112,101,32])=true:=by unfold BF at ht;simp only[Vw]at ht;rw[<-BN];exact ht.2
  have hd5:decide ((5:Int)<(line.size:Int))=true:=by simp;omega
  have HLP:Hid (nV (ae rs) line=some (ae (rs++[⟨line.extract 5 line.size,[],none,0⟩]))):=by show _=_;unfold nV;rw[ht];simp[ae,TR.p,bQ]
  clear ht;obtain⟨nm,hnm⟩:=eQx (line.extract 5 line.size);obtain⟨W2,hW2⟩:=eQx (w1.alloc (.cells #[.string nm,.slice none 0 0] 36));have hb2:ag w1 W2:=by rw[hW2];exact(Vv _ _).alloc (Vu _) _
  have Xl:=dW (HM1.out.below ko hb2);have HB2:=dW (HB1.out.trans (hb2.mono HB1.out.size));have XM:Hid (∀j u,[Value.string nm,.slice none 0 0][j]?=some u->W2.cell? ((⟨w1.heap.size,0,none⟩:Addr).add j)=some u):=by show ∀j u,_;rw[hW2];exact QV w1 _ _ _
  rw [<-hnm]at HLP;rw [hnm]at hW2;clear hb2 hnm;go_wp2_with (at_builtin;rw [<-hW2];clear hW2;refine wpList_append_own_at _ rfl _ _ 24 rfl w.heap.size 36 iT0 (.agg #[.string ⟨#[]⟩,.slice none 0 0]) 2 40 underlying24 HIT.out.1 HIT.out.2.1 HIT.out.2.2.1 HIT.out.2.2.2 rfl (by decide) u4 _ (rs.flatMap TR.cells) rfl Xl.out.own ⟨w1.heap.size,0,none⟩ 1 1 [.string nm,.slice none 0 0] rfl rfl XM.out (Vb _ _ _ _) (by unfold maxLen;omega) (by omega) HB2.out.size ?_);intro v3 w3 hown3 hgr3 _ hat3;have HM3:Hid (eZ w3 w.heap.size v3 (rs++[⟨nm,[],none,0⟩])):=Xl.out.snoc ko (q:=⟨nm,[],none,0⟩) hown3 hgr3 (by
    rcases hat3 with e|e
    ·exact .inl e
    ·exact .inr ⟨_,e,Vu _⟩) (mI W2 w.heap.size) (fun g hg=>by
    rcases hg with hg|⟨q,hq,-⟩
    ·simp[TR.vs,Value.ownBlock]at hg
    ·cases hq) (fun p hp g hg hg2=>by
    rcases hg2 with hg2|⟨q,hq,-⟩
    ·simp[TR.vs,Value.ownBlock]at hg2
    cases hq)
  have HB3:Hid (ag w w3):=HB2.out.grown hgr3 HB2.out.size (fun g hg=>(Xl.out.own.lt g hg).1);obtain⟨o1,o2,o3,o4⟩:=HON.out _ HLP.out;have HO:=dW (And.intro o2 o1);have Xv:=dW o3;have Xr:=dW o4;clear hown3 hgr3 hat3 o1 o2 o3 o4 Xl HB2 XM hty hd5;go_wp2;go_roundw;case rel=>exact⟨_,more,n-1,rfl,by omega,HM3,HB3,Xv,Xr,HO⟩
  simp only[strOf];exact hless
 have HTY:=dW ht;have h58:(5<line.size/\decide ((5:Int)<(line.size:Int))=true/\((line.extract 0 5).toList==[116,121,112,101,32])=false)\/decide ((5:Int)<(line.size:Int))=false:=by
  by_cases h5:5<line.size
  ·left;refine⟨h5,by simp;omega,?_⟩;unfold BF at ht;rw[decide_eq_true h5,Bool.true_and,BN]at ht;exact ht
  right;simp;omega
 have Xk:=dW (Dn line 32 w1 (by unfold maxLen;omega));obtain⟨YY,cap4,hv4,hsl4,-⟩:=eZ.read HM1.out;subst hv4;clear ht hsl4;rcases h58 with⟨hl5,hd5,hty⟩|hd5
 all_goals (
  go_wp2_with fail;refine Xk.out.mono ?_;rintro e w2 ⟨rfl,n1,hw2⟩;have hb2:ag w1 w2:=by rw[hw2];exact below_drewN (Vv _ _) n1
  have HB2:=dW (HB1.out.trans (hb2.mono HB1.out.size));have Xl:=dW (HM1.out.below ko hb2);have hzt:=Lp 32 line;obtain⟨nm,hnm⟩:=eQx (kC 32 line);obtain⟨tl,htl⟩:=eQx (ja 32 line);rw[<-htl]at hzt;rw[<-hnm,<-htl];have HLP:Hid (nV (ae rs) line=if !(ae rs).isEmpty&&yR tl&&mY (tl.extract 2 tl.size) then some (FE (ae rs) ⟨nm,(kP (tl.extract 2 tl.size)).out⟩) else none):=by show _=_;unfold nV Ec;rw[HTY.out,hnm,htl];rfl
  clear hw2 hb2 Xk HM1 HB1 hnm htl;by_cases hz:rs=[]
  ·subst hz;have Yp:Hid (dV (s.size+1) s []=none):=HOFF.out (by rw[HLP.out];rfl);go_wp2;exact bodyPost_ret (v:=.tuple #[.slice none 0 0,.bool false]) (by simp[results,Tryz.results188,go_sem]) rfl ⟨HB2.out,.inl ⟨Yp.out,rfl⟩⟩
  obtain⟨xs,t,hxt⟩:∃xs t,rs=xs++[t]:=⟨rs.dropLast,rs.getLast hz,(List.dropLast_concat_getLast hz).symm⟩;have Yz:=dW hxt;have hlx:rs.length=xs.length+1:=by rw[hxt];simp
  have HNE:Hid ((!(ae rs).isEmpty)=true):=by show _=_;rw[hxt];simp[ae]
  obtain⟨b4,had4⟩:∃b4,YY=some ⟨b4,0,none⟩:=by
   rcases Xl.out.own.2 with⟨-,h0⟩|⟨g,cap,cur,e,-⟩
   ·exact absurd (VM.1 h0) hz
   injection e with e1 e2 e3;exact⟨g,e1⟩
  subst had4;have hcell:=Xl.out.own.cellAt (xs.length*2+1) (by omega);rw[l6 (fun _=>rfl) rs xs.length (by omega) 1 (by omega)]at hcell;have htx:rs[xs.length]'(by omega)=t:=by subst hxt;simp
  rw[htx]at hcell;have hcl:w2.cell? ⟨b4,xs.length*2+1,none⟩=some (.slice t.ad t.rows.length t.cap):=hcell;have HCL:=dW hcl;have hn0:(0:Int)<=(xs.length:Int):=by omega
  have hn1:(xs.length:Int)<(xs.length:Int)+1:=by omega
  have HLX:=dW hlx;have hx500:xs.length<500:=by omega
  have h500':=h500;rw[hlx];clear hz hxt hlx hcell htx hcl h500;by_cases h2:tl.size<2
  ·have hd2:decide ((tl.size:Int)<2)=true:=by simp;omega
   have Yp:Hid (dV (s.size+1) s []=none):=HOFF.out (by rw[HLP.out];simp[yR];omega);go_wp2;exact bodyPost_ret (v:=.tuple #[.slice none 0 0,.bool false]) (by simp[results,Tryz.results188,go_sem]) rfl ⟨HB2.out,.inl ⟨Yp.out,rfl⟩⟩
  have hd2:decide ((tl.size:Int)<2)=false:=by simp;omega
  have h22:2<=tl.size:=by omega
  cases hq:(tl.extract 0 2).toList==[61,32];case false=>
   have hq2:(!(tl.extract 0 2).toList==[61,32])=true:=by rw[hq];rfl
   have Yp:Hid (dV (s.size+1) s []=none):=HOFF.out (by rw[HLP.out];unfold yR;rw[Iy,hq];simp);go_wp2;exact bodyPost_ret (v:=.tuple #[.slice none 0 0,.bool false]) (by simp[results,Tryz.results188,go_sem]) rfl ⟨HB2.out,.inl ⟨Yp.out,rfl⟩⟩
  have hq2:(!(tl.extract 0 2).toList==[61,32])=false:=by rw[hq];rfl
  have HTB:Hid (yR tl=true):=by show _=_;unfold yR;rw[Iy,hq,decide_eq_true h22];rfl
  have HRE:=dW (xR (tl.extract 2 tl.size) w2);go_wp2_with fail;refine HRE.out.mono ?_;rintro e w3 ⟨hb3,hcase⟩;have HB3:=dW (HB2.out.trans (hb3.mono HB2.out.size));have HM3:=dW (Xl.out.below ko hb3);have h23:w2.heap.size<=w3.heap.size:=hb3.size;have HLT2:Hid (∀g,AA iT (.slice (some ⟨b4,0,none⟩) rs.length cap4) rs g->g<w2.heap.size):=fun g hg=>(Xl.out.lt ko hg).2;have hc3:w3.cell? ⟨b4,xs.length*2+1,none⟩=some (.slice t.ad t.rows.length t.cap):=(hb3.cell (p:=⟨b4,xs.length*2+1,none⟩) (Xl.out.own.lt b4 rfl).2).trans HCL.out;rcases hcase with⟨hrb,rfl⟩|⟨hrb,v,R,qs,rfl,hF⟩
  ·have Yp:Hid (dV (s.size+1) s []=none):=HOFF.out (by rw[HLP.out,hrb];simp);clear hb3 hc3 Xl HB2 HRE;go_wp2;exact bodyPost_ret (v:=.tuple #[.slice none 0 0,.bool false]) (by simp[results,Tryz.results188,go_sem]) rfl ⟨HB3.out,.inl ⟨Yp.out,rfl⟩⟩
  obtain⟨WW,capE,hvE⟩:∃WW capE,v=.slice WW qs.length capE:=by
   obtain⟨a1,a2,a3,-⟩:=hF.slE;exact⟨a1,a2,a3⟩
  subst hvE;have HNOD:=dW (hF.nod);have HEX:=dW hF.out;have ZW:=dW hrb;obtain⟨W5,YG⟩:=eQx (w3.alloc (.cells #[.string nm,.slice WW qs.length capE] 39));have hb5:ag w3 W5:=by rw[YG];exact(Vv _ _).alloc (Vu _) _
  have HM5:=dW (HM3.out.below ko hb5);have Xg:=dW (HB3.out.trans (hb5.mono HB3.out.size));have XM:Hid (∀j u,[Value.string nm,.slice WW qs.length capE][j]?=some u->W5.cell? ((⟨w3.heap.size,0,none⟩:Addr).add j)=some u):=by show ∀j u,_;rw[YG];exact QV w3 _ _ _
  obtain⟨q,hqd⟩:∃q:RR,q=⟨nm,qs,WW,capE⟩:=⟨_,rfl⟩;have HQD:=dW hqd;have hkq3:kR w3 (w2.heap.size+1) q:=by rw[hqd];exact HNOD.out
  have hIq:∀g,iR q g->w2.heap.size+1<=g:=fun g hg=>(qF.lt w3 _ q hkq3 g hg).1;have hkq5:kR W5 w.heap.size q:=qF.heap w3 W5 w.heap.size q (hkq3.mono (by have:=HB2.out.size;omega)) hb5.size (fun g hg=>hb5.block g (qF.lt w3 _ q hkq3 g hg).2);have HIQ:=dW hIq;have W5_ge:Hid (w2.heap.size<=W5.heap.size):=Vz h23 hb5.size;have HKQ:=dW hkq5;have HKT:Hid (kT W5 w.heap.size t):=HM5.out.kid t (by rw[Yz.out];simp);have HTLT:Hid (∀g,iT t g->g<w2.heap.size):=fun g hg=>HLT2.out g (.inr ⟨t,by rw[Yz.out];simp,hg⟩);have ht750:t.rows.length<=750:=((rows_ok HK.out (by have:=congrArg ByteArray.size HT.out;rw[VK]at this;omega)).2.1 t (by rw[Yz.out];simp)).1;have hc5:W5.cell? ⟨b4,xs.length*2+1,none⟩=some (.slice t.ad t.rows.length t.cap):=(hb5.cell (p:=⟨b4,xs.length*2+1,none⟩) (Vt (Xl.out.own.lt b4 rfl).2 h23)).trans hc3;have HC5:=dW hc5;have hfz:W5.frozen? ⟨b4,xs.length*2+1,none⟩=false:=HM5.out.own.frozenAt _;have HFZ:=dW hfz;clear hb3 hF hrb hkq3 hkq5 hIq hqd hc5 hb5 Xl HB2 HRE HM3 HB3 HNOD hfz;go_wp2_with(at_builtin;rw[<-YG];clear YG;refine wpList_append_own_at _ rfl _ _ 34 rfl w.heap.size 39 iR0 (.agg #[.string ⟨#[]⟩,.slice none 0 0]) 2 40 underlying34 Yo.out.1 Yo.out.2.1 Yo.out.2.2.1 Yo.out.2.2.2 rfl (by decide) (.slice t.ad t.rows.length t.cap) _ (t.rows.flatMap RR.cells) rfl HKT.out.own ⟨w3.heap.size,0,none⟩ 1 1 [.string nm,.slice WW qs.length capE] rfl rfl XM.out (Vb _ _ _ _) (by unfold maxLen;omega) (by omega) Xg.out.size ?_);intro v6 w6 hown6 hgr6 _ hat6;obtain⟨g6,c6,hv6⟩:=fT hown6;subst hv6;have hqv:q.vs=.slice WW qs.length capE:=by rw[HQD.out];rfl
  have hneb:some b4≠(Value.slice t.ad t.rows.length t.cap).ownBlock:=fun e=>HM5.out.head t (by rw[Yz.out];simp) b4 (.inl e.symm) rfl;have hc6:w6.cell? ⟨b4,xs.length*2+1,none⟩=some (.slice t.ad t.rows.length t.cap):=hgr6.cell HC5.out hneb;have hf6:w6.frozen? ⟨b4,xs.length*2+1,none⟩=false:=(World.frozen?_of_block (w:=W5) (a:=⟨b4,xs.length*2+1,none⟩) (hgr6.block b4 (HM5.out.own.lt b4 rfl).2 hneb)).trans HFZ.out;obtain⟨t',ht'⟩:∃t':TR,t'=⟨t.name,t.rows++[q],some ⟨g6,0,none⟩,c6⟩:=⟨_,rfl⟩;have hvt':t'.vs=.slice (some ⟨g6,0,none⟩) (t.rows.length+1) c6:=by rw[ht'];simp[TR.vs]
  have hkt':kT w6 w.heap.size t':=by
   have h1:jX w6 w.heap.size (.slice (some ⟨g6,0,none⟩) (t.rows.length+1) c6) (t.rows++[q]):=HKT.out.snoc qF (q:=q) (by
     rw[show RR.cells q=[.string nm,.slice WW qs.length capE] by unfold RR.cells;rw[hqv,HQD.out]];exact hown6) hgr6 (by
     rcases hat6 with e|e
     ·exact .inl e
     ·exact .inr ⟨_,e,Vu _⟩) HKQ.out (fun g hg e=>by
     have h2:=HTLT.out g (.inl e);have h3:=HIQ.out g hg;omega) (fun p hp g hg hg2=>by
     have h2:=HTLT.out g (.inr ⟨p,hp,hg⟩);have h3:=HIQ.out g hg2;omega)
   unfold kT;rw[hvt',ht'];exact h1
  have hI':∀g,iT t' g->iT t g\/(g≠b4/\∀p∈xs,¬iT p g):=fun g hg=>by
   have ZO:w2.heap.size<=g->g≠b4/\∀p∈xs,¬iT p g:=fun hge=>⟨fun e=>by
     have:=HLT2.out b4 (.inl rfl);omega,fun p hp hi=>by
     have:=HLT2.out g (.inr ⟨p,by rw[Yz.out];simp[hp],hi⟩);omega⟩
   rcases hg with hg|⟨p,hp,hg⟩
   ·rw[hvt']at hg;rcases hat6 with e|e
    ·exact .inl (.inl (e.symm.trans hg))
    rw[e]at hg;injection hg with hg;exact .inr (ZO (by have:=W5_ge.out;omega))
   rw[ht']at hp;rcases VJ.1 hp with hp|hp
   ·exact .inl (.inr ⟨p,hp,hg⟩)
   rw[VO]at hp;subst hp;exact .inr (ZO (by have:=HIQ.out g hg;omega))
  have HM7:Hid (eZ (w6.setCell ⟨b4,xs.length*2+1,none⟩ (.slice (some ⟨g6,0,none⟩) (t.rows.length+1) c6)) w.heap.size (.slice (some ⟨b4,0,none⟩) (xs.length+1) cap4) (xs++[t'])):=by
   have hM:=HM5.out;rw[HLX.out,Yz.out]at hM;refine WP.last ko hM rfl hgr6 (fun r hr=>.inl hr) hkt' hI' ?_;rw[<-hvt',show t'.vs=t'.vs from rfl];exact QW xs t t' (by rw[ht'])
  have HB7:Hid (ag w (w6.setCell ⟨b4,xs.length*2+1,none⟩ (.slice (some ⟨g6,0,none⟩) (t.rows.length+1) c6))):=(Xg.out.grown hgr6 Xg.out.size (fun g hg=>(HKT.out.own.lt g hg).1)).setCell (HM5.out.own.lt b4 rfl).1 _;have HTY7:Hid (nV (ae rs) line=some (ae (xs++[t']))):=by
   show _=_;rw[HLP.out,HNE.out,HTB.out,ZW.out,Yz.out,ht'];simp only[Bool.and_true,if_true];rw[show ae (xs++[t])=ae xs++[t.p] by simp[ae],rH];simp[ae,TR.p,bQ,RR.p,HQD.out,HEX.out]
  obtain⟨o1,o2,o3,o4⟩:=HON.out _ HTY7.out;have HO:=dW (And.intro o2 o1);have Xv:=dW o3;have Xr:=dW o4;clear hown6 hgr6 hat6 o1 o2 o3 o4 hkt' hI' hvt' ht' hqv hneb HM5 Xg HKT HKQ;go_wp2;go_roundw;case rel=>exact⟨_,more,n-1,rfl,by omega,HM7,HB7,Xv,Xr,HO⟩
  simp only[strOf];exact hless)
def Us(s:ByteArray)(w:World)(e:Ending)(w':World):Prop :=
 ag w w'/\(((∀T,dV (s.size+1) s []=some T->aD T=false)/\e=.returned (.tuple #[.slice none 0 0,.bool false])) \/ ∃(v:Value) (rs:Q06),aD (ae rs)=true/\e=.returned (.tuple #[v,.bool true])/\eZ w' w.heap.size v rs/\bz (ae rs)=s/\TG (ae rs))
theorem rJ(s:ByteArray)(w:af)(hs:s.size<=3000):Calls prog 113 #[.string s] w (Us s w):=by
 have HL:=dW (FL s w hs);go_enter func113,ntmps113;go_wp2_with fail;refine HL.out.mono ?_;rintro e w1 ⟨hb1,hcase⟩;have HB1:=dW hb1;rcases hcase with⟨hno,rfl⟩|⟨v,rs,hyes,rfl,hM,htx,hok⟩
 ·have Yp:Hid (∀T,dV (s.size+1) s []=some T->aD T=false):=fun T hT=>by rw[hno]at hT;cases hT
  clear hb1 hno HL;go_wp2;exact bodyPost_ret (v:=.tuple #[.slice none 0 0,.bool false]) (by simp[results,Tryz.results113,go_sem]) rfl ⟨HB1.out,.inl ⟨Yp.out,rfl⟩⟩
 obtain⟨ad,cap,hv,hsl,-⟩:=eZ.read hM;subst hv;obtain⟨k1,k2,k3,k4⟩:=rows_ok hok (by rw[htx];exact hs);have HM:=dW hM;have HTX:=dW htx;have Xc:=dW hok;have HY:=dW hyes;have HSO:=dW (fV ad cap rs w1 (by omega) hsl k3 k4);clear hb1 hM htx hok hyes hsl k1 k2 k3 k4 HL;go_wp2_with fail;refine HSO.out.mono ?_;rintro e w2 ⟨he,hb2⟩;have HB2:=dW (HB1.out.trans (hb2.mono HB1.out.size));have Xl:=dW (HM.out.below ko hb2);clear hb2 HSO HM;cases hd:aD (ae rs);case false=>
  rw[hd]at he;subst he;have Yp:Hid (∀T,dV (s.size+1) s []=some T->aD T=false):=fun T hT=>by rw[HY.out]at hT;injection hT with hT;rw[<-hT];exact hd
  clear hd;go_wp2;exact bodyPost_ret (v:=.tuple #[.slice none 0 0,.bool false]) (by simp[results,Tryz.results113,go_sem]) rfl ⟨HB2.out,.inl ⟨Yp.out,rfl⟩⟩
 rw[hd]at he;subst he;have HD:=dW hd;clear hd;go_wp2;exact bodyPost_ret (v:=.tuple #[.slice ad rs.length cap,.bool true]) (by simp[results,Tryz.results113,go_sem]) rfl ⟨HB2.out,.inr ⟨_,rs,HD.out,rfl,Xl.out,HTX.out,Xc.out⟩⟩
set_option linter.unusedVariables false
theorem FM{t:ByteArray}{x y z c:UInt8}(h:t.data.toList.take 10=[116,121,112,101,32,x,y,z,10,c])(h1:x≠10)(h2:y≠10)(h3:z≠10)(h4:c≠116):Pre t:=by
 refine⟨x,y,z,c,t.data.toList.drop 10,?_,h1,h2,h3,h4⟩
 conv=>lhs;rw[<-List.take_append_drop 10 t.data.toList,h]
 rfl
theorem QX{t:ByteArray}(h:Pre t):10<=t.size:=by
 obtain⟨x,y,z,c,tl,e,-⟩:=h;have h2:t.size=t.data.toList.length:=by simp
 rw[h2,e];simp
theorem wR{w:af}{base base' size n:Nat}{e:TypeId}{v:Value}{xs:Q03}(h:w.ownsRow base e size v n xs)(hb:base'<=base):w.ownsRow base' e size v n xs:=by
 refine⟨h.1,?_⟩;rcases h.2 with hl|⟨g,cap,cur,rfl,h1,h2⟩
 ·exact .inl hl
 exact .inr ⟨g,cap,cur,rfl,Vz hb h1,h2⟩
theorem jX.lower{w:af}{base base':Nat}{v:Value}{rs:Q07}(h:jX w base v rs)(hb:base'<=base):jX w base' v rs:=⟨wR h.own hb,fun q hq=>NodM.mono (h.kid q hq) hb,h.head,h.two⟩
theorem WP.lower{w:af}{base base':Nat}{v:Value}{rs:Q06}(h:eZ w base v rs)(hb:base'<=base):eZ w base' v rs:=⟨wR h.own hb,fun q hq=>jX.lower (h.kid q hq) hb,h.head,h.two⟩
def Iz(w wc:World)(v:Value)(rs:Q06):Prop:=eZ wc w.heap.size v rs/\aD (ae rs)=true/\Pre (bz (ae rs))/\TG (ae rs)/\(bz (ae rs)).size<=2000
theorem Iz.only{w wc wd:af}{R:Nat}{v:Value}{rs:Q06}(h:Iz w wc v rs)(hR:R<w.heap.size)(ho:Only R wc wd):Iz w wd v rs :=
 ⟨h.1.heap ko ho.size fun g hg=>ho.block g (h.1.lt ko hg).2 (fun e=>by injection e with e;have:=(h.1.lt ko hg).1;omega),h.2⟩
def GoodS(rs:Q06):Prop:=rs.length<=500/\(∀r∈rs,r.light)/\∀r∈rs,r.fits
theorem Iz.good{w wc:af}{v:Value}{rs:Q06}(h:Iz w wc v rs):GoodS rs/\eZ wc w.heap.size v rs:=by
 obtain⟨k1,-,k3,k4⟩:=rows_ok h.2.2.2.1 (by have:=h.2.2.2.2;omega);exact⟨⟨k1,k3,k4⟩,h.1⟩
theorem QY:(⟨#[122,111,111]⟩:ByteArray).size<=maxLen:=by
 have e:(⟨#[122,111,111]⟩:ByteArray).size=3:=rfl;rw[e];unfold maxLen;omega
theorem KN{t:TR}{ts:Q06}(h:GoodS (t::ts)):GoodS (({ t with name:=⟨#[122,111,111]⟩ }:TR)::ts):=by
 obtain⟨h1,h2,h3⟩:=h;refine⟨by simpa using h1,fun r hr=>?_,fun r hr=>?_⟩
 ·rcases VL.1 hr with rfl|hr
  ·exact h2 t (by simp)
  exact h2 r (by simp[hr])
 rcases VL.1 hr with rfl|hr
 ·obtain⟨a1,a2,a3⟩:=h3 t (by simp);exact⟨QY,a2,a3⟩
 exact h3 r (by simp[hr])
theorem N9{t:TR}{ts:Q06}{q:RR}{qs:Q07}{y:ER}{ys:Q08}(k:Int)(h:GoodS (t::ts))(hq:t.rows=q::qs)(hy:q.rows=y::ys):GoodS (t.asK q qs y ys k::ts):=by
 obtain⟨h1,h2,h3⟩:=h;refine⟨by simpa using h1,fun r hr=>?_,fun r hr=>?_⟩
 ·rcases VL.1 hr with rfl|hr
  ·obtain⟨a1,a2⟩:=h2 t (by simp);rw[hq]at a1 a2;refine⟨by simpa[TR.asK] using a1,fun p hp=>?_⟩;rcases VL.1 hp with rfl|hp
   ·obtain⟨b1,b2⟩:=a2 q (by simp);rw[hy]at b1 b2;refine⟨by simpa using b1,fun z hz=>?_⟩;rcases VL.1 hz with rfl|hz
    ·exact b2 y (by simp)
    exact b2 z (by simp[hz])
   exact a2 p (by simp[hp])
  exact h2 r (by simp[hr])
 rcases VL.1 hr with rfl|hr
 ·obtain⟨a0,a1,a2⟩:=h3 t (by simp);rw[hq]at a1 a2;refine⟨a0,by simpa[TR.asK] using a1,fun p hp=>?_⟩;rcases VL.1 hp with rfl|hp
  ·obtain⟨b0,b1,b2⟩:=a2 q (by simp);rw[hy]at b1 b2;refine⟨b0,by simpa using b1,fun z hz=>?_⟩;rcases VL.1 hz with rfl|hz
   ·exact b2 y (by simp)
   exact b2 z (by simp[hz])
  exact a2 p (by simp[hp])
 exact h3 r (by simp[hr])
def Ut(R:Nat)(ad:Q02)(len cap:Nat)(w:World)(e:Ending)(w':World):Prop:=∃(v:Value) (rs:Q06),e=.returned v/\eZ w' w.heap.size v rs/\GoodS rs/\Rd w' R ad len cap/\Only R w w'
def TI(R:Nat)(w:World)(v:Value):Nat×Nat->Prop
 | (0,n)=>∃g,v=.slice (some ⟨g,0,none⟩) n n/\sQ w R g n 70
 | (1,_)=>v=.pointer (some ⟨R,0,none⟩)
 | (2,n)=>∃x:Nat,v=.int .i64 (x:Int)/\x<n
 | (3,n)=>∃g x,v=.pointer (some ⟨g,x,none⟩)/\x<n/\sQ w R g n 70
 | (4,n)=>∃t:ByteArray,v=.string t/\t.size<=n
 | (_,n)=>∃t:ByteArray,v=.string t/\Pre t/\t.size<=n
theorem TI.only{R:Nat}{w w':af}{v:Value}(h:Only R w w')(k:Nat×Nat)(hk:TI R w v k):TI R w' v k:=by
 match k,hk with
 | (0,n),hk=>obtain⟨g,e,hs⟩:=hk;exact⟨g,e,hs.only h⟩
 | (1,n),hk=>exact hk
 | (2,n),hk=>exact hk
 | (3,n),hk=>obtain⟨g,x,e,hx,hs⟩:=hk;exact⟨g,x,e,hx,hs.only h⟩
 | (4,n),hk=>exact hk
 | (n+5,m),hk=>exact hk
def Vr:List (Nat×Nat):=[(0,2),(1,0),(2,2),(3,2),(4,70),(5,200),(5,240),(0,3),(1,0),(2,3),(3,3),(4,70),(5,320),(5,420)]
theorem BO(R:Nat)(ad:Q02)(len cap:Nat)(w:af)(h:Rd w R ad len cap):
  Calls prog 89 #[.pointer (some ⟨R,0,none⟩)] w (Ut R ad len cap w):=by
 have H:=jV h;have hRw:=h.lt;clear h;go_enter func89,ntmps89;go_wp2_with fail;refine bC 14 _ _ (fun k v w'=>TI R w' v (Vr.getD k (9,0))) (fun w'=>Rd w' R ad len cap/\Only R w w') (by kernel_rfl) rfl (by kernel_rfl) (by kernel_rfl) (yt [(7,[0,1,2,3,4,5,6,7,8,9,10,11,12,13])]) ⟨H.out.below ((Vv _ _).drew),(Only.refl R w).drewN 1⟩ ?step ?fin<;>dsimp only[wY];case step =>
  rintro i hi o ho f w' ⟨hR',XF⟩ hpre;have HR:=az hR';have HO:=az XF;have hRl:R<w'.heap.size:=hR'.lt;have HM:Hid (∀e∈o.after,Region.binds .any e=true->_):=hpre;clear hR' XF hpre;have hc:=OG (i:=i) (by omega);clear hi
  repeat' rcases hc with rfl|hc
  ·cases ho;have K1:Hid (Only R w' (w'.alloc (.cells #[.string ⟨#[116,104,105,115,40,117,115,101,114,41]⟩,.string ⟨#[116,104,105,115,40,117,115,101,114,41,32,124,32,112,97,114,101,110,116,45,62,111,119,110,101,114]⟩] 9))):=(Only.refl R w').alloc _;refine aa rfl fun K HK=>?_;clear HM;dsimp only;go_simp;exact HK.out _ _ ⟨.slice (some ⟨w'.heap.size,0,none⟩) 2 2,by simp[upd],⟨HR.out.alloc _,HO.out.alloc _⟩,⟨_,rfl,mH w' R 70 hRl (xs:=[_,_]) (by decide)⟩,fun k u hu=>TI.only K1.out _ hu⟩
  ·cases ho;refine aa rfl fun K HK=>?_;clear HM;dsimp only;go_simp;exact HK.out _ _ ⟨Value.pointer (some ⟨R,0,none⟩),by simp[upd],⟨HR.out,HO.out⟩,rfl,fun k u hu=>hu⟩
  ·cases ho;have e1:f 1=Value.pointer (some ⟨R,0,none⟩):=HM.out ⟨1,.data⟩ (by simp) rfl;refine aa rfl fun K HK=>?_;clear HM;simp only[e1];go_simp;refine(ig R ad len cap 2 _ HR.out (by omega) (by omega)).mono ?_;rintro e w5 ⟨⟨x,rfl,hx⟩,Xz,XV⟩;have XE:=jV Xz;have Xa:=jV XV;clear Xz XV;go_wp2_with fail;exact HK.out _ _ ⟨.int .i64 (x:Int),by simp[upd,e1],⟨XE.out,HO.out.trans Xa.out⟩,⟨x,rfl,hx⟩,fun k u hu=>TI.only Xa.out _ hu⟩
  ·cases ho;obtain⟨g,e1,hS⟩:=HM.out ⟨0,.data⟩ (by simp) rfl;obtain⟨x,e2,hx⟩:=HM.out ⟨2,.data⟩ (by simp) rfl;replace e1:f 0=_:=e1;replace e2:f 2=_:=e2;have HS:=az hS;clear hS;have hx0:=bI x;have hx1:(x:Int)<2:=by omega
   refine aa rfl fun K HK=>?_;clear HM;simp only[e1,e2];go_simp;exact HK.out _ _ ⟨.pointer (some ⟨g,x,none⟩),by simp[upd,e1,e2],⟨HR.out,HO.out⟩,⟨g,x,rfl,hx,HS.out⟩,fun k u hu=>hu⟩
  ·cases ho;obtain⟨g,x,e1,hx,hS⟩:=HM.out ⟨3,.data⟩ (by simp) rfl;replace e1:f 3=_:=e1;obtain⟨t,hcell,ht⟩:=hS.2.2 x hx;clear hS;refine aa rfl fun K HK=>?_;clear HM;simp only[e1];go_simp;exact HK.out _ _ ⟨.string t,by simp[upd,e1],⟨HR.out,HO.out⟩,⟨t,rfl,ht⟩,fun k u hu=>hu⟩
  ·cases ho;obtain⟨t,e1,ht⟩:=HM.out ⟨4,.data⟩ (by simp) rfl;replace e1:f 4=_:=e1;have hc0:(⟨#[116,121,112,101,32,100,111,99,10,98,97,110,110,101,100,32,61,32,116,104,105,115,40,117,115,101,114,41,10,101,100,105,116,111,114,32,61,32,116,104,105,115,40,117,115,101,114,41,32,124,32,111,119,110,101,114,10,111,119,110,101,114,32,61,32]⟩:ByteArray).size=65:=rfl;have hz:(9223372036854775807<65+t.size)=False:=by simp;omega
   refine aa rfl fun K HK=>?_;clear HM;simp only[e1];go_simp;exact HK.out _ _ ⟨.string ((⟨#[116,121,112,101,32,100,111,99,10,98,97,110,110,101,100,32,61,32,116,104,105,115,40,117,115,101,114,41,10,101,100,105,116,111,114,32,61,32,116,104,105,115,40,117,115,101,114,41,32,124,32,111,119,110,101,114,10,111,119,110,101,114,32,61,32]⟩:ByteArray)++t),by simp[upd,e1],⟨HR.out,HO.out⟩,⟨_,rfl,(FM (x:=100) (y:=111) (z:=99) (c:=98) (by rfl) (by decide) (by decide) (by decide) (by decide)).app t,by rw[VK,hc0];omega⟩,fun k u hu=>hu⟩
  ·cases ho;obtain⟨t,e1,hp,ht⟩:=HM.out ⟨5,.data⟩ (by simp) rfl;replace e1:f 5=_:=e1;have HPRE:=jV hp;have hc0:(⟨#[10,112,97,114,101,110,116,32,61,32,116,104,105,115,40,100,111,99,41,10,118,105,101,119,101,114,32,61,32]⟩:ByteArray).size=29:=rfl;have hz:(9223372036854775807<t.size+29)=False:=by simp;omega
   refine aa rfl fun K HK=>?_;clear HM hp;simp only[e1];go_simp;exact HK.out _ _ ⟨.string (t++(⟨#[10,112,97,114,101,110,116,32,61,32,116,104,105,115,40,100,111,99,41,10,118,105,101,119,101,114,32,61,32]⟩:ByteArray)),by simp[upd,e1],⟨HR.out,HO.out⟩,⟨_,rfl,HPRE.out.app _,by rw[VK,hc0];omega⟩,fun k u hu=>hu⟩
  ·cases ho;have K1:Hid (Only R w' (w'.alloc (.cells #[.string ⟨#[116,104,105,115,40,117,115,101,114,44,103,114,111,117,112,35,109,101,109,98,101,114,41,32,124,32,101,100,105,116,111,114,32,124,32,112,97,114,101,110,116,45,62,118,105,101,119,101,114]⟩,.string ⟨#[40,116,104,105,115,40,117,115,101,114,44,103,114,111,117,112,35,109,101,109,98,101,114,41,32,124,32,101,100,105,116,111,114,32,124,32,112,97,114,101,110,116,45,62,118,105,101,119,101,114,41,32,45,32,98,97,110,110,101,100]⟩,.string ⟨#[116,104,105,115,40,117,115,101,114,44,103,114,111,117,112,35,109,101,109,98,101,114,41,32,38,32,101,100,105,116,111,114]⟩] 9))):=(Only.refl R w').alloc _;refine aa rfl fun K HK=>?_;clear HM;dsimp only;go_simp;exact HK.out _ _ ⟨.slice (some ⟨w'.heap.size,0,none⟩) 3 3,by simp[upd],⟨HR.out.alloc _,HO.out.alloc _⟩,⟨_,rfl,mH w' R 70 hRl (xs:=[_,_,_]) (by decide)⟩,fun k u hu=>TI.only K1.out _ hu⟩
  ·cases ho;refine aa rfl fun K HK=>?_;clear HM;dsimp only;go_simp;exact HK.out _ _ ⟨Value.pointer (some ⟨R,0,none⟩),by simp[upd],⟨HR.out,HO.out⟩,rfl,fun k u hu=>hu⟩
  ·cases ho;have e1:f 8=Value.pointer (some ⟨R,0,none⟩):=HM.out ⟨8,.data⟩ (by simp) rfl;refine aa rfl fun K HK=>?_;clear HM;simp only[e1];go_simp;refine(ig R ad len cap 3 _ HR.out (by omega) (by omega)).mono ?_;rintro e w5 ⟨⟨x,rfl,hx⟩,Xz,XV⟩;have XE:=jV Xz;have Xa:=jV XV;clear Xz XV;go_wp2_with fail;exact HK.out _ _ ⟨.int .i64 (x:Int),by simp[upd,e1],⟨XE.out,HO.out.trans Xa.out⟩,⟨x,rfl,hx⟩,fun k u hu=>TI.only Xa.out _ hu⟩
  ·cases ho;obtain⟨g,e1,hS⟩:=HM.out ⟨7,.data⟩ (by simp) rfl;obtain⟨x,e2,hx⟩:=HM.out ⟨9,.data⟩ (by simp) rfl;replace e1:f 7=_:=e1;replace e2:f 9=_:=e2;have HS:=az hS;clear hS;have hx0:=bI x;have hx1:(x:Int)<3:=by omega
   refine aa rfl fun K HK=>?_;clear HM;simp only[e1,e2];go_simp;exact HK.out _ _ ⟨.pointer (some ⟨g,x,none⟩),by simp[upd,e1,e2],⟨HR.out,HO.out⟩,⟨g,x,rfl,hx,HS.out⟩,fun k u hu=>hu⟩
  ·cases ho;obtain⟨g,x,e1,hx,hS⟩:=HM.out ⟨10,.data⟩ (by simp) rfl;replace e1:f 10=_:=e1;obtain⟨t,hcell,ht⟩:=hS.2.2 x hx;clear hS;refine aa rfl fun K HK=>?_;clear HM;simp only[e1];go_simp;exact HK.out _ _ ⟨.string t,by simp[upd,e1],⟨HR.out,HO.out⟩,⟨t,rfl,ht⟩,fun k u hu=>hu⟩
  ·cases ho;obtain⟨t,e1,hp,ht⟩:=HM.out ⟨6,.data⟩ (by simp) rfl;obtain⟨u2,e2,hu2⟩:=HM.out ⟨11,.data⟩ (by simp) rfl;replace e1:f 6=_:=e1;replace e2:f 11=_:=e2;have HPRE:=jV hp;have hz:(9223372036854775807<t.size+u2.size)=False:=by simp;omega
   refine aa rfl fun K HK=>?_;clear HM hp;simp only[e1,e2];go_simp;exact HK.out _ _ ⟨.string (t++u2),by simp[upd,e1,e2],⟨HR.out,HO.out⟩,⟨_,rfl,HPRE.out.app _,by rw[VK];omega⟩,fun k u hu=>hu⟩
  cases ho;obtain⟨t,e1,hp,ht⟩:=HM.out ⟨12,.data⟩ (by simp) rfl;replace e1:f 12=_:=e1;have HPRE:=jV hp;have hc0:(⟨#[10,116,121,112,101,32,103,114,111,117,112,10,109,101,109,98,101,114,32,61,32,116,104,105,115,40,117,115,101,114,44,103,114,111,117,112,35,109,101,109,98,101,114,41,10,116,121,112,101,32,117,115,101,114,10]⟩:ByteArray).size=55:=rfl;have hz:(9223372036854775807<t.size+55)=False:=by simp;omega
  refine aa rfl fun K HK=>?_;clear HM hp;simp only[e1];go_simp;exact HK.out _ _ ⟨.string (t++(⟨#[10,116,121,112,101,32,103,114,111,117,112,10,109,101,109,98,101,114,32,61,32,116,104,105,115,40,117,115,101,114,44,103,114,111,117,112,35,109,101,109,98,101,114,41,10,116,121,112,101,32,117,115,101,114,10]⟩:ByteArray)),by simp[upd,e1],⟨HR.out,HO.out⟩,⟨_,rfl,HPRE.out.app _,by rw[VK,hc0];omega⟩,fun k u hu=>hu⟩
 case fin =>
  rintro o ho f w1 ⟨Xq,Xw⟩ hall;obtain⟨t1,e1,hp1,ht1⟩:=hall 13 (by omega);replace e1:f 13=_:=e1;have HR1:=jV Xq;have Xf:=jV Xw;have HP1:=jV hp1;obtain rfl:=Option.some.inj ho;clear ho hall Xq Xw hp1;refine aa rfl fun K HK=>?_;simp only[e1];go_simp;refine HK.out _ _ ?_;clear HK;go_wp2_with fail;refine(kK R ad len cap 3 _ HR1.out (by omega) (by omega)).mono ?_;rintro e w2 ⟨⟨q1,rfl⟩,hR2,hO2⟩;have HR2:=jV hR2;have WY:Hid (Only R w w2):=Xf.out.trans hO2;clear hR2 hO2 HR1 Xf
  go_upto_if 22 with fail
  go_cut [3] from 23 (fun s3 wc=>∃t:ByteArray,s3=.string t/\t.size<=1200/\Hid (Pre t)/\Hid (Rd wc R ad len cap)/\Hid (Only R w wc))
  case first =>
   cases q1;case false=>
    go_wp2_with fail
    go_meet
    exact⟨t1,rfl,by omega,HP1,HR2,WY⟩
   go_wp2_with fail;refine(qU R ad len cap 0 _ (by omega) HR2.out).mono ?_;rintro e w3 ⟨⟨r0,rfl,hr0⟩,YZ,hO3⟩;have HR3:=jV YZ;have Xv:Hid (Only R w w3):=WY.out.trans hO3;clear YZ hO3 HR2 WY;go_wp2_with fail;refine(qU R ad len cap 1 _ (by omega) HR3.out).mono ?_;rintro e w4 ⟨⟨r1,rfl,hr1⟩,ZT,hO4⟩;have HR4:=jV ZT;have Xr:Hid (Only R w w4):=Xv.out.trans hO4;clear ZT hO4 HR3 Xv;go_wp2_with fail;refine(qU R ad len cap 2 _ (by omega) HR4.out).mono ?_;rintro e w5 ⟨⟨r2,rfl,hr2⟩,Xz,XV⟩;have XE:=jV Xz;have Xa:Hid (Only R w w5):=Xr.out.trans XV;clear Xz XV HR4 Xr;have k0:(⟨#[116,121,112,101,32,100,111,99,10,98,97,110,110,101,100,32,61,32]⟩:ByteArray).size=18:=rfl;have k1:(⟨#[10,101,100,105,116,111,114,32,61,32]⟩:ByteArray).size=10:=rfl;have k2:(⟨#[10,111,119,110,101,114,32,61,32,116,104,105,115,40,117,115,101,114,41,10,112,97,114,101,110,116,32,61,32,116,104,105,115,40,100,111,99,41,10,118,105,101,119,101,114,32,61,32]⟩:ByteArray).size=48:=rfl;have k3:(⟨#[10,116,121,112,101,32,103,114,111,117,112,10,109,101,109,98,101,114,32,61,32,116,104,105,115,40,117,115,101,114,44,103,114,111,117,112,35,109,101,109,98,101,114,41,10,116,121,112,101,32,117,115,101,114,10]⟩:ByteArray).size=55:=rfl;have Z4:Hid ((((((((⟨#[116,121,112,101,32,100,111,99,10,98,97,110,110,101,100,32,61,32]⟩:ByteArray)++r0)++(⟨#[10,101,100,105,116,111,114,32,61,32]⟩:ByteArray))++r1)++(⟨#[10,111,119,110,101,114,32,61,32,116,104,105,115,40,117,115,101,114,41,10,112,97,114,101,110,116,32,61,32,116,104,105,115,40,100,111,99,41,10,118,105,101,119,101,114,32,61,32]⟩:ByteArray))++r2)++(⟨#[10,116,121,112,101,32,103,114,111,117,112,10,109,101,109,98,101,114,32,61,32,116,104,105,115,40,117,115,101,114,44,103,114,111,117,112,35,109,101,109,98,101,114,41,10,116,121,112,101,32,117,115,101,114,10]⟩:ByteArray)).size<=1200):=by show _<=_;simp only[VK,k0,k1,k2,k3];omega
   have HPX:Hid (Pre (((((((⟨#[116,121,112,101,32,100,111,99,10,98,97,110,110,101,100,32,61,32]⟩:ByteArray)++r0)++(⟨#[10,101,100,105,116,111,114,32,61,32]⟩:ByteArray))++r1)++(⟨#[10,111,119,110,101,114,32,61,32,116,104,105,115,40,117,115,101,114,41,10,112,97,114,101,110,116,32,61,32,116,104,105,115,40,100,111,99,41,10,118,105,101,119,101,114,32,61,32]⟩:ByteArray))++r2)++(⟨#[10,116,121,112,101,32,103,114,111,117,112,10,109,101,109,98,101,114,32,61,32,116,104,105,115,40,117,115,101,114,44,103,114,111,117,112,35,109,101,109,98,101,114,41,10,116,121,112,101,32,117,115,101,114,10]⟩:ByteArray))):=(((((((FM (x:=100) (y:=111) (z:=99) (c:=98) (by rfl) (by decide) (by decide) (by decide) (by decide):Pre (⟨#[116,121,112,101,32,100,111,99,10,98,97,110,110,101,100,32,61,32]⟩:ByteArray)).app r0).app _).app r1).app _).app r2).app _);clear k0 k1 k2 k3;go_wp2_with fail
   go_meet
   exact⟨_,rfl,Z4.out,HPX,XE,Xa⟩
  obtain⟨t,rfl,hts,HP,HR,HO⟩:=hcut;clear HP1 HR2 WY;go_wp2_with fail;refine(kK R ad len cap 4 _ HR.out (by omega) (by omega)).mono ?_;rintro e w6 ⟨⟨q2,rfl⟩,hR6,hO6⟩;have X0:=jV hR6;have Yy:Hid (Only R w w6):=HO.out.trans hO6;clear hR6 hO6 HR HO
  go_upto_if 36 with fail
  go_cut [3,4] from 37 (fun s3 s4 wc=>∃t:ByteArray,s3=.string t/\t.size<=2000/\Hid (Pre t)/\Hid (Rd wc R ad len cap)/\Hid (Only R w wc))
  case first =>
   cases q2;case false=>
    go_wp2_with fail
    go_meet
    exact⟨t,rfl,by omega,HP,X0,Yy⟩
   have ht10:10<=t.size:=QX HP.out;go_wp2_with fail;go_loopw[4] (fun i wr=>∃k:Nat,i=.int .i64 (k:Int)/\k+9<=t.size/\wr=w6) (fun i _=>t.size-(intOf i).toNat);case atStart=>exact⟨0,rfl,by omega,rfl⟩
   obtain⟨k,rfl,hk,rfl⟩:=hrel;have HD0:Hid ((⟨#[116,121,112,101,32,100,105,114,10,111,119,110,101,114,32,61,32,116,104,105,115,40,117,115,101,114,41,10,115,101,101,32,61,32,116,104,105,115,40,117,115,101,114,41,10]⟩:ByteArray).size=45):=rfl;have HD1:Hid ((⟨#[116,104,105,115,40,100,111,99,44,100,105,114,41]⟩:ByteArray).size=13):=rfl;have h3:(((k:Int)+9<(t.size:Int))/\((t.extract k (k+9)).toList==[116,104,105,115,40,100,111,99,41])=false)\/(((k:Int)+9<(t.size:Int))/\((t.extract k (k+9)).toList==[116,104,105,115,40,100,111,99,41])=true)\/¬((k:Int)+9<(t.size:Int)):=by
    by_cases h:(k:Int)+9<(t.size:Int)
    ·cases e:(t.extract k (k+9)).toList==[116,104,105,115,40,100,111,99,41]
     ·exact .inl ⟨h,rfl⟩
     exact .inr (.inl ⟨h,rfl⟩)
    exact .inr (.inr h)
   have hk0:=bI k;have hk1:(k:Int)<=(t.size:Int):=by omega
   have hk2:(0:Int)<=(k:Int)+9:=by omega
   have hk3:(k:Int)+9<=(t.size:Int):=by omega
   have he1:(t.extract 0 k).size<=1200:=by rw[ByteArray.size_extract];omega
   have he2:(t.extract (k+9) t.size).size<=1200:=by rw[ByteArray.size_extract];omega
   have hetot:(t.extract 0 k).size+(t.extract (k+9) t.size).size<=1200:=by rw[ByteArray.size_extract,ByteArray.size_extract];omega
   have Z4:Hid (((((⟨#[116,121,112,101,32,100,105,114,10,111,119,110,101,114,32,61,32,116,104,105,115,40,117,115,101,114,41,10,115,101,101,32,61,32,116,104,105,115,40,117,115,101,114,41,10]⟩:ByteArray)++t.extract 0 k)++(⟨#[116,104,105,115,40,100,111,99,44,100,105,114,41]⟩:ByteArray))++t.extract (k+9) t.size).size<=2000):=by show _<=_;simp only[VK,HD0.out,HD1.out];omega
   have HPX:Hid (Pre ((((⟨#[116,121,112,101,32,100,105,114,10,111,119,110,101,114,32,61,32,116,104,105,115,40,117,115,101,114,41,10,115,101,101,32,61,32,116,104,105,115,40,117,115,101,114,41,10]⟩:ByteArray)++t.extract 0 k)++(⟨#[116,104,105,115,40,100,111,99,44,100,105,114,41]⟩:ByteArray))++t.extract (k+9) t.size)):=((((FM (x:=100) (y:=105) (z:=114) (c:=111) (by rfl) (by decide) (by decide) (by decide) (by decide):Pre (⟨#[116,121,112,101,32,100,105,114,10,111,119,110,101,114,32,61,32,116,104,105,115,40,117,115,101,114,41,10,115,101,101,32,61,32,116,104,105,115,40,117,115,101,114,41,10]⟩:ByteArray)).app _).app _).app _);have HRW:Hid (∀n,Rd (wr.drewN n) R ad len cap):=fun n=>X0.out.below (below_drewN (Vv _ _) n);have HOW:Hid (∀n,Only R w (wr.drewN n)):=fun n=>Yy.out.drewN n;rcases h3 with⟨h,hm⟩|⟨h,hm⟩|h
   ·have hm2:(!(t.extract k (k+9)).toList==[116,104,105,115,40,100,111,99,41])=true:=by rw[hm];rfl
    go_wp2;go_roundw;case rel=>exact⟨k+1,by go_num,by omega,trivial⟩
    simp[intOf]<;>omega
   ·have hm2:(!(t.extract k (k+9)).toList==[116,104,105,115,40,100,111,99,41])=false:=by rw[hm];rfl
    go_wp2_with fail;go_quiet (fail);go_wp2_with fail
    go_meet
    exact⟨_,rfl,Z4.out,HPX,HRW.out _,HOW.out _⟩
   go_wp2_with fail;go_quiet (fail);go_wp2_with fail
   go_meet
   exact⟨_,rfl,Z4.out,HPX,HRW.out _,HOW.out _⟩
  obtain⟨t2,rfl,hts2,WQ,HR,HO⟩:=hcut;clear HP X0 Yy hts;have hRc:R<wc.heap.size:=HR.out.lt;go_wp2_with fail;refine(rJ t2 _ (by omega)).mono ?_;rintro e w7 ⟨hb7,hcase⟩;have HR7:=jV (HR.out.below hb7);have HO7:=az (HO.out.below hb7);have hw7:w.heap.size<=w7.heap.size:=HO7.out.size;have hwc:w.heap.size<=wc.heap.size:=HO.out.size;obtain⟨v0,b0,rfl,HV0⟩:∃(v0:Value) (b0:Bool),e=.returned (.tuple #[v0,.bool b0])/\Hid (b0=true->∃rs:List TR,Iz w w7 v0 rs):=by
   rcases hcase with⟨-,e1⟩|⟨v,rs,hd,e1,hM,htx,hok⟩
   ·exact⟨_,_,e1,fun h=>by cases h⟩
   exact⟨_,_,e1,fun _=>⟨rs,hM.lower hwc,hd,by rw[htx];exact WQ.out,hok,by rw[htx];omega⟩⟩
  clear hb7 hcase HR HO WQ hts2 hwc hRc
  go_upto_if 68 with fail
  go_cut [5] from 69 (fun s5 wd=>(∃rs:List TR,Iz w wd s5 rs)/\Hid (Rd wd R ad len cap)/\Hid (Only R w wd))
  case first =>
   cases b0;case true=>
    have HV:=jV (HV0.out rfl);go_wp2_with fail
    go_meet
    exact⟨HV.out,HR7,HO7⟩
   go_wp2_with fail;refine(rJ lastT _ (by decide)).mono ?_;rintro e w8 ⟨hb8,hcase⟩;have HR8:=jV (HR7.out.below hb8);have HO8:=az (HO7.out.below hb8);rcases hcase with⟨hno,e1⟩|⟨v,rs,hd,e1,hM,htx,hok⟩
   ·exact absurd (hno Ik KF) (by rw[KG];decide)
   subst e1;have HV:Hid (∃rs:List TR,Iz w w8 v rs):=⟨rs,hM.lower hw7,hd,by rw[htx];exact FM (x:=100) (y:=111) (z:=99) (c:=118) (by rfl) (by decide) (by decide) (by decide) (by decide),hok,by rw[htx];decide⟩;clear hb8 hd hM htx hok;go_wp2_with fail
   go_meet
   exact⟨HV.out,HR8,HO8⟩
  obtain⟨⟨rs,hSR⟩,HR,HO⟩:=hcut;have HSR:=jV hSR;clear hSR HV0 HR7 HO7 hw7;go_wp2_with fail;refine(ig R ad len cap 40 _ HR.out (by omega) (by omega)).mono ?_;rintro e w9 ⟨⟨x,rfl,hx⟩,hR9,hO9⟩;have HR9:=jV hR9;have HO9:Hid (Only R w w9):=HO.out.trans hO9;have HS9:=jV (HSR.out.only hRw hO9);clear hR9 hO9 HR HO HSR;obtain⟨t,ts,q,qs,y,ys,hrs,hq,hy⟩:=NS HS9.out.2.1 HS9.out.2.2.1;subst hrs;obtain⟨b,cp,hu5⟩:∃b cp,u5=.slice (some ⟨b,0,none⟩) (ts.length+1) cp:=fT HS9.out.1.own;subst hu5;have HM9:=jV HS9.out.1;have HG:=jV HS9.out.good.1;have HQ:=jV hq;have HYY:=jV hy;have hbw:w.heap.size<=b:=(HM9.out.own.lt b rfl).1;have hbl:b<w9.heap.size:=(HM9.out.own.lt b rfl).2;have hts0:(0:Int)<(ts.length:Int)+1:=by omega
  have FAR:Hid (∀g,w.heap.size<=g->0<len->∀b off,ad=some ⟨b,off,none⟩->b≠g):=fun g hg h0 b off e=>by
   obtain⟨b',off',e',-,hb',-⟩:=H.out.bytes h0;rw[e]at e';injection e' with e';injection e' with e1 e2;omega
  have hc0:w9.cell? ⟨b,0,none⟩=some (.string t.name):=(HM9.out.own.cellAt 0 (by omega)).trans (by simp[TR.cells]);have hc1:w9.cell? ⟨b,1,none⟩=some (.slice t.ad t.rows.length t.cap):=(HM9.out.own.cellAt 1 (by omega)).trans (by simp[TR.cells,TR.vs]);have hf0:w9.frozen? ⟨b,0,none⟩=false:=HM9.out.own.frozenAt 0;clear HS9 hq hy;by_cases h39:x=39
  ·have h39b:((x:Int)==39)=true:=by simp;omega
   have XG:Hid (Ut R ad len cap w (.returned (.slice (some ⟨b,0,none⟩) (ts.length+1) cp)) (w9.setCell ⟨b,0,none⟩ (.string ⟨#[122,111,111]⟩))):=⟨_,_,rfl,eZ.named ⟨#[122,111,111]⟩ HM9.out rfl,KN HG.out,HR9.out.setFar (by omega) (FAR.out b hbw),HO9.out.setNew hbw⟩;go_wp2;go_ret;exact XG.out
  have h39b:((x:Int)==39)=false:=by simp;omega
  by_cases h38:x=38
  ·have h38b:((x:Int)==38)=true:=by simp;omega
   subst h38;have hkt:=HM9.out.kid t (by simp);have hR9:jX w9 w.heap.size t.vs (q::qs):=by have:=hkt;unfold kT at this;rwa [HQ.out]at this
   obtain⟨b1,c1,ht1⟩:∃b1 c1,t.vs=.slice (some ⟨b1,0,none⟩) (qs.length+1) c1:=fT hR9.own;have hkq:=hR9.kid q (by simp);have hN9:NodM w9 w.heap.size q.vs (y::ys):=by have:=hkq;unfold kR at this;rwa [HYY.out]at this
   obtain⟨b2,c2,hq2⟩:∃b2 c2,q.vs=.slice (some ⟨b2,0,none⟩) (ys.length+1) c2:=fT hN9.own;have hqad:q.ad=some ⟨b2,0,none⟩:=by unfold RR.vs at hq2;injection hq2
   rw[ht1]at hR9;rw[hq2]at hN9;have hv1:Value.slice t.ad t.rows.length t.cap=.slice (some ⟨b1,0,none⟩) (qs.length+1) c1:=ht1;rw[hv1]at hc1;have hd1:w9.cell? ⟨b1,1,none⟩=some (.slice (some ⟨b2,0,none⟩) (ys.length+1) c2):=(hR9.own.cellAt 1 (by omega)).trans (by simp[RR.cells,hq2]);have hk0:w9.cell? ⟨b2,0,none⟩=some (.int .i64 y.e.kind):=(hN9.own.cellAt 0 (by omega)).trans (by simp[eD,ER.row]);have hk1:w9.frozen? ⟨b2,0,none⟩=false:=hN9.own.frozenAt 0;have l1:=hR9.own.lt b1 rfl;have l2:=hN9.own.lt b2 rfl;have hqs0:(0:Int)<(qs.length:Int)+1:=by omega
   have hys0:(0:Int)<(ys.length:Int)+1:=by omega
   have HQAD:=jV hqad;clear hkt hkq hR9 hN9 ht1 hq2 hqad hv1 hc0 hf0;go_wp2_with fail;refine mi 11 _ _ (fun k v _=>(k=8->∃z:Int,v=.int .i64 z)/\(k≠8->v=(Value.slice (some ⟨b,0,none⟩) (ts.length+1) cp::.pointer (some ⟨b,0,none⟩)::.pointer (some ⟨b,1,none⟩)::.slice (some ⟨b1,0,none⟩) (qs.length+1) c1::.pointer (some ⟨b1,0,none⟩)::.pointer (some ⟨b1,1,none⟩)::.slice (some ⟨b2,0,none⟩) (ys.length+1) c2::.pointer (some ⟨R,0,none⟩)::undef::.pointer (some ⟨b2,0,none⟩)::.pointer (some ⟨b2,0,none⟩)::[]).getD k undef)) (fun _ w'=>Rd w' R ad len cap/\Only R w9 w') (by kernel_rfl) rfl (by kernel_rfl) (by kernel_rfl) (yt [(82,[0,1,2,3,4,5,6,7,8,9,10])]) ⟨HR9.out.below ((Vv _ _).drew),(Only.refl R w9).drewN 1⟩ ?stepK ?finK<;>dsimp only[wY];case stepK =>
    rintro i hi o ho listed fq w' - - ⟨hR',XF⟩ hpre;have HRr:=az hR';have HOo:=az XF;replace hc1:=(XF.cell hbl (by omega)).trans hc1;replace hd1:=(XF.cell l1.2 (by omega)).trans hd1;have HM:Hid (∀e∈o.after,Region.binds .any e=true->_):=hpre;clear hR' XF hpre;have hc:=F7 (i:=i) (by omega);clear hi
    repeat' rcases hc with rfl|hc
    ·cases ho;refine aa rfl fun K HK=>?_;clear HM;dsimp only;go_simp;exact HK.out _ _ ⟨Value.slice (some ⟨b,0,none⟩) (ts.length+1) cp,by simp[upd],⟨HRr.out,HOo.out⟩,⟨fun h=>absurd h (by decide),fun _=>rfl⟩,fun k u _ hu=>hu⟩
    ·cases ho;have e0:fq 0=.slice (some ⟨b,0,none⟩) (ts.length+1) cp:=(HM.out ⟨0,.data⟩ (by simp) rfl).2 (by decide);refine aa rfl fun K HK=>?_;clear HM;simp only[e0];go_simp;exact HK.out _ _ ⟨Value.pointer (some ⟨b,0,none⟩),by simp[upd,e0],⟨HRr.out,HOo.out⟩,⟨fun h=>absurd h (by decide),fun _=>rfl⟩,fun k u _ hu=>hu⟩
    ·cases ho;have e1:fq 1=.pointer (some ⟨b,0,none⟩):=(HM.out ⟨1,.data⟩ (by simp) rfl).2 (by decide);refine aa rfl fun K HK=>?_;clear HM;simp only[e1];go_simp;exact HK.out _ _ ⟨Value.pointer (some ⟨b,1,none⟩),by simp[upd,e1],⟨HRr.out,HOo.out⟩,⟨fun h=>absurd h (by decide),fun _=>rfl⟩,fun k u _ hu=>hu⟩
    ·cases ho;have e2:fq 2=.pointer (some ⟨b,1,none⟩):=(HM.out ⟨2,.data⟩ (by simp) rfl).2 (by decide);refine aa rfl fun K HK=>?_;clear HM;simp only[e2];go_simp;exact HK.out _ _ ⟨Value.slice (some ⟨b1,0,none⟩) (qs.length+1) c1,by simp[upd,e2],⟨HRr.out,HOo.out⟩,⟨fun h=>absurd h (by decide),fun _=>rfl⟩,fun k u _ hu=>hu⟩
    ·cases ho;have e3:fq 3=.slice (some ⟨b1,0,none⟩) (qs.length+1) c1:=(HM.out ⟨3,.data⟩ (by simp) rfl).2 (by decide);refine aa rfl fun K HK=>?_;clear HM;simp only[e3];go_simp;exact HK.out _ _ ⟨Value.pointer (some ⟨b1,0,none⟩),by simp[upd,e3],⟨HRr.out,HOo.out⟩,⟨fun h=>absurd h (by decide),fun _=>rfl⟩,fun k u _ hu=>hu⟩
    ·cases ho;have e4:fq 4=.pointer (some ⟨b1,0,none⟩):=(HM.out ⟨4,.data⟩ (by simp) rfl).2 (by decide);refine aa rfl fun K HK=>?_;clear HM;simp only[e4];go_simp;exact HK.out _ _ ⟨Value.pointer (some ⟨b1,1,none⟩),by simp[upd,e4],⟨HRr.out,HOo.out⟩,⟨fun h=>absurd h (by decide),fun _=>rfl⟩,fun k u _ hu=>hu⟩
    ·cases ho;have e5:fq 5=.pointer (some ⟨b1,1,none⟩):=(HM.out ⟨5,.data⟩ (by simp) rfl).2 (by decide);refine aa rfl fun K HK=>?_;clear HM;simp only[e5];go_simp;exact HK.out _ _ ⟨Value.slice (some ⟨b2,0,none⟩) (ys.length+1) c2,by simp[upd,e5],⟨HRr.out,HOo.out⟩,⟨fun h=>absurd h (by decide),fun _=>rfl⟩,fun k u _ hu=>hu⟩
    ·cases ho;refine aa rfl fun K HK=>?_;clear HM;dsimp only;go_simp;exact HK.out _ _ ⟨Value.pointer (some ⟨R,0,none⟩),by simp[upd],⟨HRr.out,HOo.out⟩,⟨fun h=>absurd h (by decide),fun _=>rfl⟩,fun k u _ hu=>hu⟩
    ·cases ho;have e7:fq 7=.pointer (some ⟨R,0,none⟩):=(HM.out ⟨7,.data⟩ (by simp) rfl).2 (by decide);refine aa rfl fun K HK=>?_;clear HM;simp only[e7];go_simp;refine(RP R ad len cap 1 6 _ HRr.out (by decide) (by decide) (by decide)).mono ?_;rintro e w10 ⟨⟨z,rfl⟩,hR10,hO10⟩;have HR10:=jV hR10;have HO10:=jV hO10;clear hR10 hO10;go_wp2_with fail;exact HK.out _ _ ⟨.int .i64 z,by simp[upd,e7],⟨HR10.out,HOo.out.trans HO10.out⟩,⟨fun _=>⟨z,rfl⟩,fun h=>absurd rfl h⟩,fun k u _ hu=>hu⟩
    ·cases ho;have e6:fq 6=.slice (some ⟨b2,0,none⟩) (ys.length+1) c2:=(HM.out ⟨6,.data⟩ (by simp) rfl).2 (by decide);refine aa rfl fun K HK=>?_;clear HM;simp only[e6];go_simp;exact HK.out _ _ ⟨Value.pointer (some ⟨b2,0,none⟩),by simp[upd,e6],⟨HRr.out,HOo.out⟩,⟨fun h=>absurd h (by decide),fun _=>rfl⟩,fun k u _ hu=>hu⟩
    cases ho;have e9:fq 9=.pointer (some ⟨b2,0,none⟩):=(HM.out ⟨9,.data⟩ (by simp) rfl).2 (by decide);refine aa rfl fun K HK=>?_;clear HM;simp only[e9];go_simp;exact HK.out _ _ ⟨Value.pointer (some ⟨b2,0,none⟩),by simp[upd,e9],⟨HRr.out,HOo.out⟩,⟨fun h=>absurd h (by decide),fun _=>rfl⟩,fun k u _ hu=>hu⟩
   case finK =>
    rintro o ho listed fq w' ⟨hR',XF⟩ hall;have HRr:=az hR';have HOo:Hid (Only R w w'):=HO9.out.trans XF;obtain⟨z,ez⟩:=(hall 8 (by omega)).1 rfl;replace ez:fq 8=_:=ez;have e10:fq 10=.pointer (some ⟨b2,0,none⟩):=(hall 10 (by omega)).2 (by omega);replace hk0:=(XF.cell l2.2 (by omega)).trans hk0;replace hk1:=(XF.frozen (o:=0) l2.2 (by omega)).trans hk1;have hM':eZ w' w.heap.size (.slice (some ⟨b,0,none⟩) (ts.length+1) cp) (t::ts):=HM9.out.heap ko XF.size fun g hg=>XF.block g (HM9.out.lt ko hg).2 (fun e=>by injection e with e;have:=(HM9.out.lt ko hg).1;omega);have XG:Hid (Ut R ad len cap w (.returned (.slice (some ⟨b,0,none⟩) (ts.length+1) cp)) (w'.setCell ⟨b2,0,none⟩ (.int .i64 z))):=⟨_,_,rfl,eZ.kind z hM' HQ.out HYY.out HQAD.out,N9 z HG.out HQ.out HYY.out,HRr.out.setFar (by omega) (FAR.out b2 l2.1),HOo.out.setNew l2.1⟩;cases ho;clear hall hR' XF hM';refine aa rfl fun K HK=>?_;simp only[ez,e10];go_simp;refine HK.out _ _ ?_;clear HK;go_wp2;go_ret;exact XG.out
  have h38b:((x:Int)==38)=false:=by simp;omega
  go_wp2;go_ret;exact⟨_,_,rfl,HM9.out,HG.out,HR9.out,HO9.out⟩
def rM(ts:Q0b)(oa ob r c d s:ByteArray):Bool:=dJ (aN (ak ts oa r)) (aN (ak ts oa r)).length ⟨c,s⟩&&bH oa ob r c d s
theorem IA:∀{es:Q09} (a:Al),own es=0->es.any (om a)=false
 | [],_,_=>rfl
 | e::es,a,h=>by
  by_cases h1:e.kind=1
  ·simp[own,h1]at h
  rw[List.any_cons,IA a (by simpa[own,h1] using h)];simp[om,h1]
theorem BP:∀{es:Q09} (a:Al),own es<=1->es.any (om a)=dJ (aN es) (aN es).length a
 | [],_,_=>rfl
 | e::es,a,h=>by
  by_cases h1:e.kind=1
  ·rw[List.any_cons,IA a (by simp[own,h1]at h;simpa[own] using h)];simp[om,h1,aN]
  rw[List.any_cons,BP a (by simpa[own,h1] using h)];simp[om,h1,aN]
theorem Oa{xs:Q0a}{a:Al}{k:Nat}(h:k<xs.length)(hk:kF xs[k] a=true):dJ xs xs.length a=true:=by
 unfold dJ;rw[VI,VX];exact⟨_,Vs h,hk⟩
def jU(ts:Q0b)(oa ob r c d s:ByteArray):Bool:=aD ts&&rM ts oa ob r c d s
theorem Uu{es:Q09}(h:aI es=true):own es<=1:=by
 unfold aI at h;simp at h;omega
theorem L9{rs:Q06}(h:bN (ae rs))(ty n:ByteArray):own (ak (ae rs) ty n)<=1:=by
 unfold ak;cases e:dZ (ae rs) ty n with
 | none=>simp[own]
 | some es =>
  obtain⟨t,ht,q,hq,-,-,rfl⟩:=mZ e;exact Uu ((aW h.1).2.2 t ht q hq).1
set_option maxRecDepth 100000 in
theorem KO(ad:Q02)(cap:Nat)(rs:Q06)(oa ob r c d s:ByteArray)(w:af)(hlen:rs.length<=1048576)(hs:jK w ad rs)(hl:∀r∈rs,r.light)(ha:oa.size<=maxLen)(hb:ob.size<=maxLen)(hr:r.size<=maxLen)(hc:c.size<=maxLen)(hd:d.size<=maxLen)(hz:s.size<=maxLen):
  Calls prog 141 #[.slice ad rs.length cap,.agg #[.string oa,.string ob,.string r,.string c,.string d,.string s]] w fun e w'=>e=.returned (.bool (rM (ae rs) oa ob r c d s))/\ag w w':=by
 have HS:=az hs;have HL:=az hl;clear hs hl;obtain⟨W0,hW0⟩:=eQx (w.alloc (.cells #[.string oa,.string ob,.string r,.string c,.string d,.string s] 29));have hal:ag w W0:=by rw[hW0];exact(Vv _ _).alloc (Vu _) _
 have HB0:=az hal;have X9:Hid (W0.cell? ⟨w.heap.size,0,none⟩=some (.string oa)/\W0.cell? ⟨w.heap.size,1,none⟩=some (.string ob)/\W0.cell? ⟨w.heap.size,2,none⟩=some (.string r)/\W0.cell? ⟨w.heap.size,3,none⟩=some (.string c)/\W0.cell? ⟨w.heap.size,4,none⟩=some (.string d)/\W0.cell? ⟨w.heap.size,5,none⟩=some (.string s)/\w.heap.size<W0.heap.size):=by
  show _/\_;rw[hW0];refine⟨?_,?_,?_,?_,?_,?_,?_⟩<;>simp
 clear hal;go_enter func141,ntmps141;go_wp2_with fail;rw[<-hW0];clear hW0;refine(jy ad cap rs oa r _ hlen (HS.out.below HB0.out) HL.out).mono ?_;rintro e w1 ⟨⟨rows,WW,capE,rfl,hex,hse,hfr⟩,hw1⟩;replace hw1:=hw1.symm;subst hw1;have HX:Hid (ai rows=ak (ae rs) oa r):=hex;have HSE:=az hse;have Yf:=hfr.light HL.out;have hrl:rows.length<=1048576:=Yf.1;have YT:Hid (∀q∈rows,q.e.light):=Yf.2;clear hex hse hfr Yf;go_wp2_with fail;refine(yz WW capE rows _ hrl HSE.out).mono ?_;rintro e w1 ⟨⟨adA,capA,rfl,hsa,hfa⟩,hw1⟩;replace hw1:=hw1.symm;subst hw1;obtain⟨xs,hxs⟩:=eQx (aN (ai rows));rw[<-hxs]at hsa hfa ⊢;have YC:Hid (xs=aN (ak (ae rs) oa r)):=by rw[<-HX.out];exact hxs
 have HSA:=az hsa;have hxl:xs.length<=1048576:=by
  rcases hfa with h|⟨q,hq,h,-⟩
  ·rw[h];simp
  rw[h];exact(YT.out q hq).1
 clear hxs hsa hfa YT HSE HX;go_wp2;go_loopw[6] (fun i wr=>∃k:Nat,k<=xs.length/\i=.int .i64 k/\Hid (dJ xs k ⟨c,s⟩=false)/\Hid (ag W0 wr)) (fun i _=>xs.length-(intOf i).toNat);case atStart=>exact⟨0,Vy _,rfl,ul _ _,Vv _ _⟩
 obtain⟨k,hk,rfl,HP,HB⟩:=hrel;have WS:Hid (ag w wr):=HB0.out.trans (HB.out.mono HB0.out.size);by_cases hlt:k<xs.length
 ·rcases HSA.out.below HB.out with hnil|⟨b,off,rfl,hb5,hr5⟩
  ·rw[hnil]at hlt;simp at hlt
  obtain⟨t0,t1⟩:=hr5 k hlt;have hk1:=bI k;have hk2:(k:Int)<(xs.length:Int):=by omega
  have hwl:w.heap.size<wr.heap.size:=Vt X9.out.2.2.2.2.2.2 HB.out.size;have c0:=aC HB.out X9.out.2.2.2.2.2.2 X9.out.1;have c1:=aC HB.out X9.out.2.2.2.2.2.2 X9.out.2.1;have c2:=aC HB.out X9.out.2.2.2.2.2.2 X9.out.2.2.1;have c3:=aC HB.out X9.out.2.2.2.2.2.2 X9.out.2.2.2.1;have c4:=aC HB.out X9.out.2.2.2.2.2.2 X9.out.2.2.2.2.1;have c5:=aC HB.out X9.out.2.2.2.2.2.2 X9.out.2.2.2.2.2.1;have HSU:Hid (dJ xs (k+1) ⟨c,s⟩=kF xs[k] ⟨c,s⟩):=by show _=_;rw[uk _ _ _ hlt,HP.out];rfl
  clear hr5;go_wp2_with fail;cases h1:(xs[k].t.toList==c.toList);case false=>
   refine nZ 19 _ _ (fun n v _=>v=(Value.slice (some ⟨b,off,none⟩) xs.length capA::.int .i64 k::.pointer (some ⟨b,off+k*2,none⟩)::.pointer (some ⟨b,off+k*2,none⟩)::.string xs[k].t::.pointer (some ⟨w.heap.size,3,none⟩)::.pointer (some ⟨w.heap.size,3,none⟩)::.string c::.bool false::.bool false::undef::undef::undef::undef::undef::undef::undef::undef::.bool false::[]).getD n undef) (fun w'=>ag wr w') (by kernel_rfl) rfl (by kernel_rfl) (yt [(21,[0,1,2,3,4,5,6,7,8,9,10,11,12,13,14,15,16,17,18])]) (Vv _ _).drew ?stepA ?finA<;>dsimp only[wY];case stepA =>
    rintro i hi o ho fq w' hG hpre;have HG:Hid (ag wr w'):=hG;replace t0:=aC hG hb5 t0;replace t1:=aC hG hb5 t1;replace c3:=aC hG hwl c3;replace c5:=aC hG hwl c5;have HM:Hid (∀e∈o.after,Region.binds .any e=true->_):=hpre;clear hG hpre;have hc:=OH (i:=i) (by omega);clear hi
    repeat' rcases hc with rfl|hc
    iterate 19
     ·cases ho;have hm:=HM.out
      try simp[Region.binds]at hm
      refine aa rfl fun K HK=>?_;clear HM
      try simp only[hm]
      go_simp;exact HK.out _ _ ⟨_,by simp[upd, *],HG.out,rfl,fun k u hu=>hu⟩
   case finA =>
    rintro fq w' hG hall;have e18:fq 18=.bool false:=hall 18 (by omega);have HG:Hid (ag wr w'):=hG;clear hall;clear hG;have HB2:Hid (ag W0 w'):=HB.out.trans (HG.out.mono HB.out.size);have WQ:Hid (dJ xs (k+1) ⟨c,s⟩=false):=by show _=_;rw[HSU.out];simp[kF,h1]
    rw[e18];go_wp2;go_roundw;case rel=>exact⟨k+1,by omega,by go_num,WQ,HB2⟩
    simp[intOf]<;>omega
  cases h2:(xs[k].s.toList==s.toList);case false=>
   refine nZ 19 _ _ (fun n v _=>v=(Value.slice (some ⟨b,off,none⟩) xs.length capA::.int .i64 k::.pointer (some ⟨b,off+k*2,none⟩)::.pointer (some ⟨b,off+k*2,none⟩)::.string xs[k].t::.pointer (some ⟨w.heap.size,3,none⟩)::.pointer (some ⟨w.heap.size,3,none⟩)::.string c::.bool true::.bool true::.slice (some ⟨b,off,none⟩) xs.length capA::.int .i64 k::.pointer (some ⟨b,off+k*2,none⟩)::.pointer (some ⟨b,off+k*2+1,none⟩)::.string xs[k].s::.pointer (some ⟨w.heap.size,5,none⟩)::.string s::.bool false::.bool false::[]).getD n undef) (fun w'=>ag wr w') (by kernel_rfl) rfl (by kernel_rfl) (yt [(21,[0,1,2,3,4,5,6,7,8,9,10,11,12,13,14,15,16,17,18])]) (Vv _ _).drew ?yN ?finB<;>dsimp only[wY];case yN =>
    rintro i hi o ho fq w' hG hpre;have HG:Hid (ag wr w'):=hG;replace t0:=aC hG hb5 t0;replace t1:=aC hG hb5 t1;replace c3:=aC hG hwl c3;replace c5:=aC hG hwl c5;have HM:Hid (∀e∈o.after,Region.binds .any e=true->_):=hpre;clear hG hpre;have hc:=OH (i:=i) (by omega);clear hi
    repeat' rcases hc with rfl|hc
    iterate 19
     ·cases ho;have hm:=HM.out
      try simp[Region.binds]at hm
      refine aa rfl fun K HK=>?_;clear HM
      try simp only[hm]
      go_simp;exact HK.out _ _ ⟨_,by simp[upd, *],HG.out,rfl,fun k u hu=>hu⟩
   case finB =>
    rintro fq w' hG hall;have e18:fq 18=.bool false:=hall 18 (by omega);have HG:Hid (ag wr w'):=hG;clear hall;clear hG;have HB2:Hid (ag W0 w'):=HB.out.trans (HG.out.mono HB.out.size);have WQ:Hid (dJ xs (k+1) ⟨c,s⟩=false):=by show _=_;rw[HSU.out];simp[kF,h1,h2]
    rw[e18];go_wp2;go_roundw;case rel=>exact⟨k+1,by omega,by go_num,WQ,HB2⟩
    simp[intOf]<;>omega
  refine nZ 19 _ _ (fun n v _=>v=(Value.slice (some ⟨b,off,none⟩) xs.length capA::.int .i64 k::.pointer (some ⟨b,off+k*2,none⟩)::.pointer (some ⟨b,off+k*2,none⟩)::.string xs[k].t::.pointer (some ⟨w.heap.size,3,none⟩)::.pointer (some ⟨w.heap.size,3,none⟩)::.string c::.bool true::.bool true::.slice (some ⟨b,off,none⟩) xs.length capA::.int .i64 k::.pointer (some ⟨b,off+k*2,none⟩)::.pointer (some ⟨b,off+k*2+1,none⟩)::.string xs[k].s::.pointer (some ⟨w.heap.size,5,none⟩)::.string s::.bool true::.bool true::[]).getD n undef) (fun w'=>ag wr w') (by kernel_rfl) rfl (by kernel_rfl) (yt [(21,[0,1,2,3,4,5,6,7,8,9,10,11,12,13,14,15,16,17,18])]) (Vv _ _).drew ?stepC ?finC<;>dsimp only[wY];case stepC =>
   rintro i hi o ho fq w' hG hpre;have HG:Hid (ag wr w'):=hG;replace t0:=aC hG hb5 t0;replace t1:=aC hG hb5 t1;replace c3:=aC hG hwl c3;replace c5:=aC hG hwl c5;have HM:Hid (∀e∈o.after,Region.binds .any e=true->_):=hpre;clear hG hpre;have hc:=OH (i:=i) (by omega);clear hi
   repeat' rcases hc with rfl|hc
   iterate 19
    ·cases ho;have hm:=HM.out
     try simp[Region.binds]at hm
     refine aa rfl fun K HK=>?_;clear HM
     try simp only[hm]
     go_simp;exact HK.out _ _ ⟨_,by simp[upd, *],HG.out,rfl,fun k u hu=>hu⟩
  case finC =>
   rintro fq w' hG hall;have e18:fq 18=.bool true:=hall 18 (by omega);have HG:Hid (ag wr w'):=hG;clear hall;replace c0:=aC hG hwl c0;replace c1:=aC hG hwl c1;replace c2:=aC hG hwl c2;replace c3:=aC hG hwl c3;replace c4:=aC hG hwl c4;replace c5:=aC hG hwl c5;clear hG;rw[e18];have HN:Hid (rM (ae rs) oa ob r c d s=bH oa ob r c d s):=by show _=_;unfold rM;rw[<-YC.out,Oa hlt (by simp[kF,h1,h2])];rfl
   go_wp2_with fail;refine(eF oa ob r c d s _ ha hb hr hc hd hz).mono ?_;rintro e w2 ⟨rfl,hb2⟩;have HB2:Hid (ag w w2):=WS.out.trans ((HG.out.mono WS.out.size).trans (hb2.mono (Vz WS.out.size HG.out.size)));clear hb2;go_wp2;go_ret;exact⟨by rw[HN.out];rfl,HB2.out⟩
 obtain rfl:k=xs.length:=by omega
 have HN:Hid (rM (ae rs) oa ob r c d s=false):=by show _=_;unfold rM;rw[<-YC.out,HP.out];rfl
 go_wp2;go_ret;exact⟨by rw[HN.out];rfl,WS.out⟩
set_option maxRecDepth 100000 in
theorem FN(ad:Q02)(cap:Nat)(rs:Q06)(oa ob r c d s:ByteArray)(w:af)(hlen:rs.length<=1048576)(hs:jK w ad rs)(hl:∀r∈rs,r.light)(hf:∀r∈rs,r.fits)(ha:oa.size<=maxLen)(hb:ob.size<=maxLen)(hr:r.size<=maxLen)(hc:c.size<=maxLen)(hd:d.size<=maxLen)(hz:s.size<=maxLen):
  Calls prog 182 #[.slice ad rs.length cap,.agg #[.string oa,.string ob,.string r,.string c,.string d,.string s]] w fun e w'=>e=.returned (.bool (jU (ae rs) oa ob r c d s))/\ag w w':=by
 have HS:=az hs;have HL:=az hl;have WT:=az hf;clear hs hl hf;obtain⟨W0,hW0⟩:=eQx (w.alloc (.cells #[.string oa,.string ob,.string r,.string c,.string d,.string s] 29));have hal:ag w W0:=by rw[hW0];exact(Vv _ _).alloc (Vu _) _
 have HB0:=az hal;have hw0:w.heap.size<W0.heap.size:=by rw[hW0];simp
 have c0:W0.cell? ⟨w.heap.size,0,none⟩=some (.string oa):=by rw[hW0];simp
 have c1:W0.cell? ⟨w.heap.size,1,none⟩=some (.string ob):=by rw[hW0];simp
 have c2:W0.cell? ⟨w.heap.size,2,none⟩=some (.string r):=by rw[hW0];simp
 have c3:W0.cell? ⟨w.heap.size,3,none⟩=some (.string c):=by rw[hW0];simp
 have c4:W0.cell? ⟨w.heap.size,4,none⟩=some (.string d):=by rw[hW0];simp
 have c5:W0.cell? ⟨w.heap.size,5,none⟩=some (.string s):=by rw[hW0];simp
 clear hal;go_enter func182,ntmps182;go_wp2_with fail;rw[<-hW0];clear hW0;refine(fV ad cap rs _ hlen (HS.out.below HB0.out) HL.out WT.out).mono ?_;rintro e w1 ⟨rfl,hb1⟩;have HB1:=iX HB0 hb1;have hw1:w.heap.size<w1.heap.size:=Vt hw0 hb1.size;replace c0:=aC hb1 hw0 c0;replace c1:=aC hb1 hw0 c1;replace c2:=aC hb1 hw0 c2;replace c3:=aC hb1 hw0 c3;replace c4:=aC hb1 hw0 c4;replace c5:=aC hb1 hw0 c5;clear hb1 hw0;cases hd5:aD (ae rs);case false=>
  have HN:Hid (jU (ae rs) oa ob r c d s=false):=by show _=_;unfold jU;rw[hd5];rfl
  go_wp2;go_ret;exact⟨by rw[HN.out];rfl,HB1.out⟩
 have HN:Hid (jU (ae rs) oa ob r c d s=rM (ae rs) oa ob r c d s):=by show _=_;unfold jU;rw[hd5];rfl
 go_wp2_with fail;refine(KO ad cap rs oa ob r c d s _ hlen (HS.out.below HB1.out) HL.out ha hb hr hc hd hz).mono ?_;rintro e w2 ⟨rfl,hb2⟩;have HB2:=iX HB1 hb2;clear hb2;go_wp2;go_ret;exact⟨by rw[HN.out];rfl,HB2.out⟩
theorem eZ.only{wc wd:af}{R base:Nat}{v:Value}{rs:Q06}(h:eZ wc base v rs)(hR:R<base)(ho:Only R wc wd):eZ wd base v rs :=
 h.heap ko ho.size fun g hg=>ho.block g (h.lt ko hg).2 (fun e=>by injection e with e;have:=(h.lt ko hg).1;omega)
theorem eZ.slT{w:af}{R base cap:Nat}{Yk:Q02}{rs:Q06}(h:eZ w base (.slice Yk rs.length cap) rs)(hR:R<base):∀W,Only R w W->jK W Yk rs:=fun W hO=>by
 obtain⟨Xe,cap',e,hs,-⟩:=(h.only hR hO).read;injection e with e1 e2 e3;subst e1;exact hs
def QZ(w:World)(n:Nat)(a b r c d s:ByteArray):Prop:=w.cell? ⟨n,0,none⟩=some (.string a)/\w.cell? ⟨n,1,none⟩=some (.string b)/\w.cell? ⟨n,2,none⟩=some (.string r)/\w.cell? ⟨n,3,none⟩=some (.string c)/\w.cell? ⟨n,4,none⟩=some (.string d)/\w.cell? ⟨n,5,none⟩=some (.string s)
theorem QZ.same{w w':af}{n:Nat}{a b r c d s:ByteArray}(h:QZ w n a b r c d s)(hk:∀o,w'.cell? ⟨n,o,none⟩=w.cell? ⟨n,o,none⟩):QZ w' n a b r c d s :=
 ⟨(hk _).trans h.1,(hk _).trans h.2.1,(hk _).trans h.2.2.1,(hk _).trans h.2.2.2.1,(hk _).trans h.2.2.2.2.1,(hk _).trans h.2.2.2.2.2⟩
theorem FO{w w':af}{base g c n:Nat}{xs:Q03}(h:w.ownsRow base 29 6 (.slice (some ⟨g,0,none⟩) n c) n xs)(hb:ag w w'):w'.ownsRow base 29 6 (.slice (some ⟨g,0,none⟩) n c) n xs :=
 h.kept (row:=none) ⟨hb.os,hb.tape,hb.output,hb.size,fun i hi _=>hb.block i hi⟩ (.inr (by simp[Value.ownBlock]))
theorem CF(R:Nat)(ad:Q02)(len cap:Nat)(Yk:Q02)(YA base:Nat)(rs:Q06)(w:af)(h:Rd w R ad len cap)(hRb:R<base)(hT:eZ w base (.slice Yk rs.length YA) rs)(hG:GoodS rs):
  Calls prog 109 #[.pointer (some ⟨R,0,none⟩),.slice Yk rs.length YA,.int .i64 12] w fun e w'=>(∃(g c:Nat) (ts:Q05),e=.returned (.slice (some ⟨g,0,none⟩) ts.length c)/\ts.length<=12/\rD ts/\w'.ownsRow w.heap.size 29 6 (.slice (some ⟨g,0,none⟩) ts.length c) ts.length (bq ts))/\Rd w' R ad len cap/\Only R w w':=by
 have hRw:=h.lt;have HS:Hid (∀W,Only R w W->jK W Yk rs):=hT.slT hRb;obtain⟨hG1,hG2,hG3⟩:=hG;have hlen:rs.length<=1048576:=by omega
 have HL:=dG hG2;have HF:=dG hG3;clear hG2 hG3 hT;obtain⟨W0,hW0⟩:=eQx (w.alloc (.cells #[] 29));have HLIT:Hid (W0.ownsRow w.heap.size 29 6 (.slice (some ⟨w.heap.size,0,none⟩) 0 0) 0 (bq [])):=by
  show World.ownsRow _ _ _ _ _ _ _;rw[hW0];exact World.ownsRow_lit w #[] 0 (Vu _) (by unfold maxLen;omega) (by simp)
 have X7:Hid (Rd W0 R ad len cap):=by show Rd _ _ _ _ _;rw[hW0];exact h.alloc _
 have YN:Hid (Only R w W0):=by show Only _ _ _;rw[hW0];exact(Only.refl _ _).alloc _
 clear h;go_enter func109,ntmps109;go_wp2_with fail;rw[<-hW0];clear hW0;refine(dF R ad len cap 13 _ X7.out (by omega) (by omega)).mono ?_;rintro e w1 ⟨⟨x,rfl,hx0,hx1⟩,Xq,Xw⟩;have HR1:=dG Xq;have Xf:Hid (Only R w w1):=YN.out.trans Xw;have HL1:Hid (w1.ownsRow w.heap.size 29 6 (.slice (some ⟨w.heap.size,0,none⟩) 0 0) 0 (bq [])):=Bt HLIT.out hRw Xw;clear Xq Xw HLIT X7 YN;go_wp2_with fail;go_loopw[7,8] (fun v i wr=>∃(k:Nat) (ts:Q05) (g c:Nat),i=.int .i64 k/\ts.length+k<=12/\v=.slice (some ⟨g,0,none⟩) ts.length c/\Hid (rD ts)/\Hid (wr.ownsRow w.heap.size 29 6 v ts.length (bq ts))/\Hid (Rd wr R ad len cap)/\Hid (Only R w wr)) (fun _ i _=>(intOf i).toNat);case atStart=>exact⟨x.toNat,[],w.heap.size,0,by rw[Int.toNat_of_nonneg hx0],by simp;omega,rfl,ND,HL1,HR1,Xf⟩
 clear HL1 HR1 Xf hx0 hx1;obtain⟨k,ts,g,c,rfl,hk,rfl,HSh,HOw,HR,HO⟩:=hrel;by_cases hk0:0<k
 ·have hk1:(0:Int)<(k:Int):=by omega
  go_wp2_with fail;refine(MP R ad len cap _ HR.out).mono ?_;rintro e w2 ⟨⟨a,b,r,c2,d,s,rfl,ha,hb,hr,hc,hd,hs⟩,hR2,hO2⟩;have HT:Hid (Tp.short ⟨a,b,r,c2,d,s⟩):=⟨ha,hb,hr,hc,hd,hs⟩;obtain⟨f1,f2,f3,f4,f5,f6⟩:=HT.out.fits;obtain⟨W2,hW2⟩:=eQx (w2.alloc (.cells #[.string a,.string b,.string r,.string c2,.string d,.string s] 29));have HR2:Hid (Rd W2 R ad len cap):=by show Rd _ _ _ _ _;rw[hW2];exact hR2.alloc _
  have WY:Hid (Only R w W2):=by show Only _ _ _;rw[hW2];exact(HO.out.trans hO2).alloc _
  have HOw2:Hid (W2.ownsRow w.heap.size 29 6 (.slice (some ⟨g,0,none⟩) ts.length c) ts.length (bq ts)):=by show World.ownsRow _ _ _ _ _ _ _;rw[hW2];exact(Bt HOw.out hRw hO2).alloc _
  have hz2:w2.heap.size<W2.heap.size:=by rw[hW2];simp
  have hnR:w2.heap.size≠R:=by have:=hR2.lt;omega
  have HC:Hid (QZ W2 w2.heap.size a b r c2 d s):=by
   show QZ _ _ _ _ _ _ _ _;rw[hW2];refine⟨?_,?_,?_,?_,?_,?_⟩<;>simp
  clear ha hb hr hc hd hs hR2 hO2 HR HO HOw;go_wp2_with fail;rw[<-hW2];clear hW2;refine(FN Yk YA rs _ _ _ _ _ _ _ hlen (HS.out _ WY.out) HL.out HF.out f1 f2 f3 f4 f5 f6).mono ?_;rintro e w3 ⟨rfl,hb3⟩;have HR3:=az (HR2.out.below hb3);have Xv:=az (WY.out.below hb3);have HOw3:=dG (FO HOw2.out hb3);have Zr:=dG (HC.out.same fun o=>hb3.cell (p:=⟨_,o,none⟩) hz2);have hz3:=Vt hz2 hb3.size;clear hb3 HR2 WY HOw2 HC hz2;cases hq:jU (ae rs) a b r c2 d s;case true=>
   obtain⟨c0,c1,c2',c3,c4,c5⟩:=Zr.out;clear hq;have HA:=dG (tK g 0 c ts ⟨a,b,r,c2,d,s⟩ w3 (by omega) (qd HOw3.out rfl).2.2.1 (qd HOw3.out rfl).1 (qd HOw3.out rfl).2.1 HSh.out.fits HT.out.fits);go_wp2_with fail;refine HA.out.mono ?_;rintro e w5 ⟨v5,rfl,hown5,hb5⟩;have XE:=az (HR3.out.below hb5);have Xa:=az (Xv.out.below hb5);clear c0 c1 c2' c3 c4 c5;cases hz:sW ts ⟨a,b,r,c2,d,s⟩;case true=>
    rw[Br hz,sI]at hown5;obtain⟨g3,c3,rfl⟩:=tL hown5;have HOw5:Hid (w5.ownsRow w.heap.size 29 6 (.slice (some ⟨g3,0,none⟩) (ts.length+1) c3) (ts.length+1) (bq (jW ts ⟨a,b,r,c2,d,s⟩))):=fI hown5 Xv.out.size;have HSh5:Hid (rD (jW ts ⟨a,b,r,c2,d,s⟩)):=HSh.out.put HT.out;have HLP:=dG (sI ts ⟨a,b,r,c2,d,s⟩);have HQ:=dG hz;clear hown5 hb5 hz HA HOw3 HR3 Xv;go_wp2;go_roundw;case rel=>exact⟨k-1,jW ts ⟨a,b,r,c2,d,s⟩,g3,c3,by rw[show((k-1:Nat):Int)=(k:Int)-1 by omega],by rw[HLP.out];omega,by rw[HLP.out],HSh5,by rw[HLP.out];exact HOw5,XE,Xa⟩
    simp[intOf];omega
   have HOw5:=dG (FO HOw3.out hb5);rw[sH hz]at hown5;obtain⟨Yi,cap5,hv5,-,-⟩:=LA (ts:=[]) hown5 rfl;subst hv5;have HQ:=dG hz;clear hown5 hb5 hz HA HOw3 HR3 Xv;go_wp2;go_roundw;case rel=>exact⟨k-1,ts,g,c,by rw[show((k-1:Nat):Int)=(k:Int)-1 by omega],by omega,rfl,HSh,HOw5,XE,Xa⟩
   simp[intOf];omega
  clear hq;go_wp2_with fail;refine(kK R ad len cap 60 _ HR3.out (by omega) (by omega)).mono ?_;rintro e w4 ⟨⟨q,rfl⟩,ZT,hO4⟩;have HR4:=dG ZT;have Xr:Hid (Only R w w4):=Xv.out.trans hO4;have HOw4:=dG (Bt HOw3.out hRw hO4);have HC4:=dG (Zr.out.same fun o=>hO4.cell (b:=w2.heap.size) (o:=o) hz3 hnR);clear ZT hO4 HR3 Xv HOw3 Zr;cases q;case true=>
   obtain⟨c0,c1,c2',c3,c4,c5⟩:=HC4.out;have HA:=dG (tK g 0 c ts ⟨a,b,r,c2,d,s⟩ w4 (by omega) (qd HOw4.out rfl).2.2.1 (qd HOw4.out rfl).1 (qd HOw4.out rfl).2.1 HSh.out.fits HT.out.fits);go_wp2_with fail;refine HA.out.mono ?_;rintro e w5 ⟨v5,rfl,hown5,hb5⟩;have XE:=az (HR4.out.below hb5);have Xa:=az (Xr.out.below hb5);clear c0 c1 c2' c3 c4 c5;cases hz:sW ts ⟨a,b,r,c2,d,s⟩;case true=>
    rw[Br hz,sI]at hown5;obtain⟨g3,c3,rfl⟩:=tL hown5;have HOw5:Hid (w5.ownsRow w.heap.size 29 6 (.slice (some ⟨g3,0,none⟩) (ts.length+1) c3) (ts.length+1) (bq (jW ts ⟨a,b,r,c2,d,s⟩))):=fI hown5 Xr.out.size;have HSh5:Hid (rD (jW ts ⟨a,b,r,c2,d,s⟩)):=HSh.out.put HT.out;have HLP:=dG (sI ts ⟨a,b,r,c2,d,s⟩);have HQ:=dG hz;clear hown5 hb5 hz HA HOw4 HR4 Xr;go_wp2;go_roundw;case rel=>exact⟨k-1,jW ts ⟨a,b,r,c2,d,s⟩,g3,c3,by rw[show((k-1:Nat):Int)=(k:Int)-1 by omega],by rw[HLP.out];omega,by rw[HLP.out],HSh5,by rw[HLP.out];exact HOw5,XE,Xa⟩
    simp[intOf];omega
   have HOw5:=dG (FO HOw4.out hb5);rw[sH hz]at hown5;obtain⟨Yi,cap5,hv5,-,-⟩:=LA (ts:=[]) hown5 rfl;subst hv5;have HQ:=dG hz;clear hown5 hb5 hz HA HOw4 HR4 Xr;go_wp2;go_roundw;case rel=>exact⟨k-1,ts,g,c,by rw[show((k-1:Nat):Int)=(k:Int)-1 by omega],by omega,rfl,HSh,HOw5,XE,Xa⟩
   simp[intOf];omega
  go_wp2;go_roundw;case rel=>exact⟨k-1,ts,g,c,by rw[show((k-1:Nat):Int)=(k:Int)-1 by omega],by omega,rfl,HSh,HOw4,HR4,Xr⟩
  simp[intOf];omega
 obtain rfl:k=0:=by omega
 go_wp2;go_ret;exact⟨⟨g,c,ts,rfl,by omega,HSh.out,HOw.out⟩,HR.out,HO.out⟩
section
variable  {P:Program}{ops:Array Oper}{Q:Exit->Act->World->Prop}
theorem BQ{id:Nat}{a:Act}{w:af}(N:Nat)(f0:Nat->Value)(F:(Nat->Value)->Act)(V:Nat->Value->World->Prop)(G:World->Prop)
  (hm:P.follows .mixedOrders=true) (hsz:ops.size=N) (Xo:xg ops=true)
  (h0:a=F f0) (hG0:G w.drew)
  (hstep:∀ i,i<N->∀ o,ops[i]?=some o->∀ f w',G w'->(∀ e∈o.after,Region.binds .any e=true->V e.on (f e.on) w') ->
   wpOp P ops Q i (fun a' w''=>∃v,a'=F (upd f i v)/\G w''/\V i v w''/\∀k u,V k u w'->V k u w'') (F f) w')
  (hend:∀f w',G w'->(∀k,k<N->V k (f k) w')->Q .normal (F f) w') :
  (Code.region id ops true).wp P Q a w:=by
 refine eu (fun listed a' w'=>listed.size=N/\∃f,a'=F f/\G w'/\∀k,k<N->listed.getD k false=true->V k (f k) w') hm ?_ ?_ ?_
 ·refine⟨by simpa using hsz,_,h0,hG0,fun k _ h=>?_⟩;rw[VQ,Wh]at h;split at h<;>cases h
 ·rintro listed a' w' ⟨hs,f,rfl,hG,hV⟩ i hi;obtain⟨hl,o,ho,hpre⟩:=mem_ready.1 hi;have hiN:i<N:=by have:=(VC.1 ho).1;omega
  refine wpOp_mono ?_ (hstep i hiN o ho f w' hG (fun e he hb=>hV e.on (by have:=lV Xo i o ho e he hb;omega) (hpre e he hb)));rintro a'' w'' ⟨v,rfl,hG',hv,hmono⟩;refine⟨by simpa using hs,_,rfl,hG',fun k hk hkl=>?_⟩;rw[aK _ _ _ (by omega)]at hkl;by_cases ek:k=i
  ·subst ek;simpa[upd] using hv
  rw[if_neg ek]at hkl;simp only[upd,if_neg ek];exact hmono _ _ (hV k hk hkl)
 rintro listed a' w' ⟨hs,f,rfl,hG,hV⟩ hr;refine hend f w' hG fun k hk=>hV k hk ?_;have:=nC hr hsz (lV Xo) hs k hk;rwa [jL (by omega)]at this
end
def Vd(w:World)(e:Ending)(w':World):Prop:=∃(v:Value) (rs:Q06) (typ rel:ByteArray),e=.returned (.tuple #[v,.string typ,.string rel])/\eZ w' w.heap.size v rs/\GoodS rs/\typ.size<=20/\rel.size<=20/\ag w w'
def Ve(w:World)(e:Ending)(w':World):Prop:=∃(v:Value) (rs:Q06) (g c:Nat) (ts:Q05),e=.returned (.tuple #[v,.slice (some ⟨g,0,none⟩) ts.length c])/\eZ w' w.heap.size v rs/\GoodS rs/\ts.length<=12/\rD ts/\w'.ownsRow w.heap.size 29 6 (.slice (some ⟨g,0,none⟩) ts.length c) ts.length (bq ts)/\ag w w'
theorem CG(ad:Q02)(len cap:Nat)(w:af)(h:Bytes w ad len):
  Calls prog 40 #[.slice ad len cap] w (Ve w):=by
 have H:=dG h;clear h;go_enter func40,ntmps40;go_wp2_with fail;refine(GD ad len cap _ H.out).mono ?_;rintro e w1 ⟨rfl,Xq,hb1⟩;have HR1:=dG Xq;have HB1:=dG hb1;have hb:=Xq.lt;clear Xq hb1;go_wp2_with fail;refine(BO w.heap.size ad len cap _ HR1.out).mono ?_;rintro e w2 ⟨v,rs,rfl,hT2,hG,hR2,hO2⟩;obtain⟨Yk,YA,rfl,-,-⟩:=hT2.read;have HR2:=dG hR2;have HB2:Hid (ag w w2):=Only.toBelow HB1.out hO2 HB1.out.size (by omega);have HT2:=dG hT2;have HG:=dG hG;have hs2:=hR2.lt;clear hT2 hG hR2 hO2 HB1 HR1;go_wp2_with fail;refine(CF w.heap.size ad len cap Yk YA w1.heap.size rs _ HR2.out hb HT2.out HG.out).mono ?_;rintro e w3 ⟨⟨g,c,ts,rfl,hl9,hsh,hown⟩,YZ,hO3⟩
 have XG:Hid (Ve w (.returned (.tuple #[.slice Yk rs.length YA,.slice (some ⟨g,0,none⟩) ts.length c])) w3) :=
  ⟨_,rs,g,c,ts,rfl,WP.lower (HT2.out.only hb hO3) (by omega),HG.out,hl9,hsh,fI hown (by omega),Only.toBelow HB2.out hO3 HB2.out.size (by omega)⟩
 clear hl9 hsh hown YZ hO3 HR2 HT2 HG HB2;go_wp2;exact bodyPost_ret (v:=.tuple #[.slice Yk rs.length YA,.slice (some ⟨g,0,none⟩) ts.length c]) (by simp[results,Tryz.results40,go_sem, *]) rfl XG.out
theorem BR(ad:Q02)(len cap:Nat)(w:af)(h:Bytes w ad len):
  Calls prog 35 #[.slice ad len cap] w (Vd w):=by
 have H:=dG h;clear h;go_enter func35,ntmps35;go_wp2_with fail;refine(GD ad len cap _ H.out).mono ?_;rintro e w1 ⟨rfl,Xq,hb1⟩;obtain⟨R,hRR⟩:=eQx w.heap.size;rw[<-hRR]at Xq ⊢;have HR1:=dG Xq;have HB1:=dG hb1;have hb:=Xq.lt;have HRR:=dG hRR;clear Xq hb1 hRR;go_wp2_with fail;refine(BO R ad len cap _ HR1.out).mono ?_;rintro e w2 ⟨v,rs,rfl,hT2,hG,hR2,hO2⟩;have HR2:=dG hR2;have HB2:Hid (ag w w2):=Only.toBelow HB1.out hO2 HB1.out.size (by have:=HRR.out;omega);have HT2:=dG hT2;have HG:=dG hG;have Z4:Hid (w.heap.size<=w1.heap.size):=HB1.out.size;clear hT2 hG hR2 hO2 HB1 HR1;go_wp2_with fail;refine BQ 9 _ _ (fun k v' w'=>Kd.ok R w' v' (Gy [.eq v,.strs 5,.eq (.pointer (some ⟨R,0,none⟩)),.idx 5,.elt 5,.str,.eq v,.eq (.string ⟨#[100,111,99]⟩),.str] k)) (fun w'=>Rd w' R ad len cap/\Only R w2 w') (by kernel_rfl) rfl (by kernel_rfl) (yt [(11,[0,1,2,3,4,5]),(2,[6,7,8])]) ⟨HR2.out.below ((Vv _ _).drew),(Only.refl R w2).drewN 1⟩ ?step ?fin<;>dsimp only[wY];case step =>
  rintro i hi o ho f w' ⟨hR',XF⟩ hpre;have HR:=az hR';have HO:=az XF;have hRl:R<w'.heap.size:=hR'.lt;have HM:Hid (∀e∈o.after,Region.binds .any e=true->Kd.ok R w' (f e.on) (Gy [.eq v,.strs 5,.eq (.pointer (some ⟨R,0,none⟩)),.idx 5,.elt 5,.str,.eq v,.eq (.string ⟨#[100,111,99]⟩),.str] e.on)):=hpre;clear hR' XF hpre;have hc:=UI (i:=i) (by omega);clear hi
  repeat' rcases hc with rfl|hc
  all_goals obtain rfl:=Option.some.inj ho
  case _ =>
   refine aa rfl fun K HK=>?_;clear ho HM;dsimp only;go_simp;exact HK.out _ _ ⟨v,by simp[upd],⟨HR.out,HO.out⟩,rfl,fun k u hu=>hu⟩
  case _ =>
   refine aa rfl fun K HK=>?_;clear ho HM;dsimp only;go_simp;exact HK.out _ _ ⟨_,by simp[upd],⟨HR.out.alloc _,HO.out.alloc _⟩,⟨_,rfl,iD w' R hRl (xs:=[_,_,_,_,_]) (by decide)⟩,fun k u hu=>Kd.only ((Only.refl R w').alloc _) _ hu⟩
  case _ =>
   refine aa rfl fun K HK=>?_;clear ho HM;dsimp only;go_simp;exact HK.out _ _ ⟨Value.pointer (some ⟨R,0,none⟩),by simp[upd],⟨HR.out,HO.out⟩,rfl,fun k u hu=>hu⟩
  case _ =>
   have e1:f 2=Value.pointer (some ⟨R,0,none⟩):=HM.out ⟨2,.data⟩ (by simp) rfl;refine aa rfl fun K HK=>?_;clear ho HM;simp only[e1];go_simp;refine(dF R ad len cap 5 _ HR.out (by omega) (by omega)).mono ?_;rintro e w5 ⟨⟨x,rfl,hx0,hx1⟩,Xz,XV⟩;obtain⟨x,rfl⟩:∃y:Nat,x=(y:Int):=⟨x.toNat,by omega⟩;have XE:Hid (Rd w5 R ad len cap/\Only R w' w5):=⟨Xz,XV⟩;clear Xz XV;go_wp2_with fail;exact HK.out _ _ ⟨.int .i64 (x:Int),by simp[upd,e1],⟨XE.out.1,HO.out.trans XE.out.2⟩,⟨x,rfl,by omega⟩,fun k u hu=>Kd.only XE.out.2 _ hu⟩
  case _ =>
   obtain⟨g,e1,hS⟩:=HM.out ⟨1,.data⟩ (by simp) rfl;obtain⟨x,e2,hx⟩:=HM.out ⟨3,.data⟩ (by simp) rfl;replace e1:f 1=_:=e1;replace e2:f 3=_:=e2;have HS:=az hS;clear hS;have hx0:=bI x;have hx1:(x:Int)<5:=by omega
   refine aa rfl fun K HK=>?_;clear ho HM;simp only[e1,e2];go_simp;exact HK.out _ _ ⟨.pointer (some ⟨g,x,none⟩),by simp[upd,e1,e2],⟨HR.out,HO.out⟩,⟨g,x,rfl,hx,HS.out⟩,fun k u hu=>hu⟩
  case _ =>
   obtain⟨g,x,e1,hx,hS⟩:=HM.out ⟨4,.data⟩ (by simp) rfl;replace e1:f 4=_:=e1;obtain⟨t,ht,hcell⟩:=hS.2.2 x hx;clear hS;refine aa rfl fun K HK=>?_;clear ho HM;simp only[e1];go_simp;exact HK.out _ _ ⟨.string t,by simp[upd,e1],⟨HR.out,HO.out⟩,⟨t,rfl,ht⟩,fun k u hu=>hu⟩
  case _ =>
   have e1:f 0=v:=HM.out ⟨0,.data⟩ (by simp) rfl;refine aa rfl fun K HK=>?_;clear ho HM;simp only[e1];go_simp;exact HK.out _ _ ⟨v,by simp[upd,e1],⟨HR.out,HO.out⟩,rfl,fun k u hu=>hu⟩
  case _ =>
   refine aa rfl fun K HK=>?_;clear ho HM;dsimp only;go_simp;exact HK.out _ _ ⟨_,by simp[upd],⟨HR.out,HO.out⟩,rfl,fun k u hu=>hu⟩
  case _ =>
   obtain⟨t,e1,ht⟩:=HM.out ⟨5,.data⟩ (by simp) rfl;replace e1:f 5=_:=e1;refine aa rfl fun K HK=>?_;clear ho HM;simp only[e1];go_simp;exact HK.out _ _ ⟨.string t,by simp[upd,e1],⟨HR.out,HO.out⟩,⟨t,rfl,ht⟩,fun k u hu=>hu⟩
 case fin =>
  rintro f w' ⟨hR',XF⟩ hall;have e1:f 6=v:=hall 6 (by omega);have e2:f 7=.string ⟨#[100,111,99]⟩:=hall 7 (by omega);obtain⟨t,e3,ht⟩:=hall 8 (by omega);replace e3:f 8=_:=e3
  have XG:Hid (Vd w (.returned (.tuple #[v,.string ⟨#[100,111,99]⟩,.string t])) w') :=
   ⟨_,rs,_,t,rfl,WP.lower (HT2.out.only hb XF) Z4.out,HG.out,by decide,ht,Only.toBelow HB2.out XF HB2.out.size (by have:=HRR.out;omega)⟩
  clear hall hR' XF ht;simp only[e1,e2,e3];go_wp2;exact bodyPost_ret (v:=.tuple #[v,.string ⟨#[100,111,99]⟩,.string t]) (by simp[results,Tryz.results35,go_sem, *]) rfl XG.out
def rO(rs:Q06)(t:Tp):Bool:=rM (ae rs) t.a t.b t.r t.c t.d t.s
theorem sN{rs:Q06}{t:Tp}(h:aD (ae rs)=true)(ht:t.ok=true):tT (ae rs) t.a t.r ⟨t.c,t.s⟩=rO rs t:=by
 have hSP:=aG.1 h;have h1:tT (ae rs) t.a t.r ⟨t.c,t.s⟩=dJ (aN (ak (ae rs) t.a t.r)) (aN (ak (ae rs) t.a t.r)).length ⟨t.c,t.s⟩:=BP _ (L9 hSP _ _);have h2:bH t.a t.b t.r t.c t.d t.s=true:=ht;rw[h1];unfold rO rM;rw[h2,Bool.and_true]
def VV(rs:Q06)(l:Q03)(n:Nat)(v:Value)(w:World):Prop:=(n=8->∃b,v=.map (some b)/\aJ dw prog 146 w b 36 (jY rs))/\(n≠8->v=l.getD n undef)
theorem VV.same{rs:Q06}{l:Q03}{w:af}:∀k u,VV rs l k u w->VV rs l k u w:=fun _ _ h=>h
theorem VV.later{rs:Q06}{l:Q03}{w w':af}(hb:ag w w'):∀k u,VV rs l k u w->VV rs l k u w':=fun k u h=>⟨fun e=>by
 obtain⟨b,e1,e2⟩:=h.1 e;exact⟨b,e1,e2.below hb⟩,h.2⟩
set_option maxRecDepth 100000 in
theorem wS(ad:Q02)(cap:Nat)(rs:Q06)(oa ob r c d s:ByteArray)(w:af)(hlen:rs.length<=1048576)(hs:jK w ad rs)(hl:∀r∈rs,r.light)(hf:∀r∈rs,r.fits)(hcp:∀r∈rs,r.caps)(ha:oa.size<=maxLen)(hb:ob.size<=maxLen)(hr:r.size<=maxLen)(hc:c.size<=maxLen)(hd:d.size<=maxLen)(hz:s.size<=maxLen):
  Calls prog 14 #[.slice ad rs.length cap,.agg #[.string oa,.string ob,.string r,.string c,.string d,.string s]] w fun e w'=>e=.returned (.bool (jU (ae rs) oa ob r c d s))/\ag w w':=by
 have HS:=az hs;have HL:=az hl;have WT:=az hf;have HCP:=az hcp;clear hs hl hf hcp;obtain⟨W0,hW0⟩:=eQx (w.alloc (.cells #[.string oa,.string ob,.string r,.string c,.string d,.string s] 29));have hal:ag w W0:=by rw[hW0];exact(Vv _ _).alloc (Vu _) _
 have HB0:=az hal;have hw0:w.heap.size<W0.heap.size:=by rw[hW0];simp
 have c0:W0.cell? ⟨w.heap.size,0,none⟩=some (.string oa):=by rw[hW0];simp
 have c1:W0.cell? ⟨w.heap.size,1,none⟩=some (.string ob):=by rw[hW0];simp
 have c2:W0.cell? ⟨w.heap.size,2,none⟩=some (.string r):=by rw[hW0];simp
 have c3:W0.cell? ⟨w.heap.size,3,none⟩=some (.string c):=by rw[hW0];simp
 have c4:W0.cell? ⟨w.heap.size,4,none⟩=some (.string d):=by rw[hW0];simp
 have c5:W0.cell? ⟨w.heap.size,5,none⟩=some (.string s):=by rw[hW0];simp
 clear hal;go_enter func14,ntmps14;go_wp2_with fail;rw[<-hW0];clear hW0;cases hd5:aD (ae rs);case false=>
  have HN:Hid (jU (ae rs) oa ob r c d s=false):=by show _=_;unfold jU;rw[hd5];rfl
  refine bC 12 _ _ (fun n v _=>v=(Value.slice ad rs.length cap::.bool false::.bool false::undef::undef::.bool false::.bool false::undef::undef::undef::undef::.bool false::[]).getD n undef) (fun w'=>ag W0 w') (by kernel_rfl) rfl (by kernel_rfl) (by kernel_rfl) (yt [(5,[0,1,2,3,4,5,6,7,8,9,10,11])]) (Vv _ _).drew ?stepA ?finA<;>dsimp only[wY];case stepA =>
   rintro i hi o ho fq w' hG hpre;have HG:Hid (ag W0 w'):=hG;replace c0:=aC hG hw0 c0;replace c1:=aC hG hw0 c1;replace c2:=aC hG hw0 c2;replace c3:=aC hG hw0 c3;replace c4:=aC hG hw0 c4;replace c5:=aC hG hw0 c5;have HM:Hid (∀e∈o.after,Region.binds .any e=true->_):=hpre;clear hG hpre;have hc:=Li (i:=i) (by omega);clear hi
   repeat' rcases hc with rfl|hc
   ·cases ho;refine aa rfl fun K HK=>?_;clear HM;dsimp only;go_simp;exact HK.out _ _ ⟨Value.slice ad rs.length cap,by simp[upd],HG.out,rfl,fun k u hu=>hu⟩
   ·cases ho;have e0:fq 0=.slice ad rs.length cap:=HM.out ⟨0,.data⟩ (by simp) rfl;refine aa rfl fun K HK=>?_;clear HM;simp only[e0];go_simp;refine(cZ ad cap rs _ hlen (HS.out.below (HB0.out.trans (HG.out.mono HB0.out.size))) HL.out WT.out HCP.out).mono ?_;rintro e w5 ⟨rfl,hb5⟩;have Xg:=az hb5;have Yv:=iX HG hb5;rw[hd5];clear hb5;go_wp2_with fail;exact HK.out _ _ ⟨Value.bool false,by simp[upd,e0],Yv.out,rfl,fun k u hu=>hu⟩
   iterate 10
    ·cases ho;have hm:=HM.out
     try simp[Region.binds]at hm
     refine aa rfl fun K HK=>?_;clear HM
     try simp only[hm]
     go_simp;exact HK.out _ _ ⟨_,by simp[upd, *],HG.out,rfl,fun k u hu=>hu⟩
  case finA =>
   rintro o ho fq w' hG hall;have e11:fq 11=.bool false:=hall 11 (by omega);have HG:=iX HB0 hG;clear hG hall;cases ho;refine wpOp_step rfl (fun K hK=>?_);have HK:Hid (∀a w,_->K a w):=hK;clear hK;simp only[e11];go_simp;refine HK.out _ _ ?_;clear HK;go_wp2;go_ret;exact⟨by rw[HN.out];rfl,HG.out⟩
 have hSP:=aG.1 hd5;obtain⟨h6,XA,-⟩:=aW hSP.1;have X0:Hid (∀r∈rs,r.rows.length<=6):=XA;have HTAB:Hid (Tab rs (jY rs)):=ry hSP.1;obtain⟨fi,hfi⟩:=eQx (tT (ae rs) oa r ⟨c,s⟩);have HFI:Hid (fi=tT (ae rs) oa r ⟨c,s⟩):=hfi;have YL:Hid (fi=dJ (aN (ak (ae rs) oa r)) (aN (ak (ae rs) oa r)).length ⟨c,s⟩):=by show _=_;rw[hfi];exact BP _ (L9 hSP _ _)
 have HDT:Hid (aD (ae rs)=true):=hd5;clear XA hSP hfi;cases ht5:bH oa ob r c d s;case false=>
  have HN:Hid (jU (ae rs) oa ob r c d s=false):=by show _=_;unfold jU rM;rw[ht5];simp
  refine bC 12 _ _ (fun n v _=>v=(Value.slice ad rs.length cap::.bool true::.bool true::.agg #[.string oa,.string ob,.string r,.string c,.string d,.string s]::.bool false::.bool false::.bool false::undef::undef::undef::undef::.bool false::[]).getD n undef) (fun w'=>ag W0 w') (by kernel_rfl) rfl (by kernel_rfl) (by kernel_rfl) (yt [(5,[0,1,2,3,4,5,6,7,8,9,10,11])]) (Vv _ _).drew ?yN ?finB<;>dsimp only[wY];case yN =>
   rintro i hi o ho fq w' hG hpre;have HG:Hid (ag W0 w'):=hG;replace c0:=aC hG hw0 c0;replace c1:=aC hG hw0 c1;replace c2:=aC hG hw0 c2;replace c3:=aC hG hw0 c3;replace c4:=aC hG hw0 c4;replace c5:=aC hG hw0 c5;have HM:Hid (∀e∈o.after,Region.binds .any e=true->_):=hpre;clear hG hpre;have hc:=Li (i:=i) (by omega);clear hi
   repeat' rcases hc with rfl|hc
   ·cases ho;refine aa rfl fun K HK=>?_;clear HM;dsimp only;go_simp;exact HK.out _ _ ⟨Value.slice ad rs.length cap,by simp[upd],HG.out,rfl,fun k u hu=>hu⟩
   ·cases ho;have e0:fq 0=.slice ad rs.length cap:=HM.out ⟨0,.data⟩ (by simp) rfl;refine aa rfl fun K HK=>?_;clear HM;simp only[e0];go_simp;refine(cZ ad cap rs _ hlen (HS.out.below (HB0.out.trans (HG.out.mono HB0.out.size))) HL.out WT.out HCP.out).mono ?_;rintro e w5 ⟨rfl,hb5⟩;have Xg:=az hb5;have Yv:=iX HG hb5;rw[hd5];clear hb5;go_wp2_with fail;exact HK.out _ _ ⟨Value.bool true,by simp[upd,e0],Yv.out,rfl,fun k u hu=>hu⟩
   iterate 2
    ·cases ho;have hm:=HM.out
     try simp[Region.binds]at hm
     refine aa rfl fun K HK=>?_;clear HM
     try simp only[hm]
     go_simp;exact HK.out _ _ ⟨_,by simp[upd, *],HG.out,rfl,fun k u hu=>hu⟩
   ·cases ho;have e3:fq 3=.agg #[.string oa,.string ob,.string r,.string c,.string d,.string s]:=HM.out ⟨3,.data⟩ (by simp) rfl;have e2:fq 2=.bool true:=HM.out ⟨2,.guard⟩ (by simp) rfl;refine aa rfl fun K HK=>?_;clear HM;simp only[e3,e2];go_simp;refine(eG oa ob r c d s _ ha hb hr hc hd hz).mono ?_;rintro e w5 ⟨rfl,hb5⟩;have Xg:=az hb5;have Yv:=iX HG hb5;rw[ht5];clear hb5;go_wp2_with fail;exact HK.out _ _ ⟨Value.bool false,by simp[upd,e3,e2],Yv.out,rfl,fun k u hu=>hu⟩
   iterate 7
    ·cases ho;have hm:=HM.out
     try simp[Region.binds]at hm
     refine aa rfl fun K HK=>?_;clear HM
     try simp only[hm]
     go_simp;exact HK.out _ _ ⟨_,by simp[upd, *],HG.out,rfl,fun k u hu=>hu⟩
  case finB =>
   rintro o ho fq w' hG hall;have e11:fq 11=.bool false:=hall 11 (by omega);have HG:=iX HB0 hG;clear hG hall;cases ho;refine wpOp_step rfl (fun K hK=>?_);have HK:Hid (∀a w,_->K a w):=hK;clear hK;simp only[e11];go_simp;refine HK.out _ _ ?_;clear HK;go_wp2;go_ret;exact⟨by rw[HN.out];rfl,HG.out⟩
 have HN:Hid (jU (ae rs) oa ob r c d s=fi):=by show _=_;unfold jU rM;rw[ht5,HDT.out,YL.out];simp
 refine bC 12 _ _ (VV rs (Value.slice ad rs.length cap::.bool true::.bool true::.agg #[.string oa,.string ob,.string r,.string c,.string d,.string s]::.bool true::.bool true::.bool true::.slice ad rs.length cap::undef::.agg #[.string oa,.string ob,.string r,.string c,.string d,.string s]::.bool fi::.bool fi::[])) (fun w'=>ag W0 w') (by kernel_rfl) rfl (by kernel_rfl) (by kernel_rfl) (yt [(5,[0,1,2,3,4,5,6,7,8,9,10,11])]) (Vv _ _).drew ?stepC ?finC<;>dsimp only[wY];case stepC =>
  rintro i hi o ho fq w' hG hpre;have HG:Hid (ag W0 w'):=hG;replace c0:=aC hG hw0 c0;replace c1:=aC hG hw0 c1;replace c2:=aC hG hw0 c2;replace c3:=aC hG hw0 c3;replace c4:=aC hG hw0 c4;replace c5:=aC hG hw0 c5;have HM:Hid (∀e∈o.after,Region.binds .any e=true->_):=hpre;clear hG hpre;have hc:=Li (i:=i) (by omega);clear hi
  repeat' rcases hc with rfl|hc
  ·cases ho;refine aa rfl fun K HK=>?_;clear HM;dsimp only;go_simp;exact HK.out _ _ ⟨Value.slice ad rs.length cap,by simp[upd],HG.out,⟨fun h=>absurd h (by decide),fun _=>rfl⟩,VV.same⟩
  ·cases ho;have e0:fq 0=.slice ad rs.length cap:=(HM.out ⟨0,.data⟩ (by simp) rfl).2 (by decide);refine aa rfl fun K HK=>?_;clear HM;simp only[e0];go_simp;refine(cZ ad cap rs _ hlen (HS.out.below (HB0.out.trans (HG.out.mono HB0.out.size))) HL.out WT.out HCP.out).mono ?_;rintro e w5 ⟨rfl,hb5⟩;have Xg:=az hb5;have Yv:=iX HG hb5;rw[hd5];clear hb5;go_wp2_with fail;exact HK.out _ _ ⟨Value.bool true,by simp[upd,e0],Yv.out,⟨fun h=>absurd h (by decide),fun _=>rfl⟩,VV.later Xg.out⟩
  ·cases ho;have e1:fq 1=.bool true:=(HM.out ⟨1,.data⟩ (by simp) rfl).2 (by decide);refine aa rfl fun K HK=>?_;clear HM;simp only[e1];go_simp;exact HK.out _ _ ⟨Value.bool true,by simp[upd,e1],HG.out,⟨fun h=>absurd h (by decide),fun _=>rfl⟩,VV.same⟩
  ·cases ho;have e2:fq 2=.bool true:=(HM.out ⟨2,.guard⟩ (by simp) rfl).2 (by decide);refine aa rfl fun K HK=>?_;clear HM;simp only[e2];go_simp;exact HK.out _ _ ⟨Value.agg #[.string oa,.string ob,.string r,.string c,.string d,.string s],by simp[upd,e2],HG.out,⟨fun h=>absurd h (by decide),fun _=>rfl⟩,VV.same⟩
  ·cases ho;have e3:fq 3=.agg #[.string oa,.string ob,.string r,.string c,.string d,.string s]:=(HM.out ⟨3,.data⟩ (by simp) rfl).2 (by decide);have e2:fq 2=.bool true:=(HM.out ⟨2,.guard⟩ (by simp) rfl).2 (by decide);refine aa rfl fun K HK=>?_;clear HM;simp only[e3,e2];go_simp;refine(eG oa ob r c d s _ ha hb hr hc hd hz).mono ?_;rintro e w5 ⟨rfl,hb5⟩;have Xg:=az hb5;have Yv:=iX HG hb5;rw[ht5];clear hb5;go_wp2_with fail;exact HK.out _ _ ⟨Value.bool true,by simp[upd,e3,e2],Yv.out,⟨fun h=>absurd h (by decide),fun _=>rfl⟩,VV.later Xg.out⟩
  ·cases ho;have e2:fq 2=.bool true:=(HM.out ⟨2,.data⟩ (by simp) rfl).2 (by decide);have e4:fq 4=.bool true:=(HM.out ⟨4,.data⟩ (by simp) rfl).2 (by decide);refine aa rfl fun K HK=>?_;clear HM;simp only[e2,e4];go_simp;exact HK.out _ _ ⟨Value.bool true,by simp[upd,e2,e4],HG.out,⟨fun h=>absurd h (by decide),fun _=>rfl⟩,VV.same⟩
  ·cases ho;have e5:fq 5=.bool true:=(HM.out ⟨5,.data⟩ (by simp) rfl).2 (by decide);refine aa rfl fun K HK=>?_;clear HM;simp only[e5];go_simp;exact HK.out _ _ ⟨Value.bool true,by simp[upd,e5],HG.out,⟨fun h=>absurd h (by decide),fun _=>rfl⟩,VV.same⟩
  ·cases ho;have e6:fq 6=.bool true:=(HM.out ⟨6,.guard⟩ (by simp) rfl).2 (by decide);refine aa rfl fun K HK=>?_;clear HM;simp only[e6];go_simp;exact HK.out _ _ ⟨Value.slice ad rs.length cap,by simp[upd,e6],HG.out,⟨fun h=>absurd h (by decide),fun _=>rfl⟩,VV.same⟩
  ·cases ho;have e7:fq 7=.slice ad rs.length cap:=(HM.out ⟨7,.data⟩ (by simp) rfl).2 (by decide);have e6:fq 6=.bool true:=(HM.out ⟨6,.guard⟩ (by simp) rfl).2 (by decide);refine aa rfl fun K HK=>?_;clear HM;simp only[e7,e6];go_simp;refine(kS ad cap rs _ h6 (HS.out.below (HB0.out.trans (HG.out.mono HB0.out.size))) X0.out WT.out).mono ?_;rintro e w5 ⟨rfl,hmv5,hb5⟩;have Xg:=az hb5;have Yv:=iX HG hb5;have HMV5:=az hmv5;clear hmv5;clear hb5;go_wp2_with fail;exact HK.out _ _ ⟨Value.map (some w'.heap.size),by simp[upd,e7,e6],Yv.out,⟨fun _=>⟨_,rfl,HMV5.out⟩,fun h=>absurd rfl h⟩,VV.later Xg.out⟩
  ·cases ho;have e6:fq 6=.bool true:=(HM.out ⟨6,.guard⟩ (by simp) rfl).2 (by decide);refine aa rfl fun K HK=>?_;clear HM;simp only[e6];go_simp;exact HK.out _ _ ⟨Value.agg #[.string oa,.string ob,.string r,.string c,.string d,.string s],by simp[upd,e6],HG.out,⟨fun h=>absurd h (by decide),fun _=>rfl⟩,VV.same⟩
  ·cases ho;obtain⟨bm,e8,hmv⟩:=(HM.out ⟨8,.data⟩ (by simp) rfl).1 rfl;have e9:fq 9=.agg #[.string oa,.string ob,.string r,.string c,.string d,.string s]:=(HM.out ⟨9,.data⟩ (by simp) rfl).2 (by decide);have e6:fq 6=.bool true:=(HM.out ⟨6,.guard⟩ (by simp) rfl).2 (by decide);refine aa rfl fun K HK=>?_;clear HM;simp only[e8,e9,e6];go_simp;refine(Iq bm 36 rs ad (jY rs) oa ob r c d s _ hmv HTAB.out (HS.out.below (HB0.out.trans (HG.out.mono HB0.out.size))) HL.out ha hr).mono ?_;rintro e w5 ⟨rfl,hb5⟩;have Xg:=az hb5;have Yv:=iX HG hb5;rw[<-HFI.out];clear hb5;go_wp2_with fail;exact HK.out _ _ ⟨Value.bool fi,by simp[upd,e8,e9,e6],Yv.out,⟨fun h=>absurd h (by decide),fun _=>rfl⟩,VV.later Xg.out⟩
  cases ho;have e6:fq 6=.bool true:=(HM.out ⟨6,.data⟩ (by simp) rfl).2 (by decide);have e10:fq 10=.bool fi:=(HM.out ⟨10,.data⟩ (by simp) rfl).2 (by decide);refine aa rfl fun K HK=>?_;clear HM;simp only[e6,e10];go_simp;exact HK.out _ _ ⟨Value.bool fi,by simp[upd,e6,e10],HG.out,⟨fun h=>absurd h (by decide),fun _=>rfl⟩,VV.same⟩
 case finC =>
  rintro o ho fq w' hG hall;have e11:fq 11=.bool fi:=(hall 11 (by omega)).2 (by decide);have HG:=iX HB0 hG;clear hG hall;cases ho;refine wpOp_step rfl (fun K hK=>?_);have HK:Hid (∀a w,_->K a w):=hK;clear hK;simp only[e11];go_simp;refine HK.out _ _ ?_;clear HK;go_wp2;go_ret;exact⟨by rw[HN.out];rfl,HG.out⟩
end Go.Proofs.YtojjoblnpldniaaGreat
