/- Contract of the document's reader of a schema's lines: spec.l3Schema. -/
import Derived.Test.YtajkkeikihhejaaGreatSq
import Derived.Test.YtajkkeikihhejaaGreatJ12
import Derived.Test.YtajkkeikihhejaaGreatJ14
import Derived.Laws.EntriesVeiled
open Go.Proofs.Tryz
set_option maxHeartbeats 80000000
namespace Go.Proofs.YtajkkeikihhejaaGreat
set_option maxRecDepth 100000
open ChangeShapes WideShapes ChangeAt RowKit Maps
open Pl
theorem dU{p:Prop}(h:p):Hid p:=h
def strOf:Value->Nat | .string b=>b.size|_=>0
def TZ(s:ByteArray)(w:World)(e:Ending)(w':World):Prop :=
 ae w w'/\((dS (s.size+1) s []=none/\e=.returned (.tuple #[.slice none 0 0,.bool false])) \/ ∃(v:Value) (rs:Q06),dS (s.size+1) s []=some (ag rs)/\e=.returned (.tuple #[v,.bool true])/\iZ w' w.heap.size v rs/\dB (ag rs)=s/\Ti (ag rs))
theorem Nq{n:Nat}{rest:ByteArray}{acc:Q0b}(hn:rest.size<n)(h:rest.toList.isEmpty=true):dS n rest acc=some acc:=by
 cases n with
 | zero=>omega
 | succ n=>simp[dS,h]
theorem Nr{n:Nat}{rest:ByteArray}{acc:Q0b}(hn:rest.size<n)(h:rest.toList.isEmpty=false)(hc:pz 10 rest=false):dS n rest acc=none:=by
 cases n with
 | zero=>omega
 | succ n=>simp[dS,h,hc]
theorem Ns{n:Nat}{rest:ByteArray}{acc:Q0b}(hn:rest.size<n)(h:rest.toList.isEmpty=false)(hc:pz 10 rest=true)(hl:nJ acc (kS 10 rest)=none):dS n rest acc=none:=by
 cases n with
 | zero=>omega
 | succ n=>simp[dS,h,hc,hl]
theorem Qq{n:Nat}{rest:ByteArray}{acc a:Q0b}(hn:rest.size<n)(h:rest.toList.isEmpty=false)(hc:pz 10 rest=true)(hl:nJ acc (kS 10 rest)=some a):dS n rest acc=dS (n-1) (iY 10 rest) a/\(iY 10 rest).size<n-1:=by
 have:=Hz hc;cases n with
 | zero=>omega
 | succ n=>exact⟨by simp[dS,h,hc,hl],by simp;omega⟩
theorem Qr{b:ByteArray}(h:b.toList.isEmpty=true):b=⟨#[]⟩:=by
 have h2:b.toList=[]:=by simpa using h
 rw[mZ]at h2;exact jr (by simpa using h2)
theorem BX:P8.toList=[116,121,112,101,32]:=by rw[mZ];rfl
theorem Ie:UO.toList=[61,32]:=by rw[mZ];rfl
theorem Qs(w:af)(a b:Value)(t:TypeId):∀j u,[a,b][j]?=some u->(w.alloc (.cells #[a,b] t)).cell? ((⟨w.heap.size,0,none⟩:Addr).add j)=some u:=by
 intro j u hu;rw[show(⟨w.heap.size,0,none⟩:Addr).add j=⟨w.heap.size,0+j,none⟩ by simp[Addr.add];omega,VC];have:=World.cell?_alloc_mark w #[a,b] t (0,0) j;rw[this];simpa using hu
theorem Qt(xs:Q06)(t t':TR)(hn:t'.name=t.name):((xs++[t]).flatMap TR.cells).set (xs.length*2+1) t'.vs=(xs++[t']).flatMap TR.cells:=by
 have hl:(xs.flatMap TR.cells).length=xs.length*2:=pG (fun _=>rfl) _;rw[VU,VU,List.set_append_right _ _ (by omega),hl];simp[TR.cells,hn]
theorem UV(n:ByteArray)(ad:Q02)(k c:Nat):∀u∈[Value.string n,.slice ad k c],u.oneCell'=true:=by
 intro u hu;simp at hu;rcases hu with rfl|rfl<;>rfl
theorem FM(s:ByteArray)(w:af)(hs:s.size<=3000):Calls prog 124 #[.string s] w (TZ s w):=by
 obtain⟨iT0,hiT,zT0,zT1,zT2⟩:=info_parts (P:=prog) (e:=127) (z:=.agg #[.string ⟨#[]⟩,.slice none 0 0]) (size:=2) (bytes:=40) (by kernel_rfl);have HIT:Hid (prog.info? 127=some iT0/\iT0.zero=some (.agg #[.string ⟨#[]⟩,.slice none 0 0])/\iT0.size=2/\iT0.bytes=40):=⟨hiT,zT0,zT1,zT2⟩;obtain⟨iR0,hiR,zR0,zR1,zR2⟩:=info_parts (P:=prog) (e:=147) (z:=.agg #[.string ⟨#[]⟩,.slice none 0 0]) (size:=2) (bytes:=40) (by kernel_rfl);have Xb:Hid (prog.info? 147=some iR0/\iR0.zero=some (.agg #[.string ⟨#[]⟩,.slice none 0 0])/\iR0.size=2/\iR0.bytes=40):=⟨hiR,zR0,zR1,zR2⟩;obtain⟨W0,hW0⟩:∃W0,W0=w.alloc (.cells #[] 127):=⟨_,rfl⟩;have HB0:=mi hW0;have HM0:Hid (iZ W0 w.heap.size (.slice (some ⟨w.heap.size,0,none⟩) 0 0) []):=by
  show WL _ _ _ _ _ _ _ _ _;rw[hW0];exact⟨World.ownsRow_lit w #[] 0 (Va _) (by unfold maxLen;omega) (by simp),fun q hq=>(by cases hq),fun q hq=>(by cases hq),fun x y hx=>absurd hx (by simp)⟩
 have hs5:(s.size:Int)<=50000:=by omega
 clear hiT zT0 zT1 zT2 hiR zR0 zR1 zR2;go_enter func124,ntmps124;go_wp2;rw[<-hW0];clear hW0;go_loopw[4,5] (fun v r wr=>∃(rs:Q06) (rest:ByteArray) (n:Nat),r=.string rest/\rest.size<=3000/\Hid (iZ wr w.heap.size v rs)/\Hid (ae w wr)/\Hid (dB (ag rs)++rest=s)/\Hid (Ti (ag rs))/\Hid (rest.size<n/\dS n rest (ag rs)=dS (s.size+1) s [])) (fun _ r _=>strOf r);case atStart=>exact⟨[],s,s.size+1,rfl,hs,HM0,HB0,by show _=_;exact sj _,fun t ht=>(by cases ht),by omega,rfl⟩
 clear HM0 HB0;obtain⟨rs,rest,n,rfl,hrs,HM,HB,HT,HK,HN⟩:=hrel;cases he:rest.toList.isEmpty;case true=>
  have HTX:Hid (dB (ag rs)=s):=by show _=_;rw[<-HT.out,Qr he,wL]
  have Xl:=dU (Nq (acc:=ag rs) HN.out.1 he);obtain⟨ad,cap,rfl,hsl,-⟩:=HM.out.read;obtain⟨k1,k2,k3,k4⟩:=rows_ok HK.out (by rw[HTX.out];exact hs);have Ww:=dU (FH ad cap rs wr ⟨k1,fun r hr=>(k2 r hr).1,fun r hr=>(k2 r hr).2.1,fun r hr=>(k2 r hr).2.2⟩ hsl k3 k4);clear hsl k1 k2 k3 k4;go_wp2_with fail;refine Ww.out.mono ?_;rintro e w1 ⟨hee,hb1⟩;rw[HTX.out]at hee;subst hee;have HB1:=dU (HB.out.trans (hb1.mono HB.out.size));have ZI:=dU (HM.out.below nk hb1);clear hb1 Ww;go_wp2;exact bodyPost_ret (v:=.tuple #[.slice ad rs.length cap,.bool true]) (by simp[results,Tryz.results124,go_sem]) rfl ⟨HB1.out,.inr ⟨_,rs,by rw[<-HN.out.2,Xl.out],rfl,ZI.out,HTX.out,HK.out⟩⟩
 have HE:=dU he;have h500:rs.length<=500:=(rows_ok HK.out (by have:=congrArg ByteArray.size HT.out;rw[Vv]at this;omega)).1;have HC:=dU (Dz rest 10 wr (by unfold maxLen;omega));go_wp2_with fail;refine HC.out.mono ?_;rintro e w1 ⟨rfl,n0,hw1⟩;have hb1:ae wr w1:=by rw[hw1];exact below_drewN (Vb _ _) n0
 have HB1:=dU (HB.out.trans (hb1.mono HB.out.size));have ZI:=dU (HM.out.below nk hb1);have hzz:=K8 10 rest;have hza:=Rq 10 rest;clear hw1 hb1 HC HM HB;cases hc:pz 10 rest;case false=>
  have XI:=dU (Nr (acc:=ag rs) HN.out.1 HE.out hc);go_wp2;exact bodyPost_ret (v:=.tuple #[.slice none 0 0,.bool false]) (by simp[results,Tryz.results124,go_sem]) rfl ⟨HB1.out,.inl ⟨by rw[<-HN.out.2,XI.out],rfl⟩⟩
 have HCF:=dU hc;have HJ:=dU (BI hc);have hless:=Hz hc;obtain⟨line,ZY⟩:∃line,line=kS 10 rest:=⟨_,rfl⟩;obtain⟨more,hmore⟩:∃more,more=iY 10 rest:=⟨_,rfl⟩;rw[<-ZY,<-hmore]at HJ;rw[<-hmore]at hzz hless;rw[<-ZY]at hza;rw[<-ZY,<-hmore];have HLI:=dU ZY;have HMO:=dU hmore;clear ZY hmore hc;have HON:Hid (∀a,nJ (ag rs) line=some a->dS (n-1) more a=dS (s.size+1) s []/\more.size<n-1/\dB a++more=s/\Ti a):=fun a ha=>by
  have h1:=Qq (acc:=ag rs) HN.out.1 HE.out HCF.out (by rw[<-HLI.out];exact ha);rw[<-HMO.out]at h1;refine⟨by rw[<-h1.1,HN.out.2],h1.2,?_,R4 ha HK.out⟩;rw[Nf ha,VW];have h2:=HT.out;rw[HJ.out]at h2;exact h2
 have HOFF:Hid (nJ (ag rs) line=none->dS (s.size+1) s []=none):=fun ha=>by
  have h1:=Ns (acc:=ag rs) HN.out.1 HE.out HCF.out (by rw[<-HLI.out];exact ha);rw[<-HN.out.2,h1]
 cases ht:BH line;case true=>
  have hl5:5<line.size:=by unfold BH at ht;simp only[Vd,Vk]at ht;exact ht.1
  have hty:((line.extract 0 5).toList==[116,121,112,101,32])=true:=by unfold BH at ht;simp only[Vd]at ht;rw[<-BX];exact ht.2
  have hd5:decide ((5:Int)<(line.size:Int))=true:=by simp;omega
  have HLP:Hid (nJ (ag rs) line=some (ag (rs++[⟨line.extract 5 line.size,[],none,0⟩]))):=by show _=_;unfold nJ;rw[ht];simp[ag,TR.p,eT]
  clear ht;obtain⟨nm,hnm⟩:∃nm,nm=line.extract 5 line.size:=⟨_,rfl⟩;obtain⟨W2,hW2⟩:∃W2,W2=w1.alloc (.cells #[.string nm,.slice none 0 0] 127):=⟨_,rfl⟩;have hb2:ae w1 W2:=by rw[hW2];exact(Vb _ _).alloc (Va _) _
  have Xm:=dU (ZI.out.below nk hb2);have HB2:=dU (HB1.out.trans (hb2.mono HB1.out.size));have Yd:Hid (∀j u,[Value.string nm,.slice none 0 0][j]?=some u->W2.cell? ((⟨w1.heap.size,0,none⟩:Addr).add j)=some u):=by show ∀j u,_;rw[hW2];exact Qs w1 _ _ _
  rw [<-hnm]at HLP;rw [hnm]at hW2;clear hb2 hnm;go_wp2_with (at_builtin;rw [<-hW2];clear hW2;refine wpList_append_own_at _ rfl _ _ 24 rfl w.heap.size 127 iT0 (.agg #[.string ⟨#[]⟩,.slice none 0 0]) 2 40 underlying24 HIT.out.1 HIT.out.2.1 HIT.out.2.2.1 HIT.out.2.2.2 rfl (by decide) u4 _ (rs.flatMap TR.cells) rfl Xm.out.own ⟨w1.heap.size,0,none⟩ 1 1 [.string nm,.slice none 0 0] rfl rfl Yd.out (UV _ _ _ _) (by unfold maxLen;omega) (by omega) HB2.out.size ?_);intro v3 w3 hown3 hgr3 _ hat3;have HM3:Hid (iZ w3 w.heap.size v3 (rs++[⟨nm,[],none,0⟩])):=Xm.out.snoc nk (q:=⟨nm,[],none,0⟩) hown3 hgr3 (by
    rcases hat3 with e|e
    ·exact .inl e
    ·exact .inr ⟨_,e,Va _⟩) (Pn W2 w.heap.size) (fun g hg=>by
    rcases hg with hg|⟨q,hq,-⟩
    ·simp[TR.vs,Value.ownBlock]at hg
    ·cases hq) (fun p hp g hg hg2=>by
    rcases hg2 with hg2|⟨q,hq,-⟩
    ·simp[TR.vs,Value.ownBlock]at hg2
    cases hq)
  have HB3:Hid (ae w w3):=HB2.out.grown hgr3 HB2.out.size (fun g hg=>(Xm.out.own.lt g hg).1);obtain⟨o1,o2,o3,o4⟩:=HON.out _ HLP.out;have HO:=dU (And.intro o2 o1);have WO:=dU o3;have WG:=dU o4;clear hown3 hgr3 hat3 o1 o2 o3 o4 Xm HB2 Yd hty hd5;go_wp2;go_roundw;case rel=>exact⟨_,more,n-1,rfl,by omega,HM3,HB3,WO,WG,HO⟩
  simp only[strOf];exact hless
 have HTY:=dU ht;have h58:(5<line.size/\decide ((5:Int)<(line.size:Int))=true/\((line.extract 0 5).toList==[116,121,112,101,32])=false)\/decide ((5:Int)<(line.size:Int))=false:=by
  by_cases h5:5<line.size
  ·left;refine⟨h5,by simp;omega,?_⟩;unfold BH at ht;rw[decide_eq_true h5,Bool.true_and,BX]at ht;exact ht
  right;simp;omega
 have Xh:=dU (Dz line 32 w1 (by unfold maxLen;omega));obtain⟨ad4,cap4,hv4,hsl4,-⟩:=iZ.read ZI.out;subst hv4;clear ht hsl4;rcases h58 with⟨hl5,hd5,hty⟩|hd5
 all_goals (
  go_wp2_with fail;refine Xh.out.mono ?_;rintro e w2 ⟨rfl,n1,hw2⟩;have hb2:ae w1 w2:=by rw[hw2];exact below_drewN (Vb _ _) n1
  have HB2:=dU (HB1.out.trans (hb2.mono HB1.out.size));have Xm:=dU (ZI.out.below nk hb2);have hzt:=K8 32 line;obtain⟨nm,hnm⟩:∃nm,nm=kS 32 line:=⟨_,rfl⟩;obtain⟨tl,htl⟩:∃tl,tl=iY 32 line:=⟨_,rfl⟩;rw[<-htl]at hzt;rw[<-hnm,<-htl];have HLP:Hid (nJ (ag rs) line=if !(ag rs).isEmpty&&yM tl&&mW (tl.extract 2 tl.size) then some (FE (ag rs) ⟨nm,(kW (tl.extract 2 tl.size)).out⟩) else none):=by show _=_;unfold nJ Ed;rw[HTY.out,hnm,htl];rfl
  clear hw2 hb2 Xh ZI HB1 hnm htl;by_cases hz:rs=[]
  ·subst hz;have XI:Hid (dS (s.size+1) s []=none):=HOFF.out (by rw[HLP.out];rfl);go_wp2;exact bodyPost_ret (v:=.tuple #[.slice none 0 0,.bool false]) (by simp[results,Tryz.results124,go_sem]) rfl ⟨HB2.out,.inl ⟨XI.out,rfl⟩⟩
  obtain⟨xs,t,hxt⟩:∃xs t,rs=xs++[t]:=⟨rs.dropLast,rs.getLast hz,(List.dropLast_concat_getLast hz).symm⟩;have HXT:=dU hxt;have hlx:rs.length=xs.length+1:=by rw[hxt];simp
  have HNE:Hid ((!(ag rs).isEmpty)=true):=by show _=_;rw[hxt];simp[ag]
  obtain⟨b4,had4⟩:∃b4,ad4=some ⟨b4,0,none⟩:=by
   rcases Xm.out.own.2 with⟨-,h0⟩|⟨g,cap,cur,e,-⟩
   ·exact absurd (Vr.1 h0) hz
   injection e with e1 e2 e3;exact⟨g,e1⟩
  subst had4;have hcell:=Xm.out.own.cellAt (xs.length*2+1) (by omega);rw[rZ (fun _=>rfl) rs xs.length (by omega) 1 (by omega)]at hcell;have htx:rs[xs.length]'(by omega)=t:=by subst hxt;simp
  rw[htx]at hcell;have hcl:w2.cell? ⟨b4,xs.length*2+1,none⟩=some (.slice t.ad t.rows.length t.cap):=hcell;have HCL:=dU hcl;have hn0:(0:Int)<=(xs.length:Int):=by omega
  have hn1:(xs.length:Int)<(xs.length:Int)+1:=by omega
  have HLX:=dU hlx;have hx500:xs.length<500:=by omega
  have h500':=h500;rw[hlx];clear hz hxt hlx hcell htx hcl h500;by_cases h2:tl.size<2
  ·have hd2:decide ((tl.size:Int)<2)=true:=by simp;omega
   have XI:Hid (dS (s.size+1) s []=none):=HOFF.out (by rw[HLP.out];simp[yM];omega);go_wp2;exact bodyPost_ret (v:=.tuple #[.slice none 0 0,.bool false]) (by simp[results,Tryz.results124,go_sem]) rfl ⟨HB2.out,.inl ⟨XI.out,rfl⟩⟩
  have hd2:decide ((tl.size:Int)<2)=false:=by simp;omega
  have h22:2<=tl.size:=by omega
  cases hq:(tl.extract 0 2).toList==[61,32];case false=>
   have hq2:(!(tl.extract 0 2).toList==[61,32])=true:=by rw[hq];rfl
   have XI:Hid (dS (s.size+1) s []=none):=HOFF.out (by rw[HLP.out];unfold yM;rw[Ie,hq];simp);go_wp2;exact bodyPost_ret (v:=.tuple #[.slice none 0 0,.bool false]) (by simp[results,Tryz.results124,go_sem]) rfl ⟨HB2.out,.inl ⟨XI.out,rfl⟩⟩
  have hq2:(!(tl.extract 0 2).toList==[61,32])=false:=by rw[hq];rfl
  have HTB:Hid (yM tl=true):=by show _=_;unfold yM;rw[Ie,hq,decide_eq_true h22];rfl
  have HRE:=dU (xW (tl.extract 2 tl.size) w2);go_wp2_with fail;refine HRE.out.mono ?_;rintro e w3 ⟨hb3,hcase⟩;have HB3:=dU (HB2.out.trans (hb3.mono HB2.out.size));have HM3:=dU (Xm.out.below nk hb3);have h23:w2.heap.size<=w3.heap.size:=hb3.size;have HLT2:Hid (∀g,GZ iT (.slice (some ⟨b4,0,none⟩) rs.length cap4) rs g->g<w2.heap.size):=fun g hg=>(Xm.out.lt nk hg).2;have hc3:w3.cell? ⟨b4,xs.length*2+1,none⟩=some (.slice t.ad t.rows.length t.cap):=(hb3.cell (p:=⟨b4,xs.length*2+1,none⟩) (Xm.out.own.lt b4 rfl).2).trans HCL.out;rcases hcase with⟨hrb,rfl⟩|⟨hrb,v,R,qs,rfl,hF⟩
  ·have XI:Hid (dS (s.size+1) s []=none):=HOFF.out (by rw[HLP.out,hrb];simp);clear hb3 hc3 Xm HB2 HRE;go_wp2;exact bodyPost_ret (v:=.tuple #[.slice none 0 0,.bool false]) (by simp[results,Tryz.results124,go_sem]) rfl ⟨HB3.out,.inl ⟨XI.out,rfl⟩⟩
  obtain⟨Ws,capE,hvE⟩:∃Ws capE,v=.slice Ws qs.length capE:=by
   obtain⟨a1,a2,a3,-⟩:=hF.slE;exact⟨a1,a2,a3⟩
  subst hvE;have HNOD:=dU (hF.nod);have HEX:=dU hF.out;have ZE:=dU hrb;obtain⟨W5,Yb⟩:∃W5,W5=w3.alloc (.cells #[.string nm,.slice Ws qs.length capE] 147):=⟨_,rfl⟩;have hb5:ae w3 W5:=by rw[Yb];exact(Vb _ _).alloc (Va _) _
  have HM5:=dU (HM3.out.below nk hb5);have XH:=dU (HB3.out.trans (hb5.mono HB3.out.size));have Yd:Hid (∀j u,[Value.string nm,.slice Ws qs.length capE][j]?=some u->W5.cell? ((⟨w3.heap.size,0,none⟩:Addr).add j)=some u):=by show ∀j u,_;rw[Yb];exact Qs w3 _ _ _
  obtain⟨q,hqd⟩:∃q:RR,q=⟨nm,qs,Ws,capE⟩:=⟨_,rfl⟩;have HQD:=dU hqd;have hkq3:kR w3 (w2.heap.size+1) q:=by rw[hqd];exact HNOD.out
  have hIq:∀g,iR q g->w2.heap.size+1<=g:=fun g hg=>(JI.lt w3 _ q hkq3 g hg).1;have hkq5:kR W5 w.heap.size q:=JI.heap w3 W5 w.heap.size q (hkq3.mono (by have:=HB2.out.size;omega)) hb5.size (fun g hg=>hb5.block g (JI.lt w3 _ q hkq3 g hg).2);have HIQ:=dU hIq;have W5_ge:Hid (w2.heap.size<=W5.heap.size):=Vj h23 hb5.size;have HKQ:=dU hkq5;have Zu:Hid (kT W5 w.heap.size t):=HM5.out.kid t (by rw[HXT.out];simp);have HTLT:Hid (∀g,iT t g->g<w2.heap.size):=fun g hg=>HLT2.out g (.inr ⟨t,by rw[HXT.out];simp,hg⟩);have ht750:t.rows.length<=750:=((rows_ok HK.out (by have:=congrArg ByteArray.size HT.out;rw[Vv]at this;omega)).2.1 t (by rw[HXT.out];simp)).1;have hc5:W5.cell? ⟨b4,xs.length*2+1,none⟩=some (.slice t.ad t.rows.length t.cap):=(hb5.cell (p:=⟨b4,xs.length*2+1,none⟩) (U9 (Xm.out.own.lt b4 rfl).2 h23)).trans hc3;have Zt:=dU hc5;have hfz:W5.frozen? ⟨b4,xs.length*2+1,none⟩=false:=HM5.out.own.frozenAt _;have HFZ:=dU hfz;clear hb3 hF hrb hkq3 hkq5 hIq hqd hc5 hb5 Xm HB2 HRE HM3 HB3 HNOD hfz;go_wp2_with(at_builtin;rw[<-Yb];clear Yb;refine wpList_append_own_at _ rfl _ _ 125 rfl w.heap.size 147 iR0 (.agg #[.string ⟨#[]⟩,.slice none 0 0]) 2 40 underlying125 Xb.out.1 Xb.out.2.1 Xb.out.2.2.1 Xb.out.2.2.2 rfl (by decide) (.slice t.ad t.rows.length t.cap) _ (t.rows.flatMap RR.cells) rfl Zu.out.own ⟨w3.heap.size,0,none⟩ 1 1 [.string nm,.slice Ws qs.length capE] rfl rfl Yd.out (UV _ _ _ _) (by unfold maxLen;omega) (by omega) XH.out.size ?_);intro v6 w6 hown6 hgr6 _ hat6;obtain⟨g6,c6,hv6⟩:=fM hown6;subst hv6;have hqv:q.vs=.slice Ws qs.length capE:=by rw[HQD.out];rfl
  have hneb:some b4≠(Value.slice t.ad t.rows.length t.cap).ownBlock:=fun e=>HM5.out.head t (by rw[HXT.out];simp) b4 (.inl e.symm) rfl;have hc6:w6.cell? ⟨b4,xs.length*2+1,none⟩=some (.slice t.ad t.rows.length t.cap):=hgr6.cell Zt.out hneb;have hf6:w6.frozen? ⟨b4,xs.length*2+1,none⟩=false:=(World.frozen?_of_block (w:=W5) (a:=⟨b4,xs.length*2+1,none⟩) (hgr6.block b4 (HM5.out.own.lt b4 rfl).2 hneb)).trans HFZ.out;obtain⟨t',ht'⟩:∃t':TR,t'=⟨t.name,t.rows++[q],some ⟨g6,0,none⟩,c6⟩:=⟨_,rfl⟩;have hvt':t'.vs=.slice (some ⟨g6,0,none⟩) (t.rows.length+1) c6:=by rw[ht'];simp[TR.vs]
  have hkt':kT w6 w.heap.size t':=by
   have h1:Cx w6 w.heap.size (.slice (some ⟨g6,0,none⟩) (t.rows.length+1) c6) (t.rows++[q]):=Zu.out.snoc JI (q:=q) (by
     rw[show RR.cells q=[.string nm,.slice Ws qs.length capE] by unfold RR.cells;rw[hqv,HQD.out]];exact hown6) hgr6 (by
     rcases hat6 with e|e
     ·exact .inl e
     ·exact .inr ⟨_,e,Va _⟩) HKQ.out (fun g hg e=>by
     have h2:=HTLT.out g (.inl e);have h3:=HIQ.out g hg;omega) (fun p hp g hg hg2=>by
     have h2:=HTLT.out g (.inr ⟨p,hp,hg⟩);have h3:=HIQ.out g hg2;omega)
   unfold kT;rw[hvt',ht'];exact h1
  have hI':∀g,iT t' g->iT t g\/(g≠b4/\∀p∈xs,¬iT p g):=fun g hg=>by
   have Zx:w2.heap.size<=g->g≠b4/\∀p∈xs,¬iT p g:=fun hge=>⟨fun e=>by
     have:=HLT2.out b4 (.inl rfl);omega,fun p hp hi=>by
     have:=HLT2.out g (.inr ⟨p,by rw[HXT.out];simp[hp],hi⟩);omega⟩
   rcases hg with hg|⟨p,hp,hg⟩
   ·rw[hvt']at hg;rcases hat6 with e|e
    ·exact .inl (.inl (e.symm.trans hg))
    rw[e]at hg;injection hg with hg;exact .inr (Zx (by have:=W5_ge.out;omega))
   rw[ht']at hp;rcases Vn.1 hp with hp|hp
   ·exact .inl (.inr ⟨p,hp,hg⟩)
   rw[Vl]at hp;subst hp;exact .inr (Zx (by have:=HIQ.out g hg;omega))
  have HM7:Hid (iZ (w6.setCell ⟨b4,xs.length*2+1,none⟩ (.slice (some ⟨g6,0,none⟩) (t.rows.length+1) c6)) w.heap.size (.slice (some ⟨b4,0,none⟩) (xs.length+1) cap4) (xs++[t'])):=by
   have hM:=HM5.out;rw[HLX.out,HXT.out]at hM;refine WL.last nk hM rfl hgr6 (fun r hr=>.inl hr) hkt' hI' ?_;rw[<-hvt',show t'.vs=t'.vs from rfl];exact Qt xs t t' (by rw[ht'])
  have HB7:Hid (ae w (w6.setCell ⟨b4,xs.length*2+1,none⟩ (.slice (some ⟨g6,0,none⟩) (t.rows.length+1) c6))):=(XH.out.grown hgr6 XH.out.size (fun g hg=>(Zu.out.own.lt g hg).1)).setCell (HM5.out.own.lt b4 rfl).1 _;have HTY7:Hid (nJ (ag rs) line=some (ag (xs++[t']))):=by
   show _=_;rw[HLP.out,HNE.out,HTB.out,ZE.out,HXT.out,ht'];simp only[Bool.and_true,if_true];rw[show ag (xs++[t])=ag xs++[t.p] by simp[ag],ru];simp[ag,TR.p,eT,RR.p,HQD.out,HEX.out]
  obtain⟨o1,o2,o3,o4⟩:=HON.out _ HTY7.out;have HO:=dU (And.intro o2 o1);have WO:=dU o3;have WG:=dU o4;clear hown6 hgr6 hat6 o1 o2 o3 o4 hkt' hI' hvt' ht' hqv hneb HM5 XH Zu HKQ;go_wp2;go_roundw;case rel=>exact⟨_,more,n-1,rfl,by omega,HM7,HB7,WO,WG,HO⟩
  simp only[strOf];exact hless)
def Qu(ts:Q0b)(w:World)(e:Ending)(w':World):Prop :=
 ((∃(b n:Nat) (σ:Ky->Option Int),e=.returned (.tuple #[.map (some b),.bool true])/\aM dX prog 94 w' b n (jh σ)/\Least ts (fun k=>(σ k).getD 0)/\∀k,(∃x,σ k=some x)↔k∈au ts)\/(e=.returned (.tuple #[.map none,.bool false])/\¬ ∃f,Sol ts f))/\ae w w'
theorem Qv(N:Nat)(ks:List Ky):oK N (fun _=>none) ks=N*ks.length:=by
 induction ks with
 | nil=>simp[oK]
 | cons k ks ih=>simp only[oK,ih,xX,VI];push_cast;rw[Int.mul_add];omega
theorem Nt{rs:Q06}(hf:∀r∈rs,r.fits):∀k∈au (ag rs),k.1.size<=maxLen/\k.2.size<=maxLen:=by
 intro k hk;obtain⟨t,ht,r,hr,rfl⟩:=qN.1 hk;obtain⟨t',ht',rfl⟩:=Vo.1 ht;obtain⟨q,hq,rfl⟩:=Vo.1 hr;exact⟨(hf t' ht').1,((hf t' ht').2.2 q hq).1⟩
set_option maxRecDepth 100000 in
theorem ze(ad:Q02)(cap:Nat)(rs:Q06)(bL nL:Nat)(ML:Ky->Option Value)(E:List (Ky×St))(w:af)(hlen:rs.length<=6)(hs:j5 w ad rs)(hf:∀r∈rs,r.fits)(hrl:∀r∈rs,r.rows.length<=6)(hG:Grp w bL nL ML E)(hE:Edge (ag rs) E)(hF:Found (ag rs))(hEl:E.length<=100000):
  Calls prog 133 #[.slice ad rs.length cap,.map (some bL)] w (Qu (ag rs) w):=by
 have HS:=aD hs;have WE:=aD hf;have HRL:Hid (∀r∈rs,r.rows.length<=6):=hrl;have HG:Hid (Grp w bL nL ML E):=hG;have HE:=aD hE;have HF:=aD hF;have HBL:Hid (bL<w.heap.size):=hG.map.lt;clear hs hf hrl hG hE hF;have hmm:=@run_makeMap prog;go_enter func133,ntmps133;have HB0:Hid (ae w ((w.alloc (.cells #[.map (some bL)] 211)).alloc (.cells #[.int .i64 0] 2))):=((Vb _ _).alloc (Va _) _).alloc (by simp) _;have XC:Hid (((w.alloc (.cells #[.map (some bL)] 211)).alloc (.cells #[.int .i64 0] 2)).cell? ⟨w.heap.size,0,none⟩=some (.map (some bL))/\((w.alloc (.cells #[.map (some bL)] 211)).alloc (.cells #[.int .i64 0] 2)).cell? ⟨w.heap.size+1,0,none⟩=some (.int .i64 0)/\((w.alloc (.cells #[.map (some bL)] 211)).alloc (.cells #[.int .i64 0] 2)).frozen? ⟨w.heap.size+1,0,none⟩=false/\w.heap.size+1<((w.alloc (.cells #[.map (some bL)] 211)).alloc (.cells #[.int .i64 0] 2)).heap.size):=⟨by simp,by simp,by simp,by simp⟩;go_wp2_with fail;go_loopw[17] (fun i wr=>∃k:Nat,k<=rs.length/\i=.int .i64 k/\Hid (ae w wr)/\Hid (wr.cell? ⟨w.heap.size,0,none⟩=some (.map (some bL))/\wr.cell? ⟨w.heap.size+1,0,none⟩=some (.int .i64 ((dE rs k).length:Int))/\wr.frozen? ⟨w.heap.size+1,0,none⟩=false/\w.heap.size+1<wr.heap.size)) (fun i _=>rs.length-(intOf i).toNat);case atStart=>exact⟨0,Vf _,rfl,HB0,XC⟩
 clear HB0 XC;obtain⟨k,hk,rfl,HB,HC⟩:=hrel;obtain⟨c0,c1,c2,c3⟩:=HC.out;have hu:=xS rs HRL.out k;by_cases hlt:k<rs.length
 ·rcases HS.out.below HB.out with rfl|⟨b,off,rfl,hb,hr,-⟩
  ·simp at hlt
  obtain⟨t0,t1⟩:=hr k hlt;have hk1:=bC k;have hk2:(k:Int)<(rs.length:Int):=by omega
  have h6:=HRL.out _ (U8 hlt);have XA:Hid ((dE rs (k+1)).length=(dE rs k).length+rs[k].rows.length):=by show _=_;rw[pI _ _ hlt,Vh];simp[jg]
  obtain⟨cn,hcn⟩:∃cn,cn=(dE rs k).length:=⟨_,rfl⟩;rw[<-hcn]at c1 hu XA;have HB1:Hid (ae w ((wr.setCell ⟨w.heap.size+1,0,none⟩ (.int .i64 ((cn:Int)+(rs[k].rows.length:Int)))).alloc (.cells #[.string rs[k].name,.slice rs[k].ad rs[k].rows.length rs[k].cap] 127))):=(HB.out.setCell (p:=⟨w.heap.size+1,0,none⟩) (by simp) _).alloc (by simpa using HB.out.size) _;have XK:Hid (((wr.setCell ⟨w.heap.size+1,0,none⟩ (.int .i64 ((cn:Int)+(rs[k].rows.length:Int)))).alloc (.cells #[.string rs[k].name,.slice rs[k].ad rs[k].rows.length rs[k].cap] 127)).cell? ⟨w.heap.size,0,none⟩=some (.map (some bL))/\((wr.setCell ⟨w.heap.size+1,0,none⟩ (.int .i64 ((cn:Int)+(rs[k].rows.length:Int)))).alloc (.cells #[.string rs[k].name,.slice rs[k].ad rs[k].rows.length rs[k].cap] 127)).cell? ⟨w.heap.size+1,0,none⟩=some (.int .i64 ((dE rs (k+1)).length:Int))/\((wr.setCell ⟨w.heap.size+1,0,none⟩ (.int .i64 ((cn:Int)+(rs[k].rows.length:Int)))).alloc (.cells #[.string rs[k].name,.slice rs[k].ad rs[k].rows.length rs[k].cap] 127)).frozen? ⟨w.heap.size+1,0,none⟩=false/\w.heap.size+1<((wr.setCell ⟨w.heap.size+1,0,none⟩ (.int .i64 ((cn:Int)+(rs[k].rows.length:Int)))).alloc (.cells #[.string rs[k].name,.slice rs[k].ad rs[k].rows.length rs[k].cap] 127)).heap.size):=by
   obtain⟨X,hX⟩:∃X,X=wr.setCell ⟨w.heap.size+1,0,none⟩ (.int .i64 ((cn:Int)+(rs[k].rows.length:Int))):=⟨_,rfl⟩;have hXs:X.heap.size=wr.heap.size:=by rw[hX];simp
   have hB:ae X (X.alloc (.cells #[.string rs[k].name,.slice rs[k].ad rs[k].rows.length rs[k].cap] 127)):=(Vb _ _).alloc (Va _) _;rw[<-hX];refine⟨aJ hB (by omega) (by rw[hX,yh (by omega)];exact c0),aJ hB (by omega) (by rw[hX,XA.out];push_cast;exact zG c1),?_,by simp;omega⟩;rw[hB.frozen (p:=⟨w.heap.size+1,0,none⟩) (by simp;omega),hX];simpa using c2
  clear hr hcn HC;go_wp2;go_roundw;case rel=>exact⟨k+1,by omega,by go_num,HB1,XK⟩
  simp[intOf]<;>omega
 obtain rfl:k=rs.length:=by omega
 have hEN:dE rs rs.length=au (ag rs):=by unfold dE;rw[Vs]
 rw[hEN]at c1 hu;obtain⟨N,hN⟩:∃N,N=(au (ag rs)).length:=⟨_,rfl⟩;rw[<-hN]at c1 hu;have XR:Hid (N=(au (ag rs)).length):=hN;have HEN:Hid (dE rs rs.length=au (ag rs)):=hEN;have hN36:N<=36:=by omega
 have hbl:=HBL.out;have hwr:w.heap.size<=wr.heap.size:=HB.out.size;obtain⟨W0,hW0⟩:∃W0,W0=(((wr.alloc (.map #[] 0)).alloc (.cells #[.map (some wr.heap.size)] 153)).alloc (.cells #[(.func (Fn.func 186) #[] #[.pointer (some ⟨wr.heap.size+1,0,none⟩),.pointer (some ⟨w.heap.size+1,0,none⟩),.pointer (some ⟨w.heap.size,0,none⟩),.pointer (some ⟨wr.heap.size+1+1,0,none⟩)])] 270)):=⟨_,rfl⟩;have hal:ae wr W0:=by
  rw[hW0]
  repeat(first|exact Vb _ _|refine Below.alloc ?_ (by first|(simp;done)|(simp;omega)) _)
 have hs0:W0.heap.size=wr.heap.size+3:=by rw[hW0];simp
 have HRW:Hid (Rw W0 (wr.heap.size+1) (w.heap.size+1) w.heap.size (wr.heap.size+1+1) wr.heap.size bL N 0 nL ML E (fun _=>none)):=by
  have hGr:Grp wr bL nL ML E:=HG.out.below HB.out;have hMV:aM dX prog 94 W0 wr.heap.size 0 (jh (fun _=>none)):=by
   have h1:=kr dX prog 94 wr;have e1:jh (fun _=>none)=fun _=>none:=by funext k;rfl
   rw[e1];refine h1.below ?_;rw[hW0]
   repeat(first|exact Vb _ _|refine Below.alloc ?_ (by first|(simp;done)|(simp;omega)) _)
  have hcS:W0.cell? ⟨wr.heap.size+1,0,none⟩=some (.map (some wr.heap.size)):=by
   rw[hW0];exact aJ ((Vb _ _).alloc (Va _) _) (by simp) (Oa wr _ _ _ 0 rfl)
  have hcR:W0.cell? ⟨wr.heap.size+1+1,0,none⟩=some (FK (wr.heap.size+1) (w.heap.size+1) w.heap.size (wr.heap.size+1+1)):=by
   rw[hW0];exact Tv _ _ _ _ _ _ rfl
  exact⟨hcS,aJ hal (by omega) c1,aJ hal (by omega) c0,hcR,by omega,by omega,by omega,by omega,hMV,hGr.below hal,by omega,hGr.fresh (Va _)⟩
 have HB0:=jF HB hal;clear hu hEN hN hal HC;go_wp2_with fail;rw[<-hW0];clear hW0 c0 c1 c2 c3 HB;obtain⟨bS,hbS⟩:∃bS,bS=wr.heap.size:=⟨_,rfl⟩;obtain⟨gS,hgS⟩:∃gS,gS=wr.heap.size+1:=⟨_,rfl⟩;obtain⟨gR,hgR⟩:∃gR,gR=wr.heap.size+1+1:=⟨_,rfl⟩;obtain⟨gC,hgC⟩:∃gC,gC=w.heap.size+1:=⟨_,rfl⟩;obtain⟨gL,hgL⟩:∃gL,gL=w.heap.size:=⟨_,rfl⟩;have hb1:w.heap.size<=bS:=by omega
 have HRW2:Hid (Rw W0 gS gC gL gR bS bL N 0 nL ML E (fun _=>none)):=by rw[hbS,hgS,hgR,hgC,hgL];exact HRW
 have HI0:Hid (∃(σ:Ky->Option Int) (n:Nat),Rw W0 gS gC gL gR bS bL N n nL ML E σ/\Rz (ag rs) N σ/\(n:Int)+oK N σ (au (ag rs))<=2000/\Raised E (fun _=>none) σ/\∀key∈dE rs 0,∃x,σ key=some x):=by
  refine⟨fun _=>none,0,HRW2.out,⟨fun k x h=>by cases h⟩,?_,Raised.refl _ _,fun k hk=>by simp[dE,ag,au]at hk⟩;rw[Qv,<-XR.out];have h1:(N:Int)*N<=36*36:=Int.mul_le_mul (by omega) (by omega) (by omega) (by omega)
  push_cast;omega
 rw[<-hgR,<-hgS,<-hbS,<-hgC,<-hgL];clear HRW HRW2 hs0 hmm hgR hgS hbS hgC hgL;go_loopw[31] (fun i w2=>∃k:Nat,k<=rs.length/\i=.int .i64 k/\Hid (ae w w2)/\Hid (∃(σ:Ky->Option Int) (n:Nat),Rw w2 gS gC gL gR bS bL N n nL ML E σ/\Rz (ag rs) N σ/\(n:Int)+oK N σ (au (ag rs))<=2000/\Raised E (fun _=>none) σ/\∀key∈dE rs k,∃x,σ key=some x)) (fun i _=>rs.length-(intOf i).toNat);case atStart=>exact⟨0,Vf _,rfl,HB0,HI0⟩
 clear HB0 HI0;obtain⟨k,hk,rfl,HB,HI⟩:=hrel;by_cases hlt:k<rs.length
 ·rcases HS.out.below HB.out with rfl|⟨b,off,rfl,hb,hr,-⟩
  ·simp at hlt
  obtain⟨t0,t1⟩:=hr k hlt;have hk1:=bC k;have hk2:(k:Int)<(rs.length:Int):=by omega
  have h6:=HRL.out _ (U8 hlt);obtain⟨W1,hW1⟩:∃W1,W1=wr.alloc (.cells #[.string rs[k].name,.slice rs[k].ad rs[k].rows.length rs[k].cap] 127):=⟨_,rfl⟩;have hal:ae wr W1:=by rw[hW1];exact(Vb _ _).alloc (Va _) _
  obtain⟨g12,Zi⟩:∃g12,g12=wr.heap.size:=⟨_,rfl⟩;have hbw:bS<wr.heap.size:=by obtain⟨σ,n,hR,-⟩:=HI.out;exact hR.map.lt
  have HC12:Hid (W1.cell? ⟨g12,0,none⟩=some (.string rs[k].name)/\g12<W1.heap.size/\g12≠bS):=⟨by rw[hW1,Zi];simp,by rw[hW1,Zi];simp,by omega⟩;have HB1:=jF HB hal;have HI1:Hid (∃(σ:Ky->Option Int) (n:Nat),Rw W1 gS gC gL gR bS bL N n nL ML E σ/\Rz (ag rs) N σ/\(n:Int)+oK N σ (au (ag rs))<=2000/\Raised E (fun _=>none) σ/\∀key∈dE rs k,∃x,σ key=some x):=by
   obtain⟨σ,n,hR,h2⟩:=HI.out;exact⟨σ,n,hR.below hal,h2⟩
  clear hr hal HI HB;go_wp2_with fail;rw[<-hW1,<-Zi];clear hW1 t0 t1 Zi;go_loopw[38] (fun i w3=>∃j:Nat,j<=rs[k].rows.length/\i=.int .i64 j/\Hid (ae w w3)/\Hid (w3.cell? ⟨g12,0,none⟩=some (.string rs[k].name)/\g12<w3.heap.size/\g12≠bS)/\Hid (∃(σ:Ky->Option Int) (n:Nat),Rw w3 gS gC gL gR bS bL N n nL ML E σ/\Rz (ag rs) N σ/\(n:Int)+oK N σ (au (ag rs))<=2000/\Raised E (fun _=>none) σ/\∀key∈dE rs k++jg rs[k] j,∃x,σ key=some x)) (fun i _=>rs[k].rows.length-(intOf i).toNat);case atStart=>exact⟨0,Vf _,rfl,HB1,HC12,by simpa[jg] using HI1⟩
  clear HB1 HC12 HI1;obtain⟨j,hj,rfl,HB,HC,HI⟩:=hrel;by_cases hjl:j<rs[k].rows.length
  ·rcases HS.out.below HB.out with hnil|⟨b',off',he,hb2,hr,hok⟩
   ·rw[hnil]at hlt;simp at hlt
   injection he with he;injection he with he1 he2;subst he1;subst he2;have ok:=hok rs[k] (U8 hlt);rcases ok with hnil|⟨b2,WW,had,hbb,hr2,-⟩
   ·rw[hnil]at hjl;simp at hjl
   obtain⟨q0,q1⟩:=hr2 j hjl;have hj1:=bC j;have hj2:(j:Int)<(rs[k].rows.length:Int):=by omega
   obtain⟨σ,n,hR,hZ,hn,hRa,hall⟩:=HI.out;obtain⟨x0,x1,x2⟩:=HC.out;have cR:=hR.cR;unfold FK at cR;have lR:=hR.lR.1;obtain⟨W3,hW3⟩:∃W3,W3=wr.alloc (.cells #[.string rs[k].rows[j].name,.slice rs[k].rows[j].ad rs[k].rows[j].rows.length rs[k].rows[j].cap] 147):=⟨_,rfl⟩;have hal:ae wr W3:=by rw[hW3];exact(Vb _ _).alloc (Va _) _
   have HR3:=aD (hR.below hal);have HZ3:=aD hZ;have HB3:=jF HB hal;have Zr:Hid (W3.cell? ⟨g12,0,none⟩=some (.string rs[k].name)/\g12<W3.heap.size/\g12≠bS):=⟨aJ hal x1 x0,U9 x1 hal.size,x2⟩;have Zq:Hid (Raised E (fun _=>none) σ):=hRa;have WM:Hid (∀key∈dE rs k++jg rs[k] j,∃x,σ key=some x):=hall;have hmp:=hZ.mu_pos (au (ag rs));have HKM:Hid ((rs[k].name,rs[k].rows[j].name)∈au (ag rs)):=qN.2 ⟨rs[k].p,VK (U8 hlt),rs[k].rows[j].p,VK (U8 hjl),rfl⟩;rw[had];clear hr hok hr2 hal hR hZ hRa hall HI HB HC;go_wp2_with fail;rw[<-hW3];clear hW3 q0 q1 cR x0;refine(Nl (ag rs) gS gC gL gR bS bL N nL ML E HE.out HF.out XR.out hN36 (Nt WE.out) hEl (oK N σ (au (ag rs))).toNat _ σ n (rs[k].name,rs[k].rows[j].name) 0 HR3.out HZ3.out (by omega) (by omega) HKM.out (by omega) (by omega) (qJ.zero _ _)).mono ?_;rintro e w5 ⟨ok,σ5,n5,rfl,hg5,WS,hZ5,hn5,Ze,hf5,ht5⟩;have XH:Hid (ae w w5):=HB3.out.grown hg5 HB3.out.size (fun i hi=>by injection hi with hi;omega);cases ok;case false=>
    have HP:Hid (Qu (ag rs) w (.returned (.tuple #[.map none,.bool false])) w5):=⟨.inr ⟨rfl,hf5 rfl⟩,XH.out⟩;clear hg5 WS hZ5 hn5 Ze hf5 ht5;go_wp2;refine bodyPost_ret (v:=.tuple #[.map none,.bool false]) ?_ rfl HP.out;simp[results,Tryz.results133,go_sem]
   have HI5:Hid (∃(σ:Ky->Option Int) (n:Nat),Rw w5 gS gC gL gR bS bL N n nL ML E σ/\Rz (ag rs) N σ/\(n:Int)+oK N σ (au (ag rs))<=2000/\Raised E (fun _=>none) σ/\∀key∈dE rs k++jg rs[k] (j+1),∃x,σ key=some x):=by
    obtain⟨hRa,y,hy,-⟩:=ht5 rfl;refine⟨σ5,n5,WS,hZ5,by omega,Zq.out.trans hRa,fun key hk=>?_⟩;rw[uG _ _ hjl,<-VD]at hk;rcases Vn.1 hk with hk|hk
    ·obtain⟨x,hx⟩:=WM.out key hk;obtain⟨z,hz,-⟩:=hRa.mono key x hx;exact⟨z,hz⟩
    simp at hk;subst hk;exact⟨y,hy⟩
   have Zt:Hid (w5.cell? ⟨g12,0,none⟩=some (.string rs[k].name)/\g12<w5.heap.size/\g12≠bS):=⟨(kX hg5 Zr.out.2 0).trans Zr.out.1,U9 Zr.out.2.1 hg5.size,Zr.out.2.2⟩;clear hg5 WS hZ5 hn5 Ze hf5 ht5;go_wp2;go_roundw;case rel=>exact⟨j+1,by omega,by go_num,XH,Zt,HI5⟩
   simp[intOf]<;>omega
  obtain rfl:j=rs[k].rows.length:=by omega
  have HI5:Hid (∃(σ:Ky->Option Int) (n:Nat),Rw wr gS gC gL gR bS bL N n nL ML E σ/\Rz (ag rs) N σ/\(n:Int)+oK N σ (au (ag rs))<=2000/\Raised E (fun _=>none) σ/\∀key∈dE rs (k+1),∃x,σ key=some x):=by rw[pI _ _ hlt];exact HI
  clear HI;go_wp2;go_roundw;case rel=>exact⟨k+1,by omega,by go_num,HB,HI5⟩
  simp[intOf]<;>omega
 obtain rfl:k=rs.length:=by omega
 obtain⟨σ,n,hR,hZ,hn,hRa,hall⟩:=HI.out;have cS:=hR.cS;have HP:Hid (Qu (ag rs) w (.returned (.tuple #[.map (some bS),.bool true])) wr):=by
  rw[HEN.out]at hall;refine⟨.inl ⟨bS,n,σ,rfl,hR.map,FJ HE.out HF.out hZ hall (fun k=>hRa.done k (.inl (fun x h=>by cases h))),fun k=>⟨fun⟨x,hx⟩=>(hZ.there k x hx).1,hall k⟩⟩,HB.out⟩
 clear hR hZ hn hRa hall HI;go_wp2;refine bodyPost_ret (v:=.tuple #[.map (some bS),.bool true]) ?_ rfl HP.out;simp[results,Tryz.results133,go_sem]
end Go.Proofs.YtajkkeikihhejaaGreat
