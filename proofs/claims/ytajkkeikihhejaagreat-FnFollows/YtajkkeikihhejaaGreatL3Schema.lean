/- Contract of the document's reader of a schema's lines: spec.l3Schema. -/
import Derived.Test.YtajkkeikihhejaaGreatSq
import Derived.Test.YtajkkeikihhejaaGreatJ24
open Go.Proofs.Tryz
set_option maxHeartbeats 80000000
namespace Go.Proofs.YtajkkeikihhejaaGreat
set_option maxRecDepth 100000
open ChangeShapes WideShapes ChangeAt RowKit Maps
open Pl
theorem dU{p:Prop}(h:p):Hid p:=h
def strOf:Value->Nat | .string b=>b.size|_=>0
def TG(s:ByteArray)(w:World)(e:Ending)(w':World):Prop :=
 ae w w'/\((dS (s.size+1) s []=none/\e=.returned (.tuple #[.slice none 0 0,.bool false])) \/ ∃(v:Value) (rs:Q06),dS (s.size+1) s []=some (ag rs)/\e=.returned (.tuple #[v,.bool true])/\iX w' w.heap.size v rs/\dB (ag rs)=s/\SN (ag rs))
theorem M9{n:Nat}{rest:ByteArray}{acc:Q0b}(hn:rest.size<n)(h:rest.toList.isEmpty=true):dS n rest acc=some acc:=by
 cases n with
 | zero=>omega
 | succ n=>simp[dS,h]
theorem Na{n:Nat}{rest:ByteArray}{acc:Q0b}(hn:rest.size<n)(h:rest.toList.isEmpty=false)(hc:oJ 10 rest=false):dS n rest acc=none:=by
 cases n with
 | zero=>omega
 | succ n=>simp[dS,h,hc]
theorem Nb{n:Nat}{rest:ByteArray}{acc:Q0b}(hn:rest.size<n)(h:rest.toList.isEmpty=false)(hc:oJ 10 rest=true)(hl:ny acc (kG 10 rest)=none):dS n rest acc=none:=by
 cases n with
 | zero=>omega
 | succ n=>simp[dS,h,hc,hl]
theorem P5{n:Nat}{rest:ByteArray}{acc a:Q0b}(hn:rest.size<n)(h:rest.toList.isEmpty=false)(hc:oJ 10 rest=true)(hl:ny acc (kG 10 rest)=some a):dS n rest acc=dS (n-1) (iV 10 rest) a/\(iV 10 rest).size<n-1:=by
 have:=Ha hc;cases n with
 | zero=>omega
 | succ n=>exact⟨by simp[dS,h,hc,hl],by simp;omega⟩
theorem P6{b:ByteArray}(h:b.toList.isEmpty=true):b=⟨#[]⟩:=by
 have h2:b.toList=[]:=by simpa using h
 rw[mH]at h2;exact jl (by simpa using h2)
theorem BF:PV.toList=[116,121,112,101,32]:=by rw[mH];rfl
theorem Hf:UA.toList=[61,32]:=by rw[mH];rfl
theorem P7(w:af)(a b:Value)(t:TypeId):∀j u,[a,b][j]?=some u->(w.alloc (.cells #[a,b] t)).cell? ((⟨w.heap.size,0,none⟩:Addr).add j)=some u:=by
 intro j u hu;rw[show(⟨w.heap.size,0,none⟩:Addr).add j=⟨w.heap.size,0+j,none⟩ by simp[Addr.add];omega,Vj];have:=World.cell?_alloc_mark w #[a,b] t (0,0) j;rw[this];simpa using hu
theorem P8(xs:Q06)(t t':TR)(hn:t'.name=t.name):((xs++[t]).flatMap TR.cells).set (xs.length*2+1) t'.vs=(xs++[t']).flatMap TR.cells:=by
 have hl:(xs.flatMap TR.cells).length=xs.length*2:=pg (fun _=>rfl) _;rw[VE,VE,List.set_append_right _ _ (by omega),hl];simp[TR.cells,hn]
theorem UC(n:ByteArray)(ad:Q02)(k c:Nat):∀u∈[Value.string n,.slice ad k c],u.oneCell'=true:=by
 intro u hu;simp at hu;rcases hu with rfl|rfl<;>rfl
theorem Fu(s:ByteArray)(w:af)(hs:s.size<=3000):Calls prog 124 #[.string s] w (TG s w):=by
 obtain⟨iT0,hiT,zT0,zT1,zT2⟩:=info_parts (P:=prog) (e:=127) (z:=.agg #[.string ⟨#[]⟩,.slice none 0 0]) (size:=2) (bytes:=40) (by kernel_rfl);have HIT:Hid (prog.info? 127=some iT0/\iT0.zero=some (.agg #[.string ⟨#[]⟩,.slice none 0 0])/\iT0.size=2/\iT0.bytes=40):=⟨hiT,zT0,zT1,zT2⟩;obtain⟨iR0,hiR,zR0,zR1,zR2⟩:=info_parts (P:=prog) (e:=147) (z:=.agg #[.string ⟨#[]⟩,.slice none 0 0]) (size:=2) (bytes:=40) (by kernel_rfl);have Xe:Hid (prog.info? 147=some iR0/\iR0.zero=some (.agg #[.string ⟨#[]⟩,.slice none 0 0])/\iR0.size=2/\iR0.bytes=40):=⟨hiR,zR0,zR1,zR2⟩;obtain⟨W0,hW0⟩:∃W0,W0=w.alloc (.cells #[] 127):=⟨_,rfl⟩;have HB0:=mI hW0;have HM0:Hid (iX W0 w.heap.size (.slice (some ⟨w.heap.size,0,none⟩) 0 0) []):=by
  show Wq _ _ _ _ _ _ _ _ _;rw[hW0];exact⟨World.ownsRow_lit w #[] 0 (UU _) (by unfold maxLen;omega) (by simp),fun q hq=>(by cases hq),fun q hq=>(by cases hq),fun x y hx=>absurd hx (by simp)⟩
 have hs5:(s.size:Int)<=50000:=by omega
 clear hiT zT0 zT1 zT2 hiR zR0 zR1 zR2;go_enter func124,ntmps124;go_wp2;rw[<-hW0];clear hW0;go_loopw[4,5] (fun v r wr=>∃(rs:Q06) (rest:ByteArray) (n:Nat),r=.string rest/\rest.size<=3000/\Hid (iX wr w.heap.size v rs)/\Hid (ae w wr)/\Hid (dB (ag rs)++rest=s)/\Hid (SN (ag rs))/\Hid (rest.size<n/\dS n rest (ag rs)=dS (s.size+1) s [])) (fun _ r _=>strOf r);case atStart=>exact⟨[],s,s.size+1,rfl,hs,HM0,HB0,by show _=_;exact rY _,fun t ht=>(by cases ht),by omega,rfl⟩
 clear HM0 HB0;obtain⟨rs,rest,n,rfl,hrs,HM,HB,HT,HK,HN⟩:=hrel;cases he:rest.toList.isEmpty;case true=>
  have HTX:Hid (dB (ag rs)=s):=by show _=_;rw[<-HT.out,P6 he,wE]
  have WR:=dU (M9 (acc:=ag rs) HN.out.1 he);obtain⟨ad,cap,rfl,hsl,-⟩:=HM.out.read;obtain⟨k1,k2,k3,k4⟩:=rows_ok HK.out (by rw[HTX.out];exact hs);have V8:=dU (Fs ad cap rs wr ⟨k1,fun r hr=>(k2 r hr).1,fun r hr=>(k2 r hr).2.1,fun r hr=>(k2 r hr).2.2⟩ hsl k3 k4);clear hsl k1 k2 k3 k4;go_wp2_with fail;refine V8.out.mono ?_;rintro e w1 ⟨hee,hb1⟩;rw[HTX.out]at hee;subst hee;have HB1:=dU (HB.out.trans (hb1.mono HB.out.size));have Zc:=dU (HM.out.below mM hb1);clear hb1 V8;go_wp2;exact bodyPost_ret (v:=.tuple #[.slice ad rs.length cap,.bool true]) (by simp[results,Tryz.results124,go_sem]) rfl ⟨HB1.out,.inr ⟨_,rs,by rw[<-HN.out.2,WR.out],rfl,Zc.out,HTX.out,HK.out⟩⟩
 have HE:=dU he;have h500:rs.length<=500:=(rows_ok HK.out (by have:=congrArg ByteArray.size HT.out;rw[Ve]at this;omega)).1;have HC:=dU (DD rest 10 wr (by unfold maxLen;omega));go_wp2_with fail;refine HC.out.mono ?_;rintro e w1 ⟨rfl,n0,hw1⟩;have hb1:ae wr w1:=by rw[hw1];exact below_drewN (UV _ _) n0
 have HB1:=dU (HB.out.trans (hb1.mono HB.out.size));have Zc:=dU (HM.out.below mM hb1);have hzz:=KP 10 rest;have hza:=Q4 10 rest;clear hw1 hb1 HC HM HB;cases hc:oJ 10 rest;case false=>
  have Xu:=dU (Na (acc:=ag rs) HN.out.1 HE.out hc);go_wp2;exact bodyPost_ret (v:=.tuple #[.slice none 0 0,.bool false]) (by simp[results,Tryz.results124,go_sem]) rfl ⟨HB1.out,.inl ⟨by rw[<-HN.out.2,Xu.out],rfl⟩⟩
 have HCF:=dU hc;have HJ:=dU (BA hc);have hless:=Ha hc;obtain⟨line,Zz⟩:∃line,line=kG 10 rest:=⟨_,rfl⟩;obtain⟨more,hmore⟩:∃more,more=iV 10 rest:=⟨_,rfl⟩;rw[<-Zz,<-hmore]at HJ;rw[<-hmore]at hzz hless;rw[<-Zz]at hza;rw[<-Zz,<-hmore];have HLI:=dU Zz;have HMO:=dU hmore;clear Zz hmore hc;have HON:Hid (∀a,ny (ag rs) line=some a->dS (n-1) more a=dS (s.size+1) s []/\more.size<n-1/\dB a++more=s/\SN a):=fun a ha=>by
  have h1:=P5 (acc:=ag rs) HN.out.1 HE.out HCF.out (by rw[<-HLI.out];exact ha);rw[<-HMO.out]at h1;refine⟨by rw[<-h1.1,HN.out.2],h1.2,?_,RG ha HK.out⟩;rw[M7 ha,VF];have h2:=HT.out;rw[HJ.out]at h2;exact h2
 have HOFF:Hid (ny (ag rs) line=none->dS (s.size+1) s []=none):=fun ha=>by
  have h1:=Nb (acc:=ag rs) HN.out.1 HE.out HCF.out (by rw[<-HLI.out];exact ha);rw[<-HN.out.2,h1]
 cases ht:Bz line;case true=>
  have hl5:5<line.size:=by unfold Bz at ht;simp only[UW,U3]at ht;exact ht.1
  have hty:((line.extract 0 5).toList==[116,121,112,101,32])=true:=by unfold Bz at ht;simp only[UW]at ht;rw[<-BF];exact ht.2
  have hd5:decide ((5:Int)<(line.size:Int))=true:=by simp;omega
  have ZH:Hid (ny (ag rs) line=some (ag (rs++[⟨line.extract 5 line.size,[],none,0⟩]))):=by show _=_;unfold ny;rw[ht];simp[ag,TR.p,eZ]
  clear ht;obtain⟨nm,hnm⟩:∃nm,nm=line.extract 5 line.size:=⟨_,rfl⟩;obtain⟨W2,hW2⟩:∃W2,W2=w1.alloc (.cells #[.string nm,.slice none 0 0] 127):=⟨_,rfl⟩;have hb2:ae w1 W2:=by rw[hW2];exact(UV _ _).alloc (UU _) _
  have WS:=dU (Zc.out.below mM hb2);have HB2:=dU (HB1.out.trans (hb2.mono HB1.out.size));have Ye:Hid (∀j u,[Value.string nm,.slice none 0 0][j]?=some u->W2.cell? ((⟨w1.heap.size,0,none⟩:Addr).add j)=some u):=by show ∀j u,_;rw[hW2];exact P7 w1 _ _ _
  rw [<-hnm]at ZH;rw [hnm]at hW2;clear hb2 hnm;go_wp2_with (at_builtin;rw [<-hW2];clear hW2;refine wpList_append_own_at _ rfl _ _ 24 rfl w.heap.size 127 iT0 (.agg #[.string ⟨#[]⟩,.slice none 0 0]) 2 40 underlying24 HIT.out.1 HIT.out.2.1 HIT.out.2.2.1 HIT.out.2.2.2 rfl (by decide) u4 _ (rs.flatMap TR.cells) rfl WS.out.own ⟨w1.heap.size,0,none⟩ 1 1 [.string nm,.slice none 0 0] rfl rfl Ye.out (UC _ _ _ _) (by unfold maxLen;omega) (by omega) HB2.out.size ?_);intro v3 w3 hown3 hgr3 _ hat3;have ZM:Hid (iX w3 w.heap.size v3 (rs++[⟨nm,[],none,0⟩])):=WS.out.snoc mM (q:=⟨nm,[],none,0⟩) hown3 hgr3 (by
    rcases hat3 with e|e
    ·exact .inl e
    ·exact .inr ⟨_,e,UU _⟩) (Pq W2 w.heap.size) (fun g hg=>by
    rcases hg with hg|⟨q,hq,-⟩
    ·simp[TR.vs,Value.ownBlock]at hg
    ·cases hq) (fun p hp g hg hg2=>by
    rcases hg2 with hg2|⟨q,hq,-⟩
    ·simp[TR.vs,Value.ownBlock]at hg2
    cases hq)
  have HB3:Hid (ae w w3):=HB2.out.grown hgr3 HB2.out.size (fun g hg=>(WS.out.own.lt g hg).1);obtain⟨o1,o2,o3,o4⟩:=HON.out _ ZH.out;have HO:=dU (And.intro o2 o1);have Ww:=dU o3;have Wo:=dU o4;clear hown3 hgr3 hat3 o1 o2 o3 o4 WS HB2 Ye hty hd5;go_wp2;go_roundw;case rel=>exact⟨_,more,n-1,rfl,by omega,ZM,HB3,Ww,Wo,HO⟩
  simp only[strOf];exact hless
 have HTY:=dU ht;have h58:(5<line.size/\decide ((5:Int)<(line.size:Int))=true/\((line.extract 0 5).toList==[116,121,112,101,32])=false)\/decide ((5:Int)<(line.size:Int))=false:=by
  by_cases h5:5<line.size
  ·left;refine⟨h5,by simp;omega,?_⟩;unfold Bz at ht;rw[decide_eq_true h5,Bool.true_and,BF]at ht;exact ht
  right;simp;omega
 have WV:=dU (DD line 32 w1 (by unfold maxLen;omega));obtain⟨ad4,cap4,hv4,hsl4,-⟩:=iX.read Zc.out;subst hv4;clear ht hsl4;rcases h58 with⟨hl5,hd5,hty⟩|hd5
 all_goals (
  go_wp2_with fail;refine WV.out.mono ?_;rintro e w2 ⟨rfl,n1,hw2⟩;have hb2:ae w1 w2:=by rw[hw2];exact below_drewN (UV _ _) n1
  have HB2:=dU (HB1.out.trans (hb2.mono HB1.out.size));have WS:=dU (Zc.out.below mM hb2);have hzt:=KP 32 line;obtain⟨nm,hnm⟩:∃nm,nm=kG 32 line:=⟨_,rfl⟩;obtain⟨tl,htl⟩:∃tl,tl=iV 32 line:=⟨_,rfl⟩;rw[<-htl]at hzt;rw[<-hnm,<-htl];have ZH:Hid (ny (ag rs) line=if !(ag rs).isEmpty&&yE tl&&mE (tl.extract 2 tl.size) then some (Fq (ag rs) ⟨nm,(kL (tl.extract 2 tl.size)).out⟩) else none):=by show _=_;unfold ny DY;rw[HTY.out,hnm,htl];rfl
  clear hw2 hb2 WV Zc HB1 hnm htl;by_cases hz:rs=[]
  ·subst hz;have Xu:Hid (dS (s.size+1) s []=none):=HOFF.out (by rw[ZH.out];rfl);go_wp2;exact bodyPost_ret (v:=.tuple #[.slice none 0 0,.bool false]) (by simp[results,Tryz.results124,go_sem]) rfl ⟨HB2.out,.inl ⟨Xu.out,rfl⟩⟩
  obtain⟨xs,t,hxt⟩:∃xs t,rs=xs++[t]:=⟨rs.dropLast,rs.getLast hz,(List.dropLast_concat_getLast hz).symm⟩;have HXT:=dU hxt;have hlx:rs.length=xs.length+1:=by rw[hxt];simp
  have HNE:Hid ((!(ag rs).isEmpty)=true):=by show _=_;rw[hxt];simp[ag]
  obtain⟨b4,had4⟩:∃b4,ad4=some ⟨b4,0,none⟩:=by
   rcases WS.out.own.2 with⟨-,h0⟩|⟨g,cap,cur,e,-⟩
   ·exact absurd (Vb.1 h0) hz
   injection e with e1 e2 e3;exact⟨g,e1⟩
  subst had4;have hcell:=WS.out.own.cellAt (xs.length*2+1) (by omega);rw[rV (fun _=>rfl) rs xs.length (by omega) 1 (by omega)]at hcell;have htx:rs[xs.length]'(by omega)=t:=by subst hxt;simp
  rw[htx]at hcell;have hcl:w2.cell? ⟨b4,xs.length*2+1,none⟩=some (.slice t.ad t.rows.length t.cap):=hcell;have HCL:=dU hcl;have hn0:(0:Int)<=(xs.length:Int):=by omega
  have hn1:(xs.length:Int)<(xs.length:Int)+1:=by omega
  have HLX:=dU hlx;have hx500:xs.length<500:=by omega
  have h500':=h500;rw[hlx];clear hz hxt hlx hcell htx hcl h500;by_cases h2:tl.size<2
  ·have hd2:decide ((tl.size:Int)<2)=true:=by simp;omega
   have Xu:Hid (dS (s.size+1) s []=none):=HOFF.out (by rw[ZH.out];simp[yE];omega);go_wp2;exact bodyPost_ret (v:=.tuple #[.slice none 0 0,.bool false]) (by simp[results,Tryz.results124,go_sem]) rfl ⟨HB2.out,.inl ⟨Xu.out,rfl⟩⟩
  have hd2:decide ((tl.size:Int)<2)=false:=by simp;omega
  have h22:2<=tl.size:=by omega
  cases hq:(tl.extract 0 2).toList==[61,32];case false=>
   have hq2:(!(tl.extract 0 2).toList==[61,32])=true:=by rw[hq];rfl
   have Xu:Hid (dS (s.size+1) s []=none):=HOFF.out (by rw[ZH.out];unfold yE;rw[Hf,hq];simp);go_wp2;exact bodyPost_ret (v:=.tuple #[.slice none 0 0,.bool false]) (by simp[results,Tryz.results124,go_sem]) rfl ⟨HB2.out,.inl ⟨Xu.out,rfl⟩⟩
  have hq2:(!(tl.extract 0 2).toList==[61,32])=false:=by rw[hq];rfl
  have HTB:Hid (yE tl=true):=by show _=_;unfold yE;rw[Hf,hq,decide_eq_true h22];rfl
  have HRE:=dU (xL (tl.extract 2 tl.size) w2);go_wp2_with fail;refine HRE.out.mono ?_;rintro e w3 ⟨hb3,hcase⟩;have HB3:=dU (HB2.out.trans (hb3.mono HB2.out.size));have ZM:=dU (WS.out.below mM hb3);have h23:w2.heap.size<=w3.heap.size:=hb3.size;have HLT2:Hid (∀g,GZ iT (.slice (some ⟨b4,0,none⟩) rs.length cap4) rs g->g<w2.heap.size):=fun g hg=>(WS.out.lt mM hg).2;have hc3:w3.cell? ⟨b4,xs.length*2+1,none⟩=some (.slice t.ad t.rows.length t.cap):=(hb3.cell (p:=⟨b4,xs.length*2+1,none⟩) (WS.out.own.lt b4 rfl).2).trans HCL.out;rcases hcase with⟨hrb,rfl⟩|⟨hrb,v,R,qs,rfl,hF⟩
  ·have Xu:Hid (dS (s.size+1) s []=none):=HOFF.out (by rw[ZH.out,hrb];simp);clear hb3 hc3 WS HB2 HRE;go_wp2;exact bodyPost_ret (v:=.tuple #[.slice none 0 0,.bool false]) (by simp[results,Tryz.results124,go_sem]) rfl ⟨HB3.out,.inl ⟨Xu.out,rfl⟩⟩
  obtain⟨V5,capE,hvE⟩:∃V5 capE,v=.slice V5 qs.length capE:=by
   obtain⟨a1,a2,a3,-⟩:=hF.slE;exact⟨a1,a2,a3⟩
  subst hvE;have HNOD:=dU (hF.nod);have HEX:=dU hF.out;have Zf:=dU hrb;obtain⟨W5,WL⟩:∃W5,W5=w3.alloc (.cells #[.string nm,.slice V5 qs.length capE] 147):=⟨_,rfl⟩;have hb5:ae w3 W5:=by rw[WL];exact(UV _ _).alloc (UU _) _
  have HM5:=dU (ZM.out.below mM hb5);have Xt:=dU (HB3.out.trans (hb5.mono HB3.out.size));have Ye:Hid (∀j u,[Value.string nm,.slice V5 qs.length capE][j]?=some u->W5.cell? ((⟨w3.heap.size,0,none⟩:Addr).add j)=some u):=by show ∀j u,_;rw[WL];exact P7 w3 _ _ _
  obtain⟨q,hqd⟩:∃q:RR,q=⟨nm,qs,V5,capE⟩:=⟨_,rfl⟩;have HQD:=dU hqd;have hkq3:kR w3 (w2.heap.size+1) q:=by rw[hqd];exact HNOD.out
  have hIq:∀g,iR q g->w2.heap.size+1<=g:=fun g hg=>(JN.lt w3 _ q hkq3 g hg).1;have hkq5:kR W5 w.heap.size q:=JN.heap w3 W5 w.heap.size q (hkq3.mono (by have:=HB2.out.size;omega)) hb5.size (fun g hg=>hb5.block g (JN.lt w3 _ q hkq3 g hg).2);have HIQ:=dU hIq;have W5_ge:Hid (w2.heap.size<=W5.heap.size):=U0 h23 hb5.size;have HKQ:=dU hkq5;have Y4:Hid (kT W5 w.heap.size t):=HM5.out.kid t (by rw[HXT.out];simp);have HTLT:Hid (∀g,iT t g->g<w2.heap.size):=fun g hg=>HLT2.out g (.inr ⟨t,by rw[HXT.out];simp,hg⟩);have ht750:t.rows.length<=750:=((rows_ok HK.out (by have:=congrArg ByteArray.size HT.out;rw[Ve]at this;omega)).2.1 t (by rw[HXT.out];simp)).1;have hc5:W5.cell? ⟨b4,xs.length*2+1,none⟩=some (.slice t.ad t.rows.length t.cap):=(hb5.cell (p:=⟨b4,xs.length*2+1,none⟩) (UT (WS.out.own.lt b4 rfl).2 h23)).trans hc3;have HC5:=dU hc5;have hfz:W5.frozen? ⟨b4,xs.length*2+1,none⟩=false:=HM5.out.own.frozenAt _;have HFZ:=dU hfz;clear hb3 hF hrb hkq3 hkq5 hIq hqd hc5 hb5 WS HB2 HRE ZM HB3 HNOD hfz;go_wp2_with(at_builtin;rw[<-WL];clear WL;refine wpList_append_own_at _ rfl _ _ 125 rfl w.heap.size 147 iR0 (.agg #[.string ⟨#[]⟩,.slice none 0 0]) 2 40 underlying125 Xe.out.1 Xe.out.2.1 Xe.out.2.2.1 Xe.out.2.2.2 rfl (by decide) (.slice t.ad t.rows.length t.cap) _ (t.rows.flatMap RR.cells) rfl Y4.out.own ⟨w3.heap.size,0,none⟩ 1 1 [.string nm,.slice V5 qs.length capE] rfl rfl Ye.out (UC _ _ _ _) (by unfold maxLen;omega) (by omega) Xt.out.size ?_);intro v6 w6 hown6 hgr6 _ hat6;obtain⟨g6,c6,hv6⟩:=fO hown6;subst hv6;have hqv:q.vs=.slice V5 qs.length capE:=by rw[HQD.out];rfl
  have hneb:some b4≠(Value.slice t.ad t.rows.length t.cap).ownBlock:=fun e=>HM5.out.head t (by rw[HXT.out];simp) b4 (.inl e.symm) rfl;have hc6:w6.cell? ⟨b4,xs.length*2+1,none⟩=some (.slice t.ad t.rows.length t.cap):=hgr6.cell HC5.out hneb;have hf6:w6.frozen? ⟨b4,xs.length*2+1,none⟩=false:=(World.frozen?_of_block (w:=W5) (a:=⟨b4,xs.length*2+1,none⟩) (hgr6.block b4 (HM5.out.own.lt b4 rfl).2 hneb)).trans HFZ.out;obtain⟨t',ht'⟩:∃t':TR,t'=⟨t.name,t.rows++[q],some ⟨g6,0,none⟩,c6⟩:=⟨_,rfl⟩;have hvt':t'.vs=.slice (some ⟨g6,0,none⟩) (t.rows.length+1) c6:=by rw[ht'];simp[TR.vs]
  have hkt':kT w6 w.heap.size t':=by
   have h1:Cq w6 w.heap.size (.slice (some ⟨g6,0,none⟩) (t.rows.length+1) c6) (t.rows++[q]):=Y4.out.snoc JN (q:=q) (by
     rw[show RR.cells q=[.string nm,.slice V5 qs.length capE] by unfold RR.cells;rw[hqv,HQD.out]];exact hown6) hgr6 (by
     rcases hat6 with e|e
     ·exact .inl e
     ·exact .inr ⟨_,e,UU _⟩) HKQ.out (fun g hg e=>by
     have h2:=HTLT.out g (.inl e);have h3:=HIQ.out g hg;omega) (fun p hp g hg hg2=>by
     have h2:=HTLT.out g (.inr ⟨p,hp,hg⟩);have h3:=HIQ.out g hg2;omega)
   unfold kT;rw[hvt',ht'];exact h1
  have hI':∀g,iT t' g->iT t g\/(g≠b4/\∀p∈xs,¬iT p g):=fun g hg=>by
   have Y5:w2.heap.size<=g->g≠b4/\∀p∈xs,¬iT p g:=fun hge=>⟨fun e=>by
     have:=HLT2.out b4 (.inl rfl);omega,fun p hp hi=>by
     have:=HLT2.out g (.inr ⟨p,by rw[HXT.out];simp[hp],hi⟩);omega⟩
   rcases hg with hg|⟨p,hp,hg⟩
   ·rw[hvt']at hg;rcases hat6 with e|e
    ·exact .inl (.inl (e.symm.trans hg))
    rw[e]at hg;injection hg with hg;exact .inr (Y5 (by have:=W5_ge.out;omega))
   rw[ht']at hp;rcases U6.1 hp with hp|hp
   ·exact .inl (.inr ⟨p,hp,hg⟩)
   rw[U4]at hp;subst hp;exact .inr (Y5 (by have:=HIQ.out g hg;omega))
  have HM7:Hid (iX (w6.setCell ⟨b4,xs.length*2+1,none⟩ (.slice (some ⟨g6,0,none⟩) (t.rows.length+1) c6)) w.heap.size (.slice (some ⟨b4,0,none⟩) (xs.length+1) cap4) (xs++[t'])):=by
   have hM:=HM5.out;rw[HLX.out,HXT.out]at hM;refine Wq.last mM hM rfl hgr6 (fun r hr=>.inl hr) hkt' hI' ?_;rw[<-hvt',show t'.vs=t'.vs from rfl];exact P8 xs t t' (by rw[ht'])
  have HB7:Hid (ae w (w6.setCell ⟨b4,xs.length*2+1,none⟩ (.slice (some ⟨g6,0,none⟩) (t.rows.length+1) c6))):=(Xt.out.grown hgr6 Xt.out.size (fun g hg=>(Y4.out.own.lt g hg).1)).setCell (HM5.out.own.lt b4 rfl).1 _;have HTY7:Hid (ny (ag rs) line=some (ag (xs++[t']))):=by
   show _=_;rw[ZH.out,HNE.out,HTB.out,Zf.out,HXT.out,ht'];simp only[Bool.and_true,if_true];rw[show ag (xs++[t])=ag xs++[t.p] by simp[ag],qX];simp[ag,TR.p,eZ,RR.p,HQD.out,HEX.out]
  obtain⟨o1,o2,o3,o4⟩:=HON.out _ HTY7.out;have HO:=dU (And.intro o2 o1);have Ww:=dU o3;have Wo:=dU o4;clear hown6 hgr6 hat6 o1 o2 o3 o4 hkt' hI' hvt' ht' hqv hneb HM5 Xt Y4 HKQ;go_wp2;go_roundw;case rel=>exact⟨_,more,n-1,rfl,by omega,HM7,HB7,Ww,Wo,HO⟩
  simp only[strOf];exact hless)
end Go.Proofs.YtajkkeikihhejaaGreat
