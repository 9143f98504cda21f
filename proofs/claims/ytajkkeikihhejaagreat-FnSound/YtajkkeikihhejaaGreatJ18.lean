/- What leans on what, in the program's list and in the document's words: the same. -/
import Derived.Test.YtajkkeikihhejaaGreatSq
import Derived.Test.YtajkkeikihhejaaGreatJ14
import Derived.Test.YtajkkeikihhejaaGreatJ17
import Derived.Test.YtajkkeikihhejaaGreatJ10
import Derived.Laws.EntriesVeiled
import Derived.Test.YtajkkeikihhejaaGreatJ12
open Go.Proofs.Tryz
set_option maxHeartbeats 80000000
namespace Go.Proofs.YtajkkeikihhejaaGreat
open Pl
theorem Nv(ng:Bool)(xs:Q0a):dw ng xs=(dM xs).map fun a=>(⟨a.t,a.s,ng⟩:Dp):=by
 induction xs with
 | nil=>rfl
 | cons a xs ih=>simp only[dw,dM];split<;>simp[ih]
theorem En(ts:Q0b)(typ:bW)(ng:Bool)(e:Ex)(hn:ay e=true)(hd:e.kind=3->bH (aB ts typ e.over)=true):dw ng e.allow++lw ts typ ng e=(jA ts typ e).map fun a=>(⟨a.t,a.s,ng⟩:Dp):=by
 by_cases h1:e.kind=1
 ·unfold lw jA;rw[if_neg (by omega),if_neg (by omega),if_pos h1,V4,Nv]
 rw[uH hn h1];unfold lw jA;rw[if_neg h1];by_cases h2:e.kind=2
 ·rw[if_pos h2,if_pos h2];rfl
 rw[if_neg h2,if_neg h2];by_cases h3:e.kind=3
 ·rw[if_pos h3,if_pos h3];unfold gT;rw[if_pos (hd h3),List.map_map];rfl
 rw[if_neg h3,if_neg h3];rfl
theorem Eo{ts:Q0b}{typ:ByteArray}{es:Q09}{d:Dp}{i:Nat}(hd:d∈iD ts typ es i):∀{k:Nat},i<k->d∈aS ts typ es k
 | 0,h=>by omega
 | k+1,h=>by
  simp only[aS];by_cases e:i=k
  ·subst e;exact Vn.2 (.inr hd)
  exact Vn.2 (.inl (Eo hd (by omega)))
theorem Cb{ts:Q0b}{t r:ByteArray}{es:Q09}{x:Ky×St}:∀{k:Nat},x∈relE ts t r es k ↔ ∃i,i<k/\∃e,es[i]?=some e/\x∈BQ ts t r ((dC es).getD i false) e
 | 0=>by simp[relE]
 | k+1=>by
  simp only[relE,Vn];rw[Cb];constructor
  ·rintro(⟨i,hi,h⟩|h)
   ·exact⟨i,by omega,h⟩
   cases e:es[k]? with
   | none=>rw[e]at h;cases h
   | some y=>rw[e]at h;exact⟨k,by omega,y,e,h⟩
  rintro⟨i,hi,e,he,h⟩;by_cases ek:i=k
  ·subst ek;right;rw[he];exact h
  exact .inl ⟨i,by omega,e,he,h⟩
theorem pU{rs:Q06}(h:bq (ag rs)=true){t:TR}(ht:t∈rs){q:RR}(hq:q∈t.rows):eD (ag rs) t.name q.name=some (ak q.rows):=by
 have hT:=pK h;have hs:=tH (M:=fun _=>none) (rs:=rs) (k:=(t.name,q.name)) (.inr ⟨t,ht,q,hq,rfl⟩);obtain⟨v,hv⟩:=Option.isSome_iff_exists.1 hs;obtain⟨t',ht',q',hq',e,-,e2,-⟩:=hT.yes _ v hv;injection e with e3 e4;have h1:t=t':=G8 h ht ht' e3;subst h1;obtain⟨i,hi,rfl⟩:=VP.1 ht;have h2:q=q':=G9 (l6 h i hi).2.2 hq hq' e4;subst h2;exact e2
theorem iK{es:Q09}(h:aN es=true):∀e∈es,ay e=true:=by
 simp only[aN,Vd]at h;exact Vm.1 h.1.1.1.2
theorem Ik(t r:bW)(ng:Bool):stepOf ⟨t,r,ng⟩=yP ng:=by cases ng<;>rfl
theorem Sd{rs:Q06}(h:bq (ag rs)=true)(hr:iP (ag rs)=true):Edge (ag rs) (jD (ag rs) rs):=by
 have Wq:∀t∈rs,∀q∈t.rows,∀e∈ak q.rows,ay e=true/\(e.kind=3->bH (aB (ag rs) t.name e.over)=true):=by
  intro t ht q hq e he;have h1:=((bG h).2.2 t ht q hq).1;refine⟨iK h1 e he,fun h3=>?_⟩;unfold iP at hr;rw[Vm]at hr;have h2:=hr t.p (VK ht);unfold qL at h2;rw[Vm]at h2;have h4:aX (ag rs) t.name (ak q.rows)=true:=h2 q.p (VK hq);have h5:=(Dl h4 e he).2;unfold lT at h5;rw[if_neg (by omega),if_pos h3,Vd]at h5;exact h5.1
 intro on t0 r0 s;constructor
 ·intro hm;unfold jD jC at hm;rw[Vp]at hm;obtain⟨t,ht,hm⟩:=hm;rw[Vp]at hm;obtain⟨q,hq,hm⟩:=hm;obtain⟨i,hi,e,he,hm⟩:=Cb.1 hm;unfold BQ at hm;obtain⟨a,ha,e1⟩:=Vo.1 hm;injection e1 with e2 e3;injection e3 with e4 e5 e6;subst e4;subst e5;refine⟨qN.2 ⟨t.p,VK ht,q.p,VK hq,rfl⟩,⟨a.t,a.s,(dC (ak q.rows)).getD i false⟩,?_,e2,by rw[Ik];exact e6⟩;unfold iG qh;have ero:aB (ag rs) t.name q.name=ak q.rows:=by unfold aB;rw[pU h ht hq];rfl
  simp only[ero];have hi2:i<(ak q.rows).length:=(List.getElem?_eq_some_iff.1 he).1;refine Eo (i:=i) ?_ hi2;unfold iD;rw[he];obtain⟨n1,n2⟩:=Wq t ht q hq e (We he);simp only;rw[En _ _ _ _ n1 n2];exact VK (f:=fun a:Al=>(⟨a.t,a.s,(dC (ak q.rows)).getD i false⟩:Dp)) ha
 rintro⟨hk,d,hd,e1,e2⟩;obtain⟨t',ht',r',hr',e3⟩:=qN.1 hk;obtain⟨t,ht,rfl⟩:=Vo.1 ht';obtain⟨q,hq,rfl⟩:=Vo.1 hr';injection e3 with e4 e5;subst e4;subst e5;unfold iG qh at hd;have ero:aB (ag rs) t.p.name q.p.name=ak q.rows:=by
  have:=pU h ht hq;show aB (ag rs) t.name q.name=_;unfold aB;rw[this];rfl
 simp only[ero]at hd;obtain⟨i,hi,hd⟩:=uw hd;unfold iD at hd;split at hd
 ·cases hd
 rename_i e he;obtain⟨n1,n2⟩:=Wq t ht q hq e (We he);have hdn:dw ((dC (ak q.rows)).getD i false) e.allow++lw (ag rs) t.p.name ((dC (ak q.rows)).getD i false) e=_:=En (ag rs) t.name _ e n1 n2;rw[hdn]at hd;obtain⟨a,ha,rfl⟩:=Vo.1 hd;unfold jD jC;rw[Vp];refine⟨t,ht,?_⟩;rw[Vp];refine⟨q,hq,Cb.2 ⟨i,by rw[aR]at hi;exact hi,e,he,?_⟩⟩;unfold BQ;rw[Vo];refine⟨a,ha,?_⟩;rw[<-e1,<-e2,Ik];rfl
theorem Qx{rs:Q06}(h:bq (ag rs)=true):∀r∈rs,∀q∈r.rows,∀e∈q.rows,e.e.allow.length<=6:=by
 intro r hr q hq e he;have h1:=iK ((bG h).2.2 r hr q hq).1 e.e (by unfold ak;exact VK he);by_cases h2:e.e.kind=1
 ·unfold ay at h1;rw[if_pos h2]at h1;simp only[Vd,eG,Vk]at h1;exact h1.1.1.1.1.2
 rw[uH h1 h2];simp
theorem rC{α β:Type}(f:α->List β)(B:Nat):∀(xs:List α),(∀x∈xs,(f x).length<=B)->(xs.flatMap f).length<=xs.length*B
 | [],_=>by simp
 | x::xs,h=>by
  rw[VJ,Vh,VI,Nat.succ_mul];have h1:=h x (by simp);have h2:=rC f B xs fun q hq=>h q (by simp[hq]);omega
theorem Nw(rs:Q06)(h6:∀r∈rs,r.rows.length<=6)(hex:∀r∈rs,∀q∈r.rows,aN (ak q.rows)=true/\q.rows.length<=15/\∀e∈q.rows,eZ q.rows.length e.e.kids)(h66:∀r∈rs,∀q∈r.rows,∀e∈q.rows,e.e.allow.length<=6)(hl:rs.length<=6:=by omega):(jD (ag rs) rs).length<=100000:=by
 have h1:∀t∈rs,(jC (ag rs) t.name t.rows).length<=540:=by
  intro t ht;have h2:∀q∈t.rows,(relE (ag rs) t.name q.name (ak q.rows) q.rows.length).length<=90:=by
   intro q hq;have h3:∀k,k<=q.rows.length->(relE (ag rs) t.name q.name (ak q.rows) k).length<=k*6:=by
    intro k
    induction k with
    | zero=>intro _;simp[relE]
    | succ k ih =>
     intro hk;rw[Ef _ _ _ _ _ (by omega) _ rfl,Vh];have h4:=ih (by omega);have h5:(BQ (ag rs) t.name q.name ((dC (ak q.rows)).getD k false) q.rows[k].e).length<=6:=by
      unfold BQ;rw[VN];exact Eg rs h66 _ _ (h66 t ht q hq _ (U8 (by omega)))
     omega
   have h4:=h3 q.rows.length (Va _);have h5:=(hex t ht q hq).2.1;omega
  have h3:=rC (fun q:RR=>relE (ag rs) t.name q.name (ak q.rows) q.rows.length) 90 t.rows h2;have h4:=h6 t ht;unfold jC;omega
 have h2:=rC (fun t:TR=>jC (ag rs) t.name t.rows) 540 rs h1;unfold jD;omega
open ChangeAt ChangeShapes Maps RowKit WideShapes
set_option linter.unusedVariables false
set_option maxRecDepth 100000
def uK(out:Q04)(f:Fc):Option Value:=if bB out f then some (.agg #[]) else none
theorem Qy(out:Q04)(f:Fc):(uK out f).isSome=bB out f:=by unfold uK;cases bB out f<;>rfl
theorem Sg(out:Q04)(f:Fc):∀v,uK out f=some v->v=.agg #[]:=fun v h=>by
 unfold uK at h;split at h
 ·injection h with h;exact h.symm
 cases h
theorem rD(b n:Nat)(out:Q04)(f:Fc)(w:af)(hf:f.fits)(hV:aM jf prog 29 w b n (uK out)):
  Calls prog 65 #[.map (some b),.agg #[.string f.a,.string f.b,.string f.r,.string f.c,.string f.d]] w fun e w'=>e=.returned (.bool (bB out f))/\ae w w':=by
 have h:=GQ b n (uK out) f w hf hV (Sg out f);rw[Qy]at h;exact h
theorem wU{w:af}{bp np:Nat}{Mp:K3->Option Value}{E:List (K3×Tp)}(h:G.Grp qR prog 223 46 6 Tp.row w bp np Mp E)(k:K3):∃ad cap,(Mp k).getD (.slice none 0 0)=.slice ad (G.lookL E k).length cap/\Sl w ad (G.lookL E k):=by
 obtain⟨ad,cap,e,hs,-⟩:=OA (ts:=G.lookL E k) (D6 h k) rfl;exact⟨ad,cap,e,hs⟩
theorem Ep(p:Tp->Bool){ts:Q05}{k:Nat}(h:k<ts.length):(ts.drop k).any p=(p ts[k] || (ts.drop (k+1)).any p):=by rw[VG h];rfl
theorem wV{ts:Q05}{k:K3}{t:Tp}(h:t∈G.lookL (bn ts) k):t∈ts:=by
 have:=G.mem_lookL.1 h;unfold bn at this;obtain⟨x,hx,e⟩:=Vo.1 this;injection e with e1 e2;rw[<-e2];exact hx
theorem wW(ts:Q05)(k:K3):(G.lookL (bn ts) k).length<=ts.length:=by
 unfold G.lookL bn;exact Vj (Wi _ _) (by simp)
section
variable  {w:World}{rs:Q06}{D br bp bt bK nK:Nat}{n1:Int}{nr:Nat}{Mr:KL->Option Value}{Er:List (KL×RR)}{ts:Q05}{xo xu:Q0a}{np:Nat}{Mp:K3->Option Value}{vo vu:Value}{out:Q04}{f:Fc}
theorem CK(hD:DatA w rs D br bp bt n1 nr Mr Er (bn ts) xo xu np Mp vo vu)(hK:aM jf prog 29 w bK nK (uK out))(hf:f.fits)(hts:∀t∈ts,t.fits)(htl:ts.length<=1000):
  Calls prog 213 #[.pointer (some ⟨D,0,none⟩),.agg #[.string f.a,.string f.b,.string f.r,.string f.c,.string f.d],.map (some bK)] w fun e w'=>e=.returned (.bool (eQ ts out f))/\ae w w':=by
 obtain⟨kl,hkl⟩:=vS (f.a,f.b,f.r) hf.1 hf.2.1 hf.2.2.1;obtain⟨WY,Wz,hgd,hsl⟩:=wU hD.dat.told (f.a,f.b,f.r);have HL:=ai (Kh ts out f);have hll:=wW ts (f.a,f.b,f.r);have HFL:Hid (∀t∈G.lookL (bn ts) (f.a,f.b,f.r),t.fits):=fun t ht=>hts t (wV ht);obtain⟨L,X7⟩:∃L,L=G.lookL (bn ts) (f.a,f.b,f.r):=⟨_,rfl⟩;rw[<-X7]at hgd hsl HL hll HFL;obtain⟨W0,hW0⟩:∃W0,W0=w.alloc (.cells #[.string f.a,.string f.b,.string f.r,.string f.c,.string f.d] 29):=⟨_,rfl⟩;have HB0:=mi hW0;have c0:W0.cell? ⟨w.heap.size,0,none⟩=some (.string f.a):=by rw[hW0];simp
 have c1:W0.cell? ⟨w.heap.size,1,none⟩=some (.string f.b):=by rw[hW0];simp
 have c2:W0.cell? ⟨w.heap.size,2,none⟩=some (.string f.r):=by rw[hW0];simp
 have c3:W0.cell? ⟨w.heap.size,3,none⟩=some (.string f.c):=by rw[hW0];simp
 have c4:W0.cell? ⟨w.heap.size,4,none⟩=some (.string f.d):=by rw[hW0];simp
 have d3:=HB0.out.cell (p:=⟨D,3,none⟩) hD.dat.lt |>.trans hD.dat.c3;have hlk:∀m,(Instr.lookup 166 (.map (some bp)) (.agg #[.string f.a,.string f.b,.string f.r]) false).run prog (W0.drewN m)=.ok (.slice WY L.length Wz) (W0.drewN m):=fun m=>by
  have h:=((hD.dat.told.map.below HB0.out).below (below_drewN (Vb _ _) m)).look (t:=166) (e:=25) Lb underlying166 (Bu _) (x:=(f.a,f.b,f.r)) hkl;rw[hgd]at h;exact h
 have YQ:=ai hsl;have HKN:=ai hK;have HF:=ai hf;have XC:Hid (W0.cell? ⟨w.heap.size,3,none⟩=some (.string f.c)/\W0.cell? ⟨w.heap.size,4,none⟩=some (.string f.d)/\w.heap.size<W0.heap.size):=⟨c3,c4,by rw[hW0];simp⟩;clear hsl hK hf X7 hgd hkl;go_enter func213,ntmps213;go_wp2_with fail;rw[<-hW0];clear hW0;go_quiet (fail);clear c0 c1 c2 c3 c4 d3 hlk;go_wp2;go_loopw[20] (fun i wr=>∃k:Nat,k<=L.length/\i=.int .i64 k/\Hid ((L.drop k).any (nO out f)=L.any (nO out f))/\Hid (ae w wr)/\Hid (wr.cell? ⟨w.heap.size,3,none⟩=some (.string f.c)/\wr.cell? ⟨w.heap.size,4,none⟩=some (.string f.d)/\w.heap.size<wr.heap.size)) (fun i _=>L.length-(intOf i).toNat);case atStart=>exact⟨0,Vf _,rfl,rfl,below_drewN HB0.out _,XC⟩
 clear XC HB0;obtain⟨k,hk,rfl,HP,HB,HC⟩:=hrel;by_cases hlt:k<L.length
 ·obtain⟨bT,offT,Yh,⟨a0,a1,a2,a3,a4,a5⟩,hbT⟩:=Sl.at0 (YQ.out.below HB.out) hlt;obtain⟨c3,c4,cl⟩:=HC.out;have hi1:=bC k;have hi2:(k:Int)<(L.length:Int):=by omega
  have HTF:=ai (HFL.out _ (U8 hlt));have HD2:Hid (L.any (nO out f)=(nO out f L[k] || (L.drop (k+1)).any (nO out f))):=by show _=_;rw[<-HP.out];exact Ep _ hlt
  obtain⟨t,ht⟩:∃t,t=L[k]:=⟨_,rfl⟩;rw[<-ht]at a0 a1 a2 a3 a4 a5 HTF HD2;clear ht;obtain⟨W1,hW1⟩:∃W1,W1=wr.alloc (.cells #[.string t.a,.string t.b,.string t.r,.string t.c,.string t.d,.string t.s] 46):=⟨_,rfl⟩;have WZ:=mi hW1;have HB1:=ai (HB.out.trans (WZ.out.mono HB.out.size));have XK:Hid (W1.cell? ⟨w.heap.size,3,none⟩=some (.string f.c)/\W1.cell? ⟨w.heap.size,4,none⟩=some (.string f.d)/\w.heap.size<W1.heap.size):=⟨mK WZ.out cl c3,mK WZ.out cl c4,U9 cl WZ.out.size⟩;subst Yh;cases hs:t.s.toList.isEmpty;case true=>
   have hs2:(t.s.toList==[])=true:=by rw[nG];exact hs
   have HTT:Hid (nO out f t=yz t.c t.d f.c f.d):=by show _=_;unfold nO;rw[if_pos hs];rfl
   cases hu:yz t.c t.d f.c f.d;case true=>
    have heq:=iH _ _ _ _ hu;have HN:Hid (eQ ts out f=true):=by show _=_;rw[HL.out,HD2.out,HTT.out,hu];rfl
    clear hu hs;go_wp2;rw[<-hW1];go_ret;exact⟨by rw[HN.out];rfl,HB1.out⟩
   have heq:=iH _ _ _ _ hu;have WB:Hid ((L.drop (k+1)).any (nO out f)=L.any (nO out f)):=by show _=_;rw[HD2.out,HTT.out,hu];rfl
   clear hu hs;go_wp2;rw[<-hW1];clear hW1;go_roundw;case rel=>exact⟨k+1,by omega,by go_num,WB,HB1,XK⟩
   simp[intOf]<;>omega
  have hs2:(t.s.toList==[])=false:=by rw[nG];exact hs
  have HTT:Hid (nO out f t=bB out ⟨t.c,t.d,t.s,f.c,f.d⟩):=by show _=_;unfold nO;rw[if_neg (by rw[hs];decide)]
  clear hs;go_wp2_with fail;rw[<-hW1];clear hW1;refine(rD bK nK out ⟨t.c,t.d,t.s,f.c,f.d⟩ W1 ⟨HTF.out.2.2.2.1,HTF.out.2.2.2.2.1,HTF.out.2.2.2.2.2,HF.out.2.2.2.1,HF.out.2.2.2.2⟩ (HKN.out.below HB1.out)).mono ?_;rintro e w2 ⟨rfl,hb2⟩;have HB2:=ai (HB1.out.trans (hb2.mono HB1.out.size));have Xh:Hid (w2.cell? ⟨w.heap.size,3,none⟩=some (.string f.c)/\w2.cell? ⟨w.heap.size,4,none⟩=some (.string f.d)/\w.heap.size<w2.heap.size):=⟨mK hb2 XK.out.2.2 XK.out.1,mK hb2 XK.out.2.2 XK.out.2.1,U9 XK.out.2.2 hb2.size⟩;clear hb2;cases hh:bB out ⟨t.c,t.d,t.s,f.c,f.d⟩;case true=>
   have HN:Hid (eQ ts out f=true):=by show _=_;rw[HL.out,HD2.out,HTT.out,hh];rfl
   go_wp2;go_ret;exact⟨by rw[HN.out];rfl,HB2.out⟩
  have WB:Hid ((L.drop (k+1)).any (nO out f)=L.any (nO out f)):=by show _=_;rw[HD2.out,HTT.out,hh];rfl
  go_wp2;go_roundw;case rel=>exact⟨k+1,by omega,by go_num,WB,HB2,Xh⟩
  simp[intOf]<;>omega
 have HN:Hid (eQ ts out f=false):=by show _=_;rw[HL.out,<-HP.out,Vt (by omega)];rfl
 go_wp2;go_ret;exact⟨by rw[HN.out];rfl,HB.out⟩
theorem CL(hD:DatA w rs D br bp bt n1 nr Mr Er (bn ts) xo xu np Mp vo vu)(hK:aM jf prog 29 w bK nK (uK out))(x:ER)(hxf:x.e.over.size<=maxLen/\x.e.name.size<=maxLen)(hf:f.fits)(hts:∀t∈ts,t.fits)(htl:ts.length<=1000):
  Calls prog 214 #[.pointer (some ⟨D,0,none⟩),.agg #[.int .i64 x.e.kind,.slice x.adA x.e.allow.length x.capA,.string x.e.over,.string x.e.name,.slice x.adK x.e.kids.length x.capK],.agg #[.string f.a,.string f.b,.string f.r,.string f.c,.string f.d],.map (some bK)] w fun e w'=>e=.returned (.bool (gp ts out x.e.over x.e.name f))/\ae w w':=by
 obtain⟨kl,hkl⟩:=vS (f.a,f.b,x.e.over) hf.1 hf.2.1 hxf.1;obtain⟨WY,Wz,hgd,hsl⟩:=wU hD.dat.told (f.a,f.b,x.e.over);have HL:=ai (Ki ts out x.e.over x.e.name f);have hll:=wW ts (f.a,f.b,x.e.over);have HFL:Hid (∀t∈G.lookL (bn ts) (f.a,f.b,x.e.over),t.fits):=fun t ht=>hts t (wV ht);obtain⟨L,X7⟩:∃L,L=G.lookL (bn ts) (f.a,f.b,x.e.over):=⟨_,rfl⟩;rw[<-X7]at hgd hsl HL hll HFL;obtain⟨W0,hW0⟩:∃W0,W0=(w.alloc (.cells #[.int .i64 x.e.kind,.slice x.adA x.e.allow.length x.capA,.string x.e.over,.string x.e.name,.slice x.adK x.e.kids.length x.capK] 39)).alloc (.cells #[.string f.a,.string f.b,.string f.r,.string f.c,.string f.d] 29):=⟨_,rfl⟩;have HB0:Hid (ae w W0):=by show Below _ _ _;rw[hW0];exact((Vb _ _).alloc (Va _) _).alloc (by simp) _
 have c0:W0.cell? ⟨w.heap.size+1,0,none⟩=some (.string f.a):=by rw[hW0];simp
 have c1:W0.cell? ⟨w.heap.size+1,1,none⟩=some (.string f.b):=by rw[hW0];simp
 have c2:W0.cell? ⟨w.heap.size+1,2,none⟩=some (.string f.r):=by rw[hW0];simp
 have c3:W0.cell? ⟨w.heap.size+1,3,none⟩=some (.string f.c):=by rw[hW0];simp
 have c4:W0.cell? ⟨w.heap.size+1,4,none⟩=some (.string f.d):=by rw[hW0];simp
 have x2:W0.cell? ⟨w.heap.size,2,none⟩=some (.string x.e.over):=by rw[hW0];simp
 have x3:W0.cell? ⟨w.heap.size,3,none⟩=some (.string x.e.name):=by rw[hW0];simp
 have d3:=HB0.out.cell (p:=⟨D,3,none⟩) hD.dat.lt |>.trans hD.dat.c3;have hlk:∀m,(Instr.lookup 166 (.map (some bp)) (.agg #[.string f.a,.string f.b,.string x.e.over]) false).run prog (W0.drewN m)=.ok (.slice WY L.length Wz) (W0.drewN m):=fun m=>by
  have h:=((hD.dat.told.map.below HB0.out).below (below_drewN (Vb _ _) m)).look (t:=166) (e:=25) Lb underlying166 (Bu _) (x:=(f.a,f.b,x.e.over)) hkl;rw[hgd]at h;exact h
 have YQ:=ai hsl;have HKN:=ai hK;have HF:=ai hf;have XP:=ai hxf;have XC:Hid (W0.cell? ⟨w.heap.size+1,3,none⟩=some (.string f.c)/\W0.cell? ⟨w.heap.size+1,4,none⟩=some (.string f.d)/\W0.cell? ⟨w.heap.size,3,none⟩=some (.string x.e.name)/\w.heap.size+1<W0.heap.size):=⟨c3,c4,x3,by rw[hW0];simp⟩;clear hsl hK hf X7 hgd hkl;go_enter func214,ntmps214;go_wp2_with fail;rw[<-hW0];clear hW0;go_quiet (fail);clear c0 c1 c2 c3 c4 d3 x2 x3 hlk;go_wp2;go_loopw[22] (fun i wr=>∃k:Nat,k<=L.length/\i=.int .i64 k/\Hid ((L.drop k).any (wS out x.e.name f)=L.any (wS out x.e.name f))/\Hid (ae w wr)/\Hid (wr.cell? ⟨w.heap.size+1,3,none⟩=some (.string f.c)/\wr.cell? ⟨w.heap.size+1,4,none⟩=some (.string f.d)/\wr.cell? ⟨w.heap.size,3,none⟩=some (.string x.e.name)/\w.heap.size+1<wr.heap.size)) (fun i _=>L.length-(intOf i).toNat);case atStart=>exact⟨0,Vf _,rfl,rfl,below_drewN HB0.out _,XC⟩
 clear XC HB0;obtain⟨k,hk,rfl,HP,HB,HC⟩:=hrel;by_cases hlt:k<L.length
 ·obtain⟨bT,offT,Yh,⟨a0,a1,a2,a3,a4,a5⟩,hbT⟩:=Sl.at0 (YQ.out.below HB.out) hlt;obtain⟨c3,c4,x3,cl⟩:=HC.out;have cl0:w.heap.size<wr.heap.size:=by omega
  have hi1:=bC k;have hi2:(k:Int)<(L.length:Int):=by omega
  have HTF:=ai (HFL.out _ (U8 hlt));have HD2:Hid (L.any (wS out x.e.name f)=(wS out x.e.name f L[k] || (L.drop (k+1)).any (wS out x.e.name f))):=by show _=_;rw[<-HP.out];exact Ep _ hlt
  obtain⟨t,ht⟩:∃t,t=L[k]:=⟨_,rfl⟩;rw[<-ht]at a0 a1 a2 a3 a4 a5 HTF HD2;clear ht;obtain⟨W1,hW1⟩:∃W1,W1=wr.alloc (.cells #[.string t.a,.string t.b,.string t.r,.string t.c,.string t.d,.string t.s] 46):=⟨_,rfl⟩;have WZ:=mi hW1;have HB1:=ai (HB.out.trans (WZ.out.mono HB.out.size));have XK:Hid (W1.cell? ⟨w.heap.size+1,3,none⟩=some (.string f.c)/\W1.cell? ⟨w.heap.size+1,4,none⟩=some (.string f.d)/\W1.cell? ⟨w.heap.size,3,none⟩=some (.string x.e.name)/\w.heap.size+1<W1.heap.size):=⟨mK WZ.out cl c3,mK WZ.out cl c4,mK WZ.out cl0 x3,U9 cl WZ.out.size⟩;subst Yh;have HTT:Hid (wS out x.e.name f t=bB out ⟨t.c,t.d,x.e.name,f.c,f.d⟩):=rfl;go_wp2_with fail;rw[<-hW1];clear hW1;refine(rD bK nK out ⟨t.c,t.d,x.e.name,f.c,f.d⟩ W1 ⟨HTF.out.2.2.2.1,HTF.out.2.2.2.2.1,XP.out.2,HF.out.2.2.2.1,HF.out.2.2.2.2⟩ (HKN.out.below HB1.out)).mono ?_;rintro e w2 ⟨rfl,hb2⟩;have HB2:=ai (HB1.out.trans (hb2.mono HB1.out.size));have Xh:Hid (w2.cell? ⟨w.heap.size+1,3,none⟩=some (.string f.c)/\w2.cell? ⟨w.heap.size+1,4,none⟩=some (.string f.d)/\w2.cell? ⟨w.heap.size,3,none⟩=some (.string x.e.name)/\w.heap.size+1<w2.heap.size):=⟨mK hb2 XK.out.2.2.2 XK.out.1,mK hb2 XK.out.2.2.2 XK.out.2.1,mK hb2 (by have:=XK.out.2.2.2;omega) XK.out.2.2.1,U9 XK.out.2.2.2 hb2.size⟩;clear hb2;cases hh:bB out ⟨t.c,t.d,x.e.name,f.c,f.d⟩;case true=>
   have HN:Hid (gp ts out x.e.over x.e.name f=true):=by show _=_;rw[HL.out,HD2.out,HTT.out,hh];rfl
   go_wp2;go_ret;exact⟨by rw[HN.out];rfl,HB2.out⟩
  have WB:Hid ((L.drop (k+1)).any (wS out x.e.name f)=L.any (wS out x.e.name f)):=by show _=_;rw[HD2.out,HTT.out,hh];rfl
  go_wp2;go_roundw;case rel=>exact⟨k+1,by omega,by go_num,WB,HB2,Xh⟩
  simp[intOf]<;>omega
 have HN:Hid (gp ts out x.e.over x.e.name f=false):=by show _=_;rw[HL.out,<-HP.out,Vt (by omega)];rfl
 go_wp2;go_ret;exact⟨by rw[HN.out];rfl,HB.out⟩
end
structure Ym(rows:Q08):Prop where
 len:rows.length<=1000
 kids:∀q∈rows,q.e.kids.length<=1000
 low:La (ak rows)
 two:∀e∈ak rows,e.kind=6->2<=e.kids.length
theorem Ym.kid{rows:Q08}(h:Ym rows){n:Nat}(hn:n<rows.length){i:Int}(hi:i∈rows[n].e.kids):0<=i/\i<(n:Int):=by
 have:=h.low n (by rw[aR];exact hn) i;have e:(ak rows)[n]'(by rw[aR];exact hn)=rows[n].e:=by simp[ak]
 rw[e]at this;exact this hi
theorem rE(v0:Value)(Yo:Q02)(XU:Nat)(ts:Q05)(Ws:Q02)(capE:Nat)(rows:Q08)(Xf:Q02)(WJ:Nat)(truth:Q04)(f:Fc)(htl:ts.length<=1048576)(hN:Ym rows)(htr:truth.length<=1048576):
  ∀(k n:Nat) (adK:Q02) (capK:Nat) (known:Q04) (w:World),n<k->n<rows.length->known.length<=1048576->HW w Yo ts Ws rows adK known Xf truth ->
  Calls prog 98 #[v0,.slice Yo ts.length XU,.slice Ws rows.length capE,.int .i64 (n:Int),.slice adK known.length capK,.slice Xf truth.length WJ,.agg #[.string f.a,.string f.b,.string f.r,.string f.c,.string f.d]] w fun e w'=>e=.returned (.bool (dh ts (ak rows) truth f k known n))/\ae w w'
 | 0,_,_,_,_,_,h,_,_,_=>absurd h (V5 _)
 | k+1,n,adK,capK,known,w,hk,hn,hkn,hW=>by
  have e:(ak rows)[n]?=some rows[n].e:=by simp[ak,hn]
  have Xg:∀(adK':Q02) (capK':Nat) (known':Q04),known'.length<=1048576->HW w Yo ts Ws rows adK' known' Xf truth->∀i∈rows[n].e.kids,Pz v0 (.slice Yo ts.length XU) (.slice Ws rows.length capE) (.slice adK' known'.length capK') (.slice Xf truth.length WJ) f w i (dh ts (ak rows) truth f k known' i.toNat):=fun adK' capK' known' hl hW' i hi w1 hb1=>by
   have h1:=hN.kid hn hi;have h2:=rE v0 Yo XU ts Ws capE rows Xf WJ truth f htl hN htr k i.toNat adK' capK' known' w1 (by omega) (by omega) hl (hW'.below hb1);have e2:((i.toNat:Nat):Int)=i:=by omega
   rw[e2]at h2;exact h2
  unfold dh;rw[e];have hm:rows[n]∈rows:=U8 hn;have hme:rows[n].e∈ak rows:=Vo.2 ⟨_,hm,rfl⟩;by_cases k1:rows[n].e.kind=1
  ·simp only[if_pos k1];exact FN v0 Yo XU ts Ws capE rows n adK capK known Xf WJ truth f w hW hn hN.len hkn htl k1
  by_cases k2:rows[n].e.kind=2
  ·simp only[if_neg k1,if_pos k2];exact Ij v0 Yo XU ts Ws capE rows n adK capK known Xf WJ truth f w hW hn hN.len hkn k2
  by_cases k3:rows[n].e.kind=3
  ·simp only[if_neg k1,if_neg k2,if_pos k3];exact Fs v0 Yo XU ts Ws capE rows n adK capK known Xf WJ truth f w hW hn hN.len hkn htl k3
  by_cases k4:rows[n].e.kind=4
  ·simp only[if_neg k1,if_neg k2,if_neg k3,if_pos k4];exact CE (fun i=>dh ts (ak rows) truth f k known i.toNat) v0 _ Ws capE rows n _ _ f w hW.ex hn hN.len (hN.kids _ hm) k4 (Xg adK capK known hkn hW)
  by_cases k5:rows[n].e.kind=5
  ·simp only[if_neg k1,if_neg k2,if_neg k3,if_neg k4,if_pos k5];exact Fu (fun i=>dh ts (ak rows) truth f k known i.toNat) v0 _ Ws capE rows n _ _ f w hW.ex hn hN.len (hN.kids _ hm) k5 (Xg adK capK known hkn hW)
  by_cases k6:rows[n].e.kind=6
  ·simp only[if_neg k1,if_neg k2,if_neg k3,if_neg k4,if_neg k5,if_pos k6];have h2:=hN.two _ hme k6;have hg:∀q,q<2->rows[n].e.kids.getD q 0∈rows[n].e.kids:=fun q hq=>by
    rw[VH,Vg (by omega)];exact U8 _
   exact Hg _ _ v0 _ Ws capE rows n _ _ f w hW.ex hn hN.len (hN.kids _ hm) h2 k6 (Xg adK capK known hkn hW _ (hg 0 (by omega))) (Xg Xf WJ truth htr ⟨hW.tup,hW.ex,hW.tr,hW.tr⟩ _ (hg 1 (by omega)))
  simp only[if_neg k1,if_neg k2,if_neg k3,if_neg k4,if_neg k5,if_neg k6];exact Kt v0 Yo XU ts Ws capE rows n _ _ f w hW.ex hn hN.len k1 k2 k3 k4 k5 k6
def zg(B:Nat):Value:=.func (Fn.func 211) #[] #[.pointer (some ⟨B,0,none⟩),.pointer (some ⟨B+1,0,none⟩),.pointer (some ⟨B+1+1,0,none⟩),.pointer (some ⟨B+1+1+1,0,none⟩)]
def IW(w:World)(D:Nat)(vE:Value)(f:Fc)(bK:Nat)(x:ER):World :=
 (((((w.alloc (.cells #[.pointer (some ⟨D,0,none⟩)] 97)).alloc (.cells #[vE] 33)).alloc (.cells #[.string f.a,.string f.b,.string f.r,.string f.c,.string f.d] 29)).alloc (.cells #[.map (some bK)] 107)).alloc (.cells #[.int .i64 x.e.kind,.slice x.adA x.e.allow.length x.capA,.string x.e.over,.string x.e.name,.slice x.adK x.e.kids.length x.capK] 39)).alloc (.cells #[zg w.heap.size] 295)
structure NdB(w:World)(B D:Nat)(vE:Value)(f:Fc)(bK:Nat)(x:ER):Prop where
 lt:B+1+1+1+1+1<w.heap.size
 d:w.cell? ⟨B,0,none⟩=some (.pointer (some ⟨D,0,none⟩))
 e:w.cell? ⟨B+1,0,none⟩=some vE
 f0:w.cell? ⟨B+1+1,0,none⟩=some (.string f.a)
 f1:w.cell? ⟨B+1+1,1,none⟩=some (.string f.b)
 f2:w.cell? ⟨B+1+1,2,none⟩=some (.string f.r)
 f3:w.cell? ⟨B+1+1,3,none⟩=some (.string f.c)
 f4:w.cell? ⟨B+1+1,4,none⟩=some (.string f.d)
 k:w.cell? ⟨B+1+1+1,0,none⟩=some (.map (some bK))
 x0:w.cell? ⟨B+1+1+1+1,0,none⟩=some (.int .i64 x.e.kind)
 x1:w.cell? ⟨B+1+1+1+1,1,none⟩=some (.slice x.adA x.e.allow.length x.capA)
 x2:w.cell? ⟨B+1+1+1+1,2,none⟩=some (.string x.e.over)
 x3:w.cell? ⟨B+1+1+1+1,3,none⟩=some (.string x.e.name)
 x4:w.cell? ⟨B+1+1+1+1,4,none⟩=some (.slice x.adK x.e.kids.length x.capK)
 v:w.cell? ⟨B+1+1+1+1+1,0,none⟩=some (zg B)
theorem NdB.below{w w':af}{B D:Nat}{vE:Value}{f:Fc}{bK:Nat}{x:ER}(h:NdB w B D vE f bK x)(hB:ae w w'):NdB w' B D vE f bK x:=by
 have hl:=h.lt;have c:∀i o,i<=5->w'.cell? ⟨B+i,o,none⟩=w.cell? ⟨B+i,o,none⟩:=fun i o hi=>hB.cell (p:=⟨B+i,o,none⟩) (show B+i<_ by omega);have c0:∀o,w'.cell? ⟨B,o,none⟩=w.cell? ⟨B,o,none⟩:=fun o=>hB.cell (p:=⟨B,o,none⟩) (show B<_ by omega);exact⟨U9 hl hB.size,(c0 _).trans h.d,(c 1 _ (by omega)).trans h.e,(c 2 _ (by omega)).trans h.f0,(c 2 _ (by omega)).trans h.f1,(c 2 _ (by omega)).trans h.f2,(c 2 _ (by omega)).trans h.f3,(c 2 _ (by omega)).trans h.f4,(c 3 _ (by omega)).trans h.k,(c 4 _ (by omega)).trans h.x0,(c 4 _ (by omega)).trans h.x1,(c 4 _ (by omega)).trans h.x2,(c 4 _ (by omega)).trans h.x3,(c 4 _ (by omega)).trans h.x4,(c 5 _ (by omega)).trans h.v⟩
theorem l7(w:af)(D:Nat)(vE:Value)(f:Fc)(bK:Nat)(x:ER):ae w (IW w D vE f bK x):=by
 unfold IW;exact((((((Vb _ _).alloc (Va _) _).alloc (by simp) _).alloc (by simp;omega) _).alloc (by simp;omega) _).alloc (by simp;omega) _).alloc (by simp;omega) _
theorem oM(w:af)(cs:Array Value)(T:TypeId)(o:Nat):(w.alloc (.cells cs T)).cell? ⟨w.heap.size,o,none⟩=cs[o]?:=World.cell?_alloc_mark w cs T (0,0) o
theorem l8(w:af)(D:Nat)(vE:Value)(f:Fc)(bK:Nat)(x:ER):NdB (IW w D vE f bK x) w.heap.size D vE f bK x:=by
 unfold IW;obtain⟨w1,h1⟩:∃u,u=w.alloc (.cells #[.pointer (some ⟨D,0,none⟩)] 97):=⟨_,rfl⟩;have s1:w1.heap.size=w.heap.size+1:=by rw[h1,World.size_alloc]
 have b1:ae w w1:=by rw[h1];exact(Vb _ _).alloc (Va _) _
 obtain⟨w2,h2⟩:∃u,u=w1.alloc (.cells #[vE] 33):=⟨_,rfl⟩;have s2:w2.heap.size=w.heap.size+1+1:=by rw[h2,World.size_alloc,s1]
 have b2:ae w1 w2:=by rw[h2];exact(Vb _ _).alloc (Va _) _
 obtain⟨w3,h3⟩:∃u,u=w2.alloc (.cells #[.string f.a,.string f.b,.string f.r,.string f.c,.string f.d] 29):=⟨_,rfl⟩;have s3:w3.heap.size=w.heap.size+1+1+1:=by rw[h3,World.size_alloc,s2]
 have b3:ae w2 w3:=by rw[h3];exact(Vb _ _).alloc (Va _) _
 obtain⟨w4,h4⟩:∃u,u=w3.alloc (.cells #[.map (some bK)] 107):=⟨_,rfl⟩;have s4:w4.heap.size=w.heap.size+1+1+1+1:=by rw[h4,World.size_alloc,s3]
 have b4:ae w3 w4:=by rw[h4];exact(Vb _ _).alloc (Va _) _
 obtain⟨w5,h5⟩:∃u,u=w4.alloc (.cells #[.int .i64 x.e.kind,.slice x.adA x.e.allow.length x.capA,.string x.e.over,.string x.e.name,.slice x.adK x.e.kids.length x.capK] 39):=⟨_,rfl⟩;have s5:w5.heap.size=w.heap.size+1+1+1+1+1:=by rw[h5,World.size_alloc,s4]
 have b5:ae w4 w5:=by rw[h5];exact(Vb _ _).alloc (Va _) _
 obtain⟨w6,h6⟩:∃u,u=w5.alloc (.cells #[zg w.heap.size] 295):=⟨_,rfl⟩;have s6:w6.heap.size=w.heap.size+1+1+1+1+1+1:=by rw[h6,World.size_alloc,s5]
 have b6:ae w5 w6:=by rw[h6];exact(Vb _ _).alloc (Va _) _
 rw[<-h1,<-h2,<-h3,<-h4,<-h5,<-h6];have c0:∀o,w6.cell? ⟨w.heap.size,o,none⟩=(#[.pointer (some ⟨D,0,none⟩)]:Array Value)[o]?:=fun o=>by
  have e:w1.cell? ⟨w.heap.size,o,none⟩=(#[.pointer (some ⟨D,0,none⟩)]:Array Value)[o]?:=by rw[h1];exact oM _ _ _ o
  rw[b6.cell (p:=⟨w.heap.size,o,none⟩) (show w.heap.size<_ by omega),b5.cell (p:=⟨w.heap.size,o,none⟩) (show w.heap.size<_ by omega),b4.cell (p:=⟨w.heap.size,o,none⟩) (show w.heap.size<_ by omega),b3.cell (p:=⟨w.heap.size,o,none⟩) (show w.heap.size<_ by omega),b2.cell (p:=⟨w.heap.size,o,none⟩) (show w.heap.size<_ by omega)];exact e
 have c1:∀o,w6.cell? ⟨w.heap.size+1,o,none⟩=(#[vE]:Array Value)[o]?:=fun o=>by
  have e:w2.cell? ⟨w.heap.size+1,o,none⟩=(#[vE]:Array Value)[o]?:=by rw[h2,<-s1];exact oM _ _ _ o
  rw[b6.cell (p:=⟨w.heap.size+1,o,none⟩) (show w.heap.size+1<_ by omega),b5.cell (p:=⟨w.heap.size+1,o,none⟩) (show w.heap.size+1<_ by omega),b4.cell (p:=⟨w.heap.size+1,o,none⟩) (show w.heap.size+1<_ by omega),b3.cell (p:=⟨w.heap.size+1,o,none⟩) (show w.heap.size+1<_ by omega)];exact e
 have c2:∀o,w6.cell? ⟨w.heap.size+1+1,o,none⟩=(#[.string f.a,.string f.b,.string f.r,.string f.c,.string f.d]:Array Value)[o]?:=fun o=>by
  have e:w3.cell? ⟨w.heap.size+1+1,o,none⟩=(#[.string f.a,.string f.b,.string f.r,.string f.c,.string f.d]:Array Value)[o]?:=by rw[h3,<-s2];exact oM _ _ _ o
  rw[b6.cell (p:=⟨w.heap.size+1+1,o,none⟩) (show w.heap.size+1+1<_ by omega),b5.cell (p:=⟨w.heap.size+1+1,o,none⟩) (show w.heap.size+1+1<_ by omega),b4.cell (p:=⟨w.heap.size+1+1,o,none⟩) (show w.heap.size+1+1<_ by omega)];exact e
 have c3:∀o,w6.cell? ⟨w.heap.size+1+1+1,o,none⟩=(#[.map (some bK)]:Array Value)[o]?:=fun o=>by
  have e:w4.cell? ⟨w.heap.size+1+1+1,o,none⟩=(#[.map (some bK)]:Array Value)[o]?:=by rw[h4,<-s3];exact oM _ _ _ o
  rw[b6.cell (p:=⟨w.heap.size+1+1+1,o,none⟩) (show w.heap.size+1+1+1<_ by omega),b5.cell (p:=⟨w.heap.size+1+1+1,o,none⟩) (show w.heap.size+1+1+1<_ by omega)];exact e
 have c4:∀o,w6.cell? ⟨w.heap.size+1+1+1+1,o,none⟩=(#[.int .i64 x.e.kind,.slice x.adA x.e.allow.length x.capA,.string x.e.over,.string x.e.name,.slice x.adK x.e.kids.length x.capK]:Array Value)[o]?:=fun o=>by
  have e:w5.cell? ⟨w.heap.size+1+1+1+1,o,none⟩=(#[.int .i64 x.e.kind,.slice x.adA x.e.allow.length x.capA,.string x.e.over,.string x.e.name,.slice x.adK x.e.kids.length x.capK]:Array Value)[o]?:=by rw[h5,<-s4];exact oM _ _ _ o
  rw[b6.cell (p:=⟨w.heap.size+1+1+1+1,o,none⟩) (show w.heap.size+1+1+1+1<_ by omega)];exact e
 have c5:∀o,w6.cell? ⟨w.heap.size+1+1+1+1+1,o,none⟩=(#[zg w.heap.size]:Array Value)[o]?:=fun o=>by
  have e:w6.cell? ⟨w.heap.size+1+1+1+1+1,o,none⟩=(#[zg w.heap.size]:Array Value)[o]?:=by rw[h6,<-s5];exact oM _ _ _ o
  exact e
 exact⟨by omega,c0 0,c1 0,c2 0,c2 1,c2 2,c2 3,c2 4,c3 0,c4 0,c4 1,c4 2,c4 3,c4 4,c5 0⟩
def FO(D:Nat)(vE:Value)(f:Fc)(bK:Nat)(w:World)(i:Int)(b:Bool):Prop:=∀w1:World,ae w w1->Calls prog 167 #[.pointer (some ⟨D,0,none⟩),vE,.int .i64 i,.agg #[.string f.a,.string f.b,.string f.r,.string f.c,.string f.d],.map (some bK)] w1 fun e w'=>e=.returned (.bool b)/\ae w1 w'
theorem pV{w w1:af}{B D:Nat}{vE:Value}{f:Fc}{bK:Nat}{x:ER}{i:Int}{b:Bool}(hK:FO D vE f bK w i b)(hb:ae w w1)(hB:NdB w1 B D vE f bK x):
  Calls prog 211 #[.int .i64 i,.pointer (some ⟨B,0,none⟩),.pointer (some ⟨B+1,0,none⟩),.pointer (some ⟨B+1+1,0,none⟩),.pointer (some ⟨B+1+1+1,0,none⟩)] w1 fun e w'=>e=.returned (.bool b)/\ae w1 w':=by
 have HC:=ai (hK w1 hb);obtain⟨-,d,e,f0,f1,f2,f3,f4,k,-⟩:=hB;clear hK;go_enter func211,ntmps211;go_wp2_with fail;refine HC.out.mono ?_;rintro e w2 ⟨rfl,hb2⟩;have HB:=ai hb2;clear hb2;go_wp2;go_ret;exact⟨rfl,HB.out⟩
theorem wX{w w1:af}{B D:Nat}{vE:Value}{f:Fc}{bK:Nat}{x:ER}{i:Int}{b:Bool}(hK:FO D vE f bK w i b)(hb:ae w w1)(hB:NdB w1 B D vE f bK x):
  Calls prog 212 #[.int .i64 i,.pointer (some ⟨B+1+1+1+1+1,0,none⟩)] w1 fun e w'=>e=.returned (.bool (!b))/\ae w1 w':=by
 have HC:=ai (pV hK hb hB);have hv:=hB.v;unfold zg at hv;clear hK hB;go_enter func212,ntmps212;go_wp2_with fail;refine HC.out.mono ?_;rintro e w2 ⟨rfl,hb2⟩;have HB:=ai hb2;clear hb2;go_wp2;go_ret;exact⟨rfl,HB.out⟩
theorem T9(xs:Array Value)(u:af):(callFunc 211 xs).run prog u=.ok (.enter 211 xs) u:=by kernel_rfl
theorem Ua(xs:Array Value)(u:af):(callFunc 212 xs).run prog u=.ok (.enter 212 xs) u:=by kernel_rfl
theorem Ny(p:Int->Bool){zs:List Int}{k:Nat}(h:k<zs.length):(zs.drop k).any p=(p zs[k] || (zs.drop (k+1)).any p):=by rw[VG h];rfl
theorem Ku(FC:Nat)(rc cp:Array Value)(p:Int->Bool)(ad:Q02)(cap:Nat)(xs:List Int)(w:af)(hlen:xs.length<=1048576)(hs:sZ w ad xs)
  (hrun:∀(ys:Array Value) (u:World),(callFunc FC ys).run prog u=.ok (.enter FC ys) u) (hp:∀x∈xs,∀w1:World,ae w w1->Calls prog FC (rc.push (.int .i64 x)++cp) w1 fun e w'=>e=.returned (.bool (p x))/\ae w1 w') :
  Calls prog 230 #[.slice ad xs.length cap,.func (Fn.func FC) rc cp] w fun e w'=>(∃r:Int,e=.returned (.int .i64 r)/\decide (0<=r)=xs.any p)/\ae w w':=by
 have HS:=ai hs;have Yt:=ai hrun;have HP:=ai hp;clear hs hrun hp;have HD:Hid (∀k (h:k<xs.length),(xs.drop k).any p=(p xs[k] || (xs.drop (k+1)).any p)):=fun k h=>Ny p h;go_enter func230,ntmps230;go_wp2_with fail;go_loopw[8] (fun i wr=>∃k:Nat,k<=xs.length/\i=.int .i64 k/\Hid ((xs.drop k).any p=xs.any p)/\Hid (ae w wr)) (fun i _=>xs.length-(intOf i).toNat);case atStart=>exact⟨0,Vf _,rfl,rfl,Vb _ _⟩
 obtain⟨k,hk,rfl,HQ,HB⟩:=hrel;by_cases hlt:k<xs.length
 ·obtain⟨b,off,Wt,t0,hbl⟩:=sZ.at0 (HS.out.below HB.out) hlt;have HM:Hid (xs[k]∈xs):=U8 hlt;have hk1:=bC k;have hk2:(k:Int)<(xs.length:Int):=by omega
  have HD2:=ai (HD.out k hlt);subst Wt;go_wp2_with fail;rw[Yt.out,Oper.upon_enter];refine(HP.out _ HM.out _ HB.out).mono ?_;rintro e w1 ⟨rfl,hb1⟩;have HB1:=jF HB hb1;clear hb1 t0;cases he:p xs[k];case true=>
   have HN:Hid (xs.any p=true):=by show _=_;rw[<-HQ.out,HD2.out,he];rfl
   go_wp2;go_ret;exact⟨⟨k,rfl,by rw[HN.out];simp⟩,HB1.out⟩
  have HQ2:Hid ((xs.drop (k+1)).any p=xs.any p):=by show _=_;rw[<-HQ.out,HD2.out,he];rfl
  go_wp2;go_roundw;case rel=>exact⟨k+1,by omega,by go_num,HQ2,HB1⟩
  simp[intOf]<;>omega
 have HN:Hid (xs.any p=false):=by show _=_;rw[<-HQ.out,Vt (by omega)];rfl
 go_wp2;go_ret;exact⟨⟨-1,rfl,by rw[HN.out];simp⟩,HB.out⟩
theorem tO(FC:Nat)(rc cp:Array Value)(p:Int->Bool)(ad:Q02)(cap:Nat)(xs:List Int)(w:af)(hlen:xs.length<=1048576)(hs:sZ w ad xs)
  (hrun:∀(ys:Array Value) (u:World),(callFunc FC ys).run prog u=.ok (.enter FC ys) u) (hp:∀x∈xs,∀w1:World,ae w w1->Calls prog FC (rc.push (.int .i64 x)++cp) w1 fun e w'=>e=.returned (.bool (p x))/\ae w1 w') :
  Calls prog 215 #[.slice ad xs.length cap,.func (Fn.func FC) rc cp] w fun e w'=>e=.returned (.bool (xs.any p))/\ae w w':=by
 have HC:=ai (Ku FC rc cp p ad cap xs w hlen hs hrun hp);clear hs hrun hp;go_enter func215,ntmps215;go_wp2_with fail;refine HC.out.mono ?_;rintro e w' ⟨⟨r,rfl,hr⟩,hbx⟩;have HR:=ai hr;clear hr;go_wp2;go_ret;exact⟨by rw[<-HR.out];rfl,hbx⟩
open Go.Sort
section
variable  {w:World}{rs:Q06}{D br bp bt bK nK:Nat}{n1:Int}{nr:Nat}{Mr:KL->Option Value}{Er:List (KL×RR)}{ts:Q05}{xo xu:Q0a}{np:Nat}{Mp:K3->Option Value}{vo vu:Value}{out:Q04}{f:Fc}{Ws:Q02}{capE:Nat}{rows:Q08}{n:Nat}
theorem Qz(hn:n<rows.length)(b0 b1:Bool)(hkl:rows[n].e.kids.length<=1000)(hk2l:2<=rows[n].e.kids.length)(hA:FO D (.slice Ws rows.length capE) f bK w (rows[n].e.kids.getD 0 0) b0)(hB:FO D (.slice Ws rows.length capE) f bK w (rows[n].e.kids.getD 1 0) b1)(hex:ik w Ws rows)(hre:rows.length<=1000)(hk:rows[n].e.kind=6):
  Calls prog 167 #[.pointer (some ⟨D,0,none⟩),.slice Ws rows.length capE,.int .i64 (n:Int),.agg #[.string f.a,.string f.b,.string f.r,.string f.c,.string f.d],.map (some bK)] w fun e w'=>e=.returned (.bool (b0 && !b1))/\ae w w':=by
 obtain⟨b,off,Wt,⟨t0,t1,t2,t3,t4⟩,hbl,hok⟩:=ik.at0 hex hn;obtain⟨W0,hW0⟩:∃W0,W0=IW w D (.slice Ws rows.length capE) f bK rows[n]:=⟨_,rfl⟩;have HB0:Hid (ae w W0):=by show Below _ _ _;rw[hW0];exact l7 _ _ _ _ _ _
 have Yj:Hid (NdB W0 w.heap.size D (.slice Ws rows.length capE) f bK rows[n]):=by show NdB _ _ _ _ _ _ _;rw[hW0];exact l8 _ _ _ _ _ _
 have hk1:(rows[n].e.kind==1)=false:=by rw[hk];rfl
 have hk2:(rows[n].e.kind==2)=false:=by rw[hk];rfl
 have hk3:(rows[n].e.kind==3)=false:=by rw[hk];rfl
 have hk4:(rows[n].e.kind==4)=false:=by rw[hk];rfl
 have hk5:(rows[n].e.kind==5)=false:=by rw[hk];rfl
 have YN:b<w.heap.size+1:=by omega
 have hbl2:b<w.heap.size+1+1:=by omega
 have hbl3:b<w.heap.size+1+1+1:=by omega
 have hn1:=bC n;have hn2:(n:Int)<(rows.length:Int):=by omega
 unfold IW zg at hW0;have h0k:0<rows[n].e.kids.length:=by omega
 have h1k:1<rows[n].e.kids.length:=by omega
 obtain⟨bJ,XG,WX,z0,hbK⟩:=sZ.at0 hok.2 h0k;have z1:w.cell? ⟨bJ,XG+1,none⟩=some (.int .i64 rows[n].e.kids[1]):=by
  obtain⟨b',off',Yl,z1,-⟩:=sZ.at0 hok.2 h1k;rw[WX]at Yl;injection Yl with e;injection e with e1 e2;rw[e1,e2];exact z1
 obtain⟨i0,hi0⟩:∃i,i=rows[n].e.kids[0]:=⟨_,rfl⟩;obtain⟨i1,hi1⟩:∃i,i=rows[n].e.kids[1]:=⟨_,rfl⟩;have g0:rows[n].e.kids.getD 0 0=i0:=by rw[hi0,VH,Vg h0k];rfl
 have g1:rows[n].e.kids.getD 1 0=i1:=by rw[hi1,VH,Vg h1k];rfl
 rw[g0]at hA;rw[g1]at hB;rw[<-hi0,Nat.add_zero]at z0;rw[<-hi1]at z1;obtain⟨kl,hkl'⟩:∃kl,kl=rows[n].e.kids.length:=⟨_,rfl⟩;obtain⟨cK,hcK⟩:∃c,c=rows[n].capK:=⟨_,rfl⟩;have hl0:(0:Int)<(kl:Int):=by omega
 have hl1:(1:Int)<(kl:Int):=by omega
 have h0k':0<kl:=by omega
 have h1k':1<kl:=by omega
 have HA:Hid (∀w1,ae W0 w1->_):=fun w1 hb=>pV hA (HB0.out.trans (hb.mono HB0.out.size)) (Yj.out.below hb);have Yq:Hid (∀w1,ae W0 w1->_):=fun w1 hb=>wX hB (HB0.out.trans (hb.mono HB0.out.size)) (Yj.out.below hb);have HZ:Hid (W0.cell? ⟨bJ,XG,none⟩=some (.int .i64 i0)/\W0.cell? ⟨bJ,XG+1,none⟩=some (.int .i64 i1)/\bJ<W0.heap.size):=⟨(HB0.out.cell (p:=⟨bJ,XG,none⟩) hbK).trans z0,(HB0.out.cell (p:=⟨bJ,XG+1,none⟩) hbK).trans z1,U9 hbK HB0.out.size⟩;have HX4:Hid (W0.cell? ⟨w.heap.size+1+1+1+1,4,none⟩=some (.slice (some ⟨bJ,XG,none⟩) kl cK)):=by show _=_;rw[Yj.out.x4,WX,<-hkl',<-hcK]
 have HV5:Hid (W0.cell? ⟨w.heap.size+1+1+1+1+1,0,none⟩=some (.func (Fn.func 211) #[] #[.pointer (some ⟨w.heap.size,0,none⟩),.pointer (some ⟨w.heap.size+1,0,none⟩),.pointer (some ⟨w.heap.size+1+1,0,none⟩),.pointer (some ⟨w.heap.size+1+1+1,0,none⟩)])):=Yj.out.v;clear hA hB hex hk hok z0 z1 WX h0k h1k g0 g1 hi0 hi1;subst Wt;go_enter func167,ntmps167;go_wp2_with fail;rw[<-hW0];clear hW0 t0 t1 t2 t3 t4;clear hk1 hk2 hk3 hk4 hk5 hkl' hcK;have HAA:Hid (∀d os,Calls prog 211 #[.int .i64 i0,.pointer (some ⟨w.heap.size,0,none⟩),.pointer (some ⟨w.heap.size+1,0,none⟩),.pointer (some ⟨w.heap.size+1+1,0,none⟩),.pointer (some ⟨w.heap.size+1+1+1,0,none⟩)] (grow (redrawn W0 d) os) fun e w''=>e=.returned (.bool b0)/\∃p:Regrown,w''=grow (redrawn W0 p.d) p.os):=by
  refine dA fun W' hb=>?_;exact HA.out _ hb
 have HBQ:Hid (∀d os,Calls prog 212 #[.int .i64 i1,.pointer (some ⟨w.heap.size+1+1+1+1+1,0,none⟩)] (grow (redrawn W0 d) os) fun e w''=>e=.returned (.bool (!b1))/\∃p:Regrown,w''=grow (redrawn W0 p.d) p.os):=by
  refine dA fun W' hb=>?_;exact Yq.out _ hb
 have x4:=cell_regrown HX4.out;have v5:=cell_regrown HV5.out;have z0:=cell_regrown HZ.out.1;have z1:=cell_regrown HZ.out.2.1;clear HA Yq Yj;cases b0
 case' true =>
  skip
 case' false =>
  skip
 all_goals
  refine wp_region_quiet_below (by kernel_rfl) (by kernel_rfl) ?_
  repeat(go_big_quiet_step (first|exact HAA.out _ _|exact HBQ.out _ _))
  refine wpQuiet_nil ?_;rintro _ ⟨⟨dq,osq⟩,rfl⟩;go_wp2;go_ret;exact⟨rfl,HB0.out.trans ((below_regrown W0 dq osq).mono HB0.out.size)⟩
end
set_option linter.unusedSectionVars false
def kY(sts:List St)(xu:Q0a)(n:Int)(o:Al)(k:Nat):List Fc:=((sts.take k).filter fun s=>s.typ.toList==o.t.toList&&decide (s.n=n)).flatMap fun s=>jl o s.rel xu
def Ub(sts:List St)(xu:Q0a)(n:Int)(o:Al):List Fc:=kY sts xu n o sts.length
def sU(sts:List St)(xo xu:Q0a)(n:Int)(i:Nat):List Fc:=(xo.take i).flatMap (Ub sts xu n)
theorem Nz(sts:List St)(xu:Q0a)(n:Int)(o:Al):kY sts xu n o 0=[]:=rfl
theorem Si{sts:List St}{xu:Q0a}{n:Int}{o:Al}{k:Nat}(h:k<sts.length)(hc:(sts[k].typ.toList==o.t.toList&&decide (sts[k].n=n))=false):kY sts xu n o (k+1)=kY sts xu n o k:=by
 unfold kY;rw[Ve h,Wp,VU];simp[hc]
theorem QA{sts:List St}{xu:Q0a}{n:Int}{o:Al}{k:Nat}(h:k<sts.length)(hc:(sts[k].typ.toList==o.t.toList&&decide (sts[k].n=n))=true):kY sts xu n o (k+1)=kY sts xu n o k++jl o sts[k].rel xu:=by
 unfold kY;rw[Ve h,Wp,VU];simp[hc]
theorem NA{sts:List St}{xo xu:Q0a}{n:Int}{i:Nat}(h:i<xo.length):sU sts xo xu n (i+1)=sU sts xo xu n i++kY sts xu n xo[i] sts.length:=by
 unfold sU;rw[Ve h,VU];simp[Ub]
theorem QB{ts:Q0b}{sts:List St}(hk:iU sts=au ts)(hn:(au ts).Nodup)(xo xu:Q0a)(n:Int):sU sts xo xu n xo.length=cZ ts (fT sts) xo xu n:=by
 unfold sU cZ;rw[Vs];congr 1
 funext o
 unfold Ub kY vQ;rw[Vs,Sc hk hn,List.flatMap_map];rfl
theorem NC(o:Al)(rel:bW){xu:Q0a}{j:Nat}(h:j<xu.length):jl o rel (xu.take (j+1))=jl o rel (xu.take j)++[⟨o.t,o.s,rel,xu[j].t,xu[j].s⟩]:=by
 unfold jl;rw[Ve h,VX];rfl
theorem pW{e:Ex}(h:ay e=true):e.kids.length<=5/\(e.kind=6->2<=e.kids.length):=by
 unfold ay at h;by_cases k1:e.kind=1
 ·rw[if_pos k1]at h;simp only[Vd,Vk]at h;exact⟨by omega,fun h6=>by omega⟩
 by_cases k2:e.kind=2
 ·rw[if_neg k1,if_pos k2]at h;simp only[Vd,Vk]at h;exact⟨by omega,fun h6=>by omega⟩
 by_cases k3:e.kind=3
 ·rw[if_neg k1,if_neg k2,if_pos k3]at h;simp only[Vd,Vk]at h;exact⟨by omega,fun h6=>by omega⟩
 by_cases k4:e.kind=4\/e.kind=5
 ·rw[if_neg k1,if_neg k2,if_neg k3,if_pos k4]at h;simp only[Vd,Vk]at h;exact⟨by omega,fun h6=>by omega⟩
 by_cases k6:e.kind=6
 ·rw[if_neg k1,if_neg k2,if_neg k3,if_neg k4,if_pos k6]at h;simp only[Vd,Vk]at h;exact⟨by omega,fun h6=>by omega⟩
 rw[if_neg k1,if_neg k2,if_neg k3,if_neg k4,if_neg k6]at h;cases h
theorem zC{rows:Q08}(h:aN (ak rows)=true):Ym rows/\1<=rows.length:=by
 have hl:1<=rows.length/\rows.length<=15:=by
  unfold aN at h;simp only[Vd,Vk,aR]at h;exact⟨h.1.1.1.1.1,h.1.1.1.1.2⟩
 have hlow:=Jr h;have hkl:∀q∈rows,q.e.kids.length<=1000:=fun q hq=>by
  have:=(pW (iK h q.e (Vo.2 ⟨q,hq,rfl⟩))).1;omega
 refine⟨⟨by omega,hkl,hlow,fun e he h6=>?_⟩,hl.1⟩;exact(pW (iK h e he)).2 h6
section
variable  [DecidableEq Fc]
theorem sJ(H:List Fc->Fc->Bool)(qs:Q04)(f:Fc)(out:Q04):bZ H (qs++[f]) out=dV H (bZ H qs out) f:=by rw[GG];rfl
theorem wY{H:List Fc->Fc->Bool}{out:Q04}{f:Fc}(h:bB out f=true\/H out f=false):dV H out f=out:=by
 unfold dV;rw[if_pos];rcases h with h|h
 ·exact .inl (bP.1 h)
 exact .inr h
theorem Es{H:List Fc->Fc->Bool}{out:Q04}{f:Fc}(h1:bB out f=false)(h2:H out f=true):dV H out f=out++[f]:=by
 unfold dV;rw[if_neg];rintro(h|h)
 ·rw[bP.2 h]at h1;cases h1
 rw[h2]at h;cases h
theorem Il(H:List Fc->Fc->Bool)(qs out:Q04):out.length<=(bZ H qs out).length:=by
 obtain⟨n,e,-⟩:=jP (H:=H) qs out;rw[e,Vh];omega
theorem Kv{H:List Fc->Fc->Bool}{qs out:Q04}(h:decide (out.length<(bZ H qs out).length)=false):bZ H qs out=out:=by
 obtain⟨n,e,-⟩:=jP (H:=H) qs out;rw[e,Vh,decide_eq_false_iff_not]at h;have:n=[]:=Vr.1 (by omega);rw[e,this,V4]
end
def Sj(u:Al)(g:Fc):Bool:=yz g.c g.d u.t u.s
theorem ND(p:Fc->Bool){zs:Q04}{k:Nat}(h:k<zs.length):(zs.drop k).any p=(p zs[k] || (zs.drop (k+1)).any p):=by rw[VG h];rfl
theorem kw.at0{w:af}{ad:Q02}{fs:Q04}(h:kw w ad fs){k:Nat}(hk:k<fs.length):∃b off,ad=some ⟨b,off,none⟩/\xI w b (off+k*5) fs[k]/\b<w.heap.size:=by
 rcases h with h|⟨b',off',e,hb,hr⟩
 ·rw[h]at hk;simp at hk
 exact⟨b',off',e,hr k hk,hb⟩
theorem Sk(g:Nat)(u:Al)(f:Fc)(w:af)(hg:g<w.heap.size)(h0:w.cell? ⟨g,0,none⟩=some (.string u.t))(h1:w.cell? ⟨g,1,none⟩=some (.string u.s)):
  Calls prog 148 #[.agg #[.string f.a,.string f.b,.string f.r,.string f.c,.string f.d],.pointer (some ⟨g,0,none⟩)] w fun e w'=>e=.returned (.bool (Sj u f))/\ae w w':=by
 have HB:Hid (ae w (w.alloc (.cells #[.string f.a,.string f.b,.string f.r,.string f.c,.string f.d] 29))):=(Vb _ _).alloc (Va _) _;have heq:=iH f.c f.d u.t u.s rfl;go_enter func148,ntmps148;go_wp2;go_ret;exact⟨rfl,HB.out⟩
theorem Uc(xs:Array Value)(u:af):(callFunc 148 xs).run prog u=.ok (.enter 148 xs) u:=by kernel_rfl
theorem Im(FC:Nat)(rc cp:Array Value)(p:Fc->Bool)(ad:Q02)(cap:Nat)(xs:Q04)(w:af)(hlen:xs.length<=1048576)(hs:kw w ad xs)
  (hrun:∀(ys:Array Value) (u:World),(callFunc FC ys).run prog u=.ok (.enter FC ys) u) (hp:∀x∈xs,∀w1:World,ae w w1->Calls prog FC (rc.push (.agg #[.string x.a,.string x.b,.string x.r,.string x.c,.string x.d])++cp) w1 fun e w'=>e=.returned (.bool (p x))/\ae w1 w') :
  Calls prog 200 #[.slice ad xs.length cap,.func (Fn.func FC) rc cp] w fun e w'=>(∃r:Int,e=.returned (.int .i64 r)/\decide (0<=r)=xs.any p)/\ae w w':=by
 have HS:=ai hs;have Yt:=ai hrun;have HP:=ai hp;clear hs hrun hp;have HD:Hid (∀k (h:k<xs.length),(xs.drop k).any p=(p xs[k] || (xs.drop (k+1)).any p)):=fun k h=>ND p h;go_enter func200,ntmps200;go_wp2_with fail;go_loopw[8] (fun i wr=>∃k:Nat,k<=xs.length/\i=.int .i64 k/\Hid ((xs.drop k).any p=xs.any p)/\Hid (ae w wr)) (fun i _=>xs.length-(intOf i).toNat);case atStart=>exact⟨0,Vf _,rfl,rfl,Vb _ _⟩
 obtain⟨k,hk,rfl,HQ,HB⟩:=hrel;by_cases hlt:k<xs.length
 ·obtain⟨b,off,Wt,⟨t0,t1,t2,t3,t4⟩,hbl⟩:=kw.at0 (HS.out.below HB.out) hlt;have HM:Hid (xs[k]∈xs):=U8 hlt;have hk1:=bC k;have hk2:(k:Int)<(xs.length:Int):=by omega
  have HD2:=ai (HD.out k hlt);subst Wt;go_wp2_with fail;rw[Yt.out,Oper.upon_enter];refine(HP.out _ HM.out _ HB.out).mono ?_;rintro e w1 ⟨rfl,hb1⟩;have HB1:=jF HB hb1;clear hb1 t0 t1 t2 t3 t4;cases he:p xs[k];case true=>
   have HN:Hid (xs.any p=true):=by show _=_;rw[<-HQ.out,HD2.out,he];rfl
   go_wp2;go_ret;exact⟨⟨k,rfl,by rw[HN.out];simp⟩,HB1.out⟩
  have HQ2:Hid ((xs.drop (k+1)).any p=xs.any p):=by show _=_;rw[<-HQ.out,HD2.out,he];rfl
  go_wp2;go_roundw;case rel=>exact⟨k+1,by omega,by go_num,HQ2,HB1⟩
  simp[intOf]<;>omega
 have HN:Hid (xs.any p=false):=by show _=_;rw[<-HQ.out,Vt (by omega)];rfl
 go_wp2;go_ret;exact⟨⟨-1,rfl,by rw[HN.out];simp⟩,HB.out⟩
theorem rF(FC:Nat)(rc cp:Array Value)(p:Fc->Bool)(ad:Q02)(cap:Nat)(xs:Q04)(w:af)(hlen:xs.length<=1048576)(hs:kw w ad xs)
  (hrun:∀(ys:Array Value) (u:World),(callFunc FC ys).run prog u=.ok (.enter FC ys) u) (hp:∀x∈xs,∀w1:World,ae w w1->Calls prog FC (rc.push (.agg #[.string x.a,.string x.b,.string x.r,.string x.c,.string x.d])++cp) w1 fun e w'=>e=.returned (.bool (p x))/\ae w1 w') :
  Calls prog 147 #[.slice ad xs.length cap,.func (Fn.func FC) rc cp] w fun e w'=>e=.returned (.bool (xs.any p))/\ae w w':=by
 have HC:=ai (Im FC rc cp p ad cap xs w hlen hs hrun hp);clear hs hrun hp;go_enter func147,ntmps147;go_wp2_with fail;refine HC.out.mono ?_;rintro e w' ⟨⟨r,rfl,hr⟩,hbx⟩;have HR:=ai hr;clear hr;go_wp2;go_ret;exact⟨by rw[<-HR.out];rfl,hbx⟩
theorem Kw{us:Q0a}{new:Q04}{k:Nat}(h:k<us.length):fB (us.take (k+1)) new=fB (us.take k) new++(if new.any (Sj us[k]) then [us[k]] else []):=by
 unfold fB;rw[Ve h,Wp];congr 1;rw[Wm];rfl
theorem Et(us:Q0a)(new:Q04):(fB us new).length<=us.length:=List.length_filter_le _ _
theorem rG(Xw:Q02)(WH:Nat)(us:Q0a)(Xq:Q02)(WC:Nat)(new:Q04)(w:af)(ZV:us.length<=1000)(hnl:new.length<=1048576)(hu:lK w Xw us)(hf:kw w Xq new):
  Calls prog 103 #[.slice Xw us.length WH,.slice Xq new.length WC] w fun e w'=>(∃v,e=.returned v/\w'.ownsRow w.heap.size 27 2 v (fB us new).length (pairs (fB us new)))/\ae w w':=by
 obtain⟨iO,h0,h1,h2,h3⟩:=Br;have HIO:=aH (And.intro h0 (And.intro h1 (And.intro h2 h3)));have HU:=aH hu;have HF:=aH hf;have XO:Hid (w.ownsRow w.heap.size 27 2 (.slice none 0 0) (fB (us.take 0) new).length (pairs (fB (us.take 0) new))):=World.ownsRow_nil _ _ _ _;clear hu hf h0 h1 h2 h3;go_enter func103,ntmps103;go_wp2_with fail;go_loopw[5,10] (fun v i wr=>∃k:Nat,k<=us.length/\i=.int .i64 k/\Hid (wr.ownsRow w.heap.size 27 2 v (fB (us.take k) new).length (pairs (fB (us.take k) new)))/\Hid (ae w wr)) (fun _ i _=>us.length-(intOf i).toNat);case atStart=>exact⟨0,Vf _,rfl,XO,Vb _ _⟩
 clear XO;obtain⟨k,hk,rfl,HO,HB⟩:=hrel;by_cases hlt:k<us.length
 ·obtain⟨b,off,Wt,⟨t0,t1⟩,hbl⟩:=lK.at0 (HU.out.below HB.out) hlt;have hi1:=bC k;have hi2:(k:Int)<(us.length:Int):=by omega
  have Zu:=aH (Kw (new:=new) hlt);have hkl:=Et (us.take k) new;rw[Vz]at hkl;obtain⟨u,hu⟩:∃u,u=us[k]:=⟨_,rfl⟩;rw[<-hu]at t0 t1 Zu;clear hu;obtain⟨W1,hW1⟩:∃W1,W1=wr.alloc (.cells #[.string u.t,.string u.s] 27):=⟨_,rfl⟩;have WZ:=mi hW1;have HB1:=aH (HB.out.trans (WZ.out.mono HB.out.size));have d0:W1.cell? ⟨wr.heap.size,0,none⟩=some (.string u.t):=by rw[hW1];simp
  have d1:W1.cell? ⟨wr.heap.size,1,none⟩=some (.string u.s):=by rw[hW1];simp
  have dl:wr.heap.size<W1.heap.size:=aC d0;have WK:=aH (bu HO.out WZ.out);obtain⟨ys,hys⟩:∃ys,ys=fB (us.take k) new:=⟨_,rfl⟩;rw[<-hys]at WK Zu hkl;obtain⟨adV,Yu,rfl,-⟩:=kV WK.out;have XA:=aH (rF 148 #[] #[.pointer (some ⟨wr.heap.size,0,none⟩)] (Sj u) Xq WC new W1 hnl (HF.out.below HB1.out) Uc (fun x hx w1 hb=>Sk wr.heap.size u x w1 (U9 dl hb.size) (aI hb dl d0) (aI hb dl d1)));subst Wt;clear hys HO;go_wp2_with fail;rw[<-hW1];clear hW1 t0 t1;refine XA.out.mono ?_;rintro e w2 ⟨rfl,hb2⟩;have HB2:=aH (HB1.out.trans (hb2.mono HB1.out.size));have Wu:=aH (bu WK.out hb2);replace d0:=aI hb2 dl d0;replace d1:=aI hb2 dl d1;replace dl:=U9 dl hb2.size;clear hb2 XA WK WZ;cases hh:new.any (Sj u);case false=>
   have HR:Hid (w2.ownsRow w.heap.size 27 2 (.slice adV ys.length Yu) (fB (us.take (k+1)) new).length (pairs (fB (us.take (k+1)) new))):=by
    show World.ownsRow _ _ _ _ _ _ _;rw[Zu.out,hh];simp only[Bool.false_eq_true,if_false,V4];exact Wu.out
   go_wp2;go_roundw;case rel=>exact⟨k+1,by omega,by go_num,HR,HB2⟩
   simp[intOf]<;>omega
  have HWE:Hid (fB (us.take (k+1)) new=ys++[u]):=by show _=_;rw[Zu.out,hh];rfl
  obtain⟨W4,WP⟩:∃W4,W4=w2.alloc (.cells #[.string u.t,.string u.s] 27):=⟨_,rfl⟩;have WG:Hid (W4.ownsRow w.heap.size 27 2 (.slice adV ys.length Yu) ys.length (pairs ys)):=by show World.ownsRow _ _ _ _ _ _ _;rw[WP];exact Wu.out.alloc _
  have HN4:Hid (∀j x,[Value.string u.t,.string u.s][j]?=some x->W4.cell? ((⟨w2.heap.size,0,none⟩:Addr).add j)=some x):=by rw[WP];exact Tk w2 u
  have Xp:Hid (ae w W4):=by show Below _ _ _;rw[WP];exact HB2.out.alloc HB2.out.size _
  have Zm:w.heap.size<=W4.heap.size:=Xp.out.size;clear hh;go_wp2_with(at_builtin;rw[<-WP];clear WP;refine wpList_append_own_at _ rfl _ _ 49 rfl w.heap.size 27 iO (.agg #[.string ⟨#[]⟩,.string ⟨#[]⟩]) 2 32 underlying49 HIO.out.1 HIO.out.2.1 HIO.out.2.2.1 HIO.out.2.2.2 rfl (by decide) _ ys.length (pairs ys) rfl WG.out ⟨w2.heap.size,0,none⟩ 1 1 [.string u.t,.string u.s] rfl rfl HN4.out (by simp[Value.oneCell']) (by unfold maxLen;omega) (by omega) Zm ?_);intro v' w5 hown hgr _ _;have HR:Hid (w5.ownsRow w.heap.size 27 2 v' (fB (us.take (k+1)) new).length (pairs (fB (us.take (k+1)) new))):=by
   show World.ownsRow _ _ _ _ _ _ _;rw[HWE.out,Vh];have:pairs (ys++[u])=pairs ys++[.string u.t,.string u.s]:=by simp[pairs]
   rw[this];exact hown
  have YZ:Hid (ae w w5):=Xp.out.grown hgr Xp.out.size (fun g hg=>(WG.out.lt g hg).1);clear hown hgr d0 d1 dl;go_wp2;go_roundw;case rel=>exact⟨k+1,by omega,by go_num,HR,YZ⟩
  simp[intOf]<;>omega
 have HE:Hid (wr.ownsRow w.heap.size 27 2 u5 (fB us new).length (pairs (fB us new))):=by
  have h:=HO.out;rw[VE (by omega)]at h;exact h
 clear HO;go_wp2;go_ret;exact⟨⟨_,rfl,HE.out⟩,HB.out⟩
def Io(K:Fc->Bool)(f:Fc)(t:Tp):Bool:=if t.s.toList.isEmpty then t.c.toList==f.c.toList&&t.d.toList==f.d.toList else K ⟨t.c,t.d,t.s,f.c,f.d⟩
abbrev Ru:=(Fc->Bool)->Bool
def rH(l:Q05)(f:Fc):Ru:=fun K=>l.any fun t=>(t.a.toList==f.a.toList&&t.b.toList==f.b.toList&&t.r.toList==f.r.toList)&&Io K f t
def Eu(l:Q05)(over name:ByteArray)(f:Fc):Ru:=fun K=>l.any fun t=>(t.a.toList==f.a.toList&&t.b.toList==f.b.toList&&t.r.toList==over.toList)&&K ⟨t.c,t.d,name,f.c,f.d⟩
def gN(l:Q05)(es:Q09)(truth:Q04)(f:Fc):Nat->Nat->Ru
 | 0,_=>fun _=>false
 | k+1,n=>match es[n]? with
  | none=>fun _=>false
  | some x =>
   if x.kind=1 then rH l f
   else if x.kind=2 then fun K=>K ⟨f.a,f.b,x.name,f.c,f.d⟩
   else if x.kind=3 then Eu l x.over x.name f
   else if x.kind=4 then fun K=>x.kids.any fun i=>gN l es truth f k i.toNat K
   else if x.kind=5 then fun K=>x.kids.all fun i=>gN l es truth f k i.toNat K
   else if x.kind=6 then if dh l es truth f k truth (x.kids.getD 1 0).toNat then fun _=>false else gN l es truth f k (x.kids.getD 0 0).toNat
   else fun _=>false
theorem QC(l:Q05)(es:Q09)(truth known:Q04)(f:Fc):∀k n,gN l es truth f k n (bB known)=dh l es truth f k known n
 | 0,_=>rfl
 | k+1,n=>by
  unfold gN
  conv=>rhs;unfold dh
  cases es[n]? with
  | none=>rfl
  | some x =>
   dsimp only;by_cases k1:x.kind=1
   ·rw[if_pos k1,if_pos k1];rfl
   rw[if_neg k1,if_neg k1];by_cases k2:x.kind=2
   ·rw[if_pos k2,if_pos k2]
   rw[if_neg k2,if_neg k2];by_cases k3:x.kind=3
   ·rw[if_pos k3,if_pos k3];rfl
   rw[if_neg k3,if_neg k3];have key:∀i:Int,gN l es truth f k i.toNat (bB known)=dh l es truth f k known i.toNat:=fun i=>QC l es truth known f k i.toNat;by_cases k4:x.kind=4
   ·rw[if_pos k4,if_pos k4];exact congrArg (fun p=>x.kids.any p) (funext key)
   rw[if_neg k4,if_neg k4];by_cases k5:x.kind=5
   ·rw[if_pos k5,if_pos k5];exact congrArg (fun p=>x.kids.all p) (funext key)
   rw[if_neg k5,if_neg k5];by_cases k6:x.kind=6
   ·rw[if_pos k6,if_pos k6];cases h:dh l es truth f k truth (x.kids.getD 1 0).toNat;case true=>rw[if_pos rfl];simp
    rw[if_neg (by decide),key];simp
   rw[if_neg k6,if_neg k6]
end Go.Proofs.YtajkkeikihhejaaGreat
