/- The program's question of a node, whatever it is; does a fact hold by its relation's whole? -/
import Derived.Test.YtojjoblnpldniaaGreatSq
import Derived.Test.YtojjoblnpldniaaGreatJ26
import Derived.Test.YtojjoblnpldniaaGreatJ30
import Derived.Maps.OwnIn
import Derived.Test.YtojjoblnpldniaaGreatL4All
open Go.Proofs.Tryz
set_option maxHeartbeats 80000000
namespace Go.Proofs.YtojjoblnpldniaaGreat
set_option linter.unusedVariables false
set_option maxRecDepth 100000
open ChangeShapes WideShapes ChangeAt RowKit Maps
open Pl
theorem KT{e:Ex}(h:av e=true):(e.kind=2->e.name.size<=maxLen)/\(e.kind=3->e.over.size<=maxLen/\e.name.size<=maxLen)/\(e.kind=1\/e.kind=2\/e.kind=3\/e.kind=4\/e.kind=5\/e.kind=6):=by
 unfold av at h;have hle:∀s:ByteArray,aP s=true->s.size<=maxLen:=fun s hs=>by have:=(lX hs).2;unfold maxLen;omega
 by_cases k1:e.kind=1
 ·exact⟨fun h2=>by omega,fun h3=>by omega,.inl k1⟩
 by_cases k2:e.kind=2
 ·rw[if_neg k1,if_pos k2]at h;simp only[Vt]at h;exact⟨fun _=>hle _ h.1.1.1,fun h3=>by omega,.inr (.inl k2)⟩
 by_cases k3:e.kind=3
 ·rw[if_neg k1,if_neg k2,if_pos k3]at h;simp only[Vt]at h;exact⟨fun h2=>by omega,fun _=>⟨hle _ h.1.1.1,hle _ h.1.1.2⟩,.inr (.inr (.inl k3))⟩
 refine⟨fun h2=>absurd h2 k2,fun h3=>absurd h3 k3,?_⟩;by_cases k4:e.kind=4\/e.kind=5
 ·rcases k4 with k4|k4
  ·exact .inr (.inr (.inr (.inl k4)))
  exact .inr (.inr (.inr (.inr (.inl k4))))
 by_cases k6:e.kind=6
 ·exact .inr (.inr (.inr (.inr (.inr k6))))
 rw[if_neg k1,if_neg k2,if_neg k3,if_neg k4,if_neg k6]at h;cases h
section
variable  {rs:Q06}{D br bp bt bK nK:Nat}{n1:Int}{nr:Nat}{Mr:KL->Option Value}{Er:List (KL×RR)}{ts:Q05}{xo xu:Q0a}{np:Nat}{Mp:K3->Option Value}{vo vu:Value}{out:Q04}{f:Fc}{WM:Q02}{capE:Nat}{rows:Q08}
theorem tJ(hN:YW rows)(hnb:∀e∈aj rows,av e=true)(hf:f.fits)(hts:∀t∈ts,t.fits)(htl:ts.length<=1000):
  ∀(k n:Nat) (w:World),n<k->n<rows.length->DatA w rs D br bp bt n1 nr Mr Er (dN ts) xo xu np Mp vo vu->aJ oG prog 52 w bK nK (Cx out)->jw w WM rows ->
  Calls prog 232 #[.pointer (some ⟨D,0,none⟩),.slice WM rows.length capE,.int .i64 (n:Int),.agg #[.string f.a,.string f.b,.string f.r,.string f.c,.string f.d],.map (some bK)] w fun e w'=>e=.returned (.bool (dK ts (aj rows) out f k out n))/\ag w w'
 | 0,_,_,h,_,_,_,_=>absurd h (Wx _)
 | k+1,n,w,hk,hn,hD,hK,hex=>by
  have e:(aj rows)[n]?=some rows[n].e:=by simp[aj,hn]
  have Xv:∀i∈rows[n].e.kids,KC D (.slice WM rows.length capE) f bK w i (dK ts (aj rows) out f k out i.toNat):=fun i hi w1 hb1=>by
   have h1:=hN.kid hn hi;have h2:=tJ hN hnb hf hts htl k i.toNat w1 (by omega) (by omega) (hD.below hb1) (hK.below hb1) (hex.below hb1);have e2:((i.toNat:Nat):Int)=i:=by omega
   rw[e2]at h2;exact h2
  have hm:rows[n]∈rows:=Vp hn;have hme:rows[n].e∈aj rows:=VG.2 ⟨_,hm,rfl⟩;obtain⟨hn2,hn3,hkd⟩:=KT (hnb _ hme);unfold dK;rw[e];by_cases k1:rows[n].e.kind=1
  ·simp only[if_pos k1];exact NV hn hD hK hf hts htl hex hN.len k1
  by_cases k2:rows[n].e.kind=2
  ·simp only[if_neg k1,if_pos k2];exact QZ hn hK hf (hn2 k2) hex hN.len k2
  by_cases k3:rows[n].e.kind=3
  ·simp only[if_neg k1,if_neg k2,if_pos k3];exact NW hn hD hK hf (hn3 k3) hts htl hex hN.len k3
  by_cases k4:rows[n].e.kind=4
  ·simp only[if_neg k1,if_neg k2,if_neg k3,if_pos k4];exact KE hn (fun i=>dK ts (aj rows) out f k out i.toNat) (hN.kids _ hm) Xv hex hN.len k4
  by_cases k5:rows[n].e.kind=5
  ·simp only[if_neg k1,if_neg k2,if_neg k3,if_neg k4,if_pos k5];exact NY hn (fun i=>dK ts (aj rows) out f k out i.toNat) (hN.kids _ hm) Xv hex hN.len k5
  have k6:rows[n].e.kind=6:=by omega
  simp only[if_neg k1,if_neg k2,if_neg k3,if_neg k4,if_neg k5,if_pos k6];have h2:=hN.two _ hme k6;have hg:∀q,q<2->rows[n].e.kids.getD q 0∈rows[n].e.kids:=fun q hq=>by
   rw[V6,Vy (by omega)];exact Vp _
  exact Re hn _ _ (hN.kids _ hm) h2 (Xv _ (hg 0 (by omega))) (Xv _ (hg 1 (by omega))) hex hN.len k6
theorem SQ{rs:Q06}(h:aY (af rs)=true){k:Q01}(hk:k∈ak (af rs)):∃t∈rs,∃q∈t.rows,qd rs k=some q.sl/\aj q.rows=az (af rs) k.1 k.2/\aK (aj q.rows)=true:=by
 have hk':=hk;unfold ak at hk;obtain⟨T,hT,hk⟩:=VJ.1 hk;obtain⟨t,ht,rfl⟩:=VG.1 hT;unfold jI at hk;obtain⟨r,hr,rfl⟩:=VG.1 hk;obtain⟨q,hq,rfl⟩:=VG.1 hr;have hrel:=pJ h ht hq;cases e:qd rs (t.p.name,q.p.name) with
 | none =>
  have h1:=(wX h).no _ e;have h2:fF (af rs) t.name q.name=none:=h1;rw[hrel]at h2;cases h2
 | some v =>
  obtain⟨t',ht',q',hq',-,rfl,e1,-⟩:=(wX h).yes _ v e;refine⟨t',ht',q',hq',rfl,?_,((bq h).2.2 t' ht' q' hq').1⟩;unfold az;rw[e1];rfl
theorem Om{w:ae}{ad:Q02}(hD:DatA w rs D br bp bt n1 nr Mr Er (dN ts) xo xu np Mp vo vu)(hK:aJ oG prog 52 w bK nK (Cx out))(hf:f.fits)(hts:∀t∈ts,t.fits)(htl:ts.length<=1000)(hsh:aY (af rs)=true)(hkey:(f.a,f.r)∈ak (af rs))(hs:mP w ad rs):
  Calls prog 203 #[.pointer (some ⟨D,0,none⟩),.agg #[.string f.a,.string f.b,.string f.r,.string f.c,.string f.d],.map (some bK)] w fun e w'=>e=.returned (.bool (fu (af rs) ts out f))/\ag w w':=by
 obtain⟨t,htm,q,hq,htab,hrx,hsp⟩:=SQ hsh hkey;obtain⟨hN,hr1⟩:=LH hsp;have hnb:=jr hsp;have YQ:pV rs q.ad q.rows:=.inr ⟨t,htm,q,hq,rfl,rfl⟩;obtain⟨kl,hkl⟩:=kv (f.a,f.r) hf.1 hf.2.2.1;obtain⟨W0,hW0⟩:∃W0,W0=w.alloc (.cells #[.string f.a,.string f.b,.string f.r,.string f.c,.string f.d] 52):=⟨_,rfl⟩;have HB0:=sH hW0;have c0:W0.cell? ⟨w.heap.size,0,none⟩=some (.string f.a):=by rw[hW0];simp
 have c1:W0.cell? ⟨w.heap.size,1,none⟩=some (.string f.b):=by rw[hW0];simp
 have c2:W0.cell? ⟨w.heap.size,2,none⟩=some (.string f.r):=by rw[hW0];simp
 have c3:W0.cell? ⟨w.heap.size,3,none⟩=some (.string f.c):=by rw[hW0];simp
 have c4:W0.cell? ⟨w.heap.size,4,none⟩=some (.string f.d):=by rw[hW0];simp
 have d0:=HB0.out.cell (p:=⟨D,0,none⟩) hD.dat.lt |>.trans hD.dat.c0;obtain⟨WM,Z7⟩:∃a,a=q.ad:=⟨_,rfl⟩;obtain⟨capE,hcapE⟩:∃a,a=q.cap:=⟨_,rfl⟩;obtain⟨rows,hrows⟩:∃a,a=q.rows:=⟨_,rfl⟩;have hsl:q.sl=.slice WM rows.length capE:=by rw[Z7,hcapE,hrows];rfl
 rw[<-hrows]at hN hnb hr1 hrx;rw[<-hrows,<-Z7]at YQ;have hlk:∀m,(Instr.lookup 102 (.map (some bt)) (.agg #[.string f.a,.string f.r]) false).run prog (W0.drewN m)=.ok (.slice WM rows.length capE) (W0.drewN m):=fun m=>by
  have h:=((hD.tab.below HB0.out).below (below_drewN (Vs _ _) m)).look (t:=102) (e:=37) iY underlying102 (rT _) (x:=(f.a,f.r)) hkl;rw[htab,hsl]at h;exact h
 have hr1000:=hN.len;have hwr:IntKind.i64.wrap ((rows.length:Int)-1)=((rows.length-1:Nat):Int):=by rw[IntKind.wrap_i64];omega
 have HC:Hid (∀nq,Calls prog 232 #[.pointer (some ⟨D,0,none⟩),.slice WM rows.length capE,.int .i64 ((rows.length-1:Nat):Int),.agg #[.string f.a,.string f.b,.string f.r,.string f.c,.string f.d],.map (some bK)] (W0.drewN nq) fun e w'=>e=.returned (.bool (fu (af rs) ts out f))/\Below (W0.drewN nq).heap.size (W0.drewN nq) w'):=fun nq=>by
  have hb:ag w (W0.drewN nq):=below_drewN HB0.out nq;have h:=tJ (capE:=capE) hN hnb hf hts htl rows.length (rows.length-1) (W0.drewN nq) (by omega) (by omega) (hD.below hb) (hK.below hb) (YQ.sl (hs.below hb));unfold fu;rw[<-hrx,aX];exact h
 clear hD hK hs hsp hkl htab hsl hN hnb hf Z7 hcapE hrows YQ hrx hkey;go_enter func203,ntmps203;go_wp2_with fail;rw[<-hW0];clear hW0;go_quiet (fail);clear d0 hlk;go_wp2_with fail;refine(HC.out _).mono ?_;rintro e w1 ⟨rfl,hb1⟩;have HB1:=aF ((below_drewN HB0.out _).trans (hb1.mono HB0.out.size));clear hb1 c0 c1 c2 c3 c4;go_wp2;go_ret;exact⟨rfl,HB1.out⟩
end
end Go.Proofs.YtojjoblnpldniaaGreat
namespace Go.Proofs.YtojjoblnpldniaaGreat
set_option linter.unusedVariables false
set_option maxRecDepth 100000
open ChangeShapes WideShapes ChangeAt RowKit Maps Go.Shelf
open Pl
attribute [local go_sem] Oper.semAt_some
theorem KU{n m:Nat}{P:Program}{l:Nat}{f:FuncId}{tmps:Array Value}{assign body:Code}{w:ae}{R:Ending->World->Prop}(h:RoundIn Fence.wide n P l f tmps assign body w R):RoundIn Fence.wide m P l f tmps assign body w R :=
 ⟨h.1,fun c cs _=>h.2 c cs (room_wide _)⟩
theorem BZ(D:Nat)(sn:Int)(XF:Q02)(nU WU:Nat)(w:ae):
  Calls prog 202 #[.pointer (some ⟨D,0,none⟩),.int .i64 sn,.slice XF nU WU] w fun e w'=>e=.returned (.func (.func 269) #[] #[.pointer (some ⟨w.heap.size,0,none⟩),.pointer (some ⟨w.heap.size+1,0,none⟩),.pointer (some ⟨w.heap.size+1+1,0,none⟩)])/\w'=((w.alloc (.cells #[.pointer (some ⟨D,0,none⟩)] 92)).alloc (.cells #[.int .i64 sn] 2)).alloc (.cells #[.slice XF nU WU] 192):=by
 go_enter func202,ntmps202;go_wp2;go_ret;exact⟨rfl,rfl⟩
theorem FP(D:Nat)(sn:Int)(XF:Q02)(nU WU:Nat)(bK:Nat)(w:ae):
  Calls prog 135 #[.pointer (some ⟨D,0,none⟩),.int .i64 sn,.slice XF nU WU,.map (some bK)] w fun e w'=>e=.returned (.func (.func 201) #[] #[.pointer (some ⟨w.heap.size,0,none⟩),.pointer (some ⟨w.heap.size+1,0,none⟩),.pointer (some ⟨w.heap.size+1+1,0,none⟩),.pointer (some ⟨w.heap.size+1+1+1,0,none⟩)])/\w'=(((w.alloc (.cells #[.pointer (some ⟨D,0,none⟩)] 92)).alloc (.cells #[.int .i64 sn] 2)).alloc (.cells #[.slice XF nU WU] 192)).alloc (.cells #[.map (some bK)] 115):=by
 go_enter func135,ntmps135;go_wp2;go_ret;exact⟨rfl,rfl⟩
structure NewM(W:World)(rs:Q06)(XG:Q02)(D br bp bt:Nat)(n1:Int)(nr:Nat)(Mr:KL->Option Value)(Er:List (KL×RR))(ts:Q05)(xo xu:Q0a)(np:Nat)(Mp:K3->Option Value)(vo vu:Value)(bK:Nat)(out:Q04)(hD hS hU hK:Nat)(sn:Int)(XF:Q02)(WU:Nat)(us:Q0a):Prop where
 dat:DatA W rs D br bp bt n1 nr Mr Er (dN ts) xo xu np Mp vo vu
 sch:mP W XG rs
 map:∃nK,aJ oG prog 52 W bK nK (Cx out)
 bD:W.cell? ⟨hD,0,none⟩=some (.pointer (some ⟨D,0,none⟩))
 bS:W.cell? ⟨hS,0,none⟩=some (.int .i64 sn)
 bU:W.cell? ⟨hU,0,none⟩=some (.slice XF us.length WU)
 bM:W.cell? ⟨hK,0,none⟩=some (.map (some bK))
 users:lu W XF us
def UB(l:Nat):Value:=.func (.yield l) #[] #[]
def gQ(W:World)(g:Nat)(v:Value)(T:TypeId):Prop:=W.heap[g]?=some (.cells #[v] T (0,0))
theorem gQ.c{W:ae}{g:Nat}{v:Value}{T:TypeId}(h:gQ W g v T):W.cell? ⟨g,0,none⟩=some v:=by
 unfold gQ at h;simp[World.cell?,h]
theorem gQ.kp{b l:Nat}{W W':ae}{g:Nat}{v:Value}{T:TypeId}(h:gQ W g v T)(hk:KpO b l W W')(h1:T≠52)(h2:T≠44):gQ W' g v T:=hk.cells g _ _ _ h h1 h2
theorem gQ.bel{W W':ae}{g:Nat}{v:Value}{T:TypeId}(h:gQ W g v T)(hb:ag W W'):gQ W' g v T:=(hb.block g (Vw.1 h).1).trans h
structure NBx(W:World)(B l D:Nat)(sn:Int)(vU:Value):Prop where
 y:gQ W B (UB l) 119
 d:gQ W (B+1) (.pointer (some ⟨D,0,none⟩)) 92
 s:gQ W (B+1+1) (.int .i64 sn) 2
 u:gQ W (B+1+1+1) vU 192
theorem NBx.kp{b l0:Nat}{W W':ae}{B l D:Nat}{sn:Int}{vU:Value}(h:NBx W B l D sn vU)(hk:KpO b l0 W W'):NBx W' B l D sn vU :=
 ⟨h.y.kp hk (by decide) (by decide),h.d.kp hk (by decide) (by decide),h.s.kp hk (by decide) (by decide),h.u.kp hk (by decide) (by decide)⟩
theorem NBx.bel{W W':ae}{B l D:Nat}{sn:Int}{vU:Value}(h:NBx W B l D sn vU)(hb:ag W W'):NBx W' B l D sn vU:=⟨h.y.bel hb,h.d.bel hb,h.s.bel hb,h.u.bel hb⟩
theorem SS{β:Type}{B0 B l D:Nat}{sn:Int}{vU:Value}(hB:B+1+1+1<B0):OwnFrom B0 (fun(_:β) W=>NBx W B l D sn vU):=fun s X Y row hs hg hr=>by
 have key:∀g v T,g<B0->gQ X g v T->gQ Y g v T:=fun g v T hl h=>(hg.block g (Vw.1 h).1 fun e=>by have:=(hr g e.symm).1;omega).trans h;exact⟨key _ _ _ (by omega) hs.y,key _ _ _ (by omega) hs.d,key _ _ _ (by omega) hs.s,key _ _ _ (by omega) hs.u⟩
def CF(W:World)(g:Nat)(x:Fc):Prop:=W.heap[g]?=some (.cells #[.string x.a,.string x.b,.string x.r,.string x.c,.string x.d] 52 (0,0))
theorem CF.c{W:ae}{g:Nat}{x:Fc}(h:CF W g x):W.cell? ⟨g,0,none⟩=some (.string x.a)/\W.cell? ⟨g,1,none⟩=some (.string x.b)/\W.cell? ⟨g,2,none⟩=some (.string x.r)/\W.cell? ⟨g,3,none⟩=some (.string x.c)/\W.cell? ⟨g,4,none⟩=some (.string x.d)/\g<W.heap.size:=by
 have hl:=(Vw.1 h).1;unfold CF at h;exact⟨by simp[World.cell?,h],by simp[World.cell?,h],by simp[World.cell?,h],by simp[World.cell?,h],by simp[World.cell?,h],hl⟩
theorem CF.bel{W W':ae}{g:Nat}{x:Fc}(h:CF W g x)(hb:ag W W'):CF W' g x:=(hb.block g (Vw.1 h).1).trans h
theorem IJ{B0 g:Nat}{x:Fc}:OwnFrom B0 (fun(_:Unit) W=>CF W g x):=fun s X Y row hs hg hr=>by
 refine(hg.block g (Vw.1 hs).1 fun e=>?_).trans hs;obtain⟨-,o,ho,hc⟩:=hr g e.symm;rw[show X.heap[g]?=_ from hs]at ho;cases ho;cases hc
theorem Rh{l' m:Nat}{P:Program}{f:FuncId}{args:Array Value}{w:ae}{R:Ending->World->Prop}(h:Calls P f args w R):CallsIn (Fence.wide.inRound l') m P f args w R:=(callsIn_wide (n:=m)).2 h
theorem UC{l' n m:Nat}{P:Program}{l:Nat}{f:FuncId}{tmps:Array Value}{assign body:Code}{w:ae}{R:Ending->World->Prop}(h:RoundIn Fence.wide n P l f tmps assign body w R):RoundIn (Fence.wide.inRound l') m P l f tmps assign body w R:=KU (m:=m) h
theorem yx{B:Nat}{W W':ae}(h:ag W W'):KeepsFrom B W W':=⟨h.size,fun k o _ hk _=>(h.block k (Vw.1 hk).1).trans hk⟩
theorem Ri{B b l:Nat}{W W':ae}(h:KpO b l W W')(hl:l<B)(hb:b<B):KeepsFrom B W W':=⟨h.size,fun k o hB hk hc=>h.other k o hk hc (by omega) (by omega)⟩
theorem IK{rs:Q06}{st:Q00}{xo us:Q0a}{sn:Int}{x:Fc}(hof:∀o∈xo,o.t.size<=maxLen/\o.s.size<=maxLen)(huf:∀o∈us,o.t.size<=maxLen/\o.s.size<=maxLen)(hrf:∀k∈ak (af rs),k.2.size<=maxLen)(h:x∈bF (af rs) st xo us sn):(x.a,x.r)∈ak (af rs)/\x.fits:=by
 unfold bF vC at h;obtain⟨o,ho,h⟩:=VJ.1 h;obtain⟨k,hk,h⟩:=VJ.1 h;obtain⟨u,hu,rfl⟩:=VG.1 h;obtain⟨h1,h2⟩:=Wz.1 hk;rw[Vt,fC]at h2;have e:(o.t,k.2)=k:=Prod.ext h2.1.symm rfl;refine⟨?_,(hof o ho).1,(hof o ho).2,hrf k h1,(huf u hu).1,(huf u hu).2⟩;show(o.t,k.2)∈_;rw[e];exact h1
theorem Oo[DecidableEq Fc](n:Nat)(hn:4<=n)(rs:Q06)(XG:Q02)(D br bp bt:Nat)(n1:Int)(nr:Nat)(Mr:KL->Option Value)(st:Q00)(ts:Q05)(Yp:Q02)(Ye:Nat)(xo xu:Q0a)(np:Nat)(Mp:K3->Option Value)(vu:Value)(bK:Nat)(X8:Q04)(hD hS hU hK:Nat)(sn:Int)(XF:Q02)(WU:Nat)(us:Q0a)(w0:ae)(hs0:0<=sn)(hs1:sn<=1000)(hol:xo.length<=1000)(ZU:us.length<=1000)(hrl:∀k,(G.lookL (fe st rs) k).length<=1000)(hsh:aY (af rs)=true)(hts:∀t∈ts,t.fits)(htl:ts.length<=1000)(hof:∀o∈xo,o.t.size<=maxLen/\o.s.size<=maxLen)(huf:∀o∈us,o.t.size<=maxLen/\o.s.size<=maxLen)(hrf:∀k∈ak (af rs),k.2.size<=maxLen):
  EE Fence.wide n prog 201 #[.pointer (some ⟨hD,0,none⟩),.pointer (some ⟨hS,0,none⟩),.pointer (some ⟨hU,0,none⟩),.pointer (some ⟨hK,0,none⟩)] Ed (KpO bK) (fun pre W=>NewM W rs XG D br bp bt n1 nr Mr (fe st rs) ts xo xu np Mp (.slice Yp xo.length Ye) vu bK (X8++pre) hD hS hU hK sn XF WU us) (fun pre x=>x∈bF (af rs) st xo us sn/\x ∉ X8++pre) (fun xs=>bB (fu (af rs) ts) (bF (af rs) st xo us sn) X8=X8++xs) w0:=by
 intro l J W _ hlW _ hJ hT hY h0;have hM:=hT _ _ h0;obtain⟨nK0,hmap0⟩:=hM.map;have hbK:=hmap0.lt;have bD:=hM.bD;have bS:=hM.bS;have bU:=hM.bU;have lD:=aI bD;have lS:=aI bS;have lU:=aI bU;obtain⟨W1,hW1⟩:∃W1,W1=W.alloc (.cells #[.func (.yield l) #[] #[]] 119):=⟨_,rfl⟩;have hB1:ag W W1:=by rw[hW1];exact(Vs _ _).alloc (Vr _) _
 have s1:W1.heap.size=W.heap.size+1:=by rw[hW1,World.size_alloc]
 have y1:gQ W1 W.heap.size (UB l) 119:=by rw[hW1];exact World.alloc_heap_new W _
 have bD1:=bW hB1 lD bD;have bS1:=bW hB1 lS bS;have bU1:=bW hB1 lU bU;clear hM hmap0;refine callsIn_of_wp_marks func201 rfl trivial ?_ rfl;simp only[ntmps201,List.size_toArray,VS,Wv,Nat.reduceAdd,Nat.reduceSub,Array.replicate_succ,Array.replicate_zero,List.push_toArray,List.append_toArray,Ww,V9]
 gi_wp2_with fail
 rw[<-hW1];clear hW1;refine⟨trivial,fun _=>by omega,(callsIn_wide.2 (BZ D sn XF us.length WU W1)).mono ?_⟩;rintro e W2 ⟨rfl,hW2⟩;have hB2:ag W1 W2:=by rw[hW2];exact(((Vs _ _).alloc (Vr _) _).alloc (by simp) _).alloc (by simp;omega) _
 have s2:W2.heap.size=W.heap.size+1+1+1+1:=by rw[hW2,World.size_alloc,World.size_alloc,World.size_alloc,s1]
 have NB:NBx W2 W.heap.size l D sn (.slice XF us.length WU):=by
  obtain⟨V1,e1⟩:∃V,V=W1.alloc (.cells #[.pointer (some ⟨D,0,none⟩)] 92):=⟨_,rfl⟩;obtain⟨V2,e2⟩:∃V,V=V1.alloc (.cells #[.int .i64 sn] 2):=⟨_,rfl⟩;rw[<-e1,<-e2]at hW2;have t1:V1.heap.size=W.heap.size+1+1:=by rw[e1,World.size_alloc,s1]
  have t2:V2.heap.size=W.heap.size+1+1+1:=by rw[e2,World.size_alloc,t1]
  have f1:ag W1 V1:=by rw[e1];exact(Vs _ _).alloc (Vr _) _
  have f2:ag V1 V2:=by rw[e2];exact(Vs _ _).alloc (Vr _) _
  have f3:ag V2 W2:=by rw[hW2];exact(Vs _ _).alloc (Vr _) _
  have g1:gQ V1 (W.heap.size+1) (.pointer (some ⟨D,0,none⟩)) 92:=by rw[e1,<-s1];exact World.alloc_heap_new W1 _
  have g2:gQ V2 (W.heap.size+1+1) (.int .i64 sn) 2:=by rw[e2,<-t1];exact World.alloc_heap_new V1 _
  have g3:gQ W2 (W.heap.size+1+1+1) (.slice XF us.length WU) 192:=by rw[hW2,<-t2];exact World.alloc_heap_new V2 _
  exact⟨((y1.bel f1).bel f2).bel f3,(g1.bel f2).bel f3,g2.bel f3,g3⟩
 have hB02:ag W W2:=hB1.trans (hB2.mono hB1.size);have J2:=ni hJ h0 hB02;rw[s1];clear hW2 y1 bD bS bU bD1 bS1 bU1 hB1 hB2 lD lS lU;gi_wp2
 refine qE (α:=Fc) rfl (by omega) (gf:=269) (lb:=#[.pointer (some ⟨W.heap.size+1,0,none⟩),.pointer (some ⟨W.heap.size+1+1,0,none⟩),.pointer (some ⟨W.heap.size+1+1+1,0,none⟩)]) rfl trivial (enters_of func269 (by kernel_rfl) rfl)
  (QY (n-1) (by omega) D br nr Mr st rs Yp Ye xo (W.heap.size+1) (W.heap.size+1+1) (W.heap.size+1+1+1) sn XF WU us W2 hs0 hs1 hol ZU hrl (fun o ho=>(hof o ho).1)) (Vs _ _) (fun _=>rfl) (fun h k=>h.trans k) (fun X lx o o' h1 h2=>KpI.put h1 h2)
  (fun pre X=>(∃xs,bB (fu (af rs) ts) pre X8=X8++xs/\J xs X)/\NBx X W.heap.size l D sn (.slice XF us.length WU))
  ?own ?tell ⟨⟨[],by rw[Wp];rfl,J2⟩,NB⟩
  (fun x a' X=>∃Bx,CF X Bx x/\a'={ tmps:=#[.func (.yield l) #[] #[],.pointer (some ⟨hD,0,none⟩),.pointer (some ⟨hS,0,none⟩),.pointer (some ⟨hU,0,none⟩),.pointer (some ⟨hK,0,none⟩),.pointer (some ⟨W.heap.size,0,none⟩),.pointer (some ⟨Bx,0,none⟩),.pointer (some ⟨D,0,none⟩),.int .i64 sn,.slice XF us.length WU,.func (.func 269) #[] #[.pointer (some ⟨W.heap.size+1,0,none⟩),.pointer (some ⟨W.heap.size+1+1,0,none⟩),.pointer (some ⟨W.heap.size+1+1+1,0,none⟩)],.agg #[.string x.a,.string x.b,.string x.r,.string x.c,.string x.d],undef,undef,undef,undef,undef,undef,undef,undef,undef,undef,undef,undef,undef,undef,undef,undef],defers:=[] })
  (fun x a' s X Y row hs hg hr=>by obtain⟨Bx,h,e⟩:=hs;exact⟨Bx,IJ (B0:=W2.heap.size) (g:=Bx) (x:=x) () X Y row h hg hr,e⟩) ?assign ?body ?done
 case own =>
  refine OwnFrom.and (fun pre X Y row hs hg hr=>?_) (SS (by omega));obtain⟨xs,h1,h2⟩:=hs;exact⟨xs,h1,hJ xs X Y row h2 hg fun r e=>⟨by have:=(hr r e).1;have:=hB02.size;omega,(hr r e).2⟩⟩
 case tell =>
  rintro pre X ⟨⟨xs,h1,h2⟩,hb⟩;have hm:=hT _ _ h2;obtain⟨WS,cap',e,hso⟩:=mh hm.dat.dat.objs;injection e with ea eb ec;exact⟨hm.dat.dat.c2,hm.dat.dat.c4,by rw[ea];exact hso,hm.dat.rel,hb.d.c,hb.s.c,hb.u.c,hm.users⟩
 case assign =>
  rintro l' pre x X K ⟨⟨xs,h1,h2⟩,hb⟩ hKK;unfold Ed;gi_wp2;have hbl:ag X (X.alloc (.cells #[.string x.a,.string x.b,.string x.r,.string x.c,.string x.d] 52)):=(Vs _ _).alloc (Vr _) _;exact hKK _ _ ((KeepsOthers.alloc _ _).from _) (KpI.below hbl) ⟨⟨xs,h1,ni hJ h2 hbl⟩,hb.bel hbl⟩ ⟨X.heap.size,World.alloc_heap_new X _,rfl⟩
 case body =>
  rintro l' pre x a' X hl hEx ⟨⟨xs,hrun,hJx⟩,NBX⟩ ⟨Bx,bX,rfl⟩;have hm:=hT _ _ hJx;obtain⟨nK,hmap⟩:=hm.map;obtain⟨c0,c1,c2,c3,c4,cl⟩:=bX.c;have bM:=hm.bM;have lM:=aI bM;obtain⟨hkey,hxf⟩:=IK hof huf hrf hEx
  gi_wp2_with fail
  refine⟨trivial,fun _=>by omega,(Rh (wF bK nK (X8++xs) x X hxf hmap)).mono ?_⟩;rintro e X2 ⟨rfl,hb2⟩;have J2':=ni hJ hJx hb2;have NB2:=NBX.bel hb2;cases hh:df (X8++xs) x;case true=>
   have hr2:bB (fu (af rs) ts) (pre++[x]) X8=X8++xs:=by rw[sF,hrun,wE (.inl hh)]
   clear c0 c1 c2 c3 c4 cl bM lM hm;gi_wp2;refine⟨trivial,?_⟩;gi_wp2;refine⟨fun f h=>(by cases h),?_⟩;gi_wp2;exact⟨yx hb2,KpI.below hb2,⟨xs,hr2,J2'⟩,NB2⟩
  have bX2:=bX.bel hb2;have hm2:=hT _ _ J2';obtain⟨nK2,hmap2⟩:=hm2.map;have bM2:=hm2.bM;have bD2:=hm2.bD;obtain⟨d0,d1,d2,d3,d4,dl⟩:=bX2.c;clear c0 c1 c2 c3 c4 cl bM lM hm
  gi_wp2_with fail
  refine⟨trivial,fun _=>by omega,(Rh (Om hm2.dat hmap2 hxf hts htl hsh hkey hm2.sch)).mono ?_⟩;rintro e X3 ⟨rfl,hb3⟩;have ZM:ag X X3:=hb2.trans (hb3.mono hb2.size);have J3':=ni hJ J2' hb3;have NB3:=NB2.bel hb3;clear hm2;cases hv:fu (af rs) ts (X8++xs) x;case false=>
   have hr2:bB (fu (af rs) ts) (pre++[x]) X8=X8++xs:=by rw[sF,hrun,wE (.inr hv)]
   clear d0 d1 d2 d3 d4 dl bM2 bD2;gi_wp2;refine⟨fun f h=>(by cases h),?_⟩;gi_wp2;exact⟨yx ZM,KpI.below ZM,⟨xs,hr2,J3'⟩,NB3⟩
  have hr2:bB (fu (af rs) ts) (pre++[x]) X8=X8++(xs++[x]):=by rw[sF,hrun,Eb hh hv,VU]
  obtain⟨fn,tmps,assign,body,hy,hR⟩:=hY xs x X3 J3' ⟨hEx,fun hm=>by rw[bY.2 hm]at hh;cases hh⟩;unfold Ed at hy;obtain⟨f0,f1,f2,f3,f4,fl⟩:=(bX2.bel hb3).c;have yc:=NB3.y.c;have yl:=aI yc;unfold UB at yc;clear d0 d1 d2 d3 d4 dl bM2 bD2;gi_wp2;refine⟨fun _=>by omega,(UC hR).mono ?_⟩;rintro e X4 ⟨rfl,hJ4,hK4⟩;have hk24:KpO bK l X X4:=(KpO.below ZM).trans hK4;have NB4:=NB3.kp hK4;clear f0 f1 f2 f3 f4 fl yc yl hy;gi_wp2;exact⟨Ri hk24 (by omega) (by omega),hk24.toI,⟨xs++[x],hr2,hJ4⟩,NB4⟩
 case done =>
  rintro Dd ys X hDd hS ⟨⟨xs,h1,h2⟩,-⟩ hKd;rw[hS]at h1;gi_wp2;refine⟨by simp,.inl ⟨_,_,rfl,run_takeDeferred hKd,?_⟩⟩;exact⟨_,results_none rfl _ _ _,⟨_,rfl⟩,xs,h1,hJ.putObj _ h2 (by have:=hB02.size;omega) hKd rfl⟩
end Go.Proofs.YtojjoblnpldniaaGreat
namespace Go.Proofs.YtojjoblnpldniaaGreat
set_option linter.unusedVariables false
set_option maxRecDepth 100000
open ChangeShapes WideShapes ChangeAt RowKit Maps Go.Shelf
open Pl
theorem yM{K:Type}{enc:K->Value}{P:Program}{F:Fence}{nF:Nat}(w:ae){ops:Array Oper}{rest:List Oper}{o:Oper}{a:Act}{Q:Exit->Act->World->Prop}[DecidableEq K](hg:o.guard=none)(m x v:Operand)(t:TypeId)(hop:o.op=Op.mapUpdate t m x v)(k e:TypeId)(L:Keyed P k)(hinj:∀x y,enc x=enc y->x=y)(ht:P.underlying t=some (.map k e))(b n:Nat)(M:K->Option Value)
  (hm:a.eval m=.map (some b)) (hV:aJ enc P k w b n M) (hn:n<maxLen) (y:K) (kl:Lit) (hx:a.eval x=enc y) (hkey:keyOf P k (enc y)=some kl) (u:Value) (hv:a.eval v=u)
  (hK:∀w',aJ enc P k w' b (n+1) (jO M y (some u))->w.grownBy w' (some b)->wpListIn F nF P ops Q rest (a.put o.dst undef) w'):wpListIn F nF P ops Q (o::rest) a w:=by
 refine wpListIn_plain hg fun K' hK'=>?_;obtain⟨w',hrun,r1,r2⟩:=hV.store L hinj ht hn hkey u;unfold Oper.wpIn;refine⟨by simp[Oper.about,hop],?_⟩;rw[Oper.semAt_plain F _ _ (by rw[hop];intro c hc';cases hc')];simp[execOp,hop,hm,hx,hv,hrun,Result.andThen];exact hK' _ _ (hK w' r1 r2)
theorem SV[DecidableEq Fc](out:Q04)(f:Fc):jO (Cx out) f (some (.agg #[]))=Cx (out++[f]):=by
 funext y
 by_cases e:y=f
 ·subst e;rw[dM];unfold Cx;rw[if_pos (bY.2 (by simp))]
 rw[bG e];unfold Cx;have:df (out++[f]) y=df out y:=by
  rw[VL,bY,bY];simp[e]
 rw[this]
def marks(rl:List Nat):List Deferred:=rl.map fun r=>{ target:=.collected r,args:=#[] }
def iX(W:World)(rl:List Nat):Prop:=rl.Nodup/\∀r∈rl,W.heap[r]?=some (.deferred (some []))
theorem iX.kp{b l:Nat}{W W':ae}{rl:List Nat}(h:iX W rl)(hk:KpO b l W W')(hl:l ∉ rl)(hb:b ∉ rl):iX W' rl :=
 ⟨h.1,fun r hr=>hk.other r _ (h.2 r hr) rfl (fun e=>hl (e ▸ hr)) (fun e=>hb (e ▸ hr))⟩
theorem iX.bel{W W':ae}{rl:List Nat}(h:iX W rl)(hb:ag W W'):iX W' rl :=
 ⟨h.1,fun r hr=>(hb.block r (Vw.1 (h.2 r hr)).1).trans (h.2 r hr)⟩
theorem iX.lt{W:ae}{rl:List Nat}(h:iX W rl){r:Nat}(hr:r∈rl):r<W.heap.size:=(Vw.1 (h.2 r hr)).1
theorem wK{n:Nat}{P:Program}{fn:Func}{tmps:Array Value}{R:Ending->World->Prop}(B:Nat)(Inv:World->Prop)(hinv:∀W r,B<r->Inv W->W.heap[r]?=some (.deferred (some []))->Inv (W.putObj r (.deferred none)))(hend:∀W,Inv W->LeavesIn Fence.wide n P fn tmps R [] .returning W):∀(rl:List Nat) (W:ae),iX W rl->(∀r∈rl,B<r)->Inv W->LeavesInM Fence.wide n P fn tmps R (marks rl) .returning W
 | [],W,_,_,hI=>hend W hI
 | r::rl,W,hm,hB,hI=>by
  have hr:=hm.2 r (by simp);obtain⟨h1,h2⟩:=List.nodup_cons.1 hm.1;refine⟨by simp,.inl ⟨r,_,rfl,run_takeDeferred hr,wK B Inv hinv hend rl _ ⟨h2,fun q hq=>?_⟩ (fun q hq=>hB q (by simp[hq])) (hinv W r (hB r (by simp)) hI hr)⟩⟩;have hne:q≠r:=fun e=>h1 (e ▸ hq);rw[oz hne];exact hm.2 q (by simp[hq])
theorem LY{b l:Nat}{W W':ae}{base size n:Nat}{T:TypeId}{v:Value}{xs:Q03}(h:W.ownsRow base T size v n xs)(hk:KpO b l W W')(h1:T≠52)(h2:T≠44):W'.ownsRow base T size v n xs :=
 eB h fun g hg=>by
  obtain⟨cur,e⟩:=jL h hg;rw[hk.cells g _ _ _ e h1 h2,e]
structure FBx(W:World)(B D:Nat)(sn:Int)(vU:Value)(bK:Nat):Prop where
 d:gQ W B (.pointer (some ⟨D,0,none⟩)) 92
 s:gQ W (B+1) (.int .i64 sn) 2
 u:gQ W (B+1+1) vU 192
 k:gQ W (B+1+1+1) (.map (some bK)) 115
theorem FBx.kp{b l0:Nat}{W W':ae}{B D:Nat}{sn:Int}{vU:Value}{bK:Nat}(h:FBx W B D sn vU bK)(hk:KpO b l0 W W'):FBx W' B D sn vU bK :=
 ⟨h.d.kp hk (by decide) (by decide),h.s.kp hk (by decide) (by decide),h.u.kp hk (by decide) (by decide),h.k.kp hk (by decide) (by decide)⟩
theorem SX(w:ae)(D:Nat)(sn:Int)(vU:Value)(bK:Nat){W:ae}(hW:W=(((w.alloc (.cells #[.pointer (some ⟨D,0,none⟩)] 92)).alloc (.cells #[.int .i64 sn] 2)).alloc (.cells #[vU] 192)).alloc (.cells #[.map (some bK)] 115)):FBx W w.heap.size D sn vU bK/\ag w W/\W.heap.size=w.heap.size+1+1+1+1:=by
 obtain⟨V1,e1⟩:∃V,V=w.alloc (.cells #[.pointer (some ⟨D,0,none⟩)] 92):=⟨_,rfl⟩;obtain⟨V2,e2⟩:∃V,V=V1.alloc (.cells #[.int .i64 sn] 2):=⟨_,rfl⟩;obtain⟨V3,e3⟩:∃V,V=V2.alloc (.cells #[vU] 192):=⟨_,rfl⟩;rw[<-e1,<-e2,<-e3]at hW;have t1:V1.heap.size=w.heap.size+1:=by rw[e1,World.size_alloc]
 have t2:V2.heap.size=w.heap.size+1+1:=by rw[e2,World.size_alloc,t1]
 have t3:V3.heap.size=w.heap.size+1+1+1:=by rw[e3,World.size_alloc,t2]
 have f1:ag w V1:=by rw[e1];exact(Vs _ _).alloc (Vr _) _
 have f2:ag V1 V2:=by rw[e2];exact(Vs _ _).alloc (Vr _) _
 have f3:ag V2 V3:=by rw[e3];exact(Vs _ _).alloc (Vr _) _
 have f4:ag V3 W:=by rw[hW];exact(Vs _ _).alloc (Vr _) _
 have g1:gQ V1 w.heap.size (.pointer (some ⟨D,0,none⟩)) 92:=by rw[e1];exact World.alloc_heap_new w _
 have g2:gQ V2 (w.heap.size+1) (.int .i64 sn) 2:=by rw[e2,<-t1];exact World.alloc_heap_new V1 _
 have g3:gQ V3 (w.heap.size+1+1) vU 192:=by rw[e3,<-t2];exact World.alloc_heap_new V2 _
 have g4:gQ W (w.heap.size+1+1+1) (.map (some bK)) 115:=by rw[hW,<-t3];exact World.alloc_heap_new V3 _
 have f12:=f1.trans (f2.mono f1.size);have f13:=f12.trans (f3.mono f12.size);exact⟨⟨((g1.bel f2).bel f3).bel f4,(g2.bel f3).bel f4,g3.bel f4,g4⟩,f13.trans (f4.mono f13.size),by rw[hW,World.size_alloc,t3]⟩
theorem SY{β:Type}{b l:Nat}{X:ae}:OwnFrom X.heap.size (fun(_:β) Y=>KpO b l X Y):=fun s Y Z row hs hg hr=>by
 have key:∀ (g:Nat) (o:Obj),X.heap[g]?=some o->Y.heap[g]?=some o->Z.heap[g]?=some o:=fun g o h1 h2=>(hg.block g (Vw.1 h2).1 fun e=>by
  have h3:=(hr g e.symm).1;have h4:=(Vw.1 h1).1;omega).trans h2
 exact⟨Vz hs.size hg.size,fun g cs T m h h1 h2=>key g _ h (hs.cells g cs T m h h1 h2),fun g o h hc n1 n2=>key g _ h (hs.other g o h hc n1 n2)⟩
structure FoW(w X:World)(v:Value)(out:Q04):Prop where
 bel:ag w X
 box:gQ X w.heap.size v 44
 row:X.ownsRow (w.heap.size+1) 52 5 v out.length (aH out)
 map:aJ oG prog 52 X (w.heap.size+1) out.length (Cx out)
theorem FoW.below{w X X':ae}{v:Value}{out:Q04}(h:FoW w X v out)(hb:ag X X'):FoW w X' v out :=
 ⟨h.bel.trans (hb.mono h.bel.size),h.box.bel hb,dw h.row hb,h.map.below hb⟩
theorem FoW.kept{w X X':ae}{v:Value}{out:Q04}(h:FoW w X v out){row:Option Nat}(hg:X.grownBy X' row)(hr:∀r,row=some r->w.heap.size+1<r/\(∃o,X.heap[r]?=some o/\o.isCells=false)):FoW w X' v out where
 bel:=h.bel.grown hg h.bel.size (fun g e=>by have:=(hr g e).1;omega)
 box:=(hg.block _ (Vw.1 h.box).1 fun e=>by have:=(hr _ e.symm).1;omega).trans h.box
 row:=eB h.row fun g hg2=>hg.block g (h.row.lt g hg2).2 fun e=>by
  obtain⟨-,o,ho,hc⟩:=hr g e.symm;obtain⟨cur,e2⟩:=jL h.row hg2;rw[e2]at ho;cases ho;cases hc
 map:=h.map.kept hg (fun e=>by have:=(hr _ e.symm).1;omega)
theorem FoW.step{w X Y V:ae}{v v':Value}{out:Q04}{f:Fc}[DecidableEq Fc](h:FoW w X v out)(hM:aJ oG prog 52 Y (w.heap.size+1) (out.length+1) (jO (Cx out) f (some (.agg #[]))))(hg1:X.grownBy Y (some (w.heap.size+1)))
  {Y':World} (hY':ag Y Y') (hown:V.ownsRow (w.heap.size+1) 52 5 v' (out.length+1) (aH out++f.row)) (hg2:Y'.grownBy V v.ownBlock) (hat:v'.ownBlock=v.ownBlock\/v'.ownBlock=some Y'.heap.size) (l:Nat) :
  FoW w (V.setCell ⟨w.heap.size,0,none⟩ v') v' (out++[f])/\KpO (w.heap.size+1) l X (V.setCell ⟨w.heap.size,0,none⟩ v')/\KeepsFrom (w.heap.size+1+1) X (V.setCell ⟨w.heap.size,0,none⟩ v'):=by
 obtain⟨es,c,hmb⟩:=pI h.map;have hlB:w.heap.size<X.heap.size:=(Vw.1 h.box).1;have hvB:v.ownBlock≠some w.heap.size:=fun e=>by have:=(h.row.lt _ e).1;omega
 have hvM:v.ownBlock≠some (w.heap.size+1):=fun e=>EX h.row e hmb;have key:∀(g:Nat) (o:Obj),X.heap[g]?=some o->g≠w.heap.size+1->g≠w.heap.size->v.ownBlock≠some g->(V.setCell ⟨w.heap.size,0,none⟩ v').heap[g]?=some o:=fun g o hg n1 n2 n3=>by
  have hl:=(Vw.1 hg).1;have y1:Y.heap[g]?=some o:=(hg1.block g hl (fun e=>n1 (by injection e))).trans hg;have hl1:=(Vw.1 y1).1;have y2:Y'.heap[g]?=some o:=(hY'.block g hl1).trans y1;have hl2:=(Vw.1 y2).1;have y3:V.heap[g]?=some o:=(hg2.block g hl2 (fun e=>n3 e.symm)).trans y2;exact(heap_setCell_other V ⟨w.heap.size,0,none⟩ g v' n2).trans y3
 have hVB:V.heap[w.heap.size]?=some (.cells #[v] 44 (0,0)):=by
  have y1:Y.heap[w.heap.size]?=_:=(hg1.block _ hlB (fun e=>by injection e with e;omega)).trans h.box;have y2:Y'.heap[w.heap.size]?=_:=(hY'.block _ (Vw.1 y1).1).trans y1;exact(hg2.block _ (Vw.1 y2).1 (fun e=>hvB e.symm)).trans y2
 have b1:ag w Y:=h.bel.grown hg1 h.bel.size (fun g e=>by injection e with e;omega);have b2:ag w Y':=b1.trans (hY'.mono b1.size);have b3:ag w V:=b2.grown hg2 b2.size (fun g e=>by have:=(h.row.lt g e).1;omega);have sz:X.heap.size<=(V.setCell ⟨w.heap.size,0,none⟩ v').heap.size:=by
  have e1:=hg1.size;have e2:=hY'.size;have e3:=hg2.size;simp;omega
 refine⟨⟨b3.setCell (Vr _) _,?_,?_,?_⟩,⟨sz,fun g cs T m hg h1 h2=>?_,fun g o hg hc n1 n2=>?_⟩,⟨sz,fun g o hB hg hc=>?_⟩⟩
 ·have:=heap_setCell_same V w.heap.size 0 #[v] _ v' hVB;unfold gQ;simpa using this
 ·rw[A9,Vx];exact eB hown fun g hg=>heap_setCell_other V ⟨w.heap.size,0,none⟩ g v' (fun(e:g=w.heap.size)=>by have:=(hown.lt g hg).1;omega)
 ·rw[Vx,<-SV];exact((hM.below hY').kept hg2 (fun e=>hvM e.symm)).setCell (by show w.heap.size+1≠w.heap.size;omega) _
 ·refine key g _ hg (fun e=>?_) (fun e=>?_) (fun e=>?_)
  ·rw[e,hmb]at hg;cases hg
  ·rw[e,h.box]at hg;injection hg with hg;injection hg with _ hT;exact h2 hT.symm
  obtain⟨cur,e2⟩:=jL h.row e;rw[e2]at hg;injection hg with hg;injection hg with _ hT;exact h1 hT.symm
 ·refine key g _ hg n2 (fun e=>?_) (fun e=>?_)
  ·rw[e,h.box]at hg;injection hg with hg;subst hg;cases hc
  obtain⟨cur,e2⟩:=jL h.row e;rw[e2]at hg;injection hg with hg;subst hg;cases hc
 refine key g _ hg (by omega) (by omega) (fun e=>?_);obtain⟨cur,e2⟩:=jL h.row e;rw[e2]at hg;injection hg with hg;subst hg;cases hc
theorem Au.dropF{w:ae}{ad:Q02}{fs:Q04}(h:Au w ad fs)(k:Nat):Au w (Option.map (fun x=>Addr.add x (k*5)) ad) (fs.drop k):=by
 rcases h with h|⟨b,off,e,hb,hr⟩
 ·exact .inl (by rw[h];simp)
 have ea:Option.map (fun x=>Addr.add x (k*5)) ad=some ⟨b,off+k*5,none⟩:=by
  rw[e];simp[Addr.add]
 refine .inr ⟨b,off+k*5,ea,hb,fun i hi=>?_⟩;have hi2:k+i<fs.length:=by rw[WB]at hi;omega
 have h1:=hr (k+i) hi2;have e2:(fs.drop k)[i]=fs[k+i]:=by simp
 rw[e2];have e3:off+k*5+i*5=off+(k+i)*5:=by omega
 rw[e3];exact h1
theorem S9{w:ae}{base size n cap:Nat}{T:TypeId}{ad:Q02}{xs:Q03}(h:w.ownsRow base T size (.slice ad n cap) n xs):n<=cap:=by
 rcases h.2 with⟨e,h0⟩|⟨g,cap',cur,e,h1,h2,h3,h4,h5,-⟩
 ·omega
 injection e with _ _ e3;omega
theorem Rj{Y Y1 Y2 V:ae}{B:Nat}{v:Value}{T:TypeId}(h:gQ Y B v T)(hg1:Y.grownBy Y1 (some (B+1)))(hY2:ag Y1 Y2)(hg2:Y2.grownBy V v.ownBlock)(hv:v.ownBlock≠some B):gQ V B v T:=by
 have y1:Y1.heap[B]?=_:=(hg1.block _ (Vw.1 h).1 (fun e=>by injection e with e;omega)).trans h;have y2:Y2.heap[B]?=_:=(hY2.block _ (Vw.1 y1).1).trans y1;exact(hg2.block _ (Vw.1 y2).1 (fun e=>hv e.symm)).trans y2
theorem Rk{B B':Nat}{W W':ae}(h:KeepsFrom B W W')(hB:B<=B'):KeepsFrom B' W W':=⟨h.size,fun k o hk h1 h2=>h.same k o (Vz hB hk) h1 h2⟩
theorem KpO.after{b l l':Nat}{X Y Z:ae}(h:KpO b l X Y)(k:KpO b l' Y Z)(hl:X.heap.size<=l'):KpO b l X Z :=
 ⟨Vz h.size k.size,fun g cs T m hg h1 h2=>k.cells g cs T m (h.cells g cs T m hg h1 h2) h1 h2,fun g o hg hc h1 h2=>k.other g o (h.other g o hg hc h1 h2) hc (fun e=>by have:=(Vw.1 hg).1;omega) h2⟩
end Go.Proofs.YtojjoblnpldniaaGreat
namespace Go.Proofs.YtojjoblnpldniaaGreat
set_option linter.unusedVariables false
set_option maxRecDepth 100000
open ChangeShapes WideShapes ChangeAt RowKit Maps Go.Shelf
open Pl
attribute [local go_sem] Oper.semAt_some
def FQ(X:World)(B:Nat):Nat:=match X.cell? ⟨B,0,none⟩ with
 | some x=>Ue x
 | none=>0
theorem FR{X:ae}{B n c:Nat}{ad:Q02}{T:TypeId}(h:gQ X B (.slice ad n c) T):FQ X B=n:=by
 unfold FQ;rw[h.c];rfl
section
variable  [DecidableEq Fc]
theorem Oq(w:ae)(rs:Q06)(XG:Q02)(D br bp bt:Nat)(N:Nat)(nr:Nat)(Mr:KL->Option Value)(st:Q00)(ts:Q05)(xo xu:Q0a)(np:Nat)(Mp:K3->Option Value)(vo vu:Value)(hD:DatA w rs D br bp bt (N:Int) nr Mr (fe st rs) (dN ts) xo xu np Mp vo vu)(hs:mP w XG rs)(hN:N<=1000)(hol:xo.length<=80)(ZU:xu.length<=40)(hE:(ak (af rs)).length<=36)(hrl:∀k,(G.lookL (fe st rs) k).length<=1000)(hsh:aY (af rs)=true)(hts:∀t∈ts,t.fits)(htl:ts.length<=1000)(hof:∀o∈xo,o.t.size<=maxLen/\o.s.size<=maxLen)(huf:∀o∈xu,o.t.size<=maxLen/\o.s.size<=maxLen)(hrf:∀k∈ak (af rs),k.2.size<=maxLen):
  Calls prog 56 #[.pointer (some ⟨D,0,none⟩)] w fun e w'=>(∃v,e=.returned v/\w'.ownsRow w.heap.size 52 5 v (kV (af rs) ts st xo xu N).length (aH (kV (af rs) ts st xo xu N)))/\ag w w':=by
 obtain⟨iF,z0,z1,z2,z3⟩:=Fb;obtain⟨W0,hW0⟩:∃W0,W0=((w.alloc (.cells #[.slice none 0 0] 44)).alloc (.map #[] 0)).alloc (.cells #[.map (some (w.heap.size+1))] 115):=⟨_,rfl⟩;obtain⟨Yp,Ye,rfl,-⟩:=mh hD.dat.objs;have hlD:=hD.dat.lt;have d1:=hD.dat.c1;have h00:FoW w W0 (.slice none 0 0) []/\gQ W0 (w.heap.size+1+1) (.map (some (w.heap.size+1))) 115:=by
  obtain⟨V1,e1⟩:∃V,V=w.alloc (.cells #[.slice none 0 0] 44):=⟨_,rfl⟩;obtain⟨V2,e2⟩:∃V,V=V1.alloc (.map #[] 0):=⟨_,rfl⟩;rw[<-e1,<-e2]at hW0;have t1:V1.heap.size=w.heap.size+1:=by rw[e1,World.size_alloc]
  have t2:V2.heap.size=w.heap.size+1+1:=by rw[e2,World.size_alloc,t1]
  have f1:ag w V1:=by rw[e1];exact(Vs _ _).alloc (Vr _) _
  have f2:ag V1 V2:=by rw[e2];exact(Vs _ _).alloc (Vr _) _
  have f3:ag V2 W0:=by rw[hW0];exact(Vs _ _).alloc (Vr _) _
  have f12:ag w V2:=f1.trans (f2.mono f1.size);have g1:gQ V1 w.heap.size (.slice none 0 0) 44:=by rw[e1];exact World.alloc_heap_new w _
  have g2:aJ oG prog 52 V2 (w.heap.size+1) 0 (fun _=>none):=by
   have:=lI oG prog 52 V1;rw[<-e2,t1]at this;exact this
  have g3:gQ W0 (w.heap.size+1+1) (.map (some (w.heap.size+1))) 115:=by rw[hW0,<-t2];exact World.alloc_heap_new V2 _
  have ek:Cx []=fun _=>none:=rfl;exact⟨⟨f12.trans (f3.mono f12.size),(g1.bel f2).bel f3,World.ownsRow_nil _ _ _ _,by rw[ek];exact g2.below f3⟩,g3⟩
 have hmm:=@run_makeMap prog;have hl1:D<w.heap.size+1:=by omega
 have hl2:D<w.heap.size+1+1:=by omega
 refine(callsIn_wide (n:=12)).1 ?_;refine callsIn_of_wp_marks func56 rfl trivial ?_ rfl;simp only[ntmps56,List.size_toArray,VS,Wv,Nat.reduceAdd,Nat.reduceSub,Array.replicate_succ,Array.replicate_zero,List.push_toArray,List.append_toArray,Ww,V9];gi_wp2;rw[<-hW0];clear hW0 hmm;obtain⟨H,hH⟩:∃H,H=fu (af rs) ts:=⟨_,rfl⟩;obtain⟨A,hA⟩:∃A:Nat->List Fc,A=kV (af rs) ts st xo xu:=⟨_,rfl⟩;obtain⟨Q,hQ⟩:∃Q:Nat->List Fc,Q=fun(n:Nat)=>bF (af rs) st xo xu (n:Int):=⟨_,rfl⟩;have hA1:∀n,A (n+1)=kz H (Q n) (A n):=fun n=>by rw[hA,hH,hQ];exact iw _ _ _ _ _ _
 have hAG:∀n,GoodO (af rs) xo xu (A n):=fun n=>by rw[hA];exact kL _ _ _ _ _ n
 have hA0:A 0=[]:=by rw[hA];rfl
 have hAN:kV (af rs) ts st xo xu N=A N:=by rw[hA]
 refine wpIn_loop (fun a' X=>∃(q:Nat) (rl:List Nat) (v:Value) (u5 u6 u7 u8 u15 u16 u17 u18 u19 u20 u21 u22 u23 u24 u25 u26 u27 u28 u29 u30 u31 u32 u33 u34 u35 u36 u37 u38 u39 u40 u41 u42 u43 u44:Value),a'={ tmps:=List.toArray (.pointer (some ⟨D,0,none⟩)::undef::.slice none 0 0::.pointer (some ⟨w.heap.size,0,none⟩)::.pointer (some ⟨w.heap.size+1+1,0,none⟩)::u5::u6::u7::u8::.map (some (w.heap.size+1))::.pointer (some ⟨D,0,none⟩)::.pointer (some ⟨D,0,none⟩)::.pointer (some ⟨D,1,none⟩)::.int .i64 (N:Int)::.int .i64 (q:Int)::u15::u16::u17::u18::u19::u20::u21::u22::u23::u24::u25::u26::u27::u28::u29::u30::u31::u32::u33::u34::u35::u36::u37::u38::u39::u40::u41::u42::u43::u44::undef::[]),defers:=marks rl }/\q<=N/\FoW w X v (A q)/\gQ X (w.heap.size+1+1) (.map (some (w.heap.size+1))) 115/\iX X rl/\(∀r∈rl,w.heap.size+1+1<r)) (fun a' _=>N-(intOf (a'.tmps.getD 14 undef)).toNat) ⟨0,[],.slice none 0 0,_,_,_,_,_,_,_,_,_,_,_,_,_,_,_,_,_,_,_,_,_,_,_,_,_,_,_,_,_,_,_,_,_,_,rfl,Vv _,by rw[hA0];exact h00.1,h00.2,⟨List.nodup_nil,fun r hr=>by cases hr⟩,fun r hr=>by cases hr⟩ ?_;rintro a1 X ⟨q,rl,v,u5,u6,u7,u8,u15,u16,u17,u18,u19,u20,u21,u22,u23,u24,u25,u26,u27,u28,u29,u30,u31,u32,u33,u34,u35,u36,u37,u38,u39,u40,u41,u42,u43,u44,rfl,hq,hF,hB,hMk,hMn⟩;clear h00;by_cases hlq:q<N
 ·have hDX:=hD.below hF.bel;have d5:=hDX.dat.c5;have d5l:=hDX.dat.lt;obtain⟨adV,aae,rfl,-⟩:=mh hDX.dat.users;gi_wp2;refine wpIn_loop (fun a' X=>∃(us:Q0a) (XF:Q02) (WU:Nat) (out:Q04) (rl:List Nat) (v:Value) (base:Nat) (u7 u8 u21 u22 u23 u24 u25 u26 u27 u28 u29 u30 u31 u32 u33 u34 u35 u36 u37 u38 u39 u40 u41 u42 u43 u44:Value),a'={ tmps:=List.toArray (.pointer (some ⟨D,0,none⟩)::undef::.slice none 0 0::.pointer (some ⟨w.heap.size,0,none⟩)::.pointer (some ⟨w.heap.size+1+1,0,none⟩)::.int .i64 (q:Int)::.slice XF us.length WU::u7::u8::.map (some (w.heap.size+1))::.pointer (some ⟨D,0,none⟩)::.pointer (some ⟨D,0,none⟩)::.pointer (some ⟨D,1,none⟩)::.int .i64 (N:Int)::.int .i64 (q:Int)::.bool true::.int .i64 (q:Int)::.pointer (some ⟨D,0,none⟩)::.pointer (some ⟨D,0,none⟩)::.pointer (some ⟨D,5,none⟩)::.slice adV xu.length aae::u21::u22::u23::u24::u25::u26::u27::u28::u29::u30::u31::u32::u33::u34::u35::u36::u37::u38::u39::u40::u41::u42::u43::u44::undef::[]),defers:=marks rl }/\FewA (af rs) ts st xo xu (q:Int) us out/\kz H (Q q) out=A (q+1)/\GoodO (af rs) xo xu out/\FoW w X v out/\gQ X (w.heap.size+1+1) (.map (some (w.heap.size+1))) 115/\iX X rl/\(∀r∈rl,w.heap.size+1+1<r)/\X.ownsRow base 27 2 (.slice XF us.length WU) us.length (pairs us)/\us.length<=40/\∀o∈us,o.t.size<=maxLen/\o.s.size<=maxLen) (fun a' Y=>2*(200000-FQ Y w.heap.size)+min 1 (Ue (a'.tmps.getD 6 undef))) ⟨xu,adV,aae,A q,rl,v,bp+1,_,_,_,_,_,_,_,_,_,_,_,_,_,_,_,_,_,_,_,_,_,_,_,_,_,_,rfl,FewA.start _,(hA1 q).symm,hAG q,hF,hB,hMk,hMn,hDX.dat.users,ZU,huf⟩ ?_;clear hDX d5 d5l hF hB hMk hMn;rintro a2 X2 ⟨us,XF,WU,out,rl2,v2,base,u7,u8,u21,u22,u23,u24,u25,u26,u27,u28,u29,u30,u31,u32,u33,u34,u35,u36,u37,u38,u39,u40,u41,u42,u43,u44,rfl,hFew,hLim,hG,hF2,hB2,hMk2,hMn2,hU,hul2,huf2⟩;obtain⟨adF,XQ,rfl,-⟩:=oC hF2.row;have hmu:=FR hF2.box;have hout:=hG.len hol hE ZU;by_cases hne:us=[]
  ·subst hne;have hAq:A (q+1)=out:=by rw[<-hLim,hH,hQ];exact hFew.done
   have ZV:FoW w X2 (.slice adF out.length XQ) (A (q+1)):=by rw[hAq];exact hF2
   gi_wp2;exact⟨⟨q+1,rl2,_,_,_,_,_,_,_,_,_,_,_,_,_,_,_,_,_,_,_,_,_,_,_,_,_,_,_,_,_,_,_,_,_,_,_,rfl,by omega,ZV,hB2,hMk2,hMn2⟩,by simp[intOf];omega⟩
  have hpos:0<us.length:=by cases us with|nil=>exact absurd rfl hne|cons a l=>simp
  have hposI:(0:Int)<(us.length:Int):=by omega
  have bc:=hF2.box.c;have kc:=hB2.c
  gi_wp2_with fail
  refine⟨trivial,(callsIn_wide.2 (FP D (q:Int) XF us.length WU (w.heap.size+1) X2)).mono ?_⟩;rintro e X3 ⟨rfl,hX3⟩;obtain⟨hBX,ZM,hs3⟩:=SX X2 D (q:Int) (.slice XF us.length WU) (w.heap.size+1) hX3;have ZV:=hF2.below ZM;have hU3:=dw hU ZM;have hB3:=hB2.bel ZM;have hMk3:=hMk2.bel ZM;have hsB:w.heap.size+1+1<X2.heap.size:=(Vw.1 hB2).1;clear hX3 bc kc;gi_wp2
  refine qE (α:=Fc) rfl (by omega) (gf:=201) (lb:=#[.pointer (some ⟨X2.heap.size,0,none⟩),.pointer (some ⟨X2.heap.size+1,0,none⟩),.pointer (some ⟨X2.heap.size+1+1,0,none⟩),.pointer (some ⟨X2.heap.size+1+1+1,0,none⟩)]) rfl trivial (enters_of func201 (by kernel_rfl) rfl)
   (Oo 11 (by omega) rs XG D br bp bt (N:Int) nr Mr st ts Yp Ye xo xu np Mp (.slice adV xu.length aae) (w.heap.size+1) out X2.heap.size (X2.heap.size+1) (X2.heap.size+1+1) (X2.heap.size+1+1+1) (q:Int) XF WU us X3 (by omega) (by omega) (by omega) (by omega) hrl hsh hts htl hof huf2 hrf) (Vs _ _) (fun _=>rfl) (fun h k=>h.trans k) (fun Y lx o o' h1 h2=>KpO.put h1 h2)
   (fun pre Y=>∃v',FoW w Y v' (out++pre)/\KpO (w.heap.size+1) X3.heap.size X3 Y/\GoodO (af rs) xo xu (out++pre))
   ?own ?tell ⟨_,by rw[Wp];exact ZV,KpO.below (Vs _ _),by rw[Wp];exact hG⟩
   (fun x a' Y=>∃Bx,CF Y Bx x/\a'={ tmps:=List.toArray (.pointer (some ⟨D,0,none⟩)::undef::.slice none 0 0::.pointer (some ⟨w.heap.size,0,none⟩)::.pointer (some ⟨w.heap.size+1+1,0,none⟩)::.int .i64 (q:Int)::.slice XF us.length WU::.int .i64 (out.length:Int)::.pointer (some ⟨Bx,0,none⟩)::.map (some (w.heap.size+1))::.pointer (some ⟨D,0,none⟩)::.pointer (some ⟨D,0,none⟩)::.pointer (some ⟨D,1,none⟩)::.int .i64 (N:Int)::.int .i64 (q:Int)::.bool true::.int .i64 (q:Int)::.pointer (some ⟨D,0,none⟩)::.pointer (some ⟨D,0,none⟩)::.pointer (some ⟨D,5,none⟩)::.slice adV xu.length aae::.slice XF us.length WU::.int .i64 (us.length:Int)::.bool true::.slice adF out.length XQ::.int .i64 (out.length:Int)::.pointer (some ⟨D,0,none⟩)::.int .i64 (q:Int)::.slice XF us.length WU::.map (some (w.heap.size+1))::.func (.func 201) #[] #[.pointer (some ⟨X2.heap.size,0,none⟩),.pointer (some ⟨X2.heap.size+1,0,none⟩),.pointer (some ⟨X2.heap.size+1+1,0,none⟩),.pointer (some ⟨X2.heap.size+1+1+1,0,none⟩)]::.agg #[.string x.a,.string x.b,.string x.r,.string x.c,.string x.d]::u32::u33::u34::u35::u36::u37::u38::u39::u40::u41::u42::u43::u44::undef::[]),defers:=[] })
   (fun x a' s Y Z row hs hg hr=>by obtain⟨Bx,h,e⟩:=hs;exact⟨Bx,IJ (B0:=X3.heap.size) (g:=Bx) (x:=x) () Y Z row h hg hr,e⟩) ?assign ?body ?done
  case own =>
   intro pre Y Z row hs hg hr;obtain⟨v',h1,h2,h3⟩:=hs;exact⟨v',h1.kept hg fun r e=>⟨by have:=(hr r e).1;omega,(hr r e).2⟩,SY (β:=Unit) () Y Z row h2 hg hr,h3⟩
  case tell =>
   rintro pre Y ⟨v',h1,h2,h3⟩;have hb:=hBX.kp h2;obtain⟨ad2,cap2,e,hsa⟩:=mh (LY hU3 h2 (by decide) (by decide));injection e with ea eb ec;exact⟨hD.below h1.bel,hs.below h1.bel,⟨_,h1.map⟩,hb.d.c,hb.s.c,hb.u.c,hb.k.c,by rw[ea];exact hsa⟩
  case assign =>
   rintro l' pre x Y K ⟨v',h1,h2,h3⟩ hKK;unfold Ed;gi_wp2;have hbl:ag Y (Y.alloc (.cells #[.string x.a,.string x.b,.string x.r,.string x.c,.string x.d] 52)):=(Vs _ _).alloc (Vr _) _;exact hKK _ _ ((KeepsOthers.alloc _ _).from _) (KpO.below hbl) ⟨v',h1.below hbl,h2.trans (KpO.below hbl),h3⟩ ⟨Y.heap.size,World.alloc_heap_new Y _,rfl⟩
  case body =>
   rintro l' pre x a' Y hl ⟨hEx,hnew⟩ ⟨v',hFY,hKY,hGY⟩ ⟨Bx,bX,rfl⟩;obtain⟨hkey,hxf⟩:=IK hof huf2 hrf hEx;obtain⟨kl,hkl⟩:=H8 x hxf;obtain⟨c0,c1,c2,c3,c4,cl⟩:=bX.c;have hGX:GoodO (af rs) xo xu (out++(pre++[x])):=by
    refine⟨?_,fun g hg=>?_⟩
    ·rw[<-VU];exact List.nodup_append.2 ⟨hGY.once,by simp,fun a ha b hb e=>by
      rw[VD]at hb;rw[<-hb,<-e]at hnew;exact hnew ha⟩
    rw[<-VU]at hg;rcases VE.1 hg with hg|hg
    ·exact hGY.sub g hg
    rw[VD]at hg;subst hg;unfold bF vC at hEx;obtain⟨o,ho,h1⟩:=VJ.1 hEx;obtain⟨k,hk,h1⟩:=VJ.1 h1;obtain⟨u,hu,e⟩:=VG.1 h1;have hux:u∈xu:=by rw[hFew.sub]at hu;exact(Wz.1 hu).1
    exact VJ.2 ⟨o,ho,VJ.2 ⟨k,(Wz.1 hk).1,VG.2 ⟨u,hux,e⟩⟩⟩
   have hlen:=hGX.len hol hE ZU;rw[<-VU,Vx,VW]at hlen;obtain⟨os,hos⟩:∃os,os=out++pre:=⟨_,rfl⟩;rw[<-hos]at hFY hlen;have HOS:=aF hos;clear hos;have kc:=(hB3.kp hKY (by decide) (by decide)).c;have kl2:=aI kc;obtain⟨adY,capY,rfl,-⟩:=oC hFY.row;have hmap:=hFY.map;have bcY:=hFY.box.c;have hbxl:=aI bcY;have hblk:=hFY.box;obtain⟨es,cc,hmb⟩:=pI hFY.map;have hne1:Bx≠w.heap.size+1:=fun e=>by
    have h:=bX;unfold CF at h;rw[e,hmb]at h;cases h
   have hrow:=hFY.row;have hvB:(Value.slice adY os.length capY).ownBlock≠some w.heap.size:=fun e=>by have:=(hrow.lt _ e).1;omega
   have hvM:(Value.slice adY os.length capY).ownBlock≠some (w.heap.size+1):=fun e=>EX hrow e hmb;have hbYs:=hFY.bel.size
   gi_wp2_with (first
    | (gi_at_mapUpdate;refine yM _ rfl _ _ _ 115 rfl 52 107 QL QJ underlying115 (w.heap.size+1) _ _ rfl hmap (by unfold maxLen;omega) x kl rfl hkl (.agg #[]) rfl ?_;intro Y1 hM1 hg1;have q0:=(kJ hg1 ⟨cl,hne1⟩ 0).trans c0;have q1:=(kJ hg1 ⟨cl,hne1⟩ 1).trans c1;have q2:=(kJ hg1 ⟨cl,hne1⟩ 2).trans c2;have q3:=(kJ hg1 ⟨cl,hne1⟩ 3).trans c3;have q4:=(kJ hg1 ⟨cl,hne1⟩ 4).trans c4;have qb:=(kJ hg1 ⟨hbxl,Nat.ne_of_lt (Nat.lt_succ_self _)⟩ 0).trans bcY;have ql:=aI q0;have qbl:=aI qb;have hrow1:=hrow.kept hg1 (.inr hvM);have hYs1:=hg1.size)
    | (gi_at_builtin;refine wpListIn_append_own_at _ rfl _ _ 44 rfl (w.heap.size+1) 52 iF (.agg #[.string ⟨#[]⟩,.string ⟨#[]⟩,.string ⟨#[]⟩,.string ⟨#[]⟩,.string ⟨#[]⟩]) 5 80 underlying44 z0 z1 z2 z3 rfl (by decide) _ os.length (aH os) rfl (hrow1.alloc _) ⟨Y1.heap.size,0,none⟩ 1 1 x.row rfl rfl (LC Y1 x) (by simp[Fc.row,Value.oneCell']) (by unfold maxLen;omega) (by omega) (by simp;omega) ?_;intro v2 V hown hgr _ hat;obtain⟨g2,cap2,rfl⟩:=ownsRow_succ hown;have HAT:=aF hat;clear hat;have hY2:ag Y1 (Y1.alloc (.cells #[.string x.a,.string x.b,.string x.r,.string x.c,.string x.d] 52)):=(Vs _ _).alloc (Vr _) _;have hVb:=Rj hblk hg1 hY2 hgr hvB;have vc:=hVb.c;have vf:=kW hVb 0;have vl:=aI vc)
    | gi_in)
   obtain⟨r1,r2,r3⟩:=FoW.step hFY hM1 hg1 hY2 hown hgr HAT.out l';have eos:out++(pre++[x])=os++[x]:=by rw[HOS.out,VU]
   exact⟨Rk r3 (by omega),r2,_,by rw[eos];exact r1,hKY.after r2 hl,hGX⟩
  case done =>
   rintro Dd xs X5 hDd hS ⟨v5,hF5,hK5,hG5⟩ hKd;have hl5:=hG5.len hol hE ZU;have hlx:(out++xs).length=out.length+xs.length:=Vx;have hxs:(out++xs).drop out.length=xs:=List.drop_left;obtain⟨o5,ho5⟩:∃o5,o5=out++xs:=⟨_,rfl⟩;rw[<-ho5]at hF5 hG5 hl5 hlx hxs;have WV:=aF ho5;have Zm:=aF hxs;have hFew5:=hFew.next (by rw[<-hH]at hS ⊢;exact hS);have hLim5:kz H (Q q) o5=A (q+1):=by
    rw[<-hLim,<-CV (H:=H) (Q q) out];congr 1;rw[ho5,<-hS,<-hH,hQ,hH];exact hFew.round
   rw[<-ho5]at hFew5;obtain⟨adP,capP,rfl,hsF5⟩:=oC hF5.row;have bc5:=hF5.box.c;have bl5:=aI bc5;have i1:(0:Int)<=(out.length:Int):=by omega
   have i2:(out.length:Int)<=(o5.length:Int):=by omega
   have hcap5:o5.length<=capP:=S9 hF5.row;have hU5:=LY hU3 hK5 (by decide) (by decide);obtain⟨ad2,cap2,eU,hsU5⟩:=mh hU5;injection eU with ea eb ec;rw[<-ea]at hsU5;have hMk5:iX X5 (Dd::rl2):=by
    have h1:=hMk3.kp hK5 (fun hm=>by have:=hMk3.lt hm;omega) (fun hm=>by have:=hMn2 _ hm;omega);refine⟨List.nodup_cons.2 ⟨fun hm=>by have:=hMk3.lt hm;omega,h1.1⟩,fun r hr=>?_⟩;rcases VH.1 hr with rfl|hr
    ·exact hKd
    exact h1.2 r hr
   have hMn5:∀r∈Dd::rl2,w.heap.size+1+1<r:=fun r hr=>by
    rcases VH.1 hr with rfl|hr
    ·omega
    exact hMn2 r hr
   have hkl:(fw us xs).length<=us.length:=Ei us xs;have hkz:xs.length=0->(fw us xs).length=0:=fun h=>by rw[VM.1 h,Kv];rfl
   have hsx:∀ad3,ad3=Option.map (fun x=>Addr.add x (out.length*5)) adP->Au X5 ad3 xs:=fun ad3 e=>by
    rw[e,<-Zm.out];exact Au.dropF hsF5 out.length
   clear ho5 hxs ea eb ec hS
   gi_wp2_with fail
   ·refine⟨trivial,(callsIn_wide.2 (rE XF WU us adP 0 xs X5 (by omega) (by omega) hsU5 (.inl (VM.1 (by omega))))).mono ?_⟩;rintro e X6 ⟨⟨v6,rfl,Zg⟩,hb6⟩;have Xa:FQ X6 w.heap.size=o5.length:=FR (hF5.below hb6).box;have hF6:=hF5.below hb6;have ZX:=(hB3.kp hK5 (by decide) (by decide)).bel hb6;obtain⟨ad6,cap6,rfl,-⟩:=mh Zg;gi_wp2;exact⟨⟨fw us xs,ad6,cap6,o5,Dd::rl2,_,X5.heap.size,_,_,_,_,_,_,_,_,_,_,_,_,_,_,_,_,_,_,_,_,_,_,_,_,_,_,rfl,hFew5,hLim5,hG5,hF6,ZX,hMk5.bel hb6,hMn5,Zg,by omega,fun o ho=>huf2 o (Wz.1 ho).1⟩,by
     show 2*(200000-FQ X6 w.heap.size)+min 1 (fw us xs).length<2*(200000-FQ X2 w.heap.size)+min 1 us.length;rw[Xa,hmu];omega⟩
   refine⟨trivial,(callsIn_wide.2 (rE XF WU us _ _ xs X5 (by omega) (by omega) hsU5 (hsx _ rfl))).mono ?_⟩;rintro e X6 ⟨⟨v6,rfl,Zg⟩,hb6⟩;have Xa:FQ X6 w.heap.size=o5.length:=FR (hF5.below hb6).box;have hF6:=hF5.below hb6;have ZX:=(hB3.kp hK5 (by decide) (by decide)).bel hb6;obtain⟨ad6,cap6,rfl,-⟩:=mh Zg;gi_wp2;exact⟨⟨fw us xs,ad6,cap6,o5,Dd::rl2,_,X5.heap.size,_,_,_,_,_,_,_,_,_,_,_,_,_,_,_,_,_,_,_,_,_,_,_,_,_,_,rfl,hFew5,hLim5,hG5,hF6,ZX,hMk5.bel hb6,hMn5,Zg,by omega,fun o ho=>huf2 o (Wz.1 ho).1⟩,by
    show 2*(200000-FQ X6 w.heap.size)+min 1 (fw us xs).length<2*(200000-FQ X2 w.heap.size)+min 1 us.length;rw[Xa,hmu];omega⟩
 have hqN:q=N:=by omega
 subst hqN;obtain⟨adF,XQ,rfl,-⟩:=oC hF.row;have bc:=hF.box.c;have hR:X.ownsRow (w.heap.size+1) 52 5 (.slice adF (A q).length XQ) (kV (af rs) ts st xo xu q).length (aH (kV (af rs) ts st xo xu q)):=by rw[hAN];exact hF.row
 have hBl:=hF.bel;have hsz:w.heap.size<X.heap.size:=aI bc;clear hF hB hD;gi_wp2;refine wK (w.heap.size+1+1) (fun Y=>Y.ownsRow w.heap.size 52 5 (.slice adF (A q).length XQ) (kV (af rs) ts st xo xu q).length (aH (kV (af rs) ts st xo xu q))/\ag w Y) (fun Y r hr hY hd=>⟨eB hY.1 fun g hg=>oz fun e=>?_,?_⟩) (fun Y hY=>⟨_,results_tmp rfl _ _ _,⟨_,rfl,hY.1⟩,hY.2⟩) rl X hMk hMn ⟨dY hR (Nat.le_succ _),hBl⟩
 ·obtain⟨cur,e2⟩:=jL hY.1 hg;rw[e,hd]at e2;cases e2
 exact hY.2.grown (grownBy_putObj' Y r _) hY.2.size (fun g e=>by injection e with e;omega)
end
end Go.Proofs.YtojjoblnpldniaaGreat
