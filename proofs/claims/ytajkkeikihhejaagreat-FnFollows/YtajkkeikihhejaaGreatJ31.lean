/- The program's question of a node, whatever it is; does a fact hold by its relation's whole? -/
import Derived.Test.YtajkkeikihhejaaGreatSq
import Derived.Test.YtajkkeikihhejaaGreatJ30
import Derived.Test.YtajkkeikihhejaaGreatJ28
import Derived.Test.YtajkkeikihhejaaGreatJ23
open Go.Proofs.Tryz
set_option maxHeartbeats 80000000
namespace Go.Proofs.YtajkkeikihhejaaGreat
set_option linter.unusedVariables false
set_option maxRecDepth 100000
open ChangeShapes WideShapes ChangeAt RowKit Maps
open Pl
theorem BQ{e:Ex}(h:ax e=true):(e.kind=2->e.name.size<=maxLen)/\(e.kind=3->e.over.size<=maxLen/\e.name.size<=maxLen)/\(e.kind=1\/e.kind=2\/e.kind=3\/e.kind=4\/e.kind=5\/e.kind=6):=by
 unfold ax at h;have hle:∀s:ByteArray,aT s=true->s.size<=maxLen:=fun s hs=>by have:=(nM hs).2;unfold maxLen;omega
 by_cases k1:e.kind=1
 ·exact⟨fun h2=>by omega,fun h3=>by omega,.inl k1⟩
 by_cases k2:e.kind=2
 ·rw[if_neg k1,if_pos k2]at h;simp only[UW]at h;exact⟨fun _=>hle _ h.1.1.1,fun h3=>by omega,.inr (.inl k2)⟩
 by_cases k3:e.kind=3
 ·rw[if_neg k1,if_neg k2,if_pos k3]at h;simp only[UW]at h;exact⟨fun h2=>by omega,fun _=>⟨hle _ h.1.1.1,hle _ h.1.1.2⟩,.inr (.inr (.inl k3))⟩
 refine⟨fun h2=>absurd h2 k2,fun h3=>absurd h3 k3,?_⟩;by_cases k4:e.kind=4\/e.kind=5
 ·rcases k4 with k4|k4
  ·exact .inr (.inr (.inr (.inl k4)))
  exact .inr (.inr (.inr (.inr (.inl k4))))
 by_cases k6:e.kind=6
 ·exact .inr (.inr (.inr (.inr (.inr k6))))
 rw[if_neg k1,if_neg k2,if_neg k3,if_neg k4,if_neg k6]at h;cases h
section
variable  {rs:Q06}{D br bp bt bK nK:Nat}{n1:Int}{nr:Nat}{Mr:KL->Option Value}{Er:List (KL×RR)}{ts:Q05}{xo xu:Q0a}{np:Nat}{Mp:K3->Option Value}{vo vu:Value}{out:Q04}{f:Fc}{V5:Q02}{capE:Nat}{rows:Q08}
theorem nH(hN:XZ rows)(hnb:∀e∈ak rows,ax e=true)(hf:f.fits)(hts:∀t∈ts,t.fits)(htl:ts.length<=1000):
  ∀(k n:Nat) (w:World),n<k->n<rows.length->DatA w rs D br bp bt n1 nr Mr Er (bn ts) xo xu np Mp vo vu->aK jO prog 29 w bK nK (wL out)->gZ w V5 rows ->
  Calls prog 167 #[.pointer (some ⟨D,0,none⟩),.slice V5 rows.length capE,.int .i64 (n:Int),.agg #[.string f.a,.string f.b,.string f.r,.string f.c,.string f.d],.map (some bK)] w fun e w'=>e=.returned (.bool (di ts (ak rows) out f k out n))/\ae w w'
 | 0,_,_,h,_,_,_,_=>absurd h (VL _)
 | k+1,n,w,hk,hn,hD,hK,hex=>by
  have e:(ak rows)[n]?=some rows[n].e:=by simp[ak,hn]
  have WJ:∀i∈rows[n].e.kids,Fy D (.slice V5 rows.length capE) f bK w i (di ts (ak rows) out f k out i.toNat):=fun i hi w1 hb1=>by
   have h1:=hN.kid hn hi;have h2:=nH hN hnb hf hts htl k i.toNat w1 (by omega) (by omega) (hD.below hb1) (hK.below hb1) (hex.below hb1);have e2:((i.toNat:Nat):Int)=i:=by omega
   rw[e2]at h2;exact h2
  have hm:rows[n]∈rows:=UR hn;have hme:rows[n].e∈ak rows:=U7.2 ⟨_,hm,rfl⟩;obtain⟨hn2,hn3,hkd⟩:=BQ (hnb _ hme);unfold di;rw[e];by_cases k1:rows[n].e.kind=1
  ·simp only[if_pos k1];exact Nv hn hD hK hf hts htl hex hN.len k1
  by_cases k2:rows[n].e.kind=2
  ·simp only[if_neg k1,if_pos k2];exact Qt hn hK hf (hn2 k2) hex hN.len k2
  by_cases k3:rows[n].e.kind=3
  ·simp only[if_neg k1,if_neg k2,if_pos k3];exact Nw hn hD hK hf (hn3 k3) hts htl hex hN.len k3
  by_cases k4:rows[n].e.kind=4
  ·simp only[if_neg k1,if_neg k2,if_neg k3,if_pos k4];exact Kk hn (fun i=>di ts (ak rows) out f k out i.toNat) (hN.kids _ hm) WJ hex hN.len k4
  by_cases k5:rows[n].e.kind=5
  ·simp only[if_neg k1,if_neg k2,if_neg k3,if_neg k4,if_pos k5];exact Ny hn (fun i=>di ts (ak rows) out f k out i.toNat) (hN.kids _ hm) WJ hex hN.len k5
  have k6:rows[n].e.kind=6:=by omega
  simp only[if_neg k1,if_neg k2,if_neg k3,if_neg k4,if_neg k5,if_pos k6];have h2:=hN.two _ hme k6;have hg:∀q,q<2->rows[n].e.kids.getD q 0∈rows[n].e.kids:=fun q hq=>by
   rw[Vn,U1 (by omega)];exact UR _
  exact Qu hn _ _ (hN.kids _ hm) h2 (WJ _ (hg 0 (by omega))) (WJ _ (hg 1 (by omega))) hex hN.len k6
theorem Le{rs:Q06}(h:bu (ag rs)=true){k:Q01}(hk:k∈au (ag rs)):∃t∈rs,∃q∈t.rows,oZ rs k=some q.sl/\ak q.rows=aB (ag rs) k.1 k.2/\aL (ak q.rows)=true:=by
 have hk':=hk;unfold au at hk;obtain⟨T,hT,hk⟩:=U8.1 hk;obtain⟨t,ht,rfl⟩:=U7.1 hT;unfold jL at hk;obtain⟨r,hr,rfl⟩:=U7.1 hk;obtain⟨q,hq,rfl⟩:=U7.1 hr;have hrel:=pz h ht hq;cases e:oZ rs (t.p.name,q.p.name) with
 | none =>
  have h1:=(o6 h).no _ e;have h2:eG (ag rs) t.name q.name=none:=h1;rw[hrel]at h2;cases h2
 | some v =>
  obtain⟨t',ht',q',hq',-,rfl,e1,-⟩:=(o6 h).yes _ v e;refine⟨t',ht',q',hq',rfl,?_,((bF h).2.2 t' ht' q' hq').1⟩;unfold aB;rw[e1];rfl
theorem Nz{w:af}{ad:Q02}(hD:DatA w rs D br bp bt n1 nr Mr Er (bn ts) xo xu np Mp vo vu)(hK:aK jO prog 29 w bK nK (wL out))(hf:f.fits)(hts:∀t∈ts,t.fits)(htl:ts.length<=1000)(hsh:bu (ag rs)=true)(hkey:(f.a,f.r)∈au (ag rs))(hs:kU w ad rs):
  Calls prog 146 #[.pointer (some ⟨D,0,none⟩),.agg #[.string f.a,.string f.b,.string f.r,.string f.c,.string f.d],.map (some bK)] w fun e w'=>e=.returned (.bool (fT (ag rs) ts out f))/\ae w w':=by
 obtain⟨t,htm,q,hq,htab,hrx,hsp⟩:=Le hsh hkey;obtain⟨hN,hr1⟩:=zn hsp;have hnb:=iE hsp;have XP:nQ rs q.ad q.rows:=.inr ⟨t,htm,q,hq,rfl,rfl⟩;obtain⟨kl,hkl⟩:=jE (f.a,f.r) hf.1 hf.2.2.1;obtain⟨W0,hW0⟩:∃W0,W0=w.alloc (.cells #[.string f.a,.string f.b,.string f.r,.string f.c,.string f.d] 29):=⟨_,rfl⟩;have HB0:=mI hW0;have c0:W0.cell? ⟨w.heap.size,0,none⟩=some (.string f.a):=by rw[hW0];simp
 have c1:W0.cell? ⟨w.heap.size,1,none⟩=some (.string f.b):=by rw[hW0];simp
 have c2:W0.cell? ⟨w.heap.size,2,none⟩=some (.string f.r):=by rw[hW0];simp
 have c3:W0.cell? ⟨w.heap.size,3,none⟩=some (.string f.c):=by rw[hW0];simp
 have c4:W0.cell? ⟨w.heap.size,4,none⟩=some (.string f.d):=by rw[hW0];simp
 have d0:=HB0.out.cell (p:=⟨D,0,none⟩) hD.dat.lt |>.trans hD.dat.c0;obtain⟨V5,Yn⟩:∃a,a=q.ad:=⟨_,rfl⟩;obtain⟨capE,ZA⟩:∃a,a=q.cap:=⟨_,rfl⟩;obtain⟨rows,hrows⟩:∃a,a=q.rows:=⟨_,rfl⟩;have hsl:q.sl=.slice V5 rows.length capE:=by rw[Yn,ZA,hrows];rfl
 rw[<-hrows]at hN hnb hr1 hrx;rw[<-hrows,<-Yn]at XP;have hlk:∀m,(Instr.lookup 91 (.map (some bt)) (.agg #[.string f.a,.string f.r]) false).run prog (W0.drewN m)=.ok (.slice V5 rows.length capE) (W0.drewN m):=fun m=>by
  have h:=((hD.tab.below HB0.out).below (below_drewN (UV _ _) m)).look (t:=91) (e:=33) iU underlying91 (nX _) (x:=(f.a,f.r)) hkl;rw[htab,hsl]at h;exact h
 have ZX:=hN.len;have hwr:IntKind.i64.wrap ((rows.length:Int)-1)=((rows.length-1:Nat):Int):=by rw[IntKind.wrap_i64];omega
 have HC:Hid (∀nq,Calls prog 167 #[.pointer (some ⟨D,0,none⟩),.slice V5 rows.length capE,.int .i64 ((rows.length-1:Nat):Int),.agg #[.string f.a,.string f.b,.string f.r,.string f.c,.string f.d],.map (some bK)] (W0.drewN nq) fun e w'=>e=.returned (.bool (fT (ag rs) ts out f))/\Below (W0.drewN nq).heap.size (W0.drewN nq) w'):=fun nq=>by
  have hb:ae w (W0.drewN nq):=below_drewN HB0.out nq;have h:=nH (capE:=capE) hN hnb hf hts htl rows.length (rows.length-1) (W0.drewN nq) (by omega) (by omega) (hD.below hb) (hK.below hb) (XP.sl (hs.below hb));unfold fT;rw[<-hrx,aQ];exact h
 clear hD hK hs hsp hkl htab hsl hN hnb hf Yn ZA hrows XP hrx hkey;go_enter func146,ntmps146;go_wp2_with fail;rw[<-hW0];clear hW0;go_quiet (fail);clear d0 hlk;go_wp2_with fail;refine(HC.out _).mono ?_;rintro e w1 ⟨rfl,hb1⟩;have HB1:=aj ((below_drewN HB0.out _).trans (hb1.mono HB0.out.size));clear hb1 c0 c1 c2 c3 c4;go_wp2;go_ret;exact⟨rfl,HB1.out⟩
end
def RY(u:Al)(g:Fc):Bool:=yw g.c g.d u.t u.s
theorem NA(p:Fc->Bool){zs:Q04}{k:Nat}(h:k<zs.length):(zs.drop k).any p=(p zs[k] || (zs.drop (k+1)).any p):=by rw[Vl h];rfl
theorem o8.at0{w:af}{ad:Q02}{fs:Q04}(h:o8 w ad fs){k:Nat}(hk:k<fs.length):∃b off,ad=some ⟨b,off,none⟩/\xC w b (off+k*5) fs[k]/\b<w.heap.size:=by
 rcases h with h|⟨b',off',e,hb,hr⟩
 ·rw[h]at hk;simp at hk
 exact⟨b',off',e,hr k hk,hb⟩
theorem RZ(g:Nat)(u:Al)(f:Fc)(w:af)(hg:g<w.heap.size)(h0:w.cell? ⟨g,0,none⟩=some (.string u.t))(h1:w.cell? ⟨g,1,none⟩=some (.string u.s)):
  Calls prog 148 #[.agg #[.string f.a,.string f.b,.string f.r,.string f.c,.string f.d],.pointer (some ⟨g,0,none⟩)] w fun e w'=>e=.returned (.bool (RY u f))/\ae w w':=by
 have HB:Hid (ae w (w.alloc (.cells #[.string f.a,.string f.b,.string f.r,.string f.c,.string f.d] 29))):=(UV _ _).alloc (UU _) _;have heq:=iD f.c f.d u.t u.s rfl;go_enter func148,ntmps148;go_wp2;go_ret;exact⟨rfl,HB.out⟩
theorem TQ(xs:Array Value)(u:af):(callFunc 148 xs).run prog u=.ok (.enter 148 xs) u:=by kernel_rfl
theorem Ic(FC:Nat)(rc cp:Array Value)(p:Fc->Bool)(ad:Q02)(cap:Nat)(xs:Q04)(w:af)(hlen:xs.length<=1048576)(hs:o8 w ad xs)
  (hrun:∀(ys:Array Value) (u:World),(callFunc FC ys).run prog u=.ok (.enter FC ys) u) (hp:∀x∈xs,∀w1:World,ae w w1->Calls prog FC (rc.push (.agg #[.string x.a,.string x.b,.string x.r,.string x.c,.string x.d])++cp) w1 fun e w'=>e=.returned (.bool (p x))/\ae w1 w') :
  Calls prog 200 #[.slice ad xs.length cap,.func (Fn.func FC) rc cp] w fun e w'=>(∃r:Int,e=.returned (.int .i64 r)/\decide (0<=r)=xs.any p)/\ae w w':=by
 have HS:=aj hs;have YV:=aj hrun;have HP:=aj hp;clear hs hrun hp;have HD:Hid (∀k (h:k<xs.length),(xs.drop k).any p=(p xs[k] || (xs.drop (k+1)).any p)):=fun k h=>NA p h;go_enter func200,ntmps200;go_wp2_with fail;go_loopw[8] (fun i wr=>∃k:Nat,k<=xs.length/\i=.int .i64 k/\Hid ((xs.drop k).any p=xs.any p)/\Hid (ae w wr)) (fun i _=>xs.length-(intOf i).toNat);case atStart=>exact⟨0,UY _,rfl,rfl,UV _ _⟩
 obtain⟨k,hk,rfl,HQ,HB⟩:=hrel;by_cases hlt:k<xs.length
 ·obtain⟨b,off,V6,⟨t0,t1,t2,t3,t4⟩,hbl⟩:=o8.at0 (HS.out.below HB.out) hlt;have HM:Hid (xs[k]∈xs):=UR hlt;have hk1:=bG k;have hk2:(k:Int)<(xs.length:Int):=by omega
  have HD2:=aj (HD.out k hlt);subst V6;go_wp2_with fail;rw[YV.out,Oper.upon_enter];refine(HP.out _ HM.out _ HB.out).mono ?_;rintro e w1 ⟨rfl,hb1⟩;have HB1:=jR HB hb1;clear hb1 t0 t1 t2 t3 t4;cases he:p xs[k];case true=>
   have HN:Hid (xs.any p=true):=by show _=_;rw[<-HQ.out,HD2.out,he];rfl
   go_wp2;go_ret;exact⟨⟨k,rfl,by rw[HN.out];simp⟩,HB1.out⟩
  have HQ2:Hid ((xs.drop (k+1)).any p=xs.any p):=by show _=_;rw[<-HQ.out,HD2.out,he];rfl
  go_wp2;go_roundw;case rel=>exact⟨k+1,by omega,by go_num,HQ2,HB1⟩
  simp[intOf]<;>omega
 have HN:Hid (xs.any p=false):=by show _=_;rw[<-HQ.out,Vf (by omega)];rfl
 go_wp2;go_ret;exact⟨⟨-1,rfl,by rw[HN.out];simp⟩,HB.out⟩
theorem ru(FC:Nat)(rc cp:Array Value)(p:Fc->Bool)(ad:Q02)(cap:Nat)(xs:Q04)(w:af)(hlen:xs.length<=1048576)(hs:o8 w ad xs)
  (hrun:∀(ys:Array Value) (u:World),(callFunc FC ys).run prog u=.ok (.enter FC ys) u) (hp:∀x∈xs,∀w1:World,ae w w1->Calls prog FC (rc.push (.agg #[.string x.a,.string x.b,.string x.r,.string x.c,.string x.d])++cp) w1 fun e w'=>e=.returned (.bool (p x))/\ae w1 w') :
  Calls prog 147 #[.slice ad xs.length cap,.func (Fn.func FC) rc cp] w fun e w'=>e=.returned (.bool (xs.any p))/\ae w w':=by
 have HC:=aj (Ic FC rc cp p ad cap xs w hlen hs hrun hp);clear hs hrun hp;go_enter func147,ntmps147;go_wp2_with fail;refine HC.out.mono ?_;rintro e w' ⟨⟨r,rfl,hr⟩,hbx⟩;have HR:=aj hr;clear hr;go_wp2;go_ret;exact⟨by rw[<-HR.out];rfl,hbx⟩
theorem Kl{us:Q0a}{new:Q04}{k:Nat}(h:k<us.length):fC (us.take (k+1)) new=fC (us.take k) new++(if new.any (RY us[k]) then [us[k]] else []):=by
 unfold fC;rw[UX h,VZ];congr 1;rw[VW];rfl
theorem Ee(us:Q0a)(new:Q04):(fC us new).length<=us.length:=List.length_filter_le _ _
theorem ry(Xc:Q02)(Wn:Nat)(us:Q0a)(WX:Q02)(Wi:Nat)(new:Q04)(w:af)(Zt:us.length<=1000)(hnl:new.length<=1048576)(hu:lq w Xc us)(hf:o8 w WX new):
  Calls prog 103 #[.slice Xc us.length Wn,.slice WX new.length Wi] w fun e w'=>(∃v,e=.returned v/\w'.ownsRow w.heap.size 27 2 v (fC us new).length (pairs (fC us new)))/\ae w w':=by
 obtain⟨iO,h0,h1,h2,h3⟩:=Bj;have HIO:=aG (And.intro h0 (And.intro h1 (And.intro h2 h3)));have HU:=aG hu;have HF:=aG hf;have Xv:Hid (w.ownsRow w.heap.size 27 2 (.slice none 0 0) (fC (us.take 0) new).length (pairs (fC (us.take 0) new))):=World.ownsRow_nil _ _ _ _;clear hu hf h0 h1 h2 h3;go_enter func103,ntmps103;go_wp2_with fail;go_loopw[5,10] (fun v i wr=>∃k:Nat,k<=us.length/\i=.int .i64 k/\Hid (wr.ownsRow w.heap.size 27 2 v (fC (us.take k) new).length (pairs (fC (us.take k) new)))/\Hid (ae w wr)) (fun _ i _=>us.length-(intOf i).toNat);case atStart=>exact⟨0,UY _,rfl,Xv,UV _ _⟩
 clear Xv;obtain⟨k,hk,rfl,HO,HB⟩:=hrel;by_cases hlt:k<us.length
 ·obtain⟨b,off,V6,⟨t0,t1⟩,hbl⟩:=lq.at0 (HU.out.below HB.out) hlt;have hi1:=bG k;have hi2:(k:Int)<(us.length:Int):=by omega
  have Y4:=aG (Kl (new:=new) hlt);have hkl:=Ee (us.take k) new;rw[Vy]at hkl;obtain⟨u,hu⟩:∃u,u=us[k]:=⟨_,rfl⟩;rw[<-hu]at t0 t1 Y4;clear hu;obtain⟨W1,hW1⟩:∃W1,W1=wr.alloc (.cells #[.string u.t,.string u.s] 27):=⟨_,rfl⟩;have WM:=mI hW1;have HB1:=aG (HB.out.trans (WM.out.mono HB.out.size));have d0:W1.cell? ⟨wr.heap.size,0,none⟩=some (.string u.t):=by rw[hW1];simp
  have d1:W1.cell? ⟨wr.heap.size,1,none⟩=some (.string u.s):=by rw[hW1];simp
  have dl:wr.heap.size<W1.heap.size:=aF d0;have Wp:=aG (aY HO.out WM.out);obtain⟨ys,hys⟩:∃ys,ys=fC (us.take k) new:=⟨_,rfl⟩;rw[<-hys]at Wp Y4 hkl;obtain⟨adV,Yc,rfl,-⟩:=kK Wp.out;have Xd:=aG (ru 148 #[] #[.pointer (some ⟨wr.heap.size,0,none⟩)] (RY u) WX Wi new W1 hnl (HF.out.below HB1.out) TQ (fun x hx w1 hb=>RZ wr.heap.size u x w1 (UT dl hb.size) (aJ hb dl d0) (aJ hb dl d1)));subst V6;clear hys HO;go_wp2_with fail;rw[<-hW1];clear hW1 t0 t1;refine Xd.out.mono ?_;rintro e w2 ⟨rfl,hb2⟩;have HB2:=aG (HB1.out.trans (hb2.mono HB1.out.size));have V7:=aG (aY Wp.out hb2);replace d0:=aJ hb2 dl d0;replace d1:=aJ hb2 dl d1;replace dl:=UT dl hb2.size;clear hb2 Xd Wp WM;cases hh:new.any (RY u);case false=>
   have HR:Hid (w2.ownsRow w.heap.size 27 2 (.slice adV ys.length Yc) (fC (us.take (k+1)) new).length (pairs (fC (us.take (k+1)) new))):=by
    show World.ownsRow _ _ _ _ _ _ _;rw[Y4.out,hh];simp only[Bool.false_eq_true,if_false,VK];exact V7.out
   go_wp2;go_roundw;case rel=>exact⟨k+1,by omega,by go_num,HR,HB2⟩
   simp[intOf]<;>omega
  have HWE:Hid (fC (us.take (k+1)) new=ys++[u]):=by show _=_;rw[Y4.out,hh];rfl
  obtain⟨W4,WE⟩:∃W4,W4=w2.alloc (.cells #[.string u.t,.string u.s] 27):=⟨_,rfl⟩;have Wo:Hid (W4.ownsRow w.heap.size 27 2 (.slice adV ys.length Yc) ys.length (pairs ys)):=by show World.ownsRow _ _ _ _ _ _ _;rw[WE];exact V7.out.alloc _
  have HN4:Hid (∀j x,[Value.string u.t,.string u.s][j]?=some x->W4.cell? ((⟨w2.heap.size,0,none⟩:Addr).add j)=some x):=by rw[WE];exact SK w2 u
  have WW:Hid (ae w W4):=by show Below _ _ _;rw[WE];exact HB2.out.alloc HB2.out.size _
  have YT:w.heap.size<=W4.heap.size:=WW.out.size;clear hh;go_wp2_with(at_builtin;rw[<-WE];clear WE;refine wpList_append_own_at _ rfl _ _ 49 rfl w.heap.size 27 iO (.agg #[.string ⟨#[]⟩,.string ⟨#[]⟩]) 2 32 underlying49 HIO.out.1 HIO.out.2.1 HIO.out.2.2.1 HIO.out.2.2.2 rfl (by decide) _ ys.length (pairs ys) rfl Wo.out ⟨w2.heap.size,0,none⟩ 1 1 [.string u.t,.string u.s] rfl rfl HN4.out (by simp[Value.oneCell']) (by unfold maxLen;omega) (by omega) YT ?_);intro v' w5 hown hgr _ _;have HR:Hid (w5.ownsRow w.heap.size 27 2 v' (fC (us.take (k+1)) new).length (pairs (fC (us.take (k+1)) new))):=by
   show World.ownsRow _ _ _ _ _ _ _;rw[HWE.out,U2];have:pairs (ys++[u])=pairs ys++[.string u.t,.string u.s]:=by simp[pairs]
   rw[this];exact hown
  have YC:Hid (ae w w5):=WW.out.grown hgr WW.out.size (fun g hg=>(Wo.out.lt g hg).1);clear hown hgr d0 d1 dl;go_wp2;go_roundw;case rel=>exact⟨k+1,by omega,by go_num,HR,YC⟩
  simp[intOf]<;>omega
 have HE:Hid (wr.ownsRow w.heap.size 27 2 u5 (fC us new).length (pairs (fC us new))):=by
  have h:=HO.out;rw[Vs (by omega)]at h;exact h
 clear HO;go_wp2;go_ret;exact⟨⟨_,rfl,HE.out⟩,HB.out⟩
def BR(w:World)(S:Nat->Prop)(P:Value->Ru->Prop)(ad:Q02)(Gs:List Ru):Prop:=Gs=[] \/ ∃g,ad=some ⟨g,0,none⟩/\S g/\g<w.heap.size/\∀(i:Nat) (h:i<Gs.length),∃u,w.cell? ⟨g,i,none⟩=some u/\P u Gs[i]
def aN(w:World)(S:Nat->Prop):Nat->Value->Ru->Prop
 | 0,_,_=>False
 | n+1,v,G =>
  (∃b:Bool,v=.iface 183 (.agg #[.bool b])/\G=fun _=>b) \/
  (∃(ad:Q02) (cap:Nat) (fs:Q04),v=.iface 242 (.agg #[.slice ad fs.length cap])/\(fs=[] \/ ∃g,ad=some ⟨g,0,none⟩/\S g)/\o8 w ad fs/\(fs.length<=40/\(ad=none->cap=0))/\(∀x∈fs,x.fits)/\G=fun K=>fs.any K) \/
  (∃(ad:Q02) (cap:Nat) (Gs:List Ru),v=.iface 247 (.agg #[.slice ad Gs.length cap])/\Gs.length<=5/\BR w S (aN w S n) ad Gs/\G=fun K=>Gs.any fun H=>H K) \/
  (∃(ad:Q02) (cap:Nat) (Gs:List Ru),v=.iface 248 (.agg #[.slice ad Gs.length cap])/\Gs.length<=5/\BR w S (aN w S n) ad Gs/\G=fun K=>Gs.all fun H=>H K)
theorem o8.blockF{w w':af}{ad:Q02}{fs:Q04}(h:o8 w ad fs)(hs:w.heap.size<=w'.heap.size)(hz:fs≠[]->∃g,ad=some ⟨g,0,none⟩/\(g<w.heap.size->w'.heap[g]?=w.heap[g]?)):o8 w' ad fs:=by
 by_cases hx:fs=[]
 ·exact .inl hx
 rcases h with h|⟨b,off,e,hb,hr⟩
 ·exact absurd h hx
 obtain⟨g,e2,hg⟩:=hz hx;rw[e]at e2;injection e2 with e2;injection e2 with e2 e3;subst e2;exact .inr ⟨b,off,e,UT hb hs,fun i hi=>(hr i hi).same fun o=>Vh (w:=w) (a:=⟨b,o,none⟩) (hg hb)⟩
theorem aN.keep{w w':af}{S T:Nat->Prop}(hs:w.heap.size<=w'.heap.size)(hk:∀g,S g->g<w.heap.size->T g/\w'.heap[g]?=w.heap[g]?):∀(n:Nat) (v:Value) (G:Ru),aN w S n v G->aN w' T n v G
 | 0,_,_,h=>h
 | n+1,v,G,h=>by
  have row:∀{ad:Q02} {Gs:List Ru},BR w S (aN w S n) ad Gs->BR w' T (aN w' T n) ad Gs:=fun {ad Gs} h=>by
   rcases h with h|⟨g,e,h1,h2,h3⟩
   ·exact .inl h
   obtain⟨k1,k2⟩:=hk g h1 h2;refine .inr ⟨g,e,k1,UT h2 hs,fun i hi=>?_⟩;obtain⟨u,hu,hp⟩:=h3 i hi;exact⟨u,(Vh (w:=w) (a:=⟨g,i,none⟩) k2).trans hu,aN.keep hs hk n u _ hp⟩
  rcases h with h|⟨ad,cap,fs,e,hz,h1,h2,h3,h4⟩|⟨ad,cap,Gs,e,h1,h2,h3⟩|⟨ad,cap,Gs,e,h1,h2,h3⟩
  ·exact .inl h
  ·refine .inr (.inl ⟨ad,cap,fs,e,?_,?_,h2,h3,h4⟩)
   ·rcases hz with hz|⟨g,e1,hg⟩
    ·exact .inl hz
    by_cases hx:fs=[]
    ·exact .inl hx
    rcases h1 with h1|⟨b,off,e2,hb,-⟩
    ·exact absurd h1 hx
    rw[e1]at e2;injection e2 with e2;injection e2 with e2 e3;exact .inr ⟨g,e1,(hk g hg (by omega)).1⟩
   refine h1.blockF hs fun hne=>?_;rcases hz with hz|⟨g,e1,hg⟩
   ·exact absurd hz hne
   exact⟨g,e1,fun hl=>(hk g hg hl).2⟩
  ·exact .inr (.inr (.inl ⟨ad,cap,Gs,e,h1,row h2,h3⟩))
  exact .inr (.inr (.inr ⟨ad,cap,Gs,e,h1,row h2,h3⟩))
theorem aN.below{w w':af}{S:Nat->Prop}{n:Nat}{v:Value}{G:Ru}(h:aN w S n v G)(hb:ae w w'):aN w' S n v G:=aN.keep hb.size (fun g h1 h2=>⟨h1,hb.block g h2⟩) n v G h
theorem aN.more{w:af}{S:Nat->Prop}:∀(n:Nat) (v:Value) (G:Ru),aN w S n v G->aN w S (n+1) v G
 | 0,_,_,h=>h.elim
 | n+1,v,G,h=>by
  have row:∀{ad:Q02} {Gs:List Ru},BR w S (aN w S n) ad Gs->BR w S (aN w S (n+1)) ad Gs:=fun {ad Gs} h=>by
   rcases h with h|⟨g,e,h1,h2,h3⟩
   ·exact .inl h
   refine .inr ⟨g,e,h1,h2,fun i hi=>?_⟩;obtain⟨u,hu,hp⟩:=h3 i hi;exact⟨u,hu,aN.more n u _ hp⟩
  rcases h with h|h|⟨ad,cap,Gs,e,h1,h2,h3⟩|⟨ad,cap,Gs,e,h1,h2,h3⟩
  ·exact .inl h
  ·exact .inr (.inl h)
  ·exact .inr (.inr (.inl ⟨ad,cap,Gs,e,h1,row h2,h3⟩))
  exact .inr (.inr (.inr ⟨ad,cap,Gs,e,h1,row h2,h3⟩))
theorem aN.up{w:af}{S:Nat->Prop}{v:Value}{G:Ru}{n m:Nat}(h:aN w S n v G)(hm:n<=m):aN w S m v G:=by
 induction m with
 | zero =>
  have e:n=0:=by omega
  rw[e]at h;exact h
 | succ m ih =>
  by_cases e:n=m+1
  ·rw[<-e];exact h
  exact aN.more m v G (ih (by omega))
def jB(B:Nat)(g:Nat):Prop:=B<=g
theorem wQ{w:af}{B:Nat}{v:Value}{fs:Q04}(h:w.ownsRow B 29 5 v fs.length (aA fs))(hl:fs.length<=40)(hf:∀x∈fs,x.fits){G:Ru}(hG:G=fun K=>fs.any K):aN w (jB B) 1 (.iface 242 (.agg #[v])) G:=by
 obtain⟨ad,cap,e,hs⟩:=iP h;subst e;refine .inr (.inl ⟨ad,cap,fs,rfl,?_,hs,⟨hl,fun e=>?_⟩,hf,hG⟩);rotate_left
 ·subst e;rcases h.2 with⟨e2,-⟩|⟨g,cap2,cur,e2,-⟩
  ·injection e2
  cases e2
 by_cases hx:fs=[]
 ·exact .inl hx
 rcases h.2 with⟨-,h0⟩|⟨g,cap2,cur,e2,hbg,-⟩
 ·exact absurd (Vb.1 h0) hx
 injection e2 with e2;exact .inr ⟨g,e2,hbg⟩
theorem pG{w:af}{S:Nat->Prop}(b:Bool){G:Ru}(hG:G=fun _=>b):aN w S 1 (.iface 183 (.agg #[.bool b])) G:=.inl ⟨b,rfl,hG⟩
def uF(f:Fc)(L:Q05):List Fc:=(L.filter fun t=>!t.s.toList.isEmpty).map fun t=>⟨t.c,t.d,t.s,f.c,f.d⟩
def zo(f:Fc)(name:ByteArray)(L:Q05):List Fc:=L.map fun t=>⟨t.c,t.d,name,f.c,f.d⟩
theorem Qv(f:Fc){L:Q05}{k:Nat}(h:k<L.length):uF f (L.take (k+1))=uF f (L.take k)++(if L[k].s.toList.isEmpty then [] else [⟨L[k].c,L[k].d,L[k].s,f.c,f.d⟩]):=by
 unfold uF;rw[UX h,VZ,VG];congr 1;rw[VW];cases L[k].s.toList.isEmpty<;>rfl
theorem Qw(f:Fc)(name:bQ){L:Q05}{k:Nat}(h:k<L.length):zo f name (L.take (k+1))=zo f name (L.take k)++[⟨L[k].c,L[k].d,name,f.c,f.d⟩]:=by
 unfold zo;rw[UX h,VG];rfl
theorem Lf(f:Fc)(L:Q05):(uF f L).length<=L.length:=by unfold uF;rw[Vt];exact List.length_filter_le _ _
theorem Qx{f:Fc}{L:Q05}(hf:f.fits)(h:∀t∈L,t.fits):∀x∈uF f L,x.fits:=fun x hx=>by
 unfold uF at hx;obtain⟨t,ht,rfl⟩:=U7.1 hx;have h1:=h t (VM.1 ht).1;exact⟨h1.2.2.2.1,h1.2.2.2.2.1,h1.2.2.2.2.2,hf.2.2.2.1,hf.2.2.2.2⟩
theorem Qy{f:Fc}{name:ByteArray}{L:Q05}(hf:f.fits)(hn:name.size<=maxLen)(h:∀t∈L,t.fits):∀x∈zo f name L,x.fits:=fun x hx=>by
 unfold zo at hx;obtain⟨t,ht,rfl⟩:=U7.1 hx;have h1:=h t ht;exact⟨h1.2.2.2.1,h1.2.2.2.2.1,hn,hf.2.2.2.1,hf.2.2.2.2⟩
def qc(f:Fc)(t:Tp):Bool:=t.s.toList.isEmpty&&yw t.c t.d f.c f.d
theorem BS(f:Fc)(L:Q05)(K:Fc->Bool):L.any (H8 K f)=(L.any (qc f) || (uF f L).any K):=by
 induction L with
 | nil=>rfl
 | cons t L ih =>
  have e:uF f (t::L)=(if t.s.toList.isEmpty then [] else [⟨t.c,t.d,t.s,f.c,f.d⟩])++uF f L:=by
   unfold uF;rw[VW];cases t.s.toList.isEmpty<;>rfl
  rw[VY,VY,e,List.any_append,ih];unfold H8 qc;cases hs:t.s.toList.isEmpty
  ·simp only[Bool.false_eq_true,if_false,Bool.false_and,VY,List.any_nil,Bool.or_false,Bool.false_or];rw[<-Bool.or_assoc,Bool.or_comm (K _),Bool.or_assoc]
  simp only[if_true,Bool.true_and,List.any_nil,Bool.false_or];unfold yw;rw[Bool.or_assoc]
theorem Qz{ts:Q05}{f:Fc}(h:(G.lookL (bn ts) (f.a,f.b,f.r)).any (qc f)=true):rf ts f=fun _=>true:=by
 funext K
 unfold rf;rw[<-q8 ts (f.a,f.b,f.r) (H8 K f),BS,h];rfl
theorem R3{ts:Q05}{f:Fc}(h:(G.lookL (bn ts) (f.a,f.b,f.r)).any (qc f)=false):rf ts f=fun K=>(uF f (G.lookL (bn ts) (f.a,f.b,f.r))).any K:=by
 funext K
 unfold rf;rw[<-q8 ts (f.a,f.b,f.r) (H8 K f),BS,h];rfl
theorem R4{ts:Q05}{f:Fc}{over name:ByteArray}:Eb ts over name f=fun K=>(zo f name (G.lookL (bn ts) (f.a,f.b,over))).any K:=by
 funext K
 unfold Eb zo;rw[<-q8 ts (f.a,f.b,over) (fun t=>K ⟨t.c,t.d,name,f.c,f.d⟩),List.any_map];rfl
end Go.Proofs.YtajkkeikihhejaaGreat
