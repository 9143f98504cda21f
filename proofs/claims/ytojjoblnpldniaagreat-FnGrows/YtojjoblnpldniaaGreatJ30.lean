/- The program's question of a node that takes away. -/
import Derived.Test.YtojjoblnpldniaaGreatSq
import Derived.Test.YtojjoblnpldniaaGreatJ25
import Derived.Test.YtojjoblnpldniaaGreatJ28
open Go.Proofs.Tryz
set_option maxHeartbeats 80000000
namespace Go.Proofs.YtojjoblnpldniaaGreat
open Go.Sort
set_option linter.unusedVariables false
set_option maxRecDepth 100000
open ChangeShapes WideShapes ChangeAt RowKit Maps
open Pl
section
variable  {w:World}{rs:Q06}{D br bp bt bK nK:Nat}{n1:Int}{nr:Nat}{Mr:KL->Option Value}{Er:List (KL×RR)}{ts:Q05}{xo xu:Q0a}{np:Nat}{Mp:K3->Option Value}{vo vu:Value}{out:Q04}{f:Fc}{WM:Q02}{capE:Nat}{rows:Q08}{n:Nat}
theorem Re(hn:n<rows.length)(b0 b1:Bool)(hkl:rows[n].e.kids.length<=1000)(hk2l:2<=rows[n].e.kids.length)(hA:KC D (.slice WM rows.length capE) f bK w (rows[n].e.kids.getD 0 0) b0)(hB:KC D (.slice WM rows.length capE) f bK w (rows[n].e.kids.getD 1 0) b1)(hex:jw w WM rows)(hre:rows.length<=1000)(hk:rows[n].e.kind=6):
  Calls prog 232 #[.pointer (some ⟨D,0,none⟩),.slice WM rows.length capE,.int .i64 (n:Int),.agg #[.string f.a,.string f.b,.string f.r,.string f.c,.string f.d],.map (some bK)] w fun e w'=>e=.returned (.bool (b0 && !b1))/\ag w w':=by
 obtain⟨b,off,WO,⟨t0,t1,t2,t3,t4⟩,hbl,hok⟩:=jw.at0 hex hn;obtain⟨W0,hW0⟩:∃W0,W0=IX w D (.slice WM rows.length capE) f bK rows[n]:=⟨_,rfl⟩;have HB0:Hid (ag w W0):=by show Below _ _ _;rw[hW0];exact lQ _ _ _ _ _ _
 have HN0:Hid (NdB W0 w.heap.size D (.slice WM rows.length capE) f bK rows[n]):=by show NdB _ _ _ _ _ _ _;rw[hW0];exact lT _ _ _ _ _ _
 have hk1:(rows[n].e.kind==1)=false:=by rw[hk];rfl
 have hk2:(rows[n].e.kind==2)=false:=by rw[hk];rfl
 have hk3:(rows[n].e.kind==3)=false:=by rw[hk];rfl
 have hk4:(rows[n].e.kind==4)=false:=by rw[hk];rfl
 have hk5:(rows[n].e.kind==5)=false:=by rw[hk];rfl
 have hbl1:b<w.heap.size+1:=by omega
 have hbl2:b<w.heap.size+1+1:=by omega
 have hbl3:b<w.heap.size+1+1+1:=by omega
 have hn1:=bC n;have hn2:(n:Int)<(rows.length:Int):=by omega
 unfold IX yJ at hW0;have h0k:0<rows[n].e.kids.length:=by omega
 have h1k:1<rows[n].e.kids.length:=by omega
 obtain⟨bJ,offJ,Xl,z0,hbK⟩:=wL.at0 hok.2 h0k;have z1:w.cell? ⟨bJ,offJ+1,none⟩=some (.int .i64 rows[n].e.kids[1]):=by
  obtain⟨b',off',ZJ,z1,-⟩:=wL.at0 hok.2 h1k;rw[Xl]at ZJ;injection ZJ with e;injection e with e1 e2;rw[e1,e2];exact z1
 obtain⟨i0,hi0⟩:∃i,i=rows[n].e.kids[0]:=⟨_,rfl⟩;obtain⟨i1,hi1⟩:∃i,i=rows[n].e.kids[1]:=⟨_,rfl⟩;have g0:rows[n].e.kids.getD 0 0=i0:=by rw[hi0,V6,Vy h0k];rfl
 have g1:rows[n].e.kids.getD 1 0=i1:=by rw[hi1,V6,Vy h1k];rfl
 rw[g0]at hA;rw[g1]at hB;rw[<-hi0,Nat.add_zero]at z0;rw[<-hi1]at z1;obtain⟨kl,hkl'⟩:∃kl,kl=rows[n].e.kids.length:=⟨_,rfl⟩;obtain⟨cK,hcK⟩:∃c,c=rows[n].capK:=⟨_,rfl⟩;have hl0:(0:Int)<(kl:Int):=by omega
 have hl1:(1:Int)<(kl:Int):=by omega
 have h0k':0<kl:=by omega
 have h1k':1<kl:=by omega
 have HA:Hid (∀w1,ag W0 w1->_):=fun w1 hb=>pK hA (HB0.out.trans (hb.mono HB0.out.size)) (HN0.out.below hb);have Yu:Hid (∀w1,ag W0 w1->_):=fun w1 hb=>wG hB (HB0.out.trans (hb.mono HB0.out.size)) (HN0.out.below hb);have HZ:Hid (W0.cell? ⟨bJ,offJ,none⟩=some (.int .i64 i0)/\W0.cell? ⟨bJ,offJ+1,none⟩=some (.int .i64 i1)/\bJ<W0.heap.size):=⟨(HB0.out.cell (p:=⟨bJ,offJ,none⟩) hbK).trans z0,(HB0.out.cell (p:=⟨bJ,offJ+1,none⟩) hbK).trans z1,Vq hbK HB0.out.size⟩;have HX4:Hid (W0.cell? ⟨w.heap.size+1+1+1+1,4,none⟩=some (.slice (some ⟨bJ,offJ,none⟩) kl cK)):=by show _=_;rw[HN0.out.x4,Xl,<-hkl',<-hcK]
 have HV5:Hid (W0.cell? ⟨w.heap.size+1+1+1+1+1,0,none⟩=some (.func (Fn.func 282) #[] #[.pointer (some ⟨w.heap.size,0,none⟩),.pointer (some ⟨w.heap.size+1,0,none⟩),.pointer (some ⟨w.heap.size+1+1,0,none⟩),.pointer (some ⟨w.heap.size+1+1+1,0,none⟩)])):=HN0.out.v;clear hA hB hex hk hok z0 z1 Xl h0k h1k g0 g1 hi0 hi1;subst WO;go_enter func232,ntmps232;go_wp2_with fail;rw[<-hW0];clear hW0 t0 t1 t2 t3 t4;clear hk1 hk2 hk3 hk4 hk5 hkl' hcK;have HAA:Hid (∀d os,Calls prog 282 #[.int .i64 i0,.pointer (some ⟨w.heap.size,0,none⟩),.pointer (some ⟨w.heap.size+1,0,none⟩),.pointer (some ⟨w.heap.size+1+1,0,none⟩),.pointer (some ⟨w.heap.size+1+1+1,0,none⟩)] (grow (redrawn W0 d) os) fun e w''=>e=.returned (.bool b0)/\∃p:Regrown,w''=grow (redrawn W0 p.d) p.os):=by
  refine dm fun W' hb=>?_;exact HA.out _ hb
 have HBQ:Hid (∀d os,Calls prog 283 #[.int .i64 i1,.pointer (some ⟨w.heap.size+1+1+1+1+1,0,none⟩)] (grow (redrawn W0 d) os) fun e w''=>e=.returned (.bool (!b1))/\∃p:Regrown,w''=grow (redrawn W0 p.d) p.os):=by
  refine dm fun W' hb=>?_;exact Yu.out _ hb
 have x4:=cell_regrown HX4.out;have v5:=cell_regrown HV5.out;have z0:=cell_regrown HZ.out.1;have z1:=cell_regrown HZ.out.2.1;clear HA Yu HN0;cases b0
 case' true =>
  skip
 case' false =>
  skip
 all_goals
  refine wp_region_quiet_below (by kernel_rfl) (by kernel_rfl) ?_
  repeat(go_big_quiet_step (first|exact HAA.out _ _|exact HBQ.out _ _))
  refine wpQuiet_nil ?_;rintro _ ⟨⟨dq,osq⟩,rfl⟩;go_wp2;go_ret;exact⟨rfl,HB0.out.trans ((below_regrown W0 dq osq).mono HB0.out.size)⟩
end
def SK(u:Al)(g:Fc):Bool:=Ay g.c g.d u.t u.s
theorem Oj(p:Fc->Bool){zs:Q04}{k:Nat}(h:k<zs.length):(zs.drop k).any p=(p zs[k] || (zs.drop (k+1)).any p):=by rw[VZ h];rfl
theorem Au.at0{w:ae}{ad:Q02}{fs:Q04}(h:Au w ad fs){k:Nat}(hk:k<fs.length):∃b off,ad=some ⟨b,off,none⟩/\MO w b (off+k*5) fs[k]/\b<w.heap.size:=by
 rcases h with h|⟨b',off',e,hb,hr⟩
 ·rw[h]at hk;simp at hk
 exact⟨b',off',e,hr k hk,hb⟩
theorem SN(g:Nat)(u:Al)(f:Fc)(w:ae)(hg:g<w.heap.size)(h0:w.cell? ⟨g,0,none⟩=some (.string u.t))(h1:w.cell? ⟨g,1,none⟩=some (.string u.s)):
  Calls prog 205 #[.agg #[.string f.a,.string f.b,.string f.r,.string f.c,.string f.d],.pointer (some ⟨g,0,none⟩)] w fun e w'=>e=.returned (.bool (SK u f))/\ag w w':=by
 have HB:Hid (ag w (w.alloc (.cells #[.string f.a,.string f.b,.string f.r,.string f.c,.string f.d] 52))):=(Vs _ _).alloc (Vr _) _;have heq:=jM f.c f.d u.t u.s rfl;go_enter func205,ntmps205;go_wp2;go_ret;exact⟨rfl,HB.out⟩
theorem UA(xs:Array Value)(u:ae):(callFunc 205 xs).run prog u=.ok (.enter 205 xs) u:=by kernel_rfl
theorem IE(FC:Nat)(rc cp:Array Value)(p:Fc->Bool)(ad:Q02)(cap:Nat)(xs:Q04)(w:ae)(hlen:xs.length<=1048576)(hs:Au w ad xs)
  (hrun:∀(ys:Array Value) (u:World),(callFunc FC ys).run prog u=.ok (.enter FC ys) u) (hp:∀x∈xs,∀w1:World,ag w w1->Calls prog FC (rc.push (.agg #[.string x.a,.string x.b,.string x.r,.string x.c,.string x.d])++cp) w1 fun e w'=>e=.returned (.bool (p x))/\ag w1 w') :
  Calls prog 270 #[.slice ad xs.length cap,.func (Fn.func FC) rc cp] w fun e w'=>(∃r:Int,e=.returned (.int .i64 r)/\decide (0<=r)=xs.any p)/\ag w w':=by
 have HS:=aF hs;have HRUN:=aF hrun;have HP:=aF hp;clear hs hrun hp;have HD:Hid (∀k (h:k<xs.length),(xs.drop k).any p=(p xs[k] || (xs.drop (k+1)).any p)):=fun k h=>Oj p h;go_enter func270,ntmps270;go_wp2_with fail;go_loopw[8] (fun i wr=>∃k:Nat,k<=xs.length/\i=.int .i64 k/\Hid ((xs.drop k).any p=xs.any p)/\Hid (ag w wr)) (fun i _=>xs.length-(intOf i).toNat);case atStart=>exact⟨0,Vv _,rfl,rfl,Vs _ _⟩
 obtain⟨k,hk,rfl,HQ,HB⟩:=hrel;by_cases hlt:k<xs.length
 ·obtain⟨b,off,WO,⟨t0,t1,t2,t3,t4⟩,hbl⟩:=Au.at0 (HS.out.below HB.out) hlt;have HM:Hid (xs[k]∈xs):=Vp hlt;have hk1:=bC k;have hk2:(k:Int)<(xs.length:Int):=by omega
  have HD2:=aF (HD.out k hlt);subst WO;go_wp2_with fail;rw[HRUN.out,Oper.upon_enter];refine(HP.out _ HM.out _ HB.out).mono ?_;rintro e w1 ⟨rfl,hb1⟩;have HB1:=iJ HB hb1;clear hb1 t0 t1 t2 t3 t4;cases he:p xs[k];case true=>
   have HN:Hid (xs.any p=true):=by show _=_;rw[<-HQ.out,HD2.out,he];rfl
   go_wp2;go_ret;exact⟨⟨k,rfl,by rw[HN.out];simp⟩,HB1.out⟩
  have HQ2:Hid ((xs.drop (k+1)).any p=xs.any p):=by show _=_;rw[<-HQ.out,HD2.out,he];rfl
  go_wp2;go_roundw;case rel=>exact⟨k+1,by omega,by go_num,HQ2,HB1⟩
  simp[intOf]<;>omega
 have HN:Hid (xs.any p=false):=by show _=_;rw[<-HQ.out,VN (by omega)];rfl
 go_wp2;go_ret;exact⟨⟨-1,rfl,by rw[HN.out];simp⟩,HB.out⟩
theorem BX(FC:Nat)(rc cp:Array Value)(p:Fc->Bool)(ad:Q02)(cap:Nat)(xs:Q04)(w:ae)(hlen:xs.length<=1048576)(hs:Au w ad xs)
  (hrun:∀(ys:Array Value) (u:World),(callFunc FC ys).run prog u=.ok (.enter FC ys) u) (hp:∀x∈xs,∀w1:World,ag w w1->Calls prog FC (rc.push (.agg #[.string x.a,.string x.b,.string x.r,.string x.c,.string x.d])++cp) w1 fun e w'=>e=.returned (.bool (p x))/\ag w1 w') :
  Calls prog 204 #[.slice ad xs.length cap,.func (Fn.func FC) rc cp] w fun e w'=>e=.returned (.bool (xs.any p))/\ag w w':=by
 have HC:=aF (IE FC rc cp p ad cap xs w hlen hs hrun hp);clear hs hrun hp;go_enter func204,ntmps204;go_wp2_with fail;refine HC.out.mono ?_;rintro e w' ⟨⟨r,rfl,hr⟩,hbx⟩;have HR:=aF hr;clear hr;go_wp2;go_ret;exact⟨by rw[<-HR.out];rfl,hbx⟩
theorem KS{us:Q0a}{new:Q04}{k:Nat}(h:k<us.length):fw (us.take (k+1)) new=fw (us.take k) new++(if new.any (SK us[k]) then [us[k]] else []):=by
 unfold fw;rw[Vu h,WJ];congr 1;rw[WG];rfl
theorem Ei(us:Q0a)(new:Q04):(fw us new).length<=us.length:=List.length_filter_le _ _
theorem rE(XF:Q02)(WU:Nat)(us:Q0a)(adF:Q02)(XQ:Nat)(new:Q04)(w:ae)(ZU:us.length<=1000)(hnl:new.length<=1048576)(hu:lu w XF us)(hf:Au w adF new):
  Calls prog 136 #[.slice XF us.length WU,.slice adF new.length XQ] w fun e w'=>(∃v,e=.returned v/\w'.ownsRow w.heap.size 27 2 v (fw us new).length (pairs (fw us new)))/\ag w w':=by
 obtain⟨iO,h0,h1,h2,h3⟩:=Av;have Zq:=aD (And.intro h0 (And.intro h1 (And.intro h2 h3)));have HU:=aD hu;have HF:=aD hf;have Yd:Hid (w.ownsRow w.heap.size 27 2 (.slice none 0 0) (fw (us.take 0) new).length (pairs (fw (us.take 0) new))):=World.ownsRow_nil _ _ _ _;clear hu hf h0 h1 h2 h3;go_enter func136,ntmps136;go_wp2_with fail;go_loopw[5,10] (fun v i wr=>∃k:Nat,k<=us.length/\i=.int .i64 k/\Hid (wr.ownsRow w.heap.size 27 2 v (fw (us.take k) new).length (pairs (fw (us.take k) new)))/\Hid (ag w wr)) (fun _ i _=>us.length-(intOf i).toNat);case atStart=>exact⟨0,Vv _,rfl,Yd,Vs _ _⟩
 clear Yd;obtain⟨k,hk,rfl,HO,HB⟩:=hrel;by_cases hlt:k<us.length
 ·obtain⟨b,off,WO,⟨t0,t1⟩,hbl⟩:=lu.at0 (HU.out.below HB.out) hlt;have hi1:=bC k;have hi2:(k:Int)<(us.length:Int):=by omega
  have HKT:=aD (KS (new:=new) hlt);have hkl:=Ei (us.take k) new;rw[Wi]at hkl;obtain⟨u,hu⟩:∃u,u=us[k]:=⟨_,rfl⟩;rw[<-hu]at t0 t1 HKT;clear hu;obtain⟨W1,hW1⟩:∃W1,W1=wr.alloc (.cells #[.string u.t,.string u.s] 27):=⟨_,rfl⟩;have XY:=sH hW1;have HB1:=aD (HB.out.trans (XY.out.mono HB.out.size));have d0:W1.cell? ⟨wr.heap.size,0,none⟩=some (.string u.t):=by rw[hW1];simp
  have d1:W1.cell? ⟨wr.heap.size,1,none⟩=some (.string u.s):=by rw[hW1];simp
  have dl:wr.heap.size<W1.heap.size:=aI d0;have Xb:=aD (dw HO.out XY.out);obtain⟨ys,hys⟩:∃ys,ys=fw (us.take k) new:=⟨_,rfl⟩;rw[<-hys]at Xb HKT hkl;obtain⟨adV,aae,rfl,-⟩:=mh Xb.out;have Xy:=aD (BX 205 #[] #[.pointer (some ⟨wr.heap.size,0,none⟩)] (SK u) adF XQ new W1 hnl (HF.out.below HB1.out) UA (fun x hx w1 hb=>SN wr.heap.size u x w1 (Vq dl hb.size) (bW hb dl d0) (bW hb dl d1)));subst WO;clear hys HO;go_wp2_with fail;rw[<-hW1];clear hW1 t0 t1;refine Xy.out.mono ?_;rintro e w2 ⟨rfl,hb2⟩;have HB2:=aD (HB1.out.trans (hb2.mono HB1.out.size));have WL:=aD (dw Xb.out hb2);replace d0:=bW hb2 dl d0;replace d1:=bW hb2 dl d1;replace dl:=Vq dl hb2.size;clear hb2 Xy Xb XY;cases hh:new.any (SK u);case false=>
   have HR:Hid (w2.ownsRow w.heap.size 27 2 (.slice adV ys.length aae) (fw (us.take (k+1)) new).length (pairs (fw (us.take (k+1)) new))):=by
    show World.ownsRow _ _ _ _ _ _ _;rw[HKT.out,hh];simp only[Bool.false_eq_true,if_false,Wp];exact WL.out
   go_wp2;go_roundw;case rel=>exact⟨k+1,by omega,by go_num,HR,HB2⟩
   simp[intOf]<;>omega
  have HWE:Hid (fw (us.take (k+1)) new=ys++[u]):=by show _=_;rw[HKT.out,hh];rfl
  obtain⟨W4,XT⟩:∃W4,W4=w2.alloc (.cells #[.string u.t,.string u.s] 27):=⟨_,rfl⟩;have WZ:Hid (W4.ownsRow w.heap.size 27 2 (.slice adV ys.length aae) ys.length (pairs ys)):=by show World.ownsRow _ _ _ _ _ _ _;rw[XT];exact WL.out.alloc _
  have HN4:Hid (∀j x,[Value.string u.t,.string u.s][j]?=some x->W4.cell? ((⟨w2.heap.size,0,none⟩:Addr).add j)=some x):=by rw[XT];exact TD w2 u
  have Y7:Hid (ag w W4):=by show Below _ _ _;rw[XT];exact HB2.out.alloc HB2.out.size _
  have hsz4:w.heap.size<=W4.heap.size:=Y7.out.size;clear hh;go_wp2_with(at_builtin;rw[<-XT];clear XT;refine wpList_append_own_at _ rfl _ _ 192 rfl w.heap.size 27 iO (.agg #[.string ⟨#[]⟩,.string ⟨#[]⟩]) 2 32 underlying192 Zq.out.1 Zq.out.2.1 Zq.out.2.2.1 Zq.out.2.2.2 rfl (by decide) _ ys.length (pairs ys) rfl WZ.out ⟨w2.heap.size,0,none⟩ 1 1 [.string u.t,.string u.s] rfl rfl HN4.out (by simp[Value.oneCell']) (by unfold maxLen;omega) (by omega) hsz4 ?_);intro v' w5 hown hgr _ _;have HR:Hid (w5.ownsRow w.heap.size 27 2 v' (fw (us.take (k+1)) new).length (pairs (fw (us.take (k+1)) new))):=by
   show World.ownsRow _ _ _ _ _ _ _;rw[HWE.out,Vx];have:pairs (ys++[u])=pairs ys++[.string u.t,.string u.s]:=by simp[pairs]
   rw[this];exact hown
  have Z5:Hid (ag w w5):=Y7.out.grown hgr Y7.out.size (fun g hg=>(WZ.out.lt g hg).1);clear hown hgr d0 d1 dl;go_wp2;go_roundw;case rel=>exact⟨k+1,by omega,by go_num,HR,Z5⟩
  simp[intOf]<;>omega
 have HE:Hid (wr.ownsRow w.heap.size 27 2 u5 (fw us new).length (pairs (fw us new))):=by
  have h:=HO.out;rw[V8 (by omega)]at h;exact h
 clear HO;go_wp2;go_ret;exact⟨⟨_,rfl,HE.out⟩,HB.out⟩
def Vb(K:Fc->Bool)(f:Fc)(t:Tp):Bool:=if t.s.toList.isEmpty then t.c.toList==f.c.toList&&t.d.toList==f.d.toList else K ⟨t.c,t.d,t.s,f.c,f.d⟩
abbrev Ru:=(Fc->Bool)->Bool
def Vd(l:Q05)(f:Fc):Ru:=fun K=>l.any fun t=>(t.a.toList==f.a.toList&&t.b.toList==f.b.toList&&t.r.toList==f.r.toList)&&Vb K f t
def Ve(l:Q05)(over name:ByteArray)(f:Fc):Ru:=fun K=>l.any fun t=>(t.a.toList==f.a.toList&&t.b.toList==f.b.toList&&t.r.toList==over.toList)&&K ⟨t.c,t.d,name,f.c,f.d⟩
def gN(l:Q05)(es:Q09)(truth:Q04)(f:Fc):Nat->Nat->Ru
 | 0,_=>fun _=>false
 | k+1,n=>match es[n]? with
  | none=>fun _=>false
  | some x =>
   if x.kind=1 then Vd l f
   else if x.kind=2 then fun K=>K ⟨f.a,f.b,x.name,f.c,f.d⟩
   else if x.kind=3 then Ve l x.over x.name f
   else if x.kind=4 then fun K=>x.kids.any fun i=>gN l es truth f k i.toNat K
   else if x.kind=5 then fun K=>x.kids.all fun i=>gN l es truth f k i.toNat K
   else if x.kind=6 then if dK l es truth f k truth (x.kids.getD 1 0).toNat then fun _=>false else gN l es truth f k (x.kids.getD 0 0).toNat
   else fun _=>false
set_option linter.unusedSectionVars false
section
variable  {φ:Type}[DecidableEq φ]{rk:φ->Int}{H:List φ->φ->Bool}{qs:Nat->List φ}
def IG(H:List φ->φ->Bool)(out:List φ):Prop:=∀(i:Nat) (h:i<out.length),H (out.take i) out[i]=true
theorem Rf:IG H []:=fun i h=>absurd h (Wx _)
theorem Ol{out:List φ}(h:IG H out)(f:φ):IG H (dV H out f):=by
 unfold dV;split
 ·exact h
 rename_i hn;have hH:H out f=true:=by
  cases e:H out f;case true=>rfl
  exact absurd (.inr e) hn
 intro i hi;rw[Vx,VW]at hi;by_cases e:i<out.length
 ·rw[VO e,List.take_append_of_le_length (by omega)];exact h i e
 have e2:i=out.length:=by omega
 subst e2;rw[V5 (Vr _),List.take_append_of_le_length (Vr _),VI];simpa using hH
theorem II:∀(q:List φ) {out:List φ},IG H out->IG H (bB H q out)
 | [],_,h=>h
 | f::q,out,h=>II q (Ol h f)
theorem Ej(q:List φ):∀(k:Nat) {out:List φ},IG H out->IG H (iM H q k out)
 | 0,_,h=>h
 | k+1,out,h=>by
  unfold iM;split
  ·exact h
  exact Ej q k (II q h)
theorem LW:∀N,IG H (ui H qs N)
 | 0=>Rf
 | N+1=>Ej (qs N) _ (LW N)
end
section
variable  [DecidableEq Fc]
theorem LX(ts:Q0b)(l:Q05)(st:Q00)(xo xu:Q0a):∀N,kV ts l st xo xu N=ui (fu ts l) (fun n=>bF ts st xo xu (n:Int)) N
 | 0=>rfl
 | N+1=>by rw[iw,LX ts l st xo xu N];rfl
end
end Go.Proofs.YtojjoblnpldniaaGreat
