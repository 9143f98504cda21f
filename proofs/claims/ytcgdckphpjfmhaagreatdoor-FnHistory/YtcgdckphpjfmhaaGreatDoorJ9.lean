/- Contract of the document's reader: one more node. -/
import Derived.Test.YtcgdckphpjfmhaaGreatDoorSq
import Derived.Test.YtcgdckphpjfmhaaGreatDoorJ8
open Go.Proofs.Tryz
set_option maxHeartbeats 80000000
namespace Go.Proofs.YtcgdckphpjfmhaaGreatDoor
set_option maxRecDepth 100000
open ChangeShapes WideShapes ChangeAt RowKit
open Pl
structure Onl(R:Nat)(v:Value)(w w':World):Prop where
 os:w'.os=w.os
 tape:w'.tape=w.tape
 output:w'.output=w.output
 size:w.heap.size<=w'.heap.size
 block:∀k,k<w.heap.size->k≠R->v.ownBlock≠some k->w'.heap[k]?=w.heap[k]?
def ER.cells(q:ER):Array Value:=#[.int .i64 q.e.kind,.slice q.adA q.e.allow.length q.capA,.string q.e.over,.string q.e.name,.slice q.adK q.e.kids.length q.capK]
theorem Av{w:ae}{a:Addr}{v:Value}(h:w.cell? a=some v)(o:Obj):(w.alloc o).cell? a=some v:=by
 have hlt:=World.block_lt_of_cell? w a h;rw[((VD w.heap.size w).alloc (VC _) o).cell hlt];exact h
def yH(w:World)(g:Nat)(q:ER):Prop:=w.cell? ⟨g,0,none⟩=some (.int .i64 q.e.kind)/\w.cell? ⟨g,1,none⟩=some (.slice q.adA q.e.allow.length q.capA)/\w.cell? ⟨g,2,none⟩=some (.string q.e.over)/\w.cell? ⟨g,3,none⟩=some (.string q.e.name)/\w.cell? ⟨g,4,none⟩=some (.slice q.adK q.e.kids.length q.capK)/\g<w.heap.size
theorem yH.grown{w w':ae}{g:Nat}{q:ER}{row:Option Nat}(h:yH w g q)(hg:w.grownBy w' row)(hne:some g≠row):yH w' g q :=
 ⟨hg.cell h.1 hne,hg.cell h.2.1 hne,hg.cell h.2.2.1 hne,hg.cell h.2.2.2.1 hne,hg.cell h.2.2.2.2.1 hne,Vy h.2.2.2.2.2 hg.size⟩
theorem Onl.grown{R:Nat}{v:Value}{w w' w'':ae}{row:Option Nat}(h:Onl R v w w')(hg:w'.grownBy w'' row)(hr:∀k,k<w.heap.size->k≠R->v.ownBlock≠some k->some k≠row):Onl R v w w'' :=
 ⟨hg.os.trans h.os,hg.tape.trans h.tape,hg.output.trans h.output,VJ h.size hg.size,fun k hk h1 h2=>(hg.block k (Vy hk h.size) (hr k hk h1 h2)).trans (h.block k hk h1 h2)⟩
theorem fJ{W:ae}{base:Nat}{e:TypeId}{size:Nat}{v:Value}{k:Nat}{xs:Q03}(h:W.ownsRow base e size v (k+1) xs):∃g cap,v=.slice (some ⟨g,0,none⟩) (k+1) cap:=by
 rcases h.2 with⟨_,h0⟩|⟨g,cap,_,rfl,_⟩
 ·omega
 exact⟨g,cap,rfl⟩
theorem Onl.at_own{R:Nat}{v:Value}{w w':ae}(h:Onl R v w w')(o:Nat)(u:Value):Onl R v w (w'.setCell ⟨R,o,none⟩ u) :=
 ⟨h.os,h.tape,h.output,by simpa using h.size,fun k hk h1 h2=>(Below.heap_setCell w' _ _ k h1).trans (h.block k hk h1 h2)⟩
theorem RdC.put{w:ae}{R:Nat}{s:ByteArray}{p:Nat}{bad:Bool}{v:Value}(h:RdC w R s p bad v)(u:Value):RdC (w.setCell ⟨R,3,none⟩ u) R s p bad u :=
 ⟨by simpa using h.lt,by rw[mO (by omega)];exact h.c0,by rw[mO (by omega)];exact h.c1,by rw[mO (by omega)];exact h.c2,mS h.c3,fun j=>by simpa using h.fr j⟩
theorem RdC.hurt{w:ae}{R:Nat}{s:ByteArray}{p:Nat}{bad:Bool}{v:Value}(h:RdC w R s p bad v):RdC (w.setCell ⟨R,2,none⟩ (.bool true)) R s p true v :=
 ⟨by simpa using h.lt,by rw[mO (by omega)];exact h.c0,by rw[mO (by omega)];exact h.c1,mS h.c2,by rw[mO (by omega)];exact h.c3,fun j=>by simpa using h.fr j⟩
structure GA(R:Nat)(s:ByteArray)(p:Nat)(bad:Bool)(v:Value)(base n:Nat)(xs:Q03)(q:ER)(w:World)(listed:Array Bool)(w':World):Prop where
 rd:RdC w' R s p bad v
 box:yH w' w.heap.size q
 onl:Onl R v w w'
 own:listed.getD 7 false=false->w'.ownsRow base 188 5 v n xs
 small:listed.getD 6 false=false->w'.heap.size=w.heap.size+1
theorem Jk{listed:Array Bool}{i L:Nat}(h:listed.getD i true=false)(hs:listed.size=L)(hi:i<L):listed.getD i false=false:=by
 rw[<-ko (by omega)];exact h
theorem GA.step{R:Nat}{s:ByteArray}{p:Nat}{bad:Bool}{v:Value}{base n:Nat}{xs:Q03}{q:ER}{w w':ae}{listed:Array Bool}(h:GA R s p bad v base n xs q w listed w'){i:Nat}(hls:listed.size=11)(h6:i≠6)(h7:i≠7):GA R s p bad v base n xs q w (listed.setIfInBounds i true) w' :=
 ⟨h.rd,h.box,h.onl,fun k=>h.own (by
  by_cases hi:i<11
  ·rw[aO _ _ _ (by omega),if_neg (Ne.symm h7)]at k;exact k
  ·rw[show listed.setIfInBounds i true=listed by rw[Array.setIfInBounds_eq_of_size_le (by omega)]]at k;exact k),fun k=>h.small (by
  by_cases hi:i<11
  ·rw[aO _ _ _ (by omega),if_neg (Ne.symm h6)]at k;exact k
  rw[show listed.setIfInBounds i true=listed by rw[Array.setIfInBounds_eq_of_size_le (by omega)]]at k;exact k)⟩
theorem GA.made{R:Nat}{s:ByteArray}{p:Nat}{bad:Bool}{v:Value}{base n:Nat}{xs:Q03}{q:ER}{w w':ae}{listed:Array Bool}(h:GA R s p bad v base n xs q w listed w'){i:Nat}(hls:listed.size=11){o:Obj}(hi:i=6:=by rfl):GA R s p bad v base n xs q w (listed.setIfInBounds i true) (w'.alloc o):=by
 subst hi;have hg:=World.grownBy_alloc w' o none;refine⟨h.rd.grown hg (by simp),h.box.grown hg (by simp),h.onl.grown hg (by simp),fun k=>(h.own ?_).alloc _,fun k=>?_⟩
 ·rw[aO _ _ _ (by omega),if_neg (by omega)]at k;exact k
 rw[aO _ _ _ (by omega),if_pos rfl]at k;cases k
def VA(l:Q03)(base n:Nat)(v:Value)(q:ER)(xs:Q03)(w:World)(k:Nat)(u:Value)(w':World):Prop :=
 (k≠6/\k≠7->u=l.getD k undef) /\
 (k=6->u=.slice (some ⟨w.heap.size+1,0,none⟩) 1 1/\(∀j x,q.row[j]?=some x->w'.cell? ((⟨w.heap.size+1,0,none⟩:Addr).add j)=some x)/\w.heap.size+1<w'.heap.size) /\
 (k=7->∃g cap,u=.slice (some ⟨g,0,none⟩) (n+1) cap/\w'.ownsRow base 188 5 (.slice (some ⟨g,0,none⟩) (n+1) cap) (n+1) (xs++q.row)/\(v.ownBlock=some g\/w.heap.size<=g))
theorem VA.at{l:Q03}{base n:Nat}{v:Value}{q:ER}{xs:Q03}{w:ae}{k:Nat}{u:Value}{w':ae}(h:k≠6/\k≠7)(hu:u=l.getD k undef):VA l base n v q xs w k u w':=⟨fun _=>hu,fun e=>absurd e h.1,fun e=>absurd e h.2⟩
theorem VA.alloc{l:Q03}{base n:Nat}{v:Value}{q:ER}{xs:Q03}{w w':ae}{i:Nat}{o:Obj}:∀k u,k≠i->VA l base n v q xs w k u w'->VA l base n v q xs w k u (w'.alloc o):=fun k u _ h =>
 ⟨h.1,fun e=>⟨(h.2.1 e).1,fun j x hj=>Av ((h.2.1 e).2.1 j x hj) o,Vy (h.2.1 e).2.2 (by simp)⟩,fun e=>by obtain⟨g,cap,e1,e2,e3⟩:=h.2.2 e;exact⟨g,cap,e1,e2.alloc _,e3⟩⟩
theorem GA.appended{R:Nat}{s:ByteArray}{p:Nat}{bad:Bool}{v:Value}{base n:Nat}{xs:Q03}{q:ER}{w w' w'':ae}{listed:Array Bool}(h:GA R s p bad v base n xs q w listed w')(hls:listed.size=11)(hg:w'.grownBy w'' v.ownBlock)(hR:v.ownBlock≠some R)(hX:v.ownBlock≠some w.heap.size)(hb6:w.heap.size+1<w'.heap.size):GA R s p bad v base n xs q w (listed.setIfInBounds 7 true) w'':=by
 refine⟨h.rd.grown hg (Ne.symm hR),h.box.grown hg (Ne.symm hX),h.onl.grown hg (fun k _ _ h2=>Ne.symm h2),fun k=>?_,fun k=>?_⟩
 ·rw[aO _ _ _ (by omega),if_pos rfl]at k;cases k
 rw[aO _ _ _ (by omega),if_neg (by omega)]at k;have:=h.small k;omega
theorem VA.app{l:Q03}{base n:Nat}{v:Value}{q:ER}{xs:Q03}{w w' w'':ae}(hg:w'.grownBy w'' v.ownBlock)(hX:v.ownBlock≠some (w.heap.size+1)):∀k u,k≠7->VA l base n v q xs w k u w'->VA l base n v q xs w k u w'':=fun k u hk h =>
 ⟨h.1,fun e=>⟨(h.2.1 e).1,fun j x hj=>hg.cell ((h.2.1 e).2.1 j x hj) (by rw[show((⟨w.heap.size+1,0,none⟩:Addr).add j).block=w.heap.size+1 by unfold Addr.add;split<;>rfl];exact Ne.symm hX),Vy (h.2.1 e).2.2 hg.size⟩,fun e=>absurd e hk⟩
theorem Rs(R:Nat)(s:bW)(p:Nat)(bad:Bool)(v:Value)(base n:Nat)(xs:Q03)(q:ER)(w:ae)(h:RdC w R s p bad v)(hown:w.ownsRow base 188 5 v n xs)(hR:R<base)(hB:base<=w.heap.size)(hn:n<=100000):
  Calls prog 245 #[.pointer (some ⟨R,0,none⟩),q.val] w fun e w'=>∃(g cap:Nat),e=.returned (.int .i64 (n:Int))/\RdC w' R s p (bad || decide (15<n+1)) (.slice (some ⟨g,0,none⟩) (n+1) cap)/\w'.ownsRow base 188 5 (.slice (some ⟨g,0,none⟩) (n+1) cap) (n+1) (xs++q.row)/\Onl R v w w'/\(v.ownBlock=some g\/w.heap.size<=g):=by
 obtain⟨iT,hiT,zT0,zT1,zT2⟩:=info_parts (P:=prog) (e:=188) (z:=.agg #[.int .i64 0,.slice none 0 0,.string ⟨#[]⟩,.string ⟨#[]⟩,.slice none 0 0]) (size:=5) (bytes:=88) (by kernel_rfl);have HIT:=ai (And.intro hiT (And.intro zT0 (And.intro zT1 zT2)));have H:=ai h;have HO:=ai hown;have hlt:=h.lt;clear h hown hiT zT0 zT1 zT2;have hne:v.ownBlock≠some R:=fun e=>by have:=(HO.out.lt R e).1;omega
 have HNE:=ai hne;have HNX:Hid (v.ownBlock≠some w.heap.size):=fun e=>by have:=(HO.out.lt _ e).2;omega
 have HNX1:Hid (v.ownBlock≠some (w.heap.size+1)):=fun e=>by have:=(HO.out.lt _ e).2;omega
 clear hne;unfold ER.val;obtain⟨W0,hW0⟩:∃W0,W0=w.alloc (.cells #[.int .i64 q.e.kind,.slice q.adA q.e.allow.length q.capA,.string q.e.over,.string q.e.name,.slice q.adK q.e.kids.length q.capK] 188):=⟨_,rfl⟩;have HG0:Hid (GA R s p bad v base n xs q w (Array.replicate 11 false) W0.drew):=by
  have hg:=World.grownBy_alloc w (.cells #[.int .i64 q.e.kind,.slice q.adA q.e.allow.length q.capA,.string q.e.over,.string q.e.name,.slice q.adK q.e.kids.length q.capK] 188) none;show GA _ _ _ _ _ _ _ _ _ _ _ _;rw[hW0];refine⟨(H.out.grown hg (by simp)).drewN 1,⟨?_,?_,?_,?_,?_,?_⟩,⟨rfl,rfl,rfl,by simp[World.drew],fun k hk _ _=>hg.block k hk (by simp)⟩,fun _=>(HO.out.alloc _).drew,fun _=>by simp[World.drew]⟩<;>simp
 go_enter func245,ntmps245;go_wp2_with fail;rw[<-hW0];clear hW0;refine lX 10 _ _ (VA (Value.pointer (some ⟨R,0,none⟩)::.pointer (some ⟨R,0,none⟩)::.pointer (some ⟨R,0,none⟩)::.pointer (some ⟨R,3,none⟩)::v::.agg #[.int .i64 q.e.kind,.slice q.adA q.e.allow.length q.capA,.string q.e.over,.string q.e.name,.slice q.adK q.e.kids.length q.capK]::.slice (some ⟨w.heap.size+1,0,none⟩) 1 1::undef::.pointer (some ⟨R,0,none⟩)::.pointer (some ⟨R,3,none⟩)::[]) base n v q xs w) (GA R s p bad v base n xs q w) (by kernel_rfl) rfl (by decide +kernel) (by decide +kernel) (BJ [(5,[0,1,2,3,4,5,6,7,8,9])]) HG0.out ?stepA ?finA<;>dsimp only[yV];case stepA =>
  rintro i hi o ho listed f w' hls Yk hG hpre;have HG:=ai hG;have HM:Hid (∀e∈o.after,Region.binds .any e=true->_):=hpre;clear hG hpre;have hc:=Fy (i:=i) (by omega);clear hi
  repeat' rcases hc with rfl|hc
  ·cases ho;have HS:=ai (HG.out.step (i:=0) hls (by decide) (by decide));refine aa rfl fun K HK=>?_;clear HM;dsimp only;go_simp;exact HK.out _ _ ⟨Value.pointer (some ⟨R,0,none⟩),by simp[upd],HS.out,VA.at (by decide) rfl,fun k u _ hu=>hu⟩
  ·cases ho;have HS:=ai (HG.out.step (i:=1) hls (by decide) (by decide));refine aa rfl fun K HK=>?_;clear HM;dsimp only;go_simp;exact HK.out _ _ ⟨Value.pointer (some ⟨R,0,none⟩),by simp[upd],HS.out,VA.at (by decide) rfl,fun k u _ hu=>hu⟩
  ·cases ho;have e1:f 1=Value.pointer (some ⟨R,0,none⟩):=(HM.out ⟨1,.data⟩ (by simp) rfl).1 (by decide);have HS:=ai (HG.out.step (i:=2) hls (by decide) (by decide));refine aa rfl fun K HK=>?_;clear HM;simp only[e1];go_simp;exact HK.out _ _ ⟨Value.pointer (some ⟨R,0,none⟩),by simp[upd,e1],HS.out,VA.at (by decide) rfl,fun k u _ hu=>hu⟩
  ·cases ho;have e2:f 2=Value.pointer (some ⟨R,0,none⟩):=(HM.out ⟨2,.data⟩ (by simp) rfl).1 (by decide);have HS:=ai (HG.out.step (i:=3) hls (by decide) (by decide));refine aa rfl fun K HK=>?_;clear HM;simp only[e2];go_simp;exact HK.out _ _ ⟨Value.pointer (some ⟨R,3,none⟩),by simp[upd,e2],HS.out,VA.at (by decide) rfl,fun k u _ hu=>hu⟩
  ·cases ho;have e3:f 3=Value.pointer (some ⟨R,3,none⟩):=(HM.out ⟨3,.data⟩ (by simp) rfl).1 (by decide);have c3:=HG.out.rd.c3;have HS:=ai (HG.out.step (i:=4) hls (by decide) (by decide));refine aa rfl fun K HK=>?_;clear HM;simp only[e3];go_simp;exact HK.out _ _ ⟨v,by simp[upd,e3],HS.out,VA.at (by decide) rfl,fun k u _ hu=>hu⟩
  ·cases ho;obtain⟨x0,x1,x2,x3,x4,xl⟩:=HG.out.box;have HS:=ai (HG.out.step (i:=5) hls (by decide) (by decide));refine aa rfl fun K HK=>?_;clear HM;dsimp only;go_simp;exact HK.out _ _ ⟨Value.agg #[.int .i64 q.e.kind,.slice q.adA q.e.allow.length q.capA,.string q.e.over,.string q.e.name,.slice q.adK q.e.kids.length q.capK],by simp[upd],HS.out,VA.at (by decide) rfl,fun k u _ hu=>hu⟩
  ·cases ho;have e5:f 5=Value.agg #[.int .i64 q.e.kind,.slice q.adA q.e.allow.length q.capA,.string q.e.over,.string q.e.name,.slice q.adK q.e.kids.length q.capK]:=(HM.out ⟨5,.data⟩ (by simp) rfl).1 (by decide);have hz:=HG.out.small (Jk Yk hls (by omega));have HS:Hid (∀o,GA R s p bad v base n xs q w (listed.setIfInBounds 6 true) (w'.alloc o)):=fun o=>HG.out.made (i:=6) hls;refine aa rfl fun K HK=>?_;clear HM;simp only[e5];go_simp;exact HK.out _ _ ⟨.slice (some ⟨w'.heap.size,0,none⟩) 1 1,by simp[upd,e5],HS.out _,⟨fun h=>absurd rfl h.1,fun _=>⟨by rw[hz],fun j u hj=>by have:=Lu w' q j u hj;rw[hz]at this;exact this,by simp;omega⟩,fun h=>absurd h (by decide)⟩,VA.alloc⟩
  ·cases ho;have e4:f 4=v:=(HM.out ⟨4,.data⟩ (by simp) rfl).1 (by decide);obtain⟨e6,hnews,hb6⟩:=(HM.out ⟨6,.data⟩ (by simp) rfl).2.1 rfl;replace e6:f 6=Value.slice (some ⟨w.heap.size+1,0,none⟩) 1 1:=e6;have hown:=HG.out.own (Jk Yk hls (by omega));clear HM;refine kM _ rfl rfl _ _ 147 rfl base 188 iT (.agg #[.int .i64 0,.slice none 0 0,.string ⟨#[]⟩,.string ⟨#[]⟩,.slice none 0 0]) 5 88 underlying147 HIT.out.1 HIT.out.2.1 HIT.out.2.2.1 HIT.out.2.2.2 rfl (by decide) v n xs e4 hown ⟨w.heap.size+1,0,none⟩ 1 1 q.row e6 rfl hnews (Oo q) (by unfold maxLen;omega) (by omega) (by have:=HG.out.onl.size;omega) ?_;intro v7 w7 Xz YC hat7;obtain⟨g7,c7,rfl⟩:=fJ Xz;refine⟨.slice (some ⟨g7,0,none⟩) (n+1) c7,by simp[upd,e4,e6,Act.put],HG.out.appended hls YC HNE.out HNX.out hb6,⟨fun h=>absurd rfl h.2,fun h=>absurd h (by decide),fun _=>⟨g7,c7,rfl,Xz,?_⟩⟩,VA.app YC HNX1.out⟩;rcases hat7 with e|e
   ·exact .inl e.symm
   simp[Value.ownBlock]at e;exact .inr (by have:=HG.out.onl.size;omega)
  ·cases ho;have e0:f 0=Value.pointer (some ⟨R,0,none⟩):=(HM.out ⟨0,.data⟩ (by simp) rfl).1 (by decide);have HS:=ai (HG.out.step (i:=8) hls (by decide) (by decide));refine aa rfl fun K HK=>?_;clear HM;simp only[e0];go_simp;exact HK.out _ _ ⟨Value.pointer (some ⟨R,0,none⟩),by simp[upd,e0],HS.out,VA.at (by decide) rfl,fun k u _ hu=>hu⟩
  cases ho;have e8:f 8=Value.pointer (some ⟨R,0,none⟩):=(HM.out ⟨8,.data⟩ (by simp) rfl).1 (by decide);have HS:=ai (HG.out.step (i:=9) hls (by decide) (by decide));refine aa rfl fun K HK=>?_;clear HM;simp only[e8];go_simp;exact HK.out _ _ ⟨Value.pointer (some ⟨R,3,none⟩),by simp[upd,e8],HS.out,VA.at (by decide) rfl,fun k u _ hu=>hu⟩
 case finA =>
  rintro o ho listed f w' hG hall;cases ho;obtain⟨g,cap,e7,Xz,hat⟩:=(hall 7 (by omega)).2.2 rfl;have e9:f 9=Value.pointer (some ⟨R,3,none⟩):=(hall 9 (by omega)).1 (by decide);have HR:=ai hG.rd;have HN:=ai hG.onl;have HW:=ai Xz;have HA:=ai hat;have c3:=hG.rd.c3;have f3:=hG.rd.fr 3;have hl3:=hG.rd.lt;clear hall hG Xz hat;refine wpOp_step rfl (fun K hK=>?_);have HK:Hid (∀a w,_->K a w):=hK;clear hK;simp only[e7,e9];go_simp;refine HK.out _ _ ?_;clear HK;obtain⟨W8,YV⟩:∃W8,W8=w'.setCell ⟨R,3,none⟩ (.slice (some ⟨g,0,none⟩) (n+1) cap):=⟨_,rfl⟩;have HR8:Hid (RdC W8 R s p bad (.slice (some ⟨g,0,none⟩) (n+1) cap)):=by rw[YV];exact HR.out.put _
  have HN8:Hid (Onl R v w W8):=by rw[YV];exact HN.out.at_own _ _
  have HW8:Hid (W8.ownsRow base 188 5 (.slice (some ⟨g,0,none⟩) (n+1) cap) (n+1) (xs++q.row)):=by rw[YV];exact ownsRow_setCell_below HW.out hR _
  rw[<-YV];clear YV HR HN HW c3 f3 hl3 e7 e9;have c2:=HR8.out.c2;have c3:=HR8.out.c3;have f2:=HR8.out.fr 2;have hl8:=HR8.out.lt;have hwr:IntKind.i64.wrap (((n:Int)+1)-1)=(n:Int):=by simp[IntKind.wrap,IntKind.bits,IntKind.signed];omega
  by_cases hbig:15<n+1
  ·have hd:decide ((15:Int)<(n:Int)+1)=true:=by simp;omega
   have HB:=ai hbig;clear hbig;go_wp2;exact bodyPost_ret (v:=.int .i64 (n:Int)) (by simp[results,Tryz.results245,go_sem]) rfl ⟨g,cap,rfl,by rw[show decide (15<n+1)=true from decide_eq_true HB.out,Bool.or_true];exact HR8.out.hurt,ownsRow_setCell_below HW8.out hR _,HN8.out.at_own _ _,HA.out⟩
  have hd:decide ((15:Int)<(n:Int)+1)=false:=by simp;omega
  have HB:=ai hbig;clear hbig;go_wp2;exact bodyPost_ret (v:=.int .i64 (n:Int)) (by simp[results,Tryz.results245,go_sem]) rfl ⟨g,cap,rfl,by rw[show decide (15<n+1)=false from decide_eq_false HB.out,Bool.or_false];exact HR8.out,HW8.out,HN8.out,HA.out⟩
structure Went(R:Nat)(v:Value)(w:World)(v':Value)(w':World):Prop where
 onl:Onl R v w w'
 own:v'.ownBlock=v.ownBlock \/ ∃g,v'.ownBlock=some g/\w.heap.size<=g
theorem Onl.refl(R:Nat)(v:Value)(w:ae):Onl R v w w:=⟨rfl,rfl,rfl,VC _,fun _ _ _ _=>rfl⟩
theorem Went.refl(R:Nat)(v:Value)(w:ae):Went R v w v w:=⟨Onl.refl R v w,.inl rfl⟩
theorem Went.apart{R:Nat}{v v':Value}{w w':ae}(h:Went R v w v' w'){k:Nat}(hk:k<w.heap.size)(hv:v.ownBlock≠some k):v'.ownBlock≠some k:=by
 rcases h.own with e|⟨g,e,hg⟩
 ·rw[e];exact hv
 rw[e];intro h2;injection h2 with h2;omega
theorem Went.trans{R:Nat}{v v1 v2:Value}{w w1 w2:ae}(h:Went R v w v1 w1)(h2:Went R v1 w1 v2 w2):Went R v w v2 w2:=by
 refine⟨⟨h2.onl.os.trans h.onl.os,h2.onl.tape.trans h.onl.tape,h2.onl.output.trans h.onl.output,VJ h.onl.size h2.onl.size,fun k hk h3 h4=>(h2.onl.block k (Vy hk h.onl.size) h3 (h.apart hk h4)).trans (h.onl.block k hk h3 h4)⟩,?_⟩;rcases h2.own with e|⟨g,e,hg⟩
 ·rw[e];exact h.own
 exact .inr ⟨g,e,VJ h.onl.size hg⟩
abbrev oz:Value:=.slice none 0 0
theorem Onl.any{R:Nat}{w w':ae}(h:Onl R oz w w')(v:Value):Went R v w v w':=⟨⟨h.os,h.tape,h.output,h.size,fun k hk h1 _=>h.block k hk h1 (by simp[Value.ownBlock])⟩,.inl rfl⟩
theorem Onl.of_grown{R:Nat}{w w':ae}(h:w.grownBy w' (some R)):Onl R oz w w':=⟨h.os,h.tape,h.output,h.size,fun k hk h1 _=>h.block k hk (fun e=>h1 (by injection e))⟩
theorem Onl.trans0{R:Nat}{w w1 w2:ae}(h:Onl R oz w w1)(h2:Onl R oz w1 w2):Onl R oz w w2:=((h.any oz).trans (h2.any oz)).onl
theorem Onl.of_below{R:Nat}{w w':ae}(h:af w w'):Onl R oz w w':=⟨h.os,h.tape,h.output,h.size,fun k hk _ _=>h.block k hk⟩
def BV(w:World)(base:Nat)(q:ER):Prop:=(q.e.kids=[]/\q.adK=none/\q.capK=0)\/(q.e.kids≠[]/\w.ownsRow base 2 1 (.slice q.adK q.e.kids.length q.capK) q.e.kids.length (ints q.e.kids))
structure RdF(w:World)(R:Nat)(s:ByteArray)(st:RS)(base:Nat)(v:Value)(qs:Q08):Prop where
 rd:RdC w R s st.p st.bad v
 own:w.ownsRow base 188 5 v qs.length (jL qs)
 out:aj qs=st.out
 zA:∀q∈qs,q.e.allow≠[]->∃g,q.adA=some ⟨g,0,none⟩
 zK:∀q∈qs,q.e.kids≠[]->∃g,q.adK=some ⟨g,0,none⟩
 ok:∀q∈qs,q.ok w
 lie:∀q∈qs,∀g,qd q g->base<=g/\g<w.heap.size/\jJ w g/\v.ownBlock≠some g
 one:∀q∈qs,∀g,bA q g->¬bK q g
 two:∀(x y:Nat) (hx:x<qs.length) (hy:y<qs.length),x≠y->∀g,qd qs[x] g->¬qd qs[y] g
 cA:∀q∈qs,q.e.allow.length<=q.capA
 cK:∀q∈qs,BV w base q
theorem BV.heap{w w':ae}{base:Nat}{q:ER}(h:BV w base q)(hz:q.e.kids≠[]->∃g,q.adK=some ⟨g,0,none⟩)(hh:∀g,qd q g->w'.heap[g]?=w.heap[g]?):BV w' base q:=by
 rcases h with h|⟨hne,h⟩
 ·exact .inl h
 obtain⟨g,eg⟩:=hz hne;refine .inr ⟨hne,jv h fun g' hg'=>?_⟩;rw[eg]at hg';have:g=g':=by simpa[Value.ownBlock] using hg'
 subst this;exact hh g (.inr ⟨hne,eg⟩)
theorem BV.mono{w:ae}{base base':Nat}{q:ER}(h:BV w base q)(hb:base'<=base):BV w base' q:=by
 rcases h with h|⟨hne,h⟩
 ·exact .inl h
 refine .inr ⟨hne,h.1,?_⟩;rcases h.2 with hl|⟨g,cap,cur,e,h1,h2⟩
 ·exact .inl hl
 exact .inr ⟨g,cap,cur,e,VJ hb h1,h2⟩
theorem RdF.over{w w':ae}{R:Nat}{s:ByteArray}{st:RS}{base:Nat}{v:Value}{qs:Q08}(h:RdF w R s st base v qs)(hR:R<base)(ho:Onl R oz w w'){p:Nat}{bad:Bool}(hr:RdC w' R s p bad v):RdF w' R s ⟨p,bad,st.out⟩ base v qs where
 rd:=hr
 own:=jv h.own fun g hg=>ho.block g (h.own.lt g hg).2 (by have:=(h.own.lt g hg).1;omega) (by simp[Value.ownBlock])
 out:=h.out
 zA:=h.zA
 zK:=h.zK
 ok q hq:=rQ (h.ok q hq) ho.size (h.zA q hq) (h.zK q hq) fun g hg=>ho.block g (h.lie q hq g hg).2.1 (by have:=(h.lie q hq g hg).1;omega) (by simp[Value.ownBlock])
 lie q hq g hg:=by
  obtain⟨h1,h2,h3,h4⟩:=h.lie q hq g hg;exact⟨h1,Vy h2 ho.size,cz h3 (ho.block g h2 (by omega) (by simp[Value.ownBlock])),h4⟩
 one:=h.one
 two:=h.two
 cA:=h.cA
 cK q hq:=(h.cK q hq).heap (h.zK q hq) fun g hg=>ho.block g (h.lie q hq g hg).2.1 (by have:=(h.lie q hq g hg).1;omega) (by simp[Value.ownBlock])
theorem L9(R:Nat)(s:bW)(st:RS)(base:Nat)(v:Value)(qs:Q08)(q:ER)(w:ae)(h:RdF w R s st base v qs)(hR:R<base)(hB:base<=w.heap.size)(hn:qs.length<=100000)
  (hq:NewQ base w q) (YW:BV w base q) (ha:∀g,qd q g->v.ownBlock≠some g/\∀q'∈qs,¬qd q' g) :
  Calls prog 245 #[.pointer (some ⟨R,0,none⟩),q.val] w fun e w'=>∃v',e=.returned (.int .i64 (st.out.length:Int))/\RdF w' R s (sF q.e st) base v' (qs++[q])/\Went R v w v' w':=by
 have hlen:qs.length=st.out.length:=by rw[<-h.out];simp[aj]
 refine(Rs R s st.p st.bad v base qs.length (jL qs) q w h.rd h.own hR hB hn).mono ?_;rintro e w' ⟨g,cap,rfl,hrd,hown,honl,hat⟩;have hW:Went R v w (.slice (some ⟨g,0,none⟩) (qs.length+1) cap) w':=⟨honl,by
  rcases hat with e|e
  ·exact .inl (by rw[e];rfl)
  exact .inr ⟨g,rfl,e⟩⟩
 have keep:∀k,k<w.heap.size->base<=k->v.ownBlock≠some k->w'.heap[k]?=w.heap[k]?:=fun k h1 h2 h3=>honl.block k h1 (by omega) h3;refine⟨.slice (some ⟨g,0,none⟩) (qs.length+1) cap,by rw[hlen],?_,hW⟩;refine⟨by unfold sF;rw[<-hlen];exact hrd,?_,?_,?_,?_,?_,?_,?_,?_,?_,?_⟩
 ·rw[VI,Wh,II];exact hown
 ·simp[aj,sF,<-h.out]
 ·intro q' hq';rcases VL.1 hq' with h1|h1
  ·exact h.zA q' h1
  rw[VK]at h1;subst h1;exact hq.zA
 ·intro q' hq';rcases VL.1 hq' with h1|h1
  ·exact h.zK q' h1
  rw[VK]at h1;subst h1;exact hq.zK
 ·intro q' hq';rcases VL.1 hq' with h1|h1
  ·exact rQ (h.ok q' h1) honl.size (h.zA q' h1) (h.zK q' h1) fun k hk=>keep k (h.lie q' h1 k hk).2.1 (h.lie q' h1 k hk).1 (h.lie q' h1 k hk).2.2.2
  rw[VK]at h1;subst h1;exact rQ hq.ok honl.size hq.zA hq.zK fun k hk=>keep k (hq.lie k hk).2.1 (hq.lie k hk).1 (ha k hk).1
 ·intro q' hq' k hk;rcases VL.1 hq' with h1|h1
  ·obtain⟨a1,a2,a3,a4⟩:=h.lie q' h1 k hk;exact⟨a1,Vy a2 honl.size,cz a3 (keep k a2 a1 a4),hW.apart a2 a4⟩
  rw[VK]at h1;subst h1;obtain⟨a1,a2,a3⟩:=hq.lie k hk;exact⟨a1,Vy a2 honl.size,cz a3 (keep k a2 a1 (ha k hk).1),hW.apart a2 (ha k hk).1⟩
 ·intro q' hq';rcases VL.1 hq' with h1|h1
  ·exact h.one q' h1
  rw[VK]at h1;subst h1;exact hq.one
 ·intro x y hx hy hxy k hkx hky;rw[VI,Wh]at hx hy;by_cases ex:x<qs.length
  ·rw[VY ex]at hkx;by_cases ey:y<qs.length
   ·rw[VY ey]at hky;exact h.two x y ex ey hxy k hkx hky
   have:y=qs.length:=by omega
   subst this;rw[Wj (VC _)]at hky;simp at hky;exact(ha k hky).2 _ (Vz ex) hkx
  have:x=qs.length:=by omega
  subst this;rw[Wj (VC _)]at hkx;simp at hkx;have ey:y<qs.length:=by omega
  rw[VY ey]at hky;exact(ha k hkx).2 _ (Vz ey) hky
 ·intro q' hq';rcases VL.1 hq' with h1|h1
  ·exact h.cA q' h1
  rw[VK]at h1;subst h1;exact hq.cA
 intro q' hq';rcases VL.1 hq' with h1|h1
 ·exact(h.cK q' h1).heap (h.zK q' h1) fun k hk=>keep k (h.lie q' h1 k hk).2.1 (h.lie q' h1 k hk).1 (h.lie q' h1 k hk).2.2.2
 rw[VK]at h1;subst h1;exact YW.heap hq.zK fun k hk=>keep k (hq.lie k hk).2.1 (hq.lie k hk).1 (ha k hk).1
def vz(R:Nat)(s:ByteArray)(base:Nat)(v:Value)(qs:Q08)(w:World)(x:Int×RS)(e:Ending)(w':World):Prop :=
 ∃v' ns,e=.returned (.int .i64 x.1)/\RdF w' R s x.2 base v' (qs++ns)/\Went R v w v' w'/\∀q∈ns,∀g,qd q g->w.heap.size<=g
def ul(s:ByteArray)(x:Int×RS):Int×RS:=if lw s eY x.2 then (x.1,kC eY x.2) else (x.1,uR x.2)
theorem Jl{s:ByteArray}{x:Int×RS}(h:ny s eY x.2.p x.2.bad=true):ul s x=(x.1,kC eY x.2):=if_pos h
theorem Ma{s:ByteArray}{x:Int×RS}(h:ny s eY x.2.p x.2.bad=false):ul s x=(x.1,uR x.2):=if_neg (fun e=>by rw[lw,<-ny,h]at e;cases e)
theorem RdF.is_no{w w':ae}{R:Nat}{s t:ByteArray}{st:RS}{base:Nat}{v:Value}{qs:Q08}(h:RdF w R s st base v qs)(hR:R<base)(hb:ny s t st.p st.bad=false)(hr:RdC w' R s (Ri s t st.p st.bad) st.bad v)(hg:w.grownBy w' (some R)):RdF w' R s st base v qs:=by
 rw[zP hb]at hr;exact h.over hR (Onl.of_grown hg) hr
theorem RdF.is_yes{w w':ae}{R:Nat}{s t:ByteArray}{st:RS}{base:Nat}{v:Value}{qs:Q08}(h:RdF w R s st base v qs)(hR:R<base)(hb:ny s t st.p st.bad=true)(hr:RdC w' R s (Ri s t st.p st.bad) st.bad v)(hg:w.grownBy w' (some R)):RdF w' R s (kC t st) base v qs:=by
 rw[uS hb]at hr;exact h.over hR (Onl.of_grown hg) hr
theorem Aw{s t:ByteArray}{p:Nat}{bad:Bool}(h:ny s t p bad=true):p+t.size<=s.size:=by
 unfold ny at h;simp only[VF]at h;exact FT h.2
theorem OY(R:Nat)(s:bW)(st:RS)(base:Nat)(v:Value)(qs:Q08)(w:ae)(h:RdF w R s st base v qs)(hR:R<base)(hs:s.size<=1000)(hp:st.p<=s.size)
  (h0:ny s fQ st.p st.bad=false) (h1:ny s jB st.p st.bad=true) (x:Int×RS) (hx:x.2.p<=s.size)
  (hrow:∀w1,RdF w1 R s (kC jB st) base v qs->w.heap.size<=w1.heap.size->Calls prog 226 #[.pointer (some ⟨R,0,none⟩)] w1 (vz R s base v qs w1 x)) :
  Calls prog 242 #[.pointer (some ⟨R,0,none⟩)] w (vz R s base v qs w (ul s x)):=by
 have H:=ai h;have Yn:=ai hrow;have HX:=ai hx;have HP:=ai hp;clear h hrow hx hp;go_enter func242,ntmps242;go_wp2_with fail;refine(ma R s fQ st.p st.bad v w H.out.rd hs HP.out (by decide)).mono ?_;rintro e w1 ⟨rfl,hr1,hg1⟩;have Ya:=ai (H.out.is_no hR h0 hr1 hg1);have Xj:=ai (Onl.of_grown hg1);rw[h0];clear hr1 hg1 h0;go_wp2_with fail;refine(ma R s jB st.p st.bad v w1 Ya.out.rd hs HP.out (by decide)).mono ?_;rintro e w2 ⟨rfl,hr2,hg2⟩;have XW:=ai (Ya.out.is_yes hR h1 hr2 hg2);have WV:=ai (Xj.out.trans0 (Onl.of_grown hg2));rw[h1];clear hr2 hg2 h1;go_wp2_with fail;refine(Yn.out w2 XW.out WV.out.size).mono ?_;rintro e w3 ⟨v3,ns,rfl,hF3,hW3,hns⟩;have HF3:=ai hF3;have HW3:=ai ((WV.out.any v).trans hW3);have HNS:Hid (∀q∈ns,∀g,qd q g->w.heap.size<=g):=fun q hq g hg=>VJ WV.out.size (hns q hq g hg);clear hF3 hW3 hns Ya Xj XW WV Yn;go_wp2_with fail;refine(ma R s eY x.2.p x.2.bad v3 w3 HF3.out.rd hs HX.out (by decide)).mono ?_;rintro e w4 ⟨rfl,hr4,hg4⟩;cases hc:ny s eY x.2.p x.2.bad;case true=>
  have YR:=ai (HF3.out.is_yes hR hc hr4 hg4);have HW4:=ai (HW3.out.trans ((Onl.of_grown hg4).any v3));have EQ:=ai (Jl (x:=x) hc);clear hr4 hg4 hc;go_wp2;exact bodyPost_ret (v:=.int .i64 x.1) (by simp[results,Tryz.results242,go_sem]) rfl (by rw[EQ.out];exact⟨v3,ns,rfl,YR.out,HW4.out,HNS.out⟩)
 have YR:=ai (HF3.out.is_no hR hc hr4 hg4);have HW4:=ai (HW3.out.trans ((Onl.of_grown hg4).any v3));have c2:=YR.out.rd.c2;have f2:=YR.out.rd.fr 2;have hl:=YR.out.rd.lt;have EQ:=ai (Ma (x:=x) hc);clear hr4 hg4 hc;go_wp2;exact bodyPost_ret (v:=.int .i64 x.1) (by simp[results,Tryz.results242,go_sem]) rfl (by rw[EQ.out];exact⟨v3,ns,rfl,YR.out.over hR ((Onl.refl R oz w4).at_own _ _) YR.out.rd.hurt,HW4.out.trans (((Onl.refl R oz w4).at_own _ _).any v3),HNS.out⟩)
theorem Onl.at_new{R:Nat}{v:Value}{w w':ae}(h:Onl R v w w'){X:Nat}(hX:w.heap.size<=X)(o:Nat)(u:Value):Onl R v w (w'.setCell ⟨X,o,none⟩ u) :=
 ⟨h.os,h.tape,h.output,by simpa using h.size,fun k hk h1 h2=>(Below.heap_setCell w' _ _ k (by show k≠X;omega)).trans (h.block k hk h1 h2)⟩
theorem RdC.other{w:ae}{R:Nat}{s:ByteArray}{p:Nat}{bad:Bool}{v:Value}(h:RdC w R s p bad v){X:Nat}(hX:X≠R)(o:Nat)(u:Value):RdC (w.setCell ⟨X,o,none⟩ u) R s p bad v :=
 ⟨by simpa using h.lt,by rw[VR (w:=w) (Below.heap_setCell w _ _ R (Ne.symm hX))];exact h.c0,by rw[VR (w:=w) (Below.heap_setCell w _ _ R (Ne.symm hX))];exact h.c1,by rw[VR (w:=w) (Below.heap_setCell w _ _ R (Ne.symm hX))];exact h.c2,by rw[VR (w:=w) (Below.heap_setCell w _ _ R (Ne.symm hX))];exact h.c3,fun j=>by simpa using h.fr j⟩
theorem RdC.below{w w':ae}{R:Nat}{s:ByteArray}{p:Nat}{bad:Bool}{v:Value}(h:RdC w R s p bad v)(hb:af w w'):RdC w' R s p bad v :=
 h.grown (row:=none) ⟨hb.os,hb.tape,hb.output,hb.size,fun k hk _=>hb.block k hk⟩ (by simp)
theorem yH.below{w w':ae}{g:Nat}{q:ER}(h:yH w g q)(hb:af w w'):yH w' g q :=
 h.grown (row:=none) ⟨hb.os,hb.tape,hb.output,hb.size,fun k hk _=>hb.block k hk⟩ (by simp)
def bare(k:Int)(o n:ByteArray):ER:=⟨⟨k,[],o,n,[]⟩,none,0,none,0⟩
theorem j6(k:Int)(o n:bW)(g:Nat):¬qd (bare k o n) g:=by
 rintro(⟨h,-⟩|⟨h,-⟩)<;>exact h rfl
theorem vC(k:Int)(o n:bW)(X:Nat)(w:ae):NewQ X w (bare k o n) :=
 ⟨fun h=>absurd rfl h,fun h=>absurd rfl h,⟨.inl rfl,.inl rfl⟩,fun g h=>absurd h (j6 k o n g),fun g h=>absurd (Or.inl h) (j6 k o n g),VC _⟩
theorem OZ(w:ae)(k:Int)(o n:bW):yH (w.alloc (.cells #[.int .i64 k,.slice none 0 0,.string o,.string n,.slice none 0 0] 188)) w.heap.size (bare k o n):=by
 refine⟨?_,?_,?_,?_,?_,?_⟩<;>simp[bare]
theorem O0{w:ae}{X:Nat}{a0 a1 a2 a3 a4:Value}(h0:w.cell? ⟨X,0,none⟩=some a0)(h1:w.cell? ⟨X,1,none⟩=some a1)(h2:w.cell? ⟨X,2,none⟩=some a2)(h3:w.cell? ⟨X,3,none⟩=some a3)(h4:w.cell? ⟨X,4,none⟩=some a4)(hl:X<w.heap.size)(k:Int)(o n:bW):
  yH (((((w.setCell ⟨X,0,none⟩ (.int .i64 k)).setCell ⟨X,1,none⟩ (.slice none 0 0)).setCell ⟨X,2,none⟩ (.string o)).setCell ⟨X,3,none⟩ (.string n)).setCell ⟨X,4,none⟩ (.slice none 0 0)) X (bare k o n):=by
 refine⟨?_,?_,?_,?_,?_,by simpa using hl⟩
 ·rw[mO (by omega),mO (by omega),mO (by omega),mO (by omega)];exact mS h0
 ·rw[mO (by omega),mO (by omega),mO (by omega)];exact mS (by rw[mO (by omega)];exact h1)
 ·rw[mO (by omega),mO (by omega)];exact mS (by rw[mO (by omega),mO (by omega)];exact h2)
 ·rw[mO (by omega)];exact mS (by rw[mO (by omega),mO (by omega),mO (by omega)];exact h3)
 exact mS (by rw[mO (by omega),mO (by omega),mO (by omega),mO (by omega)];exact h4)
def VB(l:Q03)(R:Nat)(s:ByteArray)(p:Nat)(bad:Bool)(v:Value)(k:Nat)(u:Value)(w':World):Prop:=u=l.getD k undef/\(k=3->RdC w' R s p bad v)
structure GB(R:Nat)(s:ByteArray)(p:Nat)(bad:Bool)(v:Value)(X:Nat)(q:ER)(w:World)(listed:Array Bool)(w':World):Prop where
 rd:listed.getD 3 false=false->RdC w' R s p bad v
 box:yH w' X q
 onl:Onl R oz w w'
 fr:jJ w' X
theorem GB.step{R:Nat}{s:ByteArray}{p:Nat}{bad:Bool}{v:Value}{X:Nat}{q:ER}{w w':ae}{listed:Array Bool}(h:GB R s p bad v X q w listed w'){i:Nat}(hls:listed.size=6)(h3:i≠3):GB R s p bad v X q w (listed.setIfInBounds i true) w' :=
 ⟨fun k=>h.rd (by
  by_cases hi:i<6
  ·rw[aO _ _ _ (by omega),if_neg (Ne.symm h3)]at k;exact k
  rw[show listed.setIfInBounds i true=listed by rw[Array.setIfInBounds_eq_of_size_le (by omega)]]at k;exact k),h.box,h.onl,h.fr⟩
theorem GB.called{R:Nat}{s:ByteArray}{p:Nat}{bad:Bool}{v:Value}{X:Nat}{q:ER}{w w' w'':ae}{listed:Array Bool}(h:GB R s p bad v X q w listed w')(hls:listed.size=6)(hg:w'.grownBy w'' (some R))(hX:X≠R):GB R s p bad v X q w (listed.setIfInBounds 3 true) w'' :=
 ⟨fun k=>(by rw[aO _ _ _ (by omega),if_pos rfl]at k;cases k),h.box.grown hg (by intro e;injection e with e;exact hX e),h.onl.trans0 (Onl.of_grown hg),cz h.fr (hg.block X h.box.2.2.2.2.2 (by intro e;injection e with e;exact hX e))⟩
theorem O1{s:ByteArray}{st:RS}(h:ny s o8 (st.p+au s st.p) st.bad=false):eQ s st=⟨2,[],⟨#[]⟩,aA s st.p,[]⟩/\aH s st=⟨st.p+au s st.p,st.bad,st.out⟩:=by
 have e:lw s o8 (bi s st)=false:=h;exact⟨by unfold eQ;rw[e];rfl,by unfold aH;rw[e];rfl⟩
theorem Mc{s:ByteArray}{st:RS}(h:ny s o8 (st.p+au s st.p) st.bad=true):eQ s st=⟨3,[],aA s st.p,aA s (st.p+au s st.p+2),[]⟩/\aH s st=⟨st.p+au s st.p+2+au s (st.p+au s st.p+2),st.bad,st.out⟩:=by
 have e:lw s o8 (bi s st)=true:=h;exact⟨by unfold eQ;rw[e];rfl,by unfold aH;rw[e];rfl⟩
theorem Md(R:Nat)(s:bW)(st:RS)(base:Nat)(v:Value)(qs:Q08)(w:ae)(h:RdF w R s st base v qs)(hR:R<base)(hB:base<=w.heap.size)(hs:s.size<=1000)(hp:st.p<=s.size)(hn:qs.length<=100000)
  (h0:ny s fQ st.p st.bad=false) (h1:ny s jB st.p st.bad=false) :
  Calls prog 242 #[.pointer (some ⟨R,0,none⟩)] w (vz R s base v qs w ((st.out.length:Int),sF (eQ s st) (judged (eQ s st) (aH s st)))):=by
 have H:=ai h;have HP:=ai hp;clear h hp;go_enter func242,ntmps242;go_wp2_with fail;refine(ma R s fQ st.p st.bad v w H.out.rd hs HP.out (by decide)).mono ?_;rintro e w1 ⟨rfl,hr1,hg1⟩;have Ya:=ai (H.out.is_no hR h0 hr1 hg1);have Xj:=ai (Onl.of_grown hg1);rw[h0];clear hr1 hg1 h0;go_wp2_with fail;refine(ma R s jB st.p st.bad v w1 Ya.out.rd hs HP.out (by decide)).mono ?_;rintro e w2 ⟨rfl,hr2,hg2⟩;have XW:=ai (Ya.out.is_no hR h1 hr2 hg2);have WV:=ai (Xj.out.trans0 (Onl.of_grown hg2));rw[h1];clear hr2 hg2 h1 Ya Xj;go_wp2_with fail;refine(uT R s st.p st.bad v w2 XW.out.rd hs HP.out).mono ?_;rintro e w3 ⟨rfl,hr3,hg3⟩;have HF3:=ai (XW.out.over hR (Onl.of_grown hg3) hr3);have Xm:=ai (WV.out.trans0 (Onl.of_grown hg3));have HP3:=ai (kD s st.p HP.out);have Y5:=ai (zM s st.p HP.out);clear hr3 hg3 XW WV;obtain⟨W4,XX⟩:∃W4,W4=w3.alloc (.cells #[.int .i64 2,.slice none 0 0,.string ⟨#[]⟩,.string (aA s st.p),.slice none 0 0] 188):=⟨_,rfl⟩;have HV4:Hid (yH W4 w3.heap.size (bare 2 ⟨#[]⟩ (aA s st.p))):=by rw[XX];exact OZ w3 2 ⟨#[]⟩ (aA s st.p)
 have HO4a:Hid (Onl R oz w3 W4):=by rw[XX];exact Onl.of_below ((VD _ _).alloc (VC _) _)
 have YR:Hid (RdF W4 R s ⟨st.p+au s st.p,st.bad,st.out⟩ base v qs):=HF3.out.over hR HO4a.out (by rw[XX];exact HF3.out.rd.below ((VD _ _).alloc (VC _) _));have Xk:=ai (Xm.out.trans0 HO4a.out);have HFR4:Hid (jJ W4 w3.heap.size):=fun y=>by rw[XX];simp
 have HXR:Hid (w3.heap.size≠R):=by have:=HF3.out.rd.lt;show _≠_;omega
 have HX0:Hid (w.heap.size<=w3.heap.size):=Xm.out.size;have HX3:Hid (w3.heap.size<=w3.heap.size):=VC _;go_wp2_with fail;rw[<-XX];clear XX;obtain⟨X,hX⟩:∃X,X=w3.heap.size:=⟨_,rfl⟩;rw[<-hX]at HV4 HFR4 HXR HX0;replace HX3:Hid (w3.heap.size<=X):=Nat.le_of_eq hX.symm;rw[<-hX];clear hX;refine(ma R s o8 (st.p+au s st.p) st.bad v W4 YR.out.rd hs HP3.out (by decide)).mono ?_;rintro e w5 ⟨rfl,hr5,hg5⟩;have HV5:=ai (HV4.out.grown hg5 (by intro e;injection e with e;exact HXR.out e));have HFR5:=ai (cz HFR4.out (hg5.block X HV4.out.2.2.2.2.2 (by intro e;injection e with e;exact HXR.out e)));have Xi:=ai (Xk.out.trans0 (Onl.of_grown hg5));have HO35:=ai (HO4a.out.trans0 (Onl.of_grown hg5));cases hc:ny s o8 (st.p+au s st.p) st.bad;case false=>
  have HF5:=ai (YR.out.is_no hR hc hr5 hg5);have EQ:=ai (O1 hc);clear hr5 hg5 hc YR Xk HV4 HFR4;obtain⟨x0,x1,x2,x3,x4,xl⟩:=HV5.out;replace x0:w5.cell? ⟨X,0,none⟩=some (.int .i64 2):=x0;replace x1:w5.cell? ⟨X,1,none⟩=some (.slice none 0 0):=x1;replace x2:w5.cell? ⟨X,2,none⟩=some (.string ⟨#[]⟩):=x2;replace x3:w5.cell? ⟨X,3,none⟩=some (.string (aA s st.p)):=x3;replace x4:w5.cell? ⟨X,4,none⟩=some (.slice none 0 0):=x4;go_wp2_with fail;refine(mg (bare 2 ⟨#[]⟩ (aA s st.p)) w5 ⟨fun a ha=>(by cases ha),VG _,by show(aA s st.p).size<=maxLen;rw[Y5.out];have:=HP3.out;unfold maxLen;omega,VG _,VG _⟩ (by show(2:Int)≠1;decide)).mono ?_;rintro e w6 ⟨rfl,hB6⟩;have XD:=ai (Xi.out.trans0 (Onl.of_below hB6));have ZN:=ai (HF5.out.over hR (Onl.of_below hB6) (HF5.out.rd.below hB6));obtain⟨y0,y1,y2,y3,y4,yl⟩:=HV5.out.below hB6;replace y0:w6.cell? ⟨X,0,none⟩=some (.int .i64 2):=y0;replace y1:w6.cell? ⟨X,1,none⟩=some (.slice none 0 0):=y1;replace y2:w6.cell? ⟨X,2,none⟩=some (.string ⟨#[]⟩):=y2;replace y3:w6.cell? ⟨X,3,none⟩=some (.string (aA s st.p)):=y3;replace y4:w6.cell? ⟨X,4,none⟩=some (.slice none 0 0):=y4;clear x0 x1 x2 x3 x4 xl hB6 HV5 HF5 Xi;cases hb:az (bare 2 ⟨#[]⟩ (aA s st.p)).e;case true=>
   have HE:Hid (eQ s st=(bare 2 ⟨#[]⟩ (aA s st.p)).e/\judged (eQ s st) (aH s st)=(⟨st.p+au s st.p,st.bad,st.out⟩:RS)):=by
    refine⟨EQ.out.1,?_⟩;rw[EQ.out.1,EQ.out.2];exact if_pos hb
   clear hb;go_wp2_with fail;refine(L9 R s ((⟨st.p+au s st.p,st.bad,st.out⟩:RS)) base v qs (bare 2 ⟨#[]⟩ (aA s st.p)) w6 ZN.out hR (VJ hB XD.out.size) hn (vC _ _ _ _ _) (.inl ⟨rfl,rfl,rfl⟩) (fun g hg=>absurd hg (j6 _ _ _ g))).mono ?_;rintro e w7 ⟨v7,rfl,hF7,hW7⟩;have HF7:=ai hF7;have HW7:=ai ((XD.out.any v).trans hW7);clear hF7 hW7;go_wp2;exact bodyPost_ret (v:=.int .i64 (st.out.length:Int)) (by simp[results,Tryz.results242,go_sem]) rfl (by rw[HE.out.1,<-HE.out.1,HE.out.2,HE.out.1];exact⟨v7,[bare 2 ⟨#[]⟩ (aA s st.p)],rfl,HF7.out,HW7.out,fun q hq g hg=>by rw[VK]at hq;subst hq;exact absurd hg (j6 _ _ _ g)⟩)
  have HE:Hid (eQ s st=(bare 2 ⟨#[]⟩ (aA s st.p)).e/\judged (eQ s st) (aH s st)=uR ((⟨st.p+au s st.p,st.bad,st.out⟩:RS))):=by
   refine⟨EQ.out.1,?_⟩;rw[EQ.out.1,EQ.out.2];exact if_neg (fun e=>by have:=e.symm.trans hb;cases this)
  clear hb;have c2:=ZN.out.rd.c2;have f2:=ZN.out.rd.fr 2;have hl:=ZN.out.rd.lt;have hxr:=HXR.out;have hrx:=Ne.symm HXR.out;have YD:Hid (Onl R oz w (w6.setCell ⟨R,2,none⟩ (.bool true))):=XD.out.at_own _ _;have HF7:Hid (RdF (w6.setCell ⟨R,2,none⟩ (.bool true)) R s (uR ((⟨st.p+au s st.p,st.bad,st.out⟩:RS))) base v qs):=ZN.out.over hR ((Onl.refl R oz w6).at_own _ _) ZN.out.rd.hurt;go_wp2_with fail;refine(L9 R s (uR ((⟨st.p+au s st.p,st.bad,st.out⟩:RS))) base v qs (bare 2 ⟨#[]⟩ (aA s st.p)) _ HF7.out hR (VJ hB YD.out.size) hn (vC _ _ _ _ _) (.inl ⟨rfl,rfl,rfl⟩) (fun g hg=>absurd hg (j6 _ _ _ g))).mono ?_;rintro e w8 ⟨v8,rfl,hF8,YV⟩;have HF8:=ai hF8;have HW8:=ai ((YD.out.any v).trans YV);clear hF8 YV;go_wp2;exact bodyPost_ret (v:=.int .i64 (st.out.length:Int)) (by simp[results,Tryz.results242,go_sem,uR]) rfl (by rw[HE.out.1,<-HE.out.1,HE.out.2,HE.out.1];exact⟨v8,[bare 2 ⟨#[]⟩ (aA s st.p)],rfl,HF8.out,HW8.out,fun q hq g hg=>by rw[VK]at hq;subst hq;exact absurd hg (j6 _ _ _ g)⟩)
 have HF5:=ai (YR.out.is_yes hR hc hr5 hg5);have EQ:=ai (Mc hc);have HP5:Hid (st.p+au s st.p+2<=s.size):=Aw hc;clear hr5 hg5 hc YR Xk HV4 HFR4;go_wp2_with fail;refine lX 5 _ _ (VB (Value.pointer (some ⟨X,3,none⟩)::.string (aA s st.p)::.pointer (some ⟨R,0,none⟩)::.string (aA s (st.p+au s st.p+2))::.agg #[.int .i64 3,.slice none 0 0,.string (aA s st.p),.string (aA s (st.p+au s st.p+2)),.slice none 0 0]::[]) R s ((st.p+au s st.p+2)+au s (st.p+au s st.p+2)) st.bad v) (GB R s (st.p+au s st.p+2) st.bad v X (bare 2 ⟨#[]⟩ (aA s st.p)) w3) (by kernel_rfl) rfl (by decide +kernel) (by decide +kernel) (BJ [(56,[0,1,2,3,4])]) ⟨fun _=>HF5.out.rd.drewN 1,HV5.out,⟨HO35.out.os,HO35.out.tape,HO35.out.output,HO35.out.size,HO35.out.block⟩,HFR5.out⟩ ?Dx ?finB<;>dsimp only[yV];case Dx =>
  rintro i hi o ho listed f w' hls Yk hG hpre;have HG:=ai hG;have HM:Hid (∀e∈o.after,Region.binds .any e=true->_):=hpre;clear hG hpre;have hc:i=0\/i=1\/i=2\/i=3\/i=4:=by omega
  clear hi
  repeat' rcases hc with rfl|hc
  ·cases ho;have HS:=ai (HG.out.step (i:=0) hls (by decide));refine aa rfl fun K HK=>?_;clear HM;dsimp only;go_simp;exact HK.out _ _ ⟨Value.pointer (some ⟨X,3,none⟩),by simp[upd],HS.out,⟨rfl,fun e=>absurd e (by decide)⟩,fun k u _ hu=>hu⟩
  ·cases ho;have e0:f 0=Value.pointer (some ⟨X,3,none⟩):=(HM.out ⟨0,.data⟩ (by simp) rfl).1;have x3:w'.cell? ⟨X,3,none⟩=some (.string (aA s st.p)):=HG.out.box.2.2.2.1;have HS:=ai (HG.out.step (i:=1) hls (by decide));refine aa rfl fun K HK=>?_;clear HM;simp only[e0];go_simp;exact HK.out _ _ ⟨Value.string (aA s st.p),by simp[upd,e0],HS.out,⟨rfl,fun e=>absurd e (by decide)⟩,fun k u _ hu=>hu⟩
  ·cases ho;have HS:=ai (HG.out.step (i:=2) hls (by decide));refine aa rfl fun K HK=>?_;clear HM;dsimp only;go_simp;exact HK.out _ _ ⟨Value.pointer (some ⟨R,0,none⟩),by simp[upd],HS.out,⟨rfl,fun e=>absurd e (by decide)⟩,fun k u _ hu=>hu⟩
  ·cases ho;have e2:f 2=Value.pointer (some ⟨R,0,none⟩):=(HM.out ⟨2,.data⟩ (by simp) rfl).1;have hrd:=ai (HG.out.rd (Jk Yk hls (by omega)));refine aa rfl fun K HK=>?_;clear HM;simp only[e2];go_simp;refine(uT R s (st.p+au s st.p+2) st.bad v w' hrd.out hs HP5.out).mono ?_;rintro e w7 ⟨rfl,hr7,Zg⟩;have HS:=ai (HG.out.called hls Zg HXR.out);have HR7:=ai hr7;clear hr7 Zg;go_wp2_with fail;exact HK.out _ _ ⟨Value.string (aA s (st.p+au s st.p+2)),by simp[upd,e2],HS.out,⟨rfl,fun _=>HR7.out⟩,fun k u hk hu=>⟨hu.1,fun e=>absurd e hk⟩⟩
  cases ho;have e1:f 1=Value.string (aA s st.p):=(HM.out ⟨1,.data⟩ (by simp) rfl).1;have e3:f 3=Value.string (aA s (st.p+au s st.p+2)):=(HM.out ⟨3,.data⟩ (by simp) rfl).1;have HS:=ai (HG.out.step (i:=4) hls (by decide));refine aa rfl fun K HK=>?_;clear HM;simp only[e1,e3];go_simp;exact HK.out _ _ ⟨Value.agg #[.int .i64 3,.slice none 0 0,.string (aA s st.p),.string (aA s (st.p+au s st.p+2)),.slice none 0 0],by simp[upd,e1,e3],HS.out,⟨rfl,fun e=>absurd e (by decide)⟩,fun k u _ hu=>hu⟩
 case finB =>
  rintro o ho listed f w' hG hall;obtain rfl:=Option.some.inj ho;have e4:f 4=Value.agg #[.int .i64 3,.slice none 0 0,.string (aA s st.p),.string (aA s (st.p+au s st.p+2)),.slice none 0 0]:=(hall 4 (by omega)).1;have HRD:=ai ((hall 3 (by omega)).2 rfl);have HG:=ai hG;obtain⟨x0,x1,x2,x3,x4,xl⟩:=hG.box;have f0:=hG.fr 0;have f1:=hG.fr 1;have f2:=hG.fr 2;have f3:=hG.fr 3;have f4:=hG.fr 4;clear ho hall hG;refine wpOp_step rfl (fun K hK=>?_);have HK:Hid (∀a w,_->K a w):=hK;clear hK;simp only[e4];go_simp;refine HK.out _ _ ?_;clear HK;obtain⟨wz,hwz⟩:∃wz,wz=(((((w'.setCell ⟨X,0,none⟩ (.int .i64 3)).setCell ⟨X,1,none⟩ (.slice none 0 0)).setCell ⟨X,2,none⟩ (.string (aA s st.p))).setCell ⟨X,3,none⟩ (.string (aA s (st.p+au s st.p+2)))).setCell ⟨X,4,none⟩ (.slice none 0 0)):=⟨_,rfl⟩;have HO3z:Hid (Onl R oz w3 wz):=by rw[hwz];exact((((HG.out.onl.at_new HX3.out _ _).at_new HX3.out _ _).at_new HX3.out _ _).at_new HX3.out _ _).at_new HX3.out _ _
  have HRz:Hid (RdC wz R s (st.p+au s st.p+2+au s (st.p+au s st.p+2)) st.bad v):=by rw[hwz];exact((((HRD.out.other HXR.out _ _).other HXR.out _ _).other HXR.out _ _).other HXR.out _ _).other HXR.out _ _
  have HVz:Hid (yH wz X (bare 3 (aA s st.p) (aA s (st.p+au s st.p+2)))):=by rw[hwz];exact O0 x0 x1 x2 x3 x4 xl _ _ _
  clear HV5 HF5 Xi HO35 HFR5;have HF5:=ai (HF3.out.over hR HO3z.out HRz.out);have Xi:=ai (Xm.out.trans0 HO3z.out);rw[<-hwz];clear hwz x0 x1 x2 x3 x4 xl f0 f1 f2 f3 f4 e4 HRz HO3z HG HRD;obtain⟨x0,x1,x2,x3,x4,xl⟩:=HVz.out;replace x0:wz.cell? ⟨X,0,none⟩=some (.int .i64 3):=x0;replace x1:wz.cell? ⟨X,1,none⟩=some (.slice none 0 0):=x1;replace x2:wz.cell? ⟨X,2,none⟩=some (.string (aA s st.p)):=x2;replace x3:wz.cell? ⟨X,3,none⟩=some (.string (aA s (st.p+au s st.p+2))):=x3;replace x4:wz.cell? ⟨X,4,none⟩=some (.slice none 0 0):=x4;go_wp2_with fail;refine(mg (bare 3 (aA s st.p) (aA s (st.p+au s st.p+2))) wz ⟨fun a ha=>(by cases ha),by show(aA s st.p).size<=maxLen;rw[Y5.out];have:=HP3.out;unfold maxLen;omega,by show(aA s (st.p+au s st.p+2)).size<=maxLen;rw[zM s _ HP5.out];have:=kD s _ HP5.out;unfold maxLen;omega,VG _,VG _⟩ (by show(3:Int)≠1;decide)).mono ?_;rintro e w6 ⟨rfl,hB6⟩;have XD:=ai (Xi.out.trans0 (Onl.of_below hB6));have ZN:=ai (HF5.out.over hR (Onl.of_below hB6) (HF5.out.rd.below hB6));obtain⟨y0,y1,y2,y3,y4,yl⟩:=HVz.out.below hB6;replace y0:w6.cell? ⟨X,0,none⟩=some (.int .i64 3):=y0;replace y1:w6.cell? ⟨X,1,none⟩=some (.slice none 0 0):=y1;replace y2:w6.cell? ⟨X,2,none⟩=some (.string (aA s st.p)):=y2;replace y3:w6.cell? ⟨X,3,none⟩=some (.string (aA s (st.p+au s st.p+2))):=y3;replace y4:w6.cell? ⟨X,4,none⟩=some (.slice none 0 0):=y4;clear x0 x1 x2 x3 x4 xl hB6 HVz HF5 Xi;cases hb:az (bare 3 (aA s st.p) (aA s (st.p+au s st.p+2))).e;case true=>
   have HE:Hid (eQ s st=(bare 3 (aA s st.p) (aA s (st.p+au s st.p+2))).e/\judged (eQ s st) (aH s st)=(⟨st.p+au s st.p+2+au s (st.p+au s st.p+2),st.bad,st.out⟩:RS)):=by
    refine⟨EQ.out.1,?_⟩;rw[EQ.out.1,EQ.out.2];exact if_pos hb
   clear hb;go_wp2_with fail;refine(L9 R s ((⟨st.p+au s st.p+2+au s (st.p+au s st.p+2),st.bad,st.out⟩:RS)) base v qs (bare 3 (aA s st.p) (aA s (st.p+au s st.p+2))) w6 ZN.out hR (VJ hB XD.out.size) hn (vC _ _ _ _ _) (.inl ⟨rfl,rfl,rfl⟩) (fun g hg=>absurd hg (j6 _ _ _ g))).mono ?_;rintro e w7 ⟨v7,rfl,hF7,hW7⟩;have HF7:=ai hF7;have HW7:=ai ((XD.out.any v).trans hW7);clear hF7 hW7;go_wp2;exact bodyPost_ret (v:=.int .i64 (st.out.length:Int)) (by simp[results,Tryz.results242,go_sem]) rfl (by rw[HE.out.1,<-HE.out.1,HE.out.2,HE.out.1];exact⟨v7,[bare 3 (aA s st.p) (aA s (st.p+au s st.p+2))],rfl,HF7.out,HW7.out,fun q hq g hg=>by rw[VK]at hq;subst hq;exact absurd hg (j6 _ _ _ g)⟩)
  have HE:Hid (eQ s st=(bare 3 (aA s st.p) (aA s (st.p+au s st.p+2))).e/\judged (eQ s st) (aH s st)=uR ((⟨st.p+au s st.p+2+au s (st.p+au s st.p+2),st.bad,st.out⟩:RS))):=by
   refine⟨EQ.out.1,?_⟩;rw[EQ.out.1,EQ.out.2];exact if_neg (fun e=>by have:=e.symm.trans hb;cases this)
  clear hb;have c2:=ZN.out.rd.c2;have f2:=ZN.out.rd.fr 2;have hl:=ZN.out.rd.lt;have hxr:=HXR.out;have hrx:=Ne.symm HXR.out;have YD:Hid (Onl R oz w (w6.setCell ⟨R,2,none⟩ (.bool true))):=XD.out.at_own _ _;have HF7:Hid (RdF (w6.setCell ⟨R,2,none⟩ (.bool true)) R s (uR ((⟨st.p+au s st.p+2+au s (st.p+au s st.p+2),st.bad,st.out⟩:RS))) base v qs):=ZN.out.over hR ((Onl.refl R oz w6).at_own _ _) ZN.out.rd.hurt;go_wp2_with fail;refine(L9 R s (uR ((⟨st.p+au s st.p+2+au s (st.p+au s st.p+2),st.bad,st.out⟩:RS))) base v qs (bare 3 (aA s st.p) (aA s (st.p+au s st.p+2))) _ HF7.out hR (VJ hB YD.out.size) hn (vC _ _ _ _ _) (.inl ⟨rfl,rfl,rfl⟩) (fun g hg=>absurd hg (j6 _ _ _ g))).mono ?_;rintro e w8 ⟨v8,rfl,hF8,YV⟩;have HF8:=ai hF8;have HW8:=ai ((YD.out.any v).trans YV);clear hF8 YV;go_wp2;exact bodyPost_ret (v:=.int .i64 (st.out.length:Int)) (by simp[results,Tryz.results242,go_sem,uR]) rfl (by rw[HE.out.1,<-HE.out.1,HE.out.2,HE.out.1];exact⟨v8,[bare 3 (aA s st.p) (aA s (st.p+au s st.p+2))],rfl,HF8.out,HW8.out,fun q hq g hg=>by rw[VK]at hq;subst hq;exact absurd hg (j6 _ _ _ g)⟩)
structure PL(w1 wr:World)(R X:Nat)(s:ByteArray)(xs:Q0a)(p:Nat)(bad:Bool)(v vA:Value):Prop where
 rd:RdC wr R s p bad v
 onl:Onl R oz w1 wr
 c0:wr.cell? ⟨X,0,none⟩=some (.int .i64 1)
 c1:wr.cell? ⟨X,1,none⟩=some vA
 c2:wr.cell? ⟨X,2,none⟩=some (.string ⟨#[]⟩)
 c3:wr.cell? ⟨X,3,none⟩=some (.string ⟨#[]⟩)
 c4:wr.cell? ⟨X,4,none⟩=some (.slice none 0 0)
 fr:jJ wr X
 lt:X<wr.heap.size
 own:wr.ownsRow (X+1) 223 2 vA xs.length (pairs xs)
theorem PL.moved{w1 wr w':ae}{R X:Nat}{s:ByteArray}{xs:Q0a}{p p':Nat}{bad bad':Bool}{v vA:Value}(h:PL w1 wr R X s xs p bad v vA)(hRX:R<X)(hg:wr.grownBy w' (some R))(hr:RdC w' R s p' bad' v):PL w1 w' R X s xs p' bad' v vA:=by
 have hne:some X≠some R:=by intro e;injection e with e;omega
 refine⟨hr,h.onl.trans0 (Onl.of_grown hg),hg.cell h.c0 hne,hg.cell h.c1 hne,hg.cell h.c2 hne,hg.cell h.c3 hne,hg.cell h.c4 hne,cz h.fr (hg.block X h.lt hne),Vy h.lt hg.size,h.own.kept hg (.inr ?_)⟩;intro e;have:=(h.own.lt R e).1;omega
theorem PL.made{w1 wr:ae}{R X:Nat}{s:ByteArray}{xs:Q0a}{p:Nat}{bad:Bool}{v vA:Value}(h:PL w1 wr R X s xs p bad v vA)(o:Obj):PL w1 (wr.alloc o) R X s xs p bad v vA:=by
 have hg:=World.grownBy_alloc wr o none;exact⟨h.rd.grown hg (by simp),h.onl.trans0 (Onl.of_below ((VD _ _).alloc (VC _) _)),hg.cell h.c0 (by simp),hg.cell h.c1 (by simp),hg.cell h.c2 (by simp),hg.cell h.c3 (by simp),hg.cell h.c4 (by simp),cz h.fr (hg.block X h.lt (by simp)),Vy h.lt hg.size,h.own.alloc o⟩
theorem PL.aset{w1 wr:ae}{R X:Nat}{s:ByteArray}{xs:Q0a}{p:Nat}{bad:Bool}{v vA:Value}(h:PL w1 wr R X s xs p bad v vA)(hRX:R<X)(h1:w1.heap.size<=X){A:Nat}(hA:X<A)(hv:vA.ownBlock≠some A)(o:Nat)(u:Value):PL w1 (wr.setCell ⟨A,o,none⟩ u) R X s xs p bad v vA:=by
 have hb:∀k,k≠A->(wr.setCell ⟨A,o,none⟩ u).heap[k]?=wr.heap[k]?:=fun k hk=>Below.heap_setCell wr _ _ k hk;refine⟨h.rd.other (by omega) _ _,h.onl.at_new (by omega) _ _,?_,?_,?_,?_,?_,cz h.fr (hb X (by omega)),by simpa using h.lt,jv h.own fun g hg=>hb g (fun e=>hv (by rw[hg,e]))⟩
 all_goals rw[VR (w:=wr) (hb X (by omega))]
 ·exact h.c0
 ·exact h.c1
 ·exact h.c2
 ·exact h.c3
 exact h.c4
theorem Me(xs:Q0a)(a:Al):pairs (xs++[a])=pairs xs++[.string a.t,.string a.s]:=by simp[pairs]
theorem PL.app{w1 wr w':ae}{R X:Nat}{s:ByteArray}{xs:Q0a}{p:Nat}{bad:Bool}{v vA vB:Value}(h:PL w1 wr R X s xs p bad v vA)(hRX:R<X)(h1:w1.heap.size<=X)(a:Al)(hown:w'.ownsRow (X+1) 223 2 vB (xs.length+1) (pairs xs++[.string a.t,.string a.s]))(hg:wr.grownBy w' vA.ownBlock):PL w1 (w'.setCell ⟨X,1,none⟩ vB) R X s (xs++[a]) p bad v vB:=by
 have hX:some X≠vA.ownBlock:=fun e=>by have:=(h.own.lt X e.symm).1;omega
 have hR:some R≠vA.ownBlock:=fun e=>by have:=(h.own.lt R e.symm).1;omega
 have ho:Onl R oz w1 w':=⟨hg.os.trans h.onl.os,hg.tape.trans h.onl.tape,hg.output.trans h.onl.output,VJ h.onl.size hg.size,fun k hk h2 h3=>(hg.block k (Vy hk h.onl.size) (fun e=>by have:=(h.own.lt k e.symm).1;omega)).trans (h.onl.block k hk h2 h3)⟩;refine⟨(h.rd.grown hg hR).other (by omega) _ _,ho.at_new h1 _ _,?_,mS (hg.cell h.c1 hX),?_,?_,?_,fun j=>?_,?_,?_⟩
 ·rw[mO (by omega)];exact hg.cell h.c0 hX
 ·rw[mO (by omega)];exact hg.cell h.c2 hX
 ·rw[mO (by omega)];exact hg.cell h.c3 hX
 ·rw[mO (by omega)];exact hg.cell h.c4 hX
 ·simpa using cz h.fr (hg.block X h.lt hX) j
 ·simpa using Vy h.lt hg.size
 rw[Me,VI,Wh];exact ownsRow_setCell_below hown (by show X<X+1;omega) _
def wbad(R:Nat)(w:World):Nat:=match w.cell? ⟨R,2,none⟩ with
 | some (.bool true)=>0
 | _=>1
theorem RdC.wbad0{w:ae}{R:Nat}{s:ByteArray}{p:Nat}{v:Value}(h:RdC w R s p true v):wbad R w=0:=by
 simp[Go.Proofs.YtcgdckphpjfmhaaGreatDoor.wbad,h.c2]
theorem RdC.wbad1{w:ae}{R:Nat}{s:ByteArray}{p:Nat}{v:Value}(h:RdC w R s p false v):wbad R w=1:=by
 simp[Go.Proofs.YtcgdckphpjfmhaaGreatDoor.wbad,h.c2]
theorem Ay(w:ae)(a b:bW)(g:Nat)(hg:w.heap.size=g):∀j u,[Value.string a,.string b][j]?=some u->(w.alloc (.cells #[.string a,.string b] 223)).cell? ((⟨g,0,none⟩:Addr).add j)=some u:=by
 intro j u hu;subst hg;rw[show(⟨w.heap.size,0,none⟩:Addr).add j=⟨w.heap.size,0+j,none⟩ by simp[Addr.add];omega,V4];have:=World.cell?_alloc_mark w #[.string a,.string b] 223 (0,0) j;rw[this];simpa using hu
def qQ(s:ByteArray)(st:RS):Int×RS:=match dx s (s.size+1) [] (kC fQ st) with
 | (some xs,st')=>((st'.out.length:Int),sF ⟨1,xs,⟨#[]⟩,⟨#[]⟩,[]⟩ st')
 | (none,st')=>(0,st')
theorem Jm{s:ByteArray}{st st':RS}{xs:Q0a}(h:dx s (s.size+1) [] (kC fQ st)=(some xs,st')):qQ s st=((st'.out.length:Int),sF ⟨1,xs,⟨#[]⟩,⟨#[]⟩,[]⟩ st'):=by simp only[qQ,h]
theorem Jn{s:ByteArray}{st st':RS}(h:dx s (s.size+1) [] (kC fQ st)=(none,st')):qQ s st=(0,st'):=by simp only[qQ,h]
theorem Jo(s:bW)(n:Nat)(xs:Q0a)(p:Nat)(o:Q09):dx s n xs ⟨p,true,o⟩=(none,⟨p,true,o⟩):=by
 cases n with
 | zero=>rfl
 | succ n=>rfl
structure PairIs(s:ByteArray)(p:Nat)(o:Q09)(a:Al)(pb:Nat):Prop where
 a:(⟨aA s p,yz s (bi s ⟨p,false,o⟩)⟩:Al)=a
 b:aW s (bi s ⟨p,false,o⟩)=⟨pb,false,o⟩
theorem Mf{s:ByteArray}{p:Nat}{o:Q09}(h:ny s uQ (p+au s p) false=false):PairIs s p o ⟨aA s p,⟨#[]⟩⟩ (p+au s p):=by
 have e:lw s uQ (bi s ⟨p,false,o⟩)=false:=h;exact⟨by unfold yz;rw[e];rfl,by unfold aW;rw[e];rfl⟩
theorem Jp{s:ByteArray}{p:Nat}{o:Q09}(h:ny s uQ (p+au s p) false=true):PairIs s p o ⟨aA s p,aA s (p+au s p+1)⟩ (p+au s p+1+au s (p+au s p+1)):=by
 have e:lw s uQ (bi s ⟨p,false,o⟩)=true:=h;exact⟨by unfold yz;rw[e];rfl,by unfold aW;rw[e];rfl⟩
theorem Gn{s:ByteArray}{p pb n:Nat}{o:Q09}{a:Al}{xs:Q0a}(h:PairIs s p o a pb)(h1:ny s eY pb false=true):dx s (n+1) xs ⟨p,false,o⟩=(some (xs++[a]),⟨pb+1,false,o⟩):=by
 have e:lw s eY ⟨pb,false,o⟩=true:=h1;unfold dx;rw[h.a,h.b,e];rfl
theorem Gp{s:ByteArray}{p pb n:Nat}{o:Q09}{a:Al}{xs:Q0a}(h:PairIs s p o a pb)(h1:ny s eY pb false=false)(h2:ny s l8 pb false=true):dx s (n+1) xs ⟨p,false,o⟩=dx s n (xs++[a]) ⟨pb+1,false,o⟩:=by
 have e:lw s eY ⟨pb,false,o⟩=false:=h1;have e2:lw s l8 ⟨pb,false,o⟩=true:=h2
 conv=>lhs;unfold dx
 rw[h.a,h.b,e,e2];rfl
theorem Mg{s:ByteArray}{p pb n:Nat}{o:Q09}{a:Al}{xs:Q0a}(h:PairIs s p o a pb)(h1:ny s eY pb false=false)(h2:ny s l8 pb false=false):dx s (n+1) xs ⟨p,false,o⟩=dx s n (xs++[a]) ⟨pb,true,o⟩:=by
 have e:lw s eY ⟨pb,false,o⟩=false:=h1;have e2:lw s l8 ⟨pb,false,o⟩=false:=h2
 conv=>lhs;unfold dx
 rw[h.a,h.b,e,e2];rfl
theorem capOf{w:ae}{base size n m cap:Nat}{e:TypeId}{ad:Q02}{xs:Q03}(h:w.ownsRow base e size (.slice ad n cap) m xs)(hm:m=n:=by rfl):n<=cap:=by
 rcases h.2 with⟨e1,h0⟩|⟨g,cap',cur,e1,-,-,hnc,-⟩
 ·injection e1 with _ e2 e3;omega
 injection e1 with _ e2 e3;omega
theorem PL.node{w1 wr:ae}{R X:Nat}{s:ByteArray}{xs:Q0a}{p:Nat}{bad:Bool}{v vA:Value}(h:PL w1 wr R X s xs p bad v vA)(h1:w1.heap.size<=X){base:Nat}(hb:base<=w1.heap.size):∃ad cap,vA=.slice ad xs.length cap/\NewQ base wr ⟨⟨1,xs,⟨#[]⟩,⟨#[]⟩,[]⟩,ad,cap,none,0⟩/\∀g,qd ⟨⟨1,xs,⟨#[]⟩,⟨#[]⟩,[]⟩,ad,cap,none,0⟩ g->X<g:=by
 obtain⟨ad,cap,e,h2,h3,h4⟩:=UV h.own rfl;have hK:∀g,¬bK ⟨⟨1,xs,⟨#[]⟩,⟨#[]⟩,[]⟩,ad,cap,none,0⟩ g:=fun g hg=>hg.1 rfl;have hA:∀g,qd ⟨⟨1,xs,⟨#[]⟩,⟨#[]⟩,[]⟩,ad,cap,none,0⟩ g->X+1<=g/\g<wr.heap.size/\jJ wr g:=by
  rintro g (hg|hg)
  ·exact h4 g hg.1 hg.2
  exact absurd hg (hK g)
 refine⟨ad,cap,e,⟨h3,fun h=>absurd rfl h,⟨h2,.inl rfl⟩,fun g hg=>⟨?_,(hA g hg).2⟩,fun g _ hg=>hK g hg,capOf (e ▸ h.own)⟩,fun g hg=>(hA g hg).1⟩;have:=(hA g hg).1;omega
theorem Mh(R:Nat)(s:bW)(st:RS)(base:Nat)(v:Value)(qs:Q08)(w:ae)(h:RdF w R s st base v qs)(hR:R<base)(hB:base<=w.heap.size)(hs:s.size<=1000)(hp:st.p<=s.size)(hn:qs.length<=100000)
  (h0:ny s fQ st.p st.bad=true) :
  Calls prog 242 #[.pointer (some ⟨R,0,none⟩)] w (vz R s base v qs w (qQ s st)):=by
 obtain⟨iA,hiA,zA0,zA1,zA2⟩:=info_parts (P:=prog) (e:=223) (z:=.agg #[.string ⟨#[]⟩,.string ⟨#[]⟩]) (size:=2) (bytes:=32) (by kernel_rfl);have HIA:Hid (prog.info? 223=some iA/\iA.zero=some (.agg #[.string ⟨#[]⟩,.string ⟨#[]⟩])/\iA.size=2/\iA.bytes=32):=⟨hiA,zA0,zA1,zA2⟩;have H:=ai h;have HP:=ai hp
 have hbad:st.bad=false:=by cases e:st.bad with
  | false=>rfl
  | true=>rw[e]at h0;cases h0
 have HBD:=ai hbad;have HP1:Hid (st.p+5<=s.size):=Aw h0;clear h hp hiA zA0 zA1 zA2 hbad;go_enter func242,ntmps242;go_wp2_with fail;refine(ma R s fQ st.p st.bad v w H.out.rd hs HP.out (by decide)).mono ?_;rintro e w1 ⟨rfl,hr1,hg1⟩;have Ya:=ai (H.out.is_yes hR h0 hr1 hg1);have Xj:=ai (Onl.of_grown hg1);rw[h0];clear hr1 hg1 h0;obtain⟨W2,hW2⟩:∃W2,W2=w1.alloc (.cells #[.int .i64 1,.slice none 0 0,.string ⟨#[]⟩,.string ⟨#[]⟩,.slice none 0 0] 188):=⟨_,rfl⟩;have HL2:Hid (PL w1 W2 R w1.heap.size s [] (st.p+5) false v (.slice none 0 0)):=by
  rw[hW2];have hrd:RdC w1 R s (st.p+5) false v:=by have:=Ya.out.rd;rw[show(kC fQ st).bad=false from HBD.out]at this;exact this
  refine⟨hrd.below ((VD _ _).alloc (VC _) _),Onl.of_below ((VD _ _).alloc (VC _) _),by simp,by simp,by simp,by simp,by simp,fun j=>by simp,by simp,World.ownsRow_nil _ _ _ _⟩
 have HX0:Hid (w.heap.size<=w1.heap.size):=Xj.out.size;have ZO:Hid (R<w1.heap.size):=Ya.out.rd.lt;have Yo:Hid (w1.heap.size<=w1.heap.size):=VC _;go_wp2_with fail;rw[<-hW2];clear hW2;obtain⟨X,hX⟩:∃X,X=w1.heap.size:=⟨_,rfl⟩;replace HL2:Hid (PL w1 W2 R X s [] (st.p+5) false v (.slice none 0 0)):=by rw[hX];exact HL2
 replace HX0:Hid (w.heap.size<=X):=by rw[hX];exact HX0
 replace ZO:Hid (R<X):=by rw[hX];exact ZO
 replace Yo:Hid (w1.heap.size<=X):=by rw[hX];exact Yo
 rw[<-hX];clear hX;go_loopw[14] (fun _ wr=>∃(n p:Nat) (bad:Bool) (xs:Q0a) (vA:Value),Hid (p<=s.size)/\Hid (dx s n xs ⟨p,bad,st.out⟩=dx s (s.size+1) [] (kC fQ st))/\Hid (bad=false->s.size-p<n/\xs.length+5<=p)/\Hid (PL w1 wr R X s xs p bad v vA)) (fun _ wr=>s.size-wat R wr+wbad R wr);case atStart=>exact⟨s.size+1,st.p+5,false,[],.slice none 0 0,HP1.out,by show _=_;unfold kC;rw[HBD.out];rfl,fun _=>⟨by omega,by simp⟩,HL2.out⟩
 obtain⟨n,p,bad,xs,vA,HPL,HPP,HLN,HL⟩:=hrel;clear HL2;have r2:=HL.out.rd.c2;have rl:=HL.out.rd.lt;cases bad;case true=>
  have EQ:=ai (Jn (HPP.out.symm.trans (Jo s n xs p st.out)));have HF:=ai (Ya.out.over hR HL.out.onl HL.out.rd);have HO:=ai (Xj.out.trans0 HL.out.onl);go_wp2;exact bodyPost_ret (v:=.int .i64 0) (by simp[results,Tryz.results242,go_sem]) rfl (by rw[EQ.out];exact⟨v,[],rfl,by rw[Ww];exact HF.out,HO.out.any v,fun q hq=>by cases hq⟩)
 obtain⟨m,hm⟩:∃m,n=m+1:=⟨n-1,by have:=(HLN.out rfl).1;omega⟩;subst hm;have HPW:=ai (kD s p HPL.out);have HLN1:=ai (HLN.out rfl).1;have HLN2:=ai (HLN.out rfl).2;clear HLN;go_wp2_with fail;refine(uT R s p false v wr HL.out.rd hs HPL.out).mono ?_;rintro e w4 ⟨rfl,hr4,hg4⟩;have HL4:=ai (HL.out.moved ZO.out hg4 hr4);have HPLC:=ai HL.out.rd.place;have HPLB:=ai HL.out.rd.wbad1;clear hr4 hg4 HL r2 rl;obtain⟨W5,YG⟩:∃W5,W5=w4.alloc (.cells #[.string (aA s p),.string ⟨#[]⟩] 223):=⟨_,rfl⟩;have HL5:Hid (PL w1 W5 R X s xs (p+au s p) false v vA):=by rw[YG];exact HL4.out.made _
 have HA0:Hid (W5.cell? ⟨w4.heap.size,0,none⟩=some (.string (aA s p))):=by show _=_;rw[YG];simp
 have HA1:Hid (W5.cell? ⟨w4.heap.size,1,none⟩=some (.string ⟨#[]⟩)):=by show _=_;rw[YG];simp
 have HAF:Hid (jJ W5 w4.heap.size):=fun j=>by rw[YG];simp
 have Xl:Hid (w4.heap.size<W5.heap.size):=by show _<_;rw[YG];simp
 have HAX:Hid (X<w4.heap.size):=HL4.out.lt;have HAV:Hid (vA.ownBlock≠some w4.heap.size):=fun e=>by have:=(HL4.out.own.lt _ e).2;omega
 go_wp2_with fail;rw[<-YG];clear YG;obtain⟨A,hA⟩:∃A,A=w4.heap.size:=⟨_,rfl⟩;rw[<-hA]at HA0 HA1 HAF Xl HAX HAV;rw[<-hA];clear hA HL4;refine(ma R s uQ (p+au s p) false v W5 HL5.out.rd hs HPW.out (by decide)).mono ?_;rintro e w6 ⟨rfl,YH,Y4⟩;have HAR:Hid (some A≠some R):=by intro e;injection e with e;have:=ZO.out;have:=HAX.out;omega
 have HB0:=ai (Y4.cell HA0.out HAR.out);have HB1:=ai (Y4.cell HA1.out HAR.out);have HBF:=ai (cz HAF.out (Y4.block A Xl.out HAR.out));have HBL:=ai (Vy Xl.out Y4.size);cases hc:ny s uQ (p+au s p) false
 case' false =>
  rw[zP hc]at YH;have HL6:=ai (HL5.out.moved ZO.out Y4 YH);have PI:=ai (Mf (o:=st.out) hc);have HPB:=HPW;have HPG:Hid (p<=p+au s p):=Nat.le_add_right _ _;clear YH Y4 hc HL5 HA0 HA1 HAF Xl;have a0:=HB0.out;have a1:=HB1.out;have k1:=HL6.out.c1;obtain⟨W9,Y6⟩:∃W9,W9=w6.alloc (.cells #[.string (aA s p),.string ((⟨#[]⟩:ByteArray))] 223):=⟨_,rfl⟩;have Zm:Hid (PL w1 W9 R X s xs (p+au s p) false v vA):=by rw[Y6];exact HL6.out.made _
  have Ze:Hid (∀j u,[Value.string (aA s p),.string ((⟨#[]⟩:ByteArray))][j]?=some u->W9.cell? ((⟨w6.heap.size,0,none⟩:Addr).add j)=some u):=by rw[Y6];exact Ay w6 _ _ _ (rfl)
  have HSZ9:Hid (X+1<=W9.heap.size):=Zm.out.lt;have hxs:xs.length<=1000:=by have:=HLN2.out;have:=HPL.out;omega
  go_wp2_with(at_builtin;rw[<-Y6];clear Y6;refine wpList_append_own _ rfl _ _ 185 rfl (X+1) 223 iA (.agg #[.string ⟨#[]⟩,.string ⟨#[]⟩]) 2 32 underlying185 HIA.out.1 HIA.out.2.1 HIA.out.2.2.1 HIA.out.2.2.2 rfl (by decide) vA xs.length (pairs xs) rfl Zm.out.own ⟨w6.heap.size,0,none⟩ 1 1 [Value.string (aA s p),.string ((⟨#[]⟩:ByteArray))] rfl rfl Ze.out (by intro u hu;simp at hu;rcases hu with rfl|rfl<;>rfl) (by unfold maxLen;omega) (by omega) HSZ9.out ?_);intro vB w10 Yc XT _;obtain⟨gB,cB,rfl⟩:=fJ Yc;have hX10:some X≠vA.ownBlock:=fun e=>by have:=(Zm.out.own.lt X e.symm).1;omega
  have k10:=XT.cell Zm.out.c1 hX10;have f10:=cz Zm.out.fr (XT.block X Zm.out.lt hX10) 1;have l10:=Vy Zm.out.lt XT.size;have YX:=ai (Zm.out.app ZO.out Yo.out ⟨aA s p,(⟨#[]⟩:ByteArray)⟩ Yc XT);clear Yc XT a0 a1 k1 Zm hX10 Ze HSZ9 HL6;obtain⟨P,hP⟩:∃P,P=p+au s p:=⟨_,rfl⟩;obtain⟨S2,hS2⟩:∃S2:ByteArray,S2=⟨#[]⟩:=⟨_,rfl⟩;rw[<-hP]at YX PI HPB HPG;rw[<-hS2]at YX PI;clear hP hS2
 case' true =>
  rw[uS hc]at YH;have HL6:=ai (HL5.out.moved ZO.out Y4 YH);have PI:=ai (Jp (o:=st.out) hc);have HPH:Hid (p+au s p+1<=s.size):=Aw hc;have HPB:=ai (kD s _ HPH.out);have HPG:Hid (p<=p+au s p+1+au s (p+au s p+1)):=by show _<=_;omega
  clear YH Y4 hc HL5 HA0 HA1 HAF Xl;go_wp2_with fail;refine(uT R s (p+au s p+1) false v w6 HL6.out.rd hs HPH.out).mono ?_;rintro e w7 ⟨rfl,hr7,Zg⟩;have HL7:=ai (HL6.out.moved ZO.out Zg hr7);have X9:=ai (Zg.cell HB0.out HAR.out);have a1:=Zg.cell HB1.out HAR.out;have hcf:=cz HBF.out (Zg.block A HBL.out HAR.out);have f1:=hcf 1;have hcl:=Vy HBL.out Zg.size;obtain⟨W8,YV⟩:∃W8,W8=w7.setCell ⟨A,1,none⟩ (.string (aA s (p+au s p+1))):=⟨_,rfl⟩;have HL8:Hid (PL w1 W8 R X s xs (p+au s p+1+au s (p+au s p+1)) false v vA):=by rw[YV];exact HL7.out.aset ZO.out Yo.out HAX.out HAV.out _ _
  have HD0:Hid (W8.cell? ⟨A,0,none⟩=some (.string (aA s p))):=by show _=_;rw[YV,mO (by omega)];exact X9.out
  have HD1:Hid (W8.cell? ⟨A,1,none⟩=some (.string (aA s (p+au s p+1)))):=by show _=_;rw[YV];exact mS a1
  clear hr7 Zg HL6 HB0 HB1 HBF HBL;have a0:=X9.out;have k1:=HL7.out.c1;have hxa:X≠A:=by have:=HAX.out;omega
  have hax:A≠X:=by have:=HAX.out;omega
  obtain⟨W9,Y6⟩:∃W9,W9=W8.alloc (.cells #[.string (aA s p),.string (aA s (p+au s p+1))] 223):=⟨_,rfl⟩;have Zm:Hid (PL w1 W9 R X s xs (p+au s p+1+au s (p+au s p+1)) false v vA):=by rw[Y6];exact HL8.out.made _
  have Ze:Hid (∀j u,[Value.string (aA s p),.string (aA s (p+au s p+1))][j]?=some u->W9.cell? ((⟨w7.heap.size,0,none⟩:Addr).add j)=some u):=by rw[Y6];exact Ay W8 _ _ _ (by rw[YV];simp)
  have HSZ9:Hid (X+1<=W9.heap.size):=Zm.out.lt;have hxs:xs.length<=1000:=by have:=HLN2.out;have:=HPL.out;omega
  go_wp2_with(at_builtin;rw[<-YV];clear YV;rw[<-Y6];clear Y6;refine wpList_append_own _ rfl _ _ 185 rfl (X+1) 223 iA (.agg #[.string ⟨#[]⟩,.string ⟨#[]⟩]) 2 32 underlying185 HIA.out.1 HIA.out.2.1 HIA.out.2.2.1 HIA.out.2.2.2 rfl (by decide) vA xs.length (pairs xs) rfl Zm.out.own ⟨w7.heap.size,0,none⟩ 1 1 [Value.string (aA s p),.string (aA s (p+au s p+1))] rfl rfl Ze.out (by intro u hu;simp at hu;rcases hu with rfl|rfl<;>rfl) (by unfold maxLen;omega) (by omega) HSZ9.out ?_);intro vB w10 Yc XT _;obtain⟨gB,cB,rfl⟩:=fJ Yc;have hX10:some X≠vA.ownBlock:=fun e=>by have:=(Zm.out.own.lt X e.symm).1;omega
  have k10:=XT.cell Zm.out.c1 hX10;have f10:=cz Zm.out.fr (XT.block X Zm.out.lt hX10) 1;have l10:=Vy Zm.out.lt XT.size;have YX:=ai (Zm.out.app ZO.out Yo.out ⟨aA s p,aA s (p+au s p+1)⟩ Yc XT);clear Yc XT a0 a1 k1 Zm hX10 Ze HSZ9 HL8 hxa hax f1 hcl hcf;obtain⟨P,hP⟩:∃P,P=p+au s p+1+au s (p+au s p+1):=⟨_,rfl⟩;obtain⟨S2,hS2⟩:∃S2:ByteArray,S2=aA s (p+au s p+1):=⟨_,rfl⟩;rw[<-hP]at YX PI HPB HPG;rw[<-hS2]at YX PI;clear hP hS2
 all_goals
  go_wp2_with fail;obtain⟨W11,hW11⟩:∃W11,W11=w10.setCell ⟨X,1,none⟩ (.slice (some ⟨gB,0,none⟩) (xs.length+1) cB):=⟨_,rfl⟩;rw[<-hW11]at YX ⊢;clear hW11 k10 f10 l10;refine(ma R s eY P false v W11 YX.out.rd hs HPB.out (by decide)).mono ?_;rintro e w12 ⟨rfl,Zl,Zn⟩;cases hcl:ny s eY P false;case true=>
   rw[uS hcl]at Zl;have XY:=ai (YX.out.moved ZO.out Zn Zl);have EQ:=ai (Jm (HPP.out.symm.trans (Gn (xs:=xs) (n:=m) PI.out hcl)));obtain⟨ad,cap,hva,hnq,hin⟩:=XY.out.node Yo.out (base:=base) (VJ hB Xj.out.size);injection hva with hva1 hva2 hva3;subst hva1;subst hva3;clear hva2;have HNQ:=ai hnq;have HIN:=ai hin;have k0:=XY.out.c0;have k1:=XY.out.c1;have k2:=XY.out.c2;have k3:=XY.out.c3;have k4:=XY.out.c4;have HF:=ai (Ya.out.over hR XY.out.onl XY.out.rd);have HO:=ai (Xj.out.trans0 XY.out.onl);clear Zl Zn hcl hnq hin YX XY;go_wp2_with fail;have HADD:=L9 R s ⟨P+1,false,st.out⟩ base v qs ⟨⟨1,xs++[⟨aA s p,S2⟩],⟨#[]⟩,⟨#[]⟩,[]⟩,some ⟨gB,0,none⟩,cB,none,0⟩ w12 HF.out hR (VJ hB HO.out.size) hn HNQ.out (.inl ⟨rfl,rfl,rfl⟩) (fun g hg=>⟨fun e=>by have:=(Ya.out.own.lt g e).2;have:=HIN.out g hg;have:=Yo.out;omega,fun q' hq' hg'=>by have:=(Ya.out.lie q' hq' g hg').2.1;have:=HIN.out g hg;have:=Yo.out;omega⟩);rw[show(⟨⟨1,xs++[⟨aA s p,S2⟩],⟨#[]⟩,⟨#[]⟩,[]⟩,some ⟨gB,0,none⟩,cB,none,0⟩:ER).val=.agg #[.int .i64 1,.slice (some ⟨gB,0,none⟩) (xs.length+1) cB,.string ⟨#[]⟩,.string ⟨#[]⟩,.slice none 0 0] by simp[ER.val]]at HADD;refine HADD.mono ?_;rintro e w13 ⟨v13,rfl,hF13,hW13⟩;have HF13:=ai hF13;have HW13:=ai ((HO.out.any v).trans hW13);clear hF13 hW13;go_wp2;exact bodyPost_ret (v:=.int .i64 (st.out.length:Int)) (by simp[results,Tryz.results242,go_sem]) rfl (by rw[EQ.out];exact⟨v13,_,rfl,HF13.out,HW13.out,fun q hq g hg=>by rw[VK]at hq;subst hq;have:=HIN.out g hg;have:=HX0.out;omega⟩)
  rw[zP hcl]at Zl;have XY:=ai (YX.out.moved ZO.out Zn Zl);have Z9:=ai hcl;clear Zl Zn hcl YX;go_wp2_with fail;refine(ma R s l8 P false v w12 XY.out.rd hs HPB.out (by decide)).mono ?_;rintro e w13 ⟨rfl,hr13,ZP⟩;cases hcm:ny s l8 P false;case true=>
   rw[uS hcm]at hr13;have Za:=ai (XY.out.moved ZO.out ZP hr13);have HQ13:Hid (P+1<=s.size):=Aw hcm;have EQ:=ai ((Gp (xs:=xs) (n:=m) PI.out Z9.out hcm).symm.trans HPP.out);have HM:Hid (s.size-wat R w13+wbad R w13<s.size-wat R wr+wbad R wr):=by
    show _<_;rw[Za.out.rd.wbad1,HPLB.out,show wat R w13=P+1 from Za.out.rd.place,HPLC.out];have:=HQ13.out;have:=HPG.out;omega
   clear hr13 ZP hcm XY;go_wp2;go_roundw;case rel=>exact⟨m,P+1,false,xs++[(⟨aA s p,S2⟩:Al)],.slice (some ⟨gB,0,none⟩) (xs.length+1) cB,HQ13.out,EQ.out,fun _=>⟨by have:=HLN1.out;have:=HPG.out;have:=HQ13.out;omega,by have:=HLN2.out;have:=HPG.out;rw[VI,Wh];omega⟩,Za.out⟩
   exact HM.out
  rw[zP hcm]at hr13;have Za:=ai (XY.out.moved ZO.out ZP hr13);have EQ:=ai ((Mg (xs:=xs) (n:=m) PI.out Z9.out hcm).symm.trans HPP.out);have c2:=Za.out.rd.c2;have f2:=Za.out.rd.fr 2;have hl13:=Za.out.rd.lt;have HL14:Hid (PL w1 (w13.setCell ⟨R,2,none⟩ (.bool true)) R X s (xs++[⟨aA s p,S2⟩]) P true v (.slice (some ⟨gB,0,none⟩) (xs.length+1) cB)):=Za.out.moved ZO.out (by have:=FU w13 R 2 (.bool true) 0;exact this) Za.out.rd.hurt;have HM:Hid (s.size-wat R (w13.setCell ⟨R,2,none⟩ (.bool true))+wbad R (w13.setCell ⟨R,2,none⟩ (.bool true))<s.size-wat R wr+wbad R wr):=by
   show _<_;rw[HL14.out.rd.wbad0,HPLB.out,show wat R (w13.setCell ⟨R,2,none⟩ (.bool true))=P from HL14.out.rd.place,HPLC.out];have:=HPG.out;omega
  clear hr13 ZP hcm XY Za;go_wp2;go_roundw;case rel=>exact⟨m,P,true,xs++[(⟨aA s p,S2⟩:Al)],.slice (some ⟨gB,0,none⟩) (xs.length+1) cB,HPB.out,EQ.out,fun h=>(by cases h),HL14.out⟩
  exact HM.out
theorem pG(rs:Q08)(n:Nat)(h:n<rs.length):lY (aj rs) n=rs[n].e.kids:=by simp[lY,aj,h]
theorem Jq(b off cap:Nat)(rs:Q08)(hlen:rs.length<=1048576)(hl:∀r∈rs,r.e.light)(n:Nat):∀(w:ae),n<rs.length->b<w.heap.size->(∀(i:Nat) (h:i<rs.length),yx w b (off+i*5) rs[i])->(∀r∈rs,r.ok w) ->
  Calls prog 194 #[.slice (some ⟨b,off,none⟩) rs.length cap,.int .i64 (n:Int)] w fun e w'=>e=.returned (.int .i64 (aG (aj rs) n))/\af w w':=by
 induction n using Nat.strongRecOn with
 | ind n ih =>
  intro w hn hb hr hok
  have IH:Hid (∀ m,m<n->∀ (w:World),m<rs.length->b<w.heap.size->(∀ (i:Nat) (h:i<rs.length),yx w b (off+i*5) rs[i])->(∀ r∈rs,r.ok w) ->
   Calls prog 194 #[.slice (some ⟨b,off,none⟩) rs.length cap,.int .i64 (m:Int)] w fun e w'=>e=.returned (.int .i64 (aG (aj rs) m))/\af w w'):=ih
  have HR:Hid (∀(i:Nat) (h:i<rs.length),yx w b (off+i*5) rs[i]):=hr;have HO:=aC hok;obtain⟨t0,t1,t2,t3,t4⟩:=hr n hn;obtain⟨l1,l2⟩:=hl rs[n] (Vz hn);have hn1:=bq n;have hn2:(n:Int)<(rs.length:Int):=by omega
  have HT:Hid (aG (aj rs) n=dB (dQ (aj rs) n) rs[n].e.kids.reverse ((n:Int)-1)):=by show _=_;rw[jT,pG rs n hn]
  have HL:=aC hl;clear ih hr hok hl l1;go_enter func194,ntmps194;go_wp2_with fail;go_loopw[5,6] (fun a i wr=>∃(j:Nat) (x:Int),j<=rs[n].e.kids.length/\i=.int .i64 ((j:Int)-1)/\a=.int .i64 x∧-1<=x/\x<n/\Hid (dB (dQ (aj rs) n) (rs[n].e.kids.take j).reverse x=aG (aj rs) n)/\af w wr) (fun _ i _=>(intOf i+1).toNat);case atStart=>exact⟨rs[n].e.kids.length,(n:Int)-1,VC _,rfl,rfl,by omega,by omega,(by show _=_;rw[VP];exact HT.out.symm),VD _ _⟩
  obtain⟨j,x,hj,rfl,rfl,hx0,hx1,HG,hB⟩:=hrel;have s4:=kept hB hb t4;by_cases hj0:0<j
  ·obtain⟨j,rfl⟩:∃i,j=i+1:=⟨j-1,by omega⟩;have hjl:j<rs[n].e.kids.length:=by omega
   rcases (HO.out rs[n] (Vz hn)).2.below hB with hnil|⟨bk,offk,ZQ,hbk,hrk⟩
   ·rw[hnil]at hjl;simp at hjl
   rw[ZQ]at s4;have k0:=hrk j hjl;clear hrk;have hji:((j+1:Nat):Int)-1=(j:Int):=by omega
   have hj1:=bq j;have hj2:(j:Int)<(rs[n].e.kids.length:Int):=by omega
   have HG2:Hid ((if x<0\/rs[n].e.kids[j]≠x then -1 else if dQ (aj rs) n x<0 then -1 else dB (dQ (aj rs) n) (rs[n].e.kids.take j).reverse (dQ (aj rs) n x-1))=aG (aj rs) n):=by
    have:=HG.out;rw[VE hjl,List.reverse_append]at this;exact this
   rw[hji];clear HG ZQ t0 t1 t2 t3 t4;by_cases hxn:x<0
   ·have HT1:Hid (aG (aj rs) n=-1):=by show _=_;rw[<-HG2.out,if_pos (Or.inl hxn)]
    go_wp2;go_ret;exact⟨by rw[HT1.out];rfl,hB⟩
   by_cases hkx:rs[n].e.kids[j]=x
   ·obtain⟨m,rfl⟩:∃m:Nat,x=(m:Int):=⟨x.toNat,by omega⟩;have hF:dQ (aj rs) n (m:Int)=aG (aj rs) m:=by unfold dQ;rw[if_pos ⟨by omega,by simp;omega⟩];simp
    have HF:Hid (dQ (aj rs) n (m:Int)=aG (aj rs) m):=hF;have hle:=nW (aj rs) m;clear hF;go_wp2_with fail;refine(IH.out m (by omega) _ (by omega) (Vy hb hB.size) (fun i hi=>(HR.out i hi).same fun o=>hB.cell (p:=⟨b,o,none⟩) hb) (fun r hr=>(HO.out r hr).below hB)).mono ?_;rintro e w1 ⟨rfl,hb1⟩;have hB1:af w w1:=hB.trans (hb1.mono hB.size);clear hb1;by_cases hneg:aG (aj rs) m<0
    ·have HT1:Hid (aG (aj rs) n=-1):=by show _=_;rw[<-HG2.out,if_neg (by omega),HF.out,if_pos hneg]
     go_wp2;go_ret;exact⟨by rw[HT1.out];rfl,hB1⟩
    have ZR:Hid (dB (dQ (aj rs) n) (rs[n].e.kids.take j).reverse (aG (aj rs) m-1)=aG (aj rs) n):=by
     show _=_;rw[<-HG2.out,if_neg (by omega),HF.out,if_neg hneg]
    go_wp2;go_roundw;case rel=>exact⟨j,aG (aj rs) m-1,by omega,by go_num,rfl,by omega,by omega,ZR,hB1⟩
    simp[intOf]<;>omega
   have HT1:Hid (aG (aj rs) n=-1):=by show _=_;rw[<-HG2.out,if_pos (Or.inr hkx)]
   go_wp2;go_ret;exact⟨by rw[HT1.out];rfl,hB⟩
  obtain rfl:j=0:=by omega
  have HT1:Hid (aG (aj rs) n=x+1):=by show _=_;have:=HG.out;simp[dB]at this;exact this.symm
  clear HG t0 t1 t2 t3 t4;go_wp2;go_ret;exact⟨by rw[HT1.out];rfl,hB⟩
theorem yx.later{w w':ae}{b off:Nat}{r:ER}(h:yx w b off r)(hb:b<w.heap.size)(hB:af w w'):yx w' b off r:=h.same fun o=>hB.cell (p:=⟨b,o,none⟩) hb
theorem C9{es:Q09}(h:¬(1<=es.length/\es.length<=15)):aP es=false:=by
 unfold aP;by_cases h1:1<=es.length
 ·have h2:¬es.length<=15:=fun h2=>h ⟨h1,h2⟩;simp[h2]
 simp[h1]
theorem Jr{es:Q09}(k:Nat)(h:k<es.length)(hb:az es[k]=false):aP es=false:=by simp[aP,Cz es k h hb]
theorem Js{es:Q09}(k:Nat)(h:k<es.length)(hb:kN es k=false):aP es=false:=by simp[aP,Ou es k h hb]
def pI(zs:List Int)(i j:Nat):Bool:=(zs.take j).all fun k=>decide (0<=k)&&decide (k<=(i:Int)-1)
theorem Ey(zs:List Int)(i j:Nat)(h:j<zs.length):pI zs i (j+1)=(pI zs i j&&(decide (0<=zs[j])&&decide (zs[j]<=(i:Int)-1))):=by
 unfold pI;rw[VE h,WK];simp
theorem Gq(zs:List Int)(i j:Nat)(h:j<zs.length)(hb:(decide (0<=zs[j])&&decide (zs[j]<=(i:Int)-1))=false):(zs.all fun k=>decide (0<=k)&&decide (k<=(i:Int)-1))=false:=by
 rw[Bool.eq_false_iff];intro h2;rw[VN]at h2;have:=h2 zs[j] (Vz h);rw[hb]at this;cases this
set_option maxRecDepth 4000 in
theorem Az(b off cap:Nat)(rs:Q08)(w:ae)(hlen:rs.length<=1048576)(hl:∀r∈rs,r.e.light)(hf:∀r∈rs,r.e.fits)(hb:b<w.heap.size)(hr:∀(i:Nat) (h:i<rs.length),yx w b (off+i*5) rs[i])(hok:∀r∈rs,r.ok w):
  Calls prog 152 #[.slice (some ⟨b,off,none⟩) rs.length cap] w fun e w'=>e=.returned (.bool (aP (aj rs)))/\af w w':=by
 have hel:=aZ rs;have YI:Hid ((aj rs).length=rs.length):=hel;have HL:=aC hl;have HF:=aC hf;have HR:Hid (∀(i:Nat) (h:i<rs.length),yx w b (off+i*5) rs[i]):=hr;have HO:=aC hok;clear hel hl hf hr hok;by_cases hn:1<=rs.length/\rs.length<=15
 ·obtain⟨hn1,hn2⟩:=hn;go_enter func152,ntmps152;go_wp2_with fail;go_loopw[3,4] (fun o i wr=>∃k:Nat,k<=rs.length/\i=.int .i64 k/\o=.int .i64 (gF (aj rs) k:Nat)/\Hid (jw (aj rs) k=true/\jc (aj rs) k=true)/\af w wr) (fun _ i _=>rs.length-(intOf i).toNat);case atStart=>exact⟨0,VG _,rfl,rfl,⟨by simp[jw],by simp[jc]⟩,VD _ _⟩
  obtain⟨k,hk,rfl,rfl,HU,hB⟩:=hrel;by_cases hlt:k<rs.length
  ·have YY:k<(aj rs).length:=by rw[YI.out];exact hlt
   have hek:(aj rs)[k]=rs[k].e:=by simp[aj]
   have HEK:Hid ((aj rs)[k]=rs[k].e):=hek;obtain⟨t0,t1,t2,t3,t4⟩:=(HR.out k hlt).later hb hB;clear hek;have hk1:=bq k;have hk2:(k:Int)<(rs.length:Int):=by omega
   have hol:=uM (aj rs) k;go_wp2_with fail;refine(Eh rs[k] _ (HF.out _ (Vz hlt)) ((HO.out _ (Vz hlt)).below hB)).mono ?_;rintro e w1 ⟨rfl,hb1⟩;cases WU:az rs[k].e;case false=>
    have HN:Hid (aP (aj rs)=false):=Jr k YY (by rw[HEK.out];exact WU);go_wp2;go_ret;exact⟨by rw[HN.out];rfl,hB.trans (hb1.mono hB.size)⟩
   have hB1:af w w1:=hB.trans (hb1.mono hB.size);have hbw:b<wr.heap.size:=Vy hb hB.size;replace t0:=kept hb1 hbw t0;replace t4:=kept hb1 hbw t4;have hbw1:b<w1.heap.size:=Vy hbw hb1.size;clear t1 t2 t3 hb1 hB hbw;go_wp2_with fail;go_loopw[5] (fun i w2=>∃j:Nat,j<=rs[k].e.kids.length/\i=.int .i64 j/\Hid (pI rs[k].e.kids k j=true)/\w2=w1) (fun i _=>rs[k].e.kids.length-(intOf i).toNat);case atStart=>exact⟨0,VG _,rfl,(by show _=_;simp[pI]),rfl⟩
   obtain⟨j,hj,rfl,HP,rfl⟩:=hrel;by_cases hjl:j<rs[k].e.kids.length
   ·rcases (HO.out rs[k] (Vz hlt)).2.below hB1 with hnil|⟨bk,offk,ZQ,hbk,hrk⟩
    ·rw[hnil]at hjl;simp at hjl
    have t4':=t4;rw[ZQ]at t4';have k0:=hrk j hjl;have hj1:=bq j;have hj2:(j:Int)<(rs[k].e.kids.length:Int):=by omega
    obtain⟨-,lk⟩:=HL.out rs[k] (Vz hlt);clear hrk ZQ t4;go_wp2_with fail;refine(qD _ _ _ _).mono ?_;rintro e w' ⟨rfl,rfl⟩;cases hin:(decide (0<=rs[k].e.kids[j])&&decide (rs[k].e.kids[j]<=(k:Int)-1));case false=>
     have HN:Hid (aP (aj rs)=false):=Js k YY (by unfold kN;rw[pG rs k hlt];exact Gq _ k j hjl hin);go_wp2;go_ret;exact⟨by rw[HN.out];rfl,hB1⟩
    have Xa:Hid (pI rs[k].e.kids k (j+1)=true):=by show _=_;rw[Ey _ _ _ hjl,HP.out,hin];rfl
    go_wp2;go_roundw;case rel=>exact⟨j+1,by omega,by go_num,Xa,by first|rfl|trivial⟩
    simp[intOf]<;>omega
   obtain rfl:j=rs[k].e.kids.length:=by omega
   have HU2:Hid (jw (aj rs) (k+1)=true/\jc (aj rs) (k+1)=true):=by
    refine⟨?_,?_⟩
    ·rw[uN _ _ YY,HU.out.1,HEK.out,WU];rfl
    rw[FQ,HU.out.2];unfold kN;rw[pG rs k hlt];have:=HP.out;unfold pI at this;rw[VP]at this;rw[this];rfl
   have HOW:Hid (gF (aj rs) (k+1)=gF (aj rs) k+(if rs[k].e.kind=1 then 1 else 0)):=by show _=_;rw[zG _ _ YY,HEK.out]
   by_cases hk1':rs[k].e.kind=1
   ·have HOW2:Hid (gF (aj rs) (k+1)=gF (aj rs) k+1):=by show _=_;rw[HOW.out,if_pos hk1']
    clear HOW;go_wp2;go_roundw;case rel=>exact⟨k+1,by omega,by go_num,by rw[HOW2.out];go_num,HU2,hB1⟩
    simp[intOf]<;>omega
   have HOW2:Hid (gF (aj rs) (k+1)=gF (aj rs) k):=by show _=_;rw[HOW.out,if_neg hk1'];rfl
   clear HOW;go_wp2;go_roundw;case rel=>exact⟨k+1,by omega,by go_num,by rw[HOW2.out],HU2,hB1⟩
   simp[intOf]<;>omega
  obtain rfl:k=rs.length:=by omega
  have HN:Hid ((aj rs).all az=true):=by
   have:=HU.out.1;unfold jw at this;rwa [<-YI.out,VP]at this
  have HKU:Hid (jc (aj rs) rs.length=true):=HU.out.2;have HOW:Hid (gF (aj rs) rs.length=own (aj rs)):=by show _=_;unfold gF;rw[<-YI.out,VP]
  have hol:=uM (aj rs) rs.length;by_cases ho:gF (aj rs) rs.length<=1
  ·have HS:Hid (aP (aj rs)=decide (aG (aj rs) (rs.length-1)=0)):=by
    show _=_;have h1:own (aj rs)<=1:=by rw[<-HOW.out];exact ho
    have e1:=YI.out;unfold aP;rw[e1,HN.out,HKU.out];simp[h1,hn1,hn2]
   have hcast:((rs.length:Int)-1)=((rs.length-1:Nat):Int):=by omega
   have Zy:Hid (((rs.length:Int)-1)=((rs.length-1:Nat):Int)):=hcast;clear hcast;go_wp2_with fail;rw[Zy.out];refine(Jq b off cap rs hlen HL.out (rs.length-1) _ (by omega) (Vy hb hB.size) (fun i hi=>(HR.out i hi).later hb hB) (fun r hr=>(HO.out r hr).below hB)).mono ?_;rintro e w1 ⟨rfl,hb1⟩;go_wp2;go_ret;exact⟨by rw[HS.out];exact ah (by rw[VV];simp),hB.trans (hb1.mono hB.size)⟩
  have HS:Hid (aP (aj rs)=false):=by
   show _=_;have h1:¬own (aj rs)<=1:=by rw[<-HOW.out];exact ho
   simp[aP,h1]
  go_wp2;go_ret;exact⟨by rw[HS.out];rfl,hB⟩
 have HN:Hid (aP (aj rs)=false):=C9 (by rw[YI.out];exact hn);go_enter func152,ntmps152;go_wp2_with fail
 all_goals go_ret
 all_goals exact⟨by rw[HN.out];rfl,VD _ _⟩
theorem mD(ad:Q02)(cap:Nat)(rs:Q08)(w:ae)(hlen:rs.length<=1048576)(hl:∀r∈rs,r.e.light)(hf:∀r∈rs,r.e.fits)(hs:jq w ad rs):
  Calls prog 152 #[.slice ad rs.length cap] w fun e w'=>e=.returned (.bool (aP (aj rs)))/\af w w':=by
 rcases hs with rfl|⟨b,off,rfl,hb,hr,hok⟩
 ·go_enter func152,ntmps152;go_wp2_with fail;go_ret;exact⟨rfl,VD _ _⟩
 exact Az b off cap rs w hlen hl hf hb hr hok
theorem qR{a b:ByteArray}(h:a=b):Ending.returned (.string a)=.returned (.string b):=by rw[h]
theorem rW(a:bW):(⟨#[]⟩:ByteArray)++a=a:=by apply je;simp[ByteArray.data_append]
theorem xU(a:Al)(w:ae)(h1:a.t.size<=12)(h2:a.s.size<=12):
  Calls prog 253 #[.agg #[.string a.t,.string a.s]] w fun e w'=>e=.returned (.string (fI a))/\af w w':=by
 have hB:=(VD w.heap.size w).alloc (VC _) (.cells #[.string a.t,.string a.s] 223);cases he:a.s.toList.isEmpty;case true=>
  go_enter func253,ntmps253;go_wp2;go_ret;exact⟨qR (by simp[fI,he]),hB⟩
 go_enter func253,ntmps253;go_wp2;go_ret;exact⟨qR (by simp[fI,he]),hB⟩
theorem mE(k:Int)(w:ae):
  Calls prog 243 #[.int .i64 k] w fun e w'=>e=.returned (.string (gG k))/\w'=w:=by
 by_cases h4:k=4
 ·subst h4;go_enter func243,ntmps243;go_wp2;go_ret;exact⟨rfl,rfl⟩
 by_cases h5:k=5
 ·subst h5;go_enter func243,ntmps243;go_wp2;go_ret;exact⟨rfl,rfl⟩
 have HS:Hid (gG k=⟨#[32,45,32]⟩):=by show _=_;simp[gG,h4,h5]
 go_enter func243,ntmps243;go_wp2;go_ret;exact⟨by rw[HS.out];rfl,rfl⟩
theorem Ez{α:Type}{xs:List α}{k:Nat}(h:k<=xs.length):xs.take k=[]↔k=0:=by
 constructor
 ·intro e;have:=congrArg List.length e;rw[V9,WH]at this;omega
 rintro rfl;simp
theorem nC(sep:bW)(xs:List ByteArray):fB sep (xs.take 0)=⟨#[]⟩:=by simp[CB]
theorem AA(sep:bW)(xs:List ByteArray)(h:0<xs.length):fB sep (xs.take 1)=⟨#[]⟩++xs[0]:=by
 rw[show(1:Nat)=0+1 from rfl,VE h,o6,if_pos (by simp),rW]
theorem xV(sep:bW)(xs:List ByteArray)(k:Nat)(h:k<xs.length)(hk:0<k):fB sep (xs.take (k+1))=fB sep (xs.take k)++sep++xs[k]:=by
 rw[VE h,o6,if_neg];rw[Ez (by omega)];omega
theorem xW(sep:bW)(xs:List ByteArray)(b k:Nat)(hx:∀x∈xs,x.size<=b):(fB sep (xs.take k)).size<=k*(b+sep.size):=by
 have h1:=o7 sep b _ (xs.take k) rfl (fun x h=>hx x (List.mem_of_mem_take h));have h2:(xs.take k).length*(b+sep.size)<=k*(b+sep.size):=Nat.mul_le_mul_right _ (by simp;omega);omega
theorem Da{es:Q09}(hes:SH es)(n:Nat)(hn:n<es.length)(i:Bool):(iU es n i).size<=20000000000000 :=
 VJ (IJ hes n hn i) (VJ (CE (by have:=hes.1;omega)) Rh)
set_option maxRecDepth 4000 in
theorem Jt(b off cap:Nat)(rs:Q08)(hes:SH (aj rs))(hl:∀r∈rs,r.e.light)(n:Nat):∀(inside:Bool) (w:ae),n<rs.length->b<w.heap.size->(∀(i:Nat) (h:i<rs.length),yx w b (off+i*5) rs[i])->(∀r∈rs,r.ok w) ->
  Calls prog 246 #[.slice (some ⟨b,off,none⟩) rs.length cap,.int .i64 (n:Int),.bool inside] w fun e w'=>e=.returned (.string (iU (aj rs) n inside))/\af w w':=by
 have HES:=aC hes;have HL:=aC hl;have h15:rs.length<=15:=by have:=hes.1;rw[aZ]at this;exact this
 clear hes hl
 induction n using Nat.strongRecOn with
 | ind n ih =>
  intro inside w hn hb hr hok
  have IH:Hid (∀ m,m<n->∀ (inside:Bool) (w:World),m<rs.length->b<w.heap.size->(∀ (i:Nat) (h:i<rs.length),yx w b (off+i*5) rs[i])->(∀ r∈rs,r.ok w) ->
   Calls prog 246 #[.slice (some ⟨b,off,none⟩) rs.length cap,.int .i64 (m:Int),.bool inside] w fun e w'=>e=.returned (.string (iU (aj rs) m inside))/\af w w'):=ih
  have HR:Hid (∀(i:Nat) (h:i<rs.length),yx w b (off+i*5) rs[i]):=hr;have HO:=aC hok;obtain⟨t0,t1,t2,t3,t4⟩:=hr n hn;have hnE:n<(aj rs).length:=by rw[aZ];exact hn
  have heE:(aj rs)[n]=rs[n].e:=by simp[aj]
  have WU:az rs[n].e=true:=by rw[<-heE];exact HES.out.2.1 n hnE
  have hkl:=uP HES.out hnE;rw[heE]at hkl;obtain⟨hk5,hkind⟩:=qC WU;have HT:Hid (iU (aj rs) n inside=inT rs[n].e inside (l7 (jA (aj rs) n) rs[n].e)):=by show _=_;unfold iU;rw[Ee hnE,heE]
  have HN:Hid (az rs[n].e=true):=WU;have XB:Hid (∀k∈rs[n].e.kids,0<=k/\k.toNat<n):=hkl;have hn1:=bq n;have hn2:(n:Int)<(rs.length:Int):=by omega
  clear ih hr hok WU hkl heE;by_cases k1:rs[n].e.kind=1
  ·skip
   obtain⟨W,hW⟩:∃W,W=w.alloc (.cells #[.int .i64 1,.slice rs[n].adA rs[n].e.allow.length rs[n].capA,.string rs[n].e.over,.string rs[n].e.name,.slice rs[n].adK rs[n].e.kids.length rs[n].capK] 188):=⟨_,rfl⟩;have hB0:af w W:=by rw[hW];exact(VD _ _).alloc (VC _) _
   have hgl:w.heap.size<W.heap.size:=by rw[hW];simp
   have g0:W.cell? ⟨w.heap.size,0,none⟩=some (.int .i64 1):=by rw[hW];simp
   have g1:W.cell? ⟨w.heap.size,1,none⟩=some (.slice rs[n].adA rs[n].e.allow.length rs[n].capA):=by rw[hW];simp
   have g2:W.cell? ⟨w.heap.size,2,none⟩=some (.string rs[n].e.over):=by rw[hW];simp
   have g3:W.cell? ⟨w.heap.size,3,none⟩=some (.string rs[n].e.name):=by rw[hW];simp
   have g4:W.cell? ⟨w.heap.size,4,none⟩=some (.slice rs[n].adK rs[n].e.kids.length rs[n].capK):=by rw[hW];simp
   have HB0:=aC hB0;clear hB0;have hal:dW rs[n].e.allow=true:=by
    have:=HN.out;unfold az at this;rw[if_pos k1]at this;simp only[VF]at this;exact this.1.1.1
   have hts:=j4 hal;have Xl:Hid (dW rs[n].e.allow=true):=hal;have HT1:Hid (iU (aj rs) n inside=uO rs[n].e.allow):=by show _=_;rw[HT.out];simp[inT,l7,k1]
   have hl6:rs[n].e.allow.length<=6:=by unfold dW at hal;simp at hal;exact hal.1.2
   have HAS:Hid (∀x∈rs[n].e.allow.map fI,x.size<=25):=fun x hx=>by
    obtain⟨a,ha,rfl⟩:=VQ.1 hx;obtain⟨i,hi,rfl⟩:=WR ha;unfold dW at hal;simp only[VF]at hal;exact qB (za hal.2 i hi hi)
   clear hal HT;go_enter func246,ntmps246;go_wp2_with fail;rw[<-hW];clear hW t0 t1 t2 t3 t4;go_loopw[8,9] (fun s i wr=>∃k:Nat,k<=rs[n].e.allow.length/\i=.int .i64 k/\s=.string (fB ⟨#[44]⟩ ((rs[n].e.allow.map fI).take k))/\af W wr) (fun _ i _=>rs[n].e.allow.length-(intOf i).toNat);case atStart=>exact⟨0,VG _,rfl,by rw[nC],VD _ _⟩
   obtain⟨k,hk,rfl,rfl,hB⟩:=hrel;have hBw:af w wr:=HB0.out.trans (hB.mono HB0.out.size);have a1:=kept hB hgl g1;have hsj:(fB ⟨#[44]⟩ ((rs[n].e.allow.map fI).take k)).size<=200:=by
    have h:=xW ⟨#[44]⟩ (rs[n].e.allow.map fI) 25 k HAS.out;have e1:(⟨#[44]⟩:ByteArray).size=1:=rfl;rw[e1]at h;omega
   by_cases hlt:k<rs[n].e.allow.length
   ·rcases (HO.out rs[n] (Vz hn)).1.below hBw with hnil|⟨ba,YO,YP,Z7,hra⟩
    ·rw[hnil]at hlt;simp at hlt
    rw[YP]at a1;obtain⟨q0,q1⟩:=hra k hlt;have hab:FP rs[n].e.allow[k]=true:=by
     have:=Xl.out;unfold dW at this;simp only[VF]at this;exact za this.2 k hlt hlt
    have z2:=qB hab;unfold FP at hab;rw[VF]at hab;have z0:=bG hab.1;have z1:=zI hab.2;have hk1:=bq k;have hk2:(k:Int)<(rs[n].e.allow.length:Int):=by omega
    clear hra YP hab;by_cases hk0:0<k
    ·have hk3:(0:Int)<(k:Int):=by omega
     have HJ:Hid (fB ⟨#[44]⟩ ((rs[n].e.allow.map fI).take (k+1))=fB ⟨#[44]⟩ ((rs[n].e.allow.map fI).take k)++⟨#[44]⟩++fI rs[n].e.allow[k]):=by show _=_;rw[xV _ _ _ (by simpa using hlt) hk0,List.getElem_map]
     go_wp2_with fail;refine(xU rs[n].e.allow[k] _ z0 z1).mono ?_;rintro e w1 ⟨rfl,hb1⟩;have hB1:af W w1:=hB.trans (hb1.mono hB.size);clear hb1;go_wp2;go_roundw;case rel=>exact⟨k+1,by omega,by go_num,by rw[HJ.out],hB1⟩
     simp[intOf]<;>omega
    skip
    have hk3:¬(0:Int)<(k:Int):=by omega
    have HJ:Hid (fB ⟨#[44]⟩ ((rs[n].e.allow.map fI).take (k+1))=fB ⟨#[44]⟩ ((rs[n].e.allow.map fI).take k)++fI rs[n].e.allow[k]):=by
     show _=_;obtain rfl:k=0:=by omega
     rw[nC,AA _ _ (by simpa using hlt),List.getElem_map]
    go_wp2_with fail;refine(xU rs[n].e.allow[k] _ z0 z1).mono ?_;rintro e w1 ⟨rfl,hb1⟩;have hB1:af W w1:=hB.trans (hb1.mono hB.size);clear hb1;go_wp2;go_roundw;case rel=>exact⟨k+1,by omega,by go_num,by rw[HJ.out],hB1⟩
    simp[intOf]<;>omega
   obtain rfl:k=rs[n].e.allow.length:=by omega
   have HE:Hid ((rs[n].e.allow.map fI).take rs[n].e.allow.length=rs[n].e.allow.map fI):=by show _=_;rw[Wl (by simp)]
   go_wp2;go_ret;exact⟨by rw[HT1.out];exact qR (by rw[HE.out];rfl),hBw⟩
  by_cases k2:rs[n].e.kind=2
  ·have HT1:Hid (iU (aj rs) n inside=rs[n].e.name):=by show _=_;rw[HT.out];simp[inT,l7,k2]
   clear HT;go_enter func246,ntmps246;go_wp2;go_ret;exact⟨by rw[HT1.out];rfl,(VD _ _).alloc (VC _) _⟩
  by_cases k3:rs[n].e.kind=3
  ·have HT1:Hid (iU (aj rs) n inside=rs[n].e.over++⟨#[45,62]⟩++rs[n].e.name):=by show _=_;rw[HT.out];simp[inT,l7,k3]
   have hsz:rs[n].e.over.size<=12/\rs[n].e.name.size<=12:=by
    have:=HN.out;unfold az at this;rw[if_neg k1,if_neg k2,if_pos k3]at this;simp only[VF]at this;exact⟨bG this.1.1.1,bG this.1.1.2⟩
   obtain⟨z0,z1⟩:=hsz;clear HT;go_enter func246,ntmps246;go_wp2;go_ret;exact⟨by rw[HT1.out];rfl,(VD _ _).alloc (VC _) _⟩
  skip
  obtain⟨W,hW⟩:∃W,W=w.alloc (.cells #[.int .i64 rs[n].e.kind,.slice rs[n].adA rs[n].e.allow.length rs[n].capA,.string rs[n].e.over,.string rs[n].e.name,.slice rs[n].adK rs[n].e.kids.length rs[n].capK] 188):=⟨_,rfl⟩;have hB0:af w W:=by rw[hW];exact(VD _ _).alloc (VC _) _
  have hgl:w.heap.size<W.heap.size:=by rw[hW];simp
  have g0:W.cell? ⟨w.heap.size,0,none⟩=some (.int .i64 rs[n].e.kind):=by rw[hW];simp
  have g1:W.cell? ⟨w.heap.size,1,none⟩=some (.slice rs[n].adA rs[n].e.allow.length rs[n].capA):=by rw[hW];simp
  have g2:W.cell? ⟨w.heap.size,2,none⟩=some (.string rs[n].e.over):=by rw[hW];simp
  have g3:W.cell? ⟨w.heap.size,3,none⟩=some (.string rs[n].e.name):=by rw[hW];simp
  have g4:W.cell? ⟨w.heap.size,4,none⟩=some (.slice rs[n].adK rs[n].e.kids.length rs[n].capK):=by rw[hW];simp
  have HB0:=aC hB0;clear hB0;have HT1:Hid (iU (aj rs) n inside=if inside then ⟨#[40]⟩++fB (gG rs[n].e.kind) (rs[n].e.kids.map (jA (aj rs) n))++⟨#[41]⟩ else fB (gG rs[n].e.kind) (rs[n].e.kids.map (jA (aj rs) n))):=by
   show _=_;rw[HT.out];simp[inT,l7,k1,k2,k3]
  have HTS:Hid (∀x∈rs[n].e.kids.map (jA (aj rs) n),x.size<=20000000000000):=fun x hx=>by
   obtain⟨k,hk,rfl⟩:=VQ.1 hx;have hlt:=XB.out k hk;unfold jA;rw[if_pos hlt.2,Ed];exact Da HES.out _ (by rw[aZ];omega) true
  have kb1:(rs[n].e.kind==1)=false:=by simpa using k1
  have kb2:(rs[n].e.kind==2)=false:=by simpa using k2
  have kb3:(rs[n].e.kind==3)=false:=by simpa using k3
  clear HT hkind;go_enter func246,ntmps246;go_wp2_with fail;rw[<-hW];clear hW t0 t1 t2 t3 t4;go_loopw[8,10] (fun s i wr=>∃k:Nat,k<=rs[n].e.kids.length/\i=.int .i64 k/\s=.string (fB (gG rs[n].e.kind) ((rs[n].e.kids.map (jA (aj rs) n)).take k))/\af W wr) (fun _ i _=>rs[n].e.kids.length-(intOf i).toNat);case atStart=>exact⟨0,VG _,rfl,by rw[nC],VD _ _⟩
  obtain⟨k,hk,rfl,rfl,hB⟩:=hrel;have hBw:af w wr:=HB0.out.trans (hB.mono HB0.out.size);have hbw:b<wr.heap.size:=Vy hb hBw.size;have a0:=kept hB hgl g0;have a4:=kept hB hgl g4;have hsg:=lZ rs[n].e.kind;have hsj:(fB (gG rs[n].e.kind) ((rs[n].e.kids.map (jA (aj rs) n)).take k)).size<=100000000000100:=by
   have h:=xW (gG rs[n].e.kind) (rs[n].e.kids.map (jA (aj rs) n)) 20000000000000 k HTS.out;rw[hsg]at h;omega
  by_cases hlt:k<rs[n].e.kids.length
  ·rcases (HO.out rs[n] (Vz hn)).2.below hBw with hnil|⟨bk,offk,Xx,hbk,hrk⟩
   ·rw[hnil]at hlt;simp at hlt
   rw[Xx]at a4;have q0:=hrk k hlt;obtain⟨hz0,hz1⟩:=XB.out rs[n].e.kids[k] (Vz hlt);obtain⟨m,hm⟩:∃m:Nat,rs[n].e.kids[k]=(m:Int):=⟨rs[n].e.kids[k].toNat,by omega⟩;rw[hm]at q0 hz1;have hmn:m<n:=by simpa using hz1
   have hmr:m<rs.length:=by omega
   have HFm:Hid (jA (aj rs) n rs[n].e.kids[k]=iU (aj rs) m true):=by show _=_;rw[hm];unfold jA;rw[if_pos (by simpa using hmn),Ed];simp
   have hsm:=Da HES.out m (by rw[aZ];exact hmr) true;have hk1:=bq k;have hk2:(k:Int)<(rs[n].e.kids.length:Int):=by omega
   clear hrk Xx hz0 hz1 hm;by_cases hk0:0<k
   ·have hk3:(0:Int)<(k:Int):=by omega
    have HJ:Hid (fB (gG rs[n].e.kind) ((rs[n].e.kids.map (jA (aj rs) n)).take (k+1))=fB (gG rs[n].e.kind) ((rs[n].e.kids.map (jA (aj rs) n)).take k)++gG rs[n].e.kind++iU (aj rs) m true):=by show _=_;rw[xV _ _ _ (by simpa using hlt) hk0,List.getElem_map,HFm.out]
    go_wp2_with fail;refine(mE _ _).mono ?_;rintro e w' ⟨rfl,rfl⟩;go_wp2_with fail;refine(IH.out m hmn true _ hmr hbw (fun i hi=>(HR.out i hi).later hb hBw) (fun r hr=>(HO.out r hr).below hBw)).mono ?_;rintro e w1 ⟨rfl,hb1⟩;have hB1:af W w1:=hB.trans (hb1.mono hB.size);clear hb1;go_wp2;go_roundw;case rel=>exact⟨k+1,by omega,by go_num,by rw[HJ.out],hB1⟩
    simp[intOf]<;>omega
   skip
   have hk3:¬(0:Int)<(k:Int):=by omega
   have HJ:Hid (fB (gG rs[n].e.kind) ((rs[n].e.kids.map (jA (aj rs) n)).take (k+1))=fB (gG rs[n].e.kind) ((rs[n].e.kids.map (jA (aj rs) n)).take k)++iU (aj rs) m true):=by
    have h0:=HFm.out;show _=_;obtain rfl:k=0:=by omega
    rw[nC,AA _ _ (by simpa using hlt),List.getElem_map,h0]
   go_wp2_with fail;refine(IH.out m hmn true _ hmr hbw (fun i hi=>(HR.out i hi).later hb hBw) (fun r hr=>(HO.out r hr).below hBw)).mono ?_;rintro e w1 ⟨rfl,hb1⟩;have hB1:af W w1:=hB.trans (hb1.mono hB.size);clear hb1;go_wp2;go_roundw;case rel=>exact⟨k+1,by omega,by go_num,by rw[HJ.out],hB1⟩
   simp[intOf]<;>omega
  obtain rfl:k=rs[n].e.kids.length:=by omega
  have HE:Hid ((rs[n].e.kids.map (jA (aj rs) n)).take rs[n].e.kids.length=rs[n].e.kids.map (jA (aj rs) n)):=by show _=_;rw[Wl (by simp)]
  cases inside;case true=>
   go_wp2;go_ret;exact⟨by rw[HT1.out];exact qR (by rw[HE.out];rfl),hBw⟩
  go_wp2;go_ret;exact⟨by rw[HT1.out];exact qR (by rw[HE.out];rfl),hBw⟩
def gW(es:Q09):ByteArray:=if aP es then iU es (es.length-1) false else ⟨#[]⟩
theorem Db{es:Q09}(h:aP es=false):gW es=⟨#[]⟩:=by simp[gW,h]
theorem AB{es:Q09}(h:aP es=true):gW es=iU es (es.length-1) false:=by simp[gW,h]
theorem oC(ad:Q02)(cap:Nat)(rs:Q08)(w:ae)(hlen:rs.length<=1048576)(hl:∀r∈rs,r.e.light)(hf:∀r∈rs,r.e.fits)(hs:jq w ad rs):
  Calls prog 227 #[.slice ad rs.length cap] w fun e w'=>e=.returned (.string (gW (aj rs)))/\af w w':=by
 have HS:=aC hs;have HL:=aC hl;have HF:=aC hf;clear hs hl hf;go_enter func227,ntmps227;go_wp2_with fail;refine(mD ad cap rs _ hlen HL.out HF.out HS.out).mono ?_;rintro e w1 ⟨he,hb1⟩;have HB1:=aC hb1;clear hb1;cases hE:aP (aj rs);case false=>
  rw[hE]at he;subst he;have HX:Hid (gW (aj rs)=⟨#[]⟩):=Db hE;go_wp2;go_ret;exact⟨by rw[HX.out];rfl,HB1.out⟩
 rw[hE]at he;subst he;have h1:1<=rs.length:=by
  have:=hE;unfold aP at this;simp only[VF,VM,aZ]at this;exact this.1.1.1.1.1
 rcases HS.out.below HB1.out with rfl|⟨b,off,rfl,hb,hr,hok⟩
 ·simp at h1
 have HR:Hid (∀(i:Nat) (h:i<rs.length),yx w1 b (off+i*5) rs[i]):=hr;have HO:=aC hok;have XK:Hid (SH (aj rs)):=Ov hE;have HX:Hid (gW (aj rs)=iU (aj rs) (rs.length-1) false):=by show _=_;rw[AB hE,aZ]
 have Zy:Hid (((rs.length:Int)-1)=((rs.length-1:Nat):Int)):=by show _=_;omega
 clear hr hok;go_wp2_with fail;rw[Zy.out];refine(Jt b off cap rs XK.out HL.out (rs.length-1) false _ (by omega) hb HR.out HO.out).mono ?_;rintro e w2 ⟨rfl,hb2⟩;have HB2:=kL HB1 hb2;clear hb2;go_wp2;go_ret;exact⟨by rw[HX.out];rfl,HB2.out⟩
theorem vD(k:Int):gG k=aX k:=by
 unfold gG aX;rfl
def gX(s:ByteArray)(p:Nat)(j:Nat):Int :=
 if 4<j/\dS s (aX 4) p=true then 4 else if 5<j/\dS s (aX 5) p=true then 5 else if 6<j/\dS s (aX 6) p=true then 6 else 0
theorem O3(s:bW)(p:Nat):gX s p 4=0:=by simp[gX]
theorem O4(s:bW)(p:Nat):gX s p 7=dz s p:=by simp[gX,dz]
theorem Gr{s:ByteArray}{p j:Nat}(h4:4<=j)(h7:j<7)(h:gX s p j≠0):gX s p (j+1)=gX s p j:=by
 have hj:j=4\/j=5\/j=6:=by omega
 unfold gX at h⊢;rcases hj with rfl|rfl|rfl<;>cases h1:dS s (aX 4) p<;>cases h2:dS s (aX 5) p<;>cases h3:dS s (aX 6) p<;>simp_all
theorem Dc{s:ByteArray}{p j:Nat}(h4:4<=j)(h7:j<7)(h:gX s p j=0)(hl:dS s (aX j) p=false):gX s p (j+1)=0:=by
 have hj:j=4\/j=5\/j=6:=by omega
 unfold gX at h⊢;rcases hj with rfl|rfl|rfl<;>cases h1:dS s (aX 4) p<;>cases h2:dS s (aX 5) p<;>cases h3:dS s (aX 6) p<;>simp_all
theorem Ju{s:ByteArray}{p j:Nat}(h4:4<=j)(h7:j<7)(h:gX s p j=0)(hl:dS s (aX j) p=true):gX s p (j+1)=(j:Int):=by
 have hj:j=4\/j=5\/j=6:=by omega
 unfold gX at h⊢;rcases hj with rfl|rfl|rfl<;>cases h1:dS s (aX 4) p<;>cases h2:dS s (aX 5) p<;>cases h3:dS s (aX 6) p<;>simp_all
theorem mG(k:Int):(aX k).size=3:=by
 unfold aX;split
 ·rfl
 split<;>rfl
theorem AC{s:ByteArray}{p:Nat}(k:Int)(h:p+3<=s.size):dS s (aX k) p=((s.extract p (p+3)).toList==(gG k).toList):=by
 unfold dS;rw[mG,vD];simp[h]
theorem Mi{s:ByteArray}{p:Nat}(k:Int)(h:¬p+3<=s.size):dS s (aX k) p=false:=by
 unfold dS;rw[mG];simp[h]
def rowP(s:ByteArray)(it:RS->Int×RS)(x:Int×RS):Int×RS :=
 if dz s x.2.p=0\/x.2.bad=true then x
 else (((ic s it (dz s x.2.p) (s.size+1) [x.1] x.2).2.out.length:Int),sF ⟨dz s x.2.p,[],⟨#[]⟩,⟨#[]⟩,(ic s it (dz s x.2.p) (s.size+1) [x.1] x.2).1⟩ (ic s it (dz s x.2.p) (s.size+1) [x.1] x.2).2)
theorem AJ{s:ByteArray}{it:RS->Int×RS}{x:Int×RS}(h:dz s x.2.p=0\/x.2.bad=true):rowP s it x=x:=if_pos h
theorem Mj{s:ByteArray}{it:RS->Int×RS}{x:Int×RS}(h:¬(dz s x.2.p=0\/x.2.bad=true)){zs:List Int}{st:RS}(hk:ic s it (dz s x.2.p) (s.size+1) [x.1] x.2=(zs,st)):rowP s it x=((st.out.length:Int),sF ⟨dz s x.2.p,[],⟨#[]⟩,⟨#[]⟩,zs⟩ st):=by
 unfold rowP;rw[if_neg h,hk]
theorem O5{s:ByteArray}{it:RS->Int×RS}{k:Int}{n:Nat}{zs:List Int}{st:RS}(h:ny s (aX k) st.p st.bad=false):ic s it k n zs st=(zs,st):=by
 have e:lw s (aX k) st=false:=h;cases n with
 | zero=>rfl
 | succ n=>unfold ic;rw[e];rfl
theorem Mk{s:ByteArray}{it:RS->Int×RS}{k:Int}{n:Nat}{zs:List Int}{st:RS}(h:ny s (aX k) st.p st.bad=true):ic s it k (n+1) zs st=ic s it k n (zs++[(it (kC (aX k) st)).1]) (it (kC (aX k) st)).2:=by
 have e:lw s (aX k) st=true:=h
 conv=>lhs;unfold ic
 rw[e];rfl
theorem RdC.heap{w w':ae}{R:Nat}{s:ByteArray}{p:Nat}{bad:Bool}{v:Value}(h:RdC w R s p bad v)(hs:w.heap.size<=w'.heap.size)(hh:w'.heap[R]?=w.heap[R]?):RdC w' R s p bad v :=
 ⟨Vy h.lt hs,(VR (w:=w) (a:=⟨R,0,none⟩) hh).trans h.c0,(VR (w:=w) (a:=⟨R,1,none⟩) hh).trans h.c1,(VR (w:=w) (a:=⟨R,2,none⟩) hh).trans h.c2,(VR (w:=w) (a:=⟨R,3,none⟩) hh).trans h.c3,cz h.fr hh⟩
theorem RdF.heap{w w':ae}{R:Nat}{s:ByteArray}{st:RS}{base:Nat}{v:Value}{qs:Q08}(h:RdF w R s st base v qs)(hs:w.heap.size<=w'.heap.size)(h1:w'.heap[R]?=w.heap[R]?)(h2:∀g,v.ownBlock=some g->w'.heap[g]?=w.heap[g]?)(h3:∀q∈qs,∀g,qd q g->w'.heap[g]?=w.heap[g]?):RdF w' R s st base v qs where
 rd:=h.rd.heap hs h1
 own:=jv h.own h2
 out:=h.out
 zA:=h.zA
 zK:=h.zK
 ok q hq:=rQ (h.ok q hq) hs (h.zA q hq) (h.zK q hq) (h3 q hq)
 lie q hq g hg:=by
  obtain⟨a1,a2,a3,a4⟩:=h.lie q hq g hg;exact⟨a1,Vy a2 hs,cz a3 (h3 q hq g hg),a4⟩
 one:=h.one
 two:=h.two
 cA:=h.cA
 cK q hq:=(h.cK q hq).heap (h.zK q hq) (h3 q hq)
structure KLr(w wr:World)(R:Nat)(s:ByteArray)(st:RS)(base:Nat)(v v':Value)(qs ns:Q08)(zs:List Int)(vK:Value):Prop where
 rd:RdF wr R s st base v' (qs++ns)
 went:Went R v w v' wr
 new:∀q∈ns,∀g,qd q g->w.heap.size<=g
 own:wr.ownsRow w.heap.size 2 1 vK zs.length (ints zs)
 far:∀g,vK.ownBlock=some g->v'.ownBlock≠some g/\∀q∈qs++ns,¬qd q g
 ne:zs≠[]
theorem KLr.is{w wr w':ae}{R:Nat}{s:ByteArray}{st st':RS}{base:Nat}{v v':Value}{qs ns:Q08}{zs:List Int}{vK:Value}(h:KLr w wr R s st base v v' qs ns zs vK)(hR:R<w.heap.size)(hg:wr.grownBy w' (some R))(hF:RdF w' R s st' base v' (qs++ns)):KLr w w' R s st' base v v' qs ns zs vK :=
 ⟨hF,h.went.trans ((Onl.of_grown hg).any v'),h.new,h.own.kept hg (.inr (fun e=>by have:=(h.own.lt R e).1;omega)),h.far,h.ne⟩
theorem KLr.more{w wr w':ae}{R:Nat}{s:ByteArray}{st st':RS}{base:Nat}{v v' v2:Value}{qs ns ms:Q08}{zs:List Int}{vK:Value}(h:KLr w wr R s st base v v' qs ns zs vK)(hR:R<w.heap.size)(hF:RdF w' R s st' base v2 ((qs++ns)++ms))(hW:Went R v' wr v2 w')(hm:∀q∈ms,∀g,qd q g->wr.heap.size<=g):KLr w w' R s st' base v v2 qs (ns++ms) zs vK:=by
 have hl:∀g,vK.ownBlock=some g->w.heap.size<=g/\g<wr.heap.size:=fun g hg=>h.own.lt g hg;refine⟨by rw[<-V8];exact hF,h.went.trans hW,fun q hq g hg=>?_,jv h.own fun g hg=>hW.onl.block g (hl g hg).2 (by have:=(hl g hg).1;omega) (h.far g hg).1,fun g hg=>⟨hW.apart (hl g hg).2 (h.far g hg).1,fun q hq hi=>?_⟩,h.ne⟩
 ·rcases VL.1 hq with h1|h1
  ·exact h.new q h1 g hg
  exact VJ h.went.onl.size (hm q h1 g hg)
 rw[<-V8]at hq;rcases VL.1 hq with h1|h1
 ·exact(h.far g hg).2 q h1 hi
 have:=hm q h1 g hi;have:=(hl g hg).2;omega
theorem O6(zs:List Int)(z:Int):ints (zs++[z])=ints zs++[.int .i64 z]:=by simp[ints]
theorem KLr.app{w wr w':ae}{R:Nat}{s:ByteArray}{st:RS}{base:Nat}{v v':Value}{qs ns:Q08}{zs:List Int}{vK vN:Value}(h:KLr w wr R s st base v v' qs ns zs vK)(hR:R<w.heap.size)(z:Int)(o:Obj)(hown:w'.ownsRow w.heap.size 2 1 vN (zs.length+1) (ints zs++[.int .i64 z]))(hg:(wr.alloc o).grownBy w' vK.ownBlock)(hat:vN.ownBlock=vK.ownBlock\/vN.ownBlock=some (wr.alloc o).heap.size):KLr w w' R s st base v v' qs ns (zs++[z]) vN:=by
 have hg0:=World.grownBy_alloc wr o none;have keep:∀k,k<wr.heap.size->vK.ownBlock≠some k->w'.heap[k]?=wr.heap[k]?:=fun k hk hne=>(hg.block k (Vy hk hg0.size) (Ne.symm hne)).trans (hg0.block k hk (by simp));have hl:∀g,vK.ownBlock=some g->w.heap.size<=g/\g<wr.heap.size:=fun g hg=>h.own.lt g hg;have hs:wr.heap.size<=w'.heap.size:=VJ hg0.size hg.size;refine⟨h.rd.heap hs (keep R h.rd.rd.lt (fun e=>by have:=(hl R e).1;omega)) (fun g hg=>keep g (h.rd.own.lt g hg).2 (fun e=>(h.far g e).1 hg)) (fun q hq g hi=>keep g (h.rd.lie q hq g hi).2.1 (fun e=>(h.far g e).2 q hq hi)),?_,h.new,by rw[O6,VI,Wh];exact hown,fun g hgn=>?_,by simp⟩
 ·refine⟨⟨hg.os.trans (hg0.os.trans h.went.onl.os),hg.tape.trans (hg0.tape.trans h.went.onl.tape),hg.output.trans (hg0.output.trans h.went.onl.output),VJ h.went.onl.size hs,fun k hk h1 h2=>(keep k (Vy hk h.went.onl.size) (fun e=>by have:=(hl k e).1;omega)).trans (h.went.onl.block k hk h1 h2)⟩,h.went.own⟩
 rcases hat with e|e
 ·exact h.far g (by rw[<-e];exact hgn)
 rw[e]at hgn;injection hgn with hgn;have hsz:wr.heap.size<=g:=by rw[<-hgn];exact hg0.size
 exact⟨fun e2=>by have:=(h.rd.own.lt g e2).2;omega,fun q hq hi=>by have:=(h.rd.lie q hq g hi).2.1;omega⟩
theorem KLr.node{w wr:ae}{R:Nat}{s:ByteArray}{st:RS}{base:Nat}{v v':Value}{qs ns:Q08}{zs:List Int}{vK:Value}(h:KLr w wr R s st base v v' qs ns zs vK)(hb:base<=w.heap.size)(k:Int):∃ad cap,vK=.slice ad zs.length cap/\NewQ base wr ⟨⟨k,[],⟨#[]⟩,⟨#[]⟩,zs⟩,none,0,ad,cap⟩/\∀g,qd ⟨⟨k,[],⟨#[]⟩,⟨#[]⟩,zs⟩,none,0,ad,cap⟩ g->w.heap.size<=g/\v'.ownBlock≠some g/\∀q∈qs++ns,¬qd q g:=by
 obtain⟨ad,cap,e,h2,h3,h4⟩:=UW h.own rfl;have hA:∀g,¬bA ⟨⟨k,[],⟨#[]⟩,⟨#[]⟩,zs⟩,none,0,ad,cap⟩ g:=fun g hg=>hg.1 rfl;have hK:∀g,qd ⟨⟨k,[],⟨#[]⟩,⟨#[]⟩,zs⟩,none,0,ad,cap⟩ g->(w.heap.size<=g/\g<wr.heap.size/\jJ wr g)/\vK.ownBlock=some g:=by
  rintro g (hg|hg)
  ·exact absurd hg (hA g)
  exact⟨h4 g hg.1 hg.2,by rw[e,show ad=some ⟨g,0,none⟩ from hg.2];rfl⟩
 refine⟨ad,cap,e,⟨fun h=>absurd rfl h,h3,⟨.inl rfl,h2⟩,fun g hg=>⟨VJ hb (hK g hg).1.1,(hK g hg).1.2⟩,fun g hg=>absurd hg (hA g),VG _⟩,fun g hg=>⟨(hK g hg).1.1,h.far g (hK g hg).2⟩⟩
theorem KLr.kid{w wr:ae}{R:Nat}{s:ByteArray}{st:RS}{base:Nat}{v v':Value}{qs ns:Q08}{zs:List Int}{ad:Q02}{cap:Nat}(h:KLr w wr R s st base v v' qs ns zs (.slice ad zs.length cap))(hb:base<=w.heap.size)(k:Int):BV wr base ⟨⟨k,[],⟨#[]⟩,⟨#[]⟩,zs⟩,none,0,ad,cap⟩:=BV.mono (base:=w.heap.size) (.inr ⟨h.ne,h.own⟩) hb
theorem O7(w:ae)(z:Int)(g:Nat)(hg:w.heap.size=g):∀j u,[Value.int .i64 z][j]?=some u->(w.alloc (.cells #[.int .i64 z] 2)).cell? ((⟨g,0,none⟩:Addr).add j)=some u:=by
 intro j u hu;subst hg;rw[show(⟨w.heap.size,0,none⟩:Addr).add j=⟨w.heap.size,0+j,none⟩ by simp[Addr.add];omega,V4];have:=World.cell?_alloc_mark w #[.int .i64 z] 2 (0,0) j;rw[this];simpa using hu
theorem Rt(R:Nat)(s:bW)(st:RS)(base:Nat)(v:Value)(qs:Q08)(w:ae)(h:RdF w R s st base v qs)(hR:R<base)(hB:base<=w.heap.size)(hs:s.size<=1000)(x:Int×RS)(hx:x.2.p<=s.size)
  (hfirst:Calls prog 242 #[.pointer (some ⟨R,0,none⟩)] w (vz R s base v qs w x))
  (it:RS->Int×RS) (hlen:x.2.out.length+(s.size-x.2.p)<=5001)
  (hit:∀(st':RS) (v':Value) (qs':Q08) (w':World),RdF w' R s st' base v' qs'->base<=w'.heap.size->x.2.p+3<=st'.p->st'.p<=s.size->st'.out.length+(s.size-st'.p)<=5000->Calls prog 242 #[.pointer (some ⟨R,0,none⟩)] w' (vz R s base v' qs' w' (it st')))
  (hmono:∀st':RS,x.2.p+3<=st'.p->st'.p<=s.size->st'.p<=(it st').2.p/\(it st').2.p<=s.size/\(it st').2.out.length+st'.p<=st'.out.length+1+(it st').2.p) :
  Calls prog 226 #[.pointer (some ⟨R,0,none⟩)] w (vz R s base v qs w (rowP s it x)):=by
 obtain⟨iI,hiI,zI0,zI1,zI2⟩:=info_parts (P:=prog) (e:=2) (z:=.int .i64 0) (size:=1) (bytes:=8) (by kernel_rfl);have HII:Hid (prog.info? 2=some iI/\iI.zero=some (.int .i64 0)/\iI.size=1/\iI.bytes=8):=⟨hiI,zI0,zI1,zI2⟩;have HLEN:=ai hlen;have HITM:=ai hit;have HMONO:=ai hmono;clear hiI zI0 zI1 zI2 hlen hit hmono;have H:=ai h;have HX:=ai hx;have HIT:=ai hfirst;clear h hx hfirst;go_enter func226,ntmps226;go_wp2_with fail;refine HIT.out.mono ?_;rintro e w1 ⟨v1,ns,rfl,hF1,hW1,hns⟩;have Ya:=ai hF1;have HW1:=ai hW1;have HNS:=ai hns;clear hF1 hW1 hns HIT;go_wp2_with fail;go_loopw[4,5] (fun kd k wr=>∃(j nn:Nat),4<=j/\j<=7/\k=.int .i64 j/\kd=.int .i64 (gX s x.2.p j)/\Hid (wr=w1.drewN nn)) (fun _ k _=>7-(intOf k).toNat);case atStart=>exact⟨4,0,by omega,by omega,rfl,by rw[O3],rfl⟩
 obtain⟨j,nn,hj4,hj7,rfl,rfl,Zh⟩:=hrel;have hrd:RdC wr R s x.2.p x.2.bad v1:=by rw[Zh.out];exact Ya.out.rd.drewN nn
 have HRD:=ai hrd;have c0:=HRD.out.c0;have c1:=HRD.out.c1;have c2:=HRD.out.c2;clear hrd;by_cases hlt:j<7
 ·have hle:decide ((j:Int)<=6)=true:=by simp;omega
  have hle2:(j:Int)<=6:=by omega
  have hwr:IntKind.i64.wrap ((x.2.p:Int)+3)=(x.2.p:Int)+3:=by have:=HX.out;simp[IntKind.wrap,IntKind.bits,IntKind.signed];omega
  by_cases hK:gX s x.2.p j=0
  ·have hK0:(gX s x.2.p j==0)=true:=by simp[hK]
   by_cases ZF:x.2.p+3<=s.size
   ·have hd:decide ((x.2.p:Int)+3<=(s.size:Int))=true:=by simp;omega
    have hd2:(x.2.p:Int)+3<=(s.size:Int):=by omega
    have hnn:(0:Int)<=(x.2.p:Int):=by omega
    have hp1:(x.2.p:Int)<=(x.2.p:Int)+3:=by omega
    rw[hK];cases he:(s.extract x.2.p (x.2.p+3)).toList==(gG j).toList
    case' true =>
     have EQ:=ai (Ju hj4 hlt hK (by rw[AC _ ZF];exact he))
    case' false =>
     have EQ:=ai (Dc hj4 hlt hK (by rw[AC _ ZF];exact he))
    all_goals
     clear hK hK0;go_wp2_with fail;go_quiet ((go_at_call 243;exact Calls.quiet_of_same (mE _ _)));go_wp2;go_roundw;case rel=>exact⟨j+1,nn+nq,by omega,by omega,by go_num,by rw[EQ.out],by show _=_;rw[Zh.out,World.drewN_drewN]⟩
     simp[intOf]<;>omega
   have hd:decide ((x.2.p:Int)+3<=(s.size:Int))=false:=by simp;omega
   have EQ:=ai (Dc hj4 hlt hK (Mi _ ZF));rw[hK];clear hK hK0;go_wp2_with fail;go_quiet ((go_at_call 243;exact Calls.quiet_of_same (mE _ _)));go_wp2;go_roundw;case rel=>exact⟨j+1,nn+nq,by omega,by omega,by go_num,by rw[EQ.out],by show _=_;rw[Zh.out,World.drewN_drewN]⟩
   simp[intOf]<;>omega
  have hK0:(gX s x.2.p j==0)=false:=by simp[hK]
  have EQ:=ai (Gr hj4 hlt hK);clear hK;go_wp2_with fail;go_quiet ((go_at_call 243;exact Calls.quiet_of_same (mE _ _)));go_wp2;go_roundw;case rel=>exact⟨j+1,nn+nq,by omega,by omega,by go_num,by rw[EQ.out],by show _=_;rw[Zh.out,World.drewN_drewN]⟩
  simp[intOf]<;>omega
 obtain rfl:j=7:=by omega
 rw[O4,show((7:Nat):Int)=(7:Int) from rfl];have hle:decide ((7:Int)<=6)=false:=by decide
 obtain⟨kd,hkd⟩:∃kd,kd=dz s x.2.p:=⟨_,rfl⟩;have HKD:=ai hkd;rw[<-hkd];clear hkd;by_cases hk:kd=0
 ·have hk0:(kd==0)=true:=by simp[hk]
  have EQ:=ai (AJ (it:=it) (.inl (HKD.out.symm.trans hk)));subst hk;have HF:=ai (Ya.out.heap (w':=wr) (by rw[Zh.out];exact VC _) (by rw[Zh.out];rfl) (fun g _=>by rw[Zh.out];rfl) (fun q _ g _=>by rw[Zh.out];rfl));have HW:Hid (Went R v w v1 wr):=by rw[Zh.out];exact⟨⟨HW1.out.onl.os,HW1.out.onl.tape,HW1.out.onl.output,HW1.out.onl.size,HW1.out.onl.block⟩,HW1.out.own⟩
  go_wp2;exact bodyPost_ret (v:=.int .i64 x.1) (by simp[results,Tryz.results226,go_sem]) rfl (by rw[EQ.out];exact⟨v1,ns,rfl,HF.out,HW.out,HNS.out⟩)
 have hk0:(kd==0)=false:=by simp[hk]
 cases hb:x.2.bad;case true=>
  have EQ:=ai (AJ (it:=it) (x:=x) (s:=s) (.inr hb));rw[hb]at c2;have HF:=ai (Ya.out.heap (w':=wr) (by rw[Zh.out];exact VC _) (by rw[Zh.out];rfl) (fun g _=>by rw[Zh.out];rfl) (fun q _ g _=>by rw[Zh.out];rfl));have HW:Hid (Went R v w v1 wr):=by rw[Zh.out];exact⟨⟨HW1.out.onl.os,HW1.out.onl.tape,HW1.out.onl.output,HW1.out.onl.size,HW1.out.onl.block⟩,HW1.out.own⟩
  go_wp2;exact bodyPost_ret (v:=.int .i64 x.1) (by simp[results,Tryz.results226,go_sem]) rfl (by rw[EQ.out];exact⟨v1,ns,rfl,HF.out,HW.out,HNS.out⟩)
 rw[hb]at c2;have YZ:Hid (¬(dz s x.2.p=0\/x.2.bad=true)):=by
  rintro(e|e)
  ·exact hk (HKD.out.trans e)
  rw[hb]at e;cases e
 have HF:=ai (Ya.out.heap (w':=wr) (by rw[Zh.out];exact VC _) (by rw[Zh.out];rfl) (fun g _=>by rw[Zh.out];rfl) (fun q _ g _=>by rw[Zh.out];rfl));have HW:Hid (Went R v w v1 wr):=by rw[Zh.out];exact⟨⟨HW1.out.onl.os,HW1.out.onl.tape,HW1.out.onl.output,HW1.out.onl.size,HW1.out.onl.block⟩,HW1.out.own⟩
 have HWB:Hid (R<w.heap.size):=H.out.rd.lt;have HKL0:Hid (KLr w (wr.alloc (.cells #[.int .i64 x.1] 2)) R s x.2 base v v1 qs ns [x.1] (.slice (some ⟨wr.heap.size,0,none⟩) 1 1)):=by
  have hg0:=World.grownBy_alloc wr (.cells #[.int .i64 x.1] 2) none;refine⟨HF.out.heap hg0.size (hg0.block R HF.out.rd.lt (by simp)) (fun g hg=>hg0.block g (HF.out.own.lt g hg).2 (by simp)) (fun q hq g hi=>hg0.block g (HF.out.lie q hq g hi).2.1 (by simp)),HW.out.trans ((Onl.of_below ((VD _ _).alloc (VC _) _)).any v1),HNS.out,World.ownsRow_lit wr #[.int .i64 x.1] 1 HW.out.onl.size (by unfold maxLen;omega) (by simp),fun g hg=>?_,by simp⟩;simp[Value.ownBlock]at hg;subst hg;exact⟨fun e=>by have:=(HF.out.own.lt _ e).2;omega,fun q hq hi=>by have:=(HF.out.lie q hq _ hi).2.1;omega⟩
 clear HF HW HRD Zh Ya HW1 HNS;go_wp2_with fail;clear c0 c1 c2;go_loopw[6] (fun vK wq=>∃(n:Nat) (zs:List Int) (st':RS) (v':Value) (ms:Q08),Hid (st'.p<=s.size/\x.2.p<=st'.p/\s.size-st'.p<n/\zs.length<=st'.p+1/\st'.out.length+(s.size-st'.p)<=5001)/\Hid (ic s it kd n zs st'=ic s it kd (s.size+1) [x.1] x.2)/\Hid (KLr w wq R s st' base v v' qs ms zs vK)) (fun _ wq=>s.size-wat R wq);case atStart=>exact⟨s.size+1,[x.1],x.2,v1,ns,⟨HX.out,VC _,by omega,by simp,HLEN.out⟩,rfl,HKL0.out⟩
 obtain⟨n,zs,st',v',ms,HB,HQ,XB⟩:=hrel;clear HKL0;go_wp2_with fail;refine(mE _ _).mono ?_;rintro e w' ⟨rfl,rfl⟩;go_wp2_with fail;refine(ma R s (gG kd) st'.p st'.bad v' _ XB.out.rd.rd hs HB.out.1 (by simp[lZ])).mono ?_;rintro e w5 ⟨rfl,hr5,hg5⟩;cases hc:ny s (gG kd) st'.p st'.bad;case false=>
  have HK5:=ai (XB.out.is HWB.out hg5 (XB.out.rd.is_no hR hc hr5 hg5));rw[vD]at hc;have EQ:=ai (Mj (zs:=zs) (st:=st') YZ.out (by rw[<-HKD.out];exact HQ.out.symm.trans (O5 hc)));obtain⟨ad,cap,rfl,hnq,hin⟩:=HK5.out.node hB kd;have HNQ:=ai hnq;have HIN:=ai hin;have hql:(qs++ms).length<=100000:=by have h1:=HK5.out.rd.out;have h2:=congrArg List.length h1;simp only[aj,WC]at h2;have:=HB.out.2.2.2.2;omega
  clear hr5 hg5 hc hnq hin XB;go_wp2_with fail;refine(L9 R s st' base v' (qs++ms) ⟨⟨kd,[],⟨#[]⟩,⟨#[]⟩,zs⟩,none,0,ad,cap⟩ w5 HK5.out.rd hR (VJ hB HK5.out.went.onl.size) hql HNQ.out (HK5.out.kid hB kd) (fun g hg=>(HIN.out g hg).2)).mono ?_;rintro e w6 ⟨v6,rfl,hF6,YN⟩;have ZN:=ai hF6;have HW6:=ai (HK5.out.went.trans YN);clear hF6 YN;have HNEW:Hid (∀q∈ms++[(⟨⟨kd,[],⟨#[]⟩,⟨#[]⟩,zs⟩,none,0,ad,cap⟩:ER)],∀g,qd q g->w.heap.size<=g):=by
   intro q hq g hg;rcases VL.1 hq with h1|h1
   ·exact HK5.out.new q h1 g hg
   rw[VK]at h1;subst h1;exact(HIN.out g hg).1
  replace ZN:Hid (RdF w6 R s (sF ⟨kd,[],⟨#[]⟩,⟨#[]⟩,zs⟩ st') base v6 (qs++(ms++[(⟨⟨kd,[],⟨#[]⟩,⟨#[]⟩,zs⟩,none,0,ad,cap⟩:ER)]))):=by rw[<-V8];exact ZN.out
  go_wp2;exact bodyPost_ret (v:=.int .i64 (st'.out.length:Int)) (by simp[results,Tryz.results226,go_sem]) rfl (by rw[EQ.out,<-HKD.out];exact⟨v6,_,rfl,ZN.out,HW6.out,HNEW.out⟩)
 have hk5:=XB.out.is HWB.out hg5 (XB.out.rd.is_yes hR hc hr5 hg5);rw[vD]at hk5;have HK5:=ai hk5;have HPS:Hid (st'.p+3<=s.size):=by have:=Aw hc;rw[lZ]at this;exact this
 have HPL:=ai XB.out.rd.rd.place;obtain⟨m,hm⟩:∃m,n=m+1:=⟨n-1,by have:=HB.out.2.2.1;omega⟩;subst hm;rw[vD]at hc;have EQ:=ai ((Mk (it:=it) (n:=m) (zs:=zs) hc).symm.trans HQ.out);have eP:(kC (aX kd) st').p=st'.p+3:=by unfold kC;rw[mG]
 have eO:(kC (aX kd) st').out=st'.out:=rfl;have a1:x.2.p+3<=(kC (aX kd) st').p:=by rw[eP];have:=HB.out.2.1;omega
 have a2:(kC (aX kd) st').p<=s.size:=by rw[eP];exact HPS.out
 have a3:(kC (aX kd) st').out.length+(s.size-(kC (aX kd) st').p)<=5000:=by rw[eP,eO];have:=HB.out.2.2.2.2;have:=HPS.out;omega
 have hmo:=HMONO.out (kC (aX kd) st') a1 a2;rw[eP,eO]at hmo;have hcall:=HITM.out (kC (aX kd) st') v' (qs++ms) w5 HK5.out.rd (VJ hB HK5.out.went.onl.size) a1 a2 a3;obtain⟨y,hy⟩:∃y,y=it (kC (aX kd) st'):=⟨_,rfl⟩;rw[<-hy]at hmo hcall EQ;have HMO:=ai hmo;have Xe:=ai hcall;clear hr5 hg5 hk5 hc XB eP eO a1 a2 a3 hmo hcall hy;go_wp2_with fail;refine Xe.out.mono ?_;rintro e w6 ⟨v6,ns6,rfl,hF6,YN,hn6⟩;have HK6:=ai (HK5.out.more HWB.out hF6 YN hn6);clear hF6 YN hn6 Xe HK5;obtain⟨W7,hW7⟩:∃W7,W7=w6.alloc (.cells #[.int .i64 y.1] 2):=⟨_,rfl⟩;have YD:Hid (W7.ownsRow w.heap.size 2 1 u6 zs.length (ints zs)):=by rw[hW7];exact HK6.out.own.alloc _
 have HN7:Hid (∀j u,[Value.int .i64 y.1][j]?=some u->W7.cell? ((⟨w6.heap.size,0,none⟩:Addr).add j)=some u):=by rw[hW7];exact O7 w6 _ _ rfl
 have HS7:Hid (w.heap.size<=W7.heap.size):=by show _<=_;rw[hW7];exact VJ HK6.out.went.onl.size (World.grownBy_alloc w6 _ none).size
 have HW7:=ai hW7;have hzl:zs.length<=1001:=by have:=HB.out.2.2.2.1;have:=HB.out.1;omega
 go_wp2_with(at_builtin;rw[<-hW7];clear hW7;refine wpList_append_own_at _ rfl _ _ 186 rfl w.heap.size 2 iI (.int .i64 0) 1 8 underlying186 HII.out.1 HII.out.2.1 HII.out.2.2.1 HII.out.2.2.2 rfl (by decide) u6 zs.length (ints zs) rfl YD.out ⟨w6.heap.size,0,none⟩ 1 1 [Value.int .i64 y.1] rfl rfl HN7.out (by intro u hu;simp at hu;subst hu;rfl) (by unfold maxLen;omega) (by omega) HS7.out ?_);intro vN w8 ZT hgr8 _ hat8;have HK8:Hid (KLr w w8 R s y.2 base v v6 qs (ms++ns6) (zs++[y.1]) vN):=by
  rw[HW7.out]at hgr8 hat8;exact HK6.out.app HWB.out y.1 _ ZT hgr8 hat8
 have HM:Hid (s.size-wat R w8<s.size-wat R w'):=by
  show _<_;rw[HK8.out.rd.rd.place,HPL.out];have:=HMO.out.1;have:=HMO.out.2.1;have:=HPS.out;omega
 clear ZT hgr8 hat8 YD HN7 HS7 HW7 HK6;go_wp2;go_roundw;case rel=>exact⟨m,zs++[y.1],y.2,v6,ms++ns6,⟨HMO.out.2.1,by have:=HMO.out.1;have:=HB.out.2.1;omega,by have:=HB.out.2.2.1;have:=HMO.out.1;have:=HMO.out.2.1;omega,by have:=HB.out.2.2.2.1;have:=HMO.out.1;rw[VI,Wh];omega,by have:=HB.out.2.2.2.2;have:=HMO.out;omega⟩,EQ.out,HK8.out⟩
 exact HM.out
theorem De{s:ByteArray}{st:RS}(h:st.p<=s.size):st.p<=(bi s st).p/\(bi s st).p<=s.size:=⟨Nat.le_add_right _ _,kD s st.p h⟩
theorem ED{s:ByteArray}{st:RS}(h:st.p<=s.size):st.p<=(aW s st).p/\(aW s st).p<=s.size/\(aW s st).out=st.out:=by
 unfold aW;cases e:lw s uQ st;case false=>exact⟨VC _,h,rfl⟩
 have h1:st.p+1<=s.size:=kP e;have:=kD s (st.p+1) h1;exact⟨by show st.p<=st.p+1+au s (st.p+1);omega,this,rfl⟩
theorem Df{s:ByteArray}:∀(n:Nat) (xs:Q0a) (st:RS),st.p<=s.size->st.p<=(dx s n xs st).2.p/\(dx s n xs st).2.p<=s.size/\(dx s n xs st).2.out=st.out:=by
 intro n
 induction n with
 | zero=>intro xs st h;exact⟨VC _,h,rfl⟩
 | succ n ih =>
  intro xs st h;have h1:=De h;have h2:=ED h1.2;have h3:(aW s (bi s st)).out=st.out:=h2.2.2;unfold dx;by_cases hb:st.bad=true
  ·rw[if_pos hb];exact⟨VC _,h,rfl⟩
  rw[if_neg hb];by_cases hc:lw s eY (aW s (bi s st))=true
  ·rw[if_pos hc];have h4:(aW s (bi s st)).p+1<=s.size:=kP hc;exact⟨by show st.p<=(aW s (bi s st)).p+1;omega,h4,h3⟩
  rw[if_neg hc];by_cases hm:lw s l8 (aW s (bi s st))=true
  ·rw[if_pos hm];have h4:(aW s (bi s st)).p+1<=s.size:=kP hm;obtain⟨a,b,c⟩:=ih (xs++[⟨aA s st.p,yz s (bi s st)⟩]) (kC l8 (aW s (bi s st))) h4;have a':(aW s (bi s st)).p+1<=_:=a;exact⟨by omega,b,c.trans h3⟩
  rw[if_neg hm];obtain⟨a,b,c⟩:=ih (xs++[⟨aA s st.p,yz s (bi s st)⟩]) (uR (aW s (bi s st))) h2.2.1;have a':(aW s (bi s st)).p<=_:=a;exact⟨by omega,b,c.trans h3⟩
def AL(s:ByteArray)(k:Nat)(st st':RS):Prop:=st.p<=st'.p/\st'.p<=s.size/\st'.out.length+st.p<=st.out.length+k+st'.p
theorem Ml{s:ByteArray}{st:RS}(h:lw s fQ st=true):AL s 1 st (qQ s st).2:=by
 have h1:(kC fQ st).p<=s.size:=kP h;obtain⟨a,b,c⟩:=Df (s:=s) (s.size+1) [] (kC fQ st) h1;have a':st.p+5<=_:=a;have c':_=st.out:=c;unfold qQ AL;cases e:dx s (s.size+1) [] (kC fQ st) with
 | mk o st' =>
  rw[e]at a' b c';replace a':st.p+5<=st'.p:=a';replace b:st'.p<=s.size:=b;replace c':st'.out=st.out:=c';cases o with
  | none=>exact⟨by show st.p<=st'.p;omega,b,by show st'.out.length+_<=_+_+st'.p;rw[c'];omega⟩
  | some xs=>exact⟨by show st.p<=st'.p;omega,b,by show(st'.out++_).length+_<=_+_+st'.p;rw[c',VI,Wh];omega⟩
theorem O8{s:ByteArray}{st:RS}(h:st.p<=s.size):AL s 1 st (sF (eQ s st) (judged (eQ s st) (aH s st))):=by
 have h1:=De h;have key:st.p<=(aH s st).p/\(aH s st).p<=s.size/\(aH s st).out=st.out:=by
  unfold aH;cases e:lw s o8 (bi s st);case false=>exact⟨h1.1,h1.2,rfl⟩
  have h2:st.p+au s st.p+2<=s.size:=kP e;have:=kD s _ h2;exact⟨by show st.p<=st.p+au s st.p+2+au s (st.p+au s st.p+2);omega,this,rfl⟩
 have key2:(judged (eQ s st) (aH s st)).p=(aH s st).p/\(judged (eQ s st) (aH s st)).out=st.out:=by
  unfold judged;split
  ·exact⟨rfl,key.2.2⟩
  exact⟨rfl,key.2.2⟩
 refine⟨?_,?_,?_⟩
 ·show st.p<=(judged (eQ s st) (aH s st)).p;rw[key2.1];exact key.1
 ·show(judged (eQ s st) (aH s st)).p<=_;rw[key2.1];exact key.2.1
 show((judged (eQ s st) (aH s st)).out++_).length+_<=_+1+(judged (eQ s st) (aH s st)).p;rw[key2.1,key2.2,VI,Wh];have:=key.1;omega
theorem Mm{s:ByteArray}{st:RS}{x:Int×RS}(h:AL s 1 (kC jB st) x.2):AL s 1 st (ul s x).2:=by
 obtain⟨a,b,c⟩:=h;replace a:st.p+1<=x.2.p:=a;replace c:x.2.out.length+(st.p+1)<=st.out.length+1+x.2.p:=c;unfold ul;cases e:lw s eY x.2;case false=>exact⟨by show st.p<=x.2.p;omega,b,by show x.2.out.length+st.p<=_+1+x.2.p;omega⟩
 have h2:x.2.p+1<=s.size:=kP e;exact⟨by show st.p<=x.2.p+1;omega,h2,by show x.2.out.length+st.p<=_+1+(x.2.p+1);omega⟩
theorem Mo{s:ByteArray}{it:RS->Int×RS}{k:Int}(hit:∀st,st.p<=s.size->AL s 1 st (it st).2):∀(n:Nat) (zs:List Int) (st:RS),st.p<=s.size->AL s 0 st (ic s it k n zs st).2/\(0<n->lw s (aX k) st=true->(ic s it k n zs st).2.out.length+st.p+2<=st.out.length+(ic s it k n zs st).2.p):=by
 intro n
 induction n with
 | zero=>intro zs st h;exact⟨⟨VC _,h,VC _⟩,fun h=>absurd h (by omega)⟩
 | succ n ih =>
  intro zs st h;unfold ic;cases e:lw s (aX k) st;case false=>exact⟨⟨VC _,h,VC _⟩,fun _ h=>by cases h⟩
  have h1:st.p+3<=s.size:=by have:=kP e;rw[mG]at this;exact this
  have eP:(kC (aX k) st).p=st.p+3:=by unfold kC;rw[mG]
  have eO:(kC (aX k) st).out=st.out:=rfl;obtain⟨a,b,c⟩:=hit (kC (aX k) st) (by rw[eP];exact h1);rw[eP]at a c;rw[eO]at c;obtain⟨⟨a2,b2,c2⟩,-⟩:=ih (zs++[(it (kC (aX k) st)).1]) (it (kC (aX k) st)).2 b;simp only[if_true];exact⟨⟨by omega,b2,by omega⟩,fun _ _=>by omega⟩
theorem Jv{s:ByteArray}{p:Nat}(h:dz s p≠0):dS s (aX (dz s p)) p=true:=by
 unfold dz at h⊢;cases h1:dS s (aX 4) p;case true=>simpa using h1
 cases h2:dS s (aX 5) p;case true=>simpa[h1] using h2
 cases h3:dS s (aX 6) p;case true=>simpa[h1,h2] using h3
 simp[h1,h2,h3]at h
theorem Ru{s:ByteArray}{it:RS->Int×RS}(hit:∀st,st.p<=s.size->AL s 1 st (it st).2){st:RS}{x:Int×RS}(h:AL s 1 st x.2):AL s 1 st (rowP s it x).2:=by
 unfold rowP;by_cases hc:dz s x.2.p=0\/x.2.bad=true
 ·rw[if_pos hc];exact h
 rw[if_neg hc];have hsg:dz s x.2.p≠0:=fun e=>hc (.inl e)
 have hbd:x.2.bad=false:=by cases e:x.2.bad with
  | false=>rfl
  | true=>exact absurd (.inr e) hc
 have hyes:lw s (aX (dz s x.2.p)) x.2=true:=by unfold lw;rw[hbd,Jv hsg];rfl
 obtain⟨⟨a,b,c⟩,d⟩:=Mo hit (k:=dz s x.2.p) (s.size+1) [x.1] x.2 h.2.1;have d:=d (by omega) hyes;obtain⟨a1,b1,c1⟩:=h;refine⟨?_,b,?_⟩
 ·show st.p<=(ic s it (dz s x.2.p) (s.size+1) [x.1] x.2).2.p;omega
 show((ic s it (dz s x.2.p) (s.size+1) [x.1] x.2).2.out++_).length+_<=_+1+(ic s it (dz s x.2.p) (s.size+1) [x.1] x.2).2.p;rw[VI,Wh];omega
theorem AO{s:ByteArray}{n:Nat}{st:RS}(h:lw s fQ st=true):zL s (n+1) false st=qQ s st:=by
 unfold zL qQ;rw[if_pos h];cases dx s (s.size+1) [] (kC fQ st) with
 | mk o st'=>cases o<;>rfl
theorem AP{s:ByteArray}{n:Nat}{st:RS}(h:lw s fQ st=false)(h2:lw s jB st=true):zL s (n+1) false st=ul s (zL s n true (kC jB st)):=by
 conv=>lhs;unfold zL
 rw[if_neg (by rw[h];decide),if_pos h2];rfl
theorem AQ{s:ByteArray}{n:Nat}{st:RS}(h:lw s fQ st=false)(h2:lw s jB st=false):zL s (n+1) false st=((st.out.length:Int),sF (eQ s st) (judged (eQ s st) (aH s st))):=by
 unfold zL;rw[if_neg (by rw[h];decide),if_neg (by rw[h2];decide)]
theorem EE{s:ByteArray}{n:Nat}{st:RS}:zL s (n+1) true st=rowP s (zL s n false) (zL s n false st):=by
 conv=>lhs;unfold zL
 rfl
theorem rX{s:ByteArray}:∀(n:Nat) (b:Bool) (st:RS),st.p<=s.size->AL s 1 st (zL s n b st).2:=by
 intro n
 induction n with
 | zero=>intro b st h;cases b<;>exact⟨VC _,h,by show st.out.length+st.p<=st.out.length+1+st.p;omega⟩
 | succ n ih =>
  intro b st h;cases b;case true=>rw[EE];exact Ru (fun st' h'=>ih false st' h') (ih false st h)
  cases h1:lw s fQ st;case true=>rw[AO h1];exact Ml h1
  cases h2:lw s jB st;case true=>rw[AP h1 h2];exact Mm (ih true (kC jB st) (kP h2))
  rw[AQ h1 h2];exact O8 h
theorem O9(R:Nat)(s:bW)(base:Nat)(hR:R<base)(hs:s.size<=1000):∀n:Nat,
  (∀ (st:RS) (v:Value) (qs:Q08) (w:World),RdF w R s st base v qs->base<=w.heap.size->st.p<=s.size->st.out.length+(s.size-st.p)<=5000->2*(s.size-st.p)<n ->
   Calls prog 242 #[.pointer (some ⟨R,0,none⟩)] w (vz R s base v qs w (zL s n false st))) /\
  (∀ (st:RS) (v:Value) (qs:Q08) (w:World),RdF w R s st base v qs->base<=w.heap.size->st.p<=s.size->st.out.length+(s.size-st.p)<=5000->2*(s.size-st.p)+1<n ->
   Calls prog 226 #[.pointer (some ⟨R,0,none⟩)] w (vz R s base v qs w (zL s n true st))):=by
 intro n
 induction n with
 | zero=>exact⟨fun _ _ _ _ _ _ _ _ h=>absurd h (by omega),fun _ _ _ _ _ _ _ _ h=>absurd h (by omega)⟩
 | succ n ih =>
  refine⟨fun st v qs w h hB hp hb hn=>?_,fun st v qs w h hB hp hb hn=>?_⟩
  ·have hlen:qs.length=st.out.length:=by rw[<-h.out];simp[aj]
   cases h1:lw s fQ st;case true=>rw[AO h1];exact Mh R s st base v qs w h hR hB hs hp (by omega) h1
   cases h2:lw s jB st;case true=>
    rw[AP h1 h2];have h3:st.p+1<=s.size:=kP h2;have h4:(kC jB st).p=st.p+1:=rfl;exact OY R s st base v qs w h hR hs hp h1 h2 _ (rX n true (kC jB st) h3).2.1 fun w1 hw1 hsz=>ih.2 (kC jB st) v qs w1 hw1 (VJ hB hsz) h3 (by rw[h4];show st.out.length+_<=_;omega) (by rw[h4];omega)
   rw[AQ h1 h2];exact Md R s st base v qs w h hR hB hs hp (by omega) h1 h2
  rw[EE];obtain⟨a,b,c⟩:=rX (s:=s) n false st hp;refine Rt R s st base v qs w h hR hB hs _ b (ih.1 st v qs w h hB hp hb (by omega)) _ (by omega) (fun st' v' qs' w' h' hB' h1 h2 h3=>ih.1 st' v' qs' w' h' hB' h2 h3 (by omega)) (fun st' h1 h2=>?_);obtain⟨a2,b2,c2⟩:=rX (s:=s) n false st' h2;exact⟨a2,b2,c2⟩
def UZ(s:ByteArray)(a:Al):Prop:=a.t.size<=s.size/\a.s.size<=s.size
def Iq(s:ByteArray)(e:Ex):Prop:=e.allow.length<=s.size+1/\(∀a∈e.allow,UZ s a)/\e.over.size<=s.size/\e.name.size<=s.size/\e.kids.length<=s.size+2
theorem qU(s:bW)(p:Nat):(aA s p).size<=s.size:=by
 unfold aA;rw[ByteArray.size_extract];omega
theorem Rv(s:bW)(st:RS):(yz s st).size<=s.size:=by
 unfold yz;split
 ·exact qU s _
 exact VG _
theorem Mq{s:ByteArray}:∀(n:Nat) (xs:Q0a) (st:RS) (ys:Q0a),(∀a∈xs,UZ s a)->(dx s n xs st).1=some ys->ys.length<=xs.length+n/\∀a∈ys,UZ s a:=by
 intro n
 induction n with
 | zero=>intro xs st ys _ h;cases h
 | succ n ih =>
  intro xs st ys hx h;have hx2:∀a∈xs++[(⟨aA s st.p,yz s (bi s st)⟩:Al)],UZ s a:=by
   intro a ha;rcases VL.1 ha with h1|h1
   ·exact hx a h1
   rw[VK]at h1;subst h1;exact⟨qU s _,Rv s _⟩
  unfold dx at h;by_cases hb:st.bad=true
  ·rw[if_pos hb]at h;cases h
  rw[if_neg hb]at h;by_cases hc:lw s eY (aW s (bi s st))=true
  ·rw[if_pos hc]at h;injection h with h;subst h;exact⟨by rw[VI,Wh];omega,hx2⟩
  rw[if_neg hc]at h;have fin:∀st',(dx s n (xs++[⟨aA s st.p,yz s (bi s st)⟩]) st').1=some ys->ys.length<=xs.length+(n+1)/\∀a∈ys,UZ s a:=fun st' h'=>by
   obtain⟨a,b⟩:=ih _ st' ys hx2 h';rw[VI,Wh]at a;exact⟨by omega,b⟩
  by_cases hm:lw s l8 (aW s (bi s st))=true
  ·rw[if_pos hm]at h;exact fin _ h
  rw[if_neg hm]at h;exact fin _ h
theorem EF{s:ByteArray}{x:Ex}{st:RS}(h:∀e∈st.out,Iq s e)(hx:Iq s x):∀e∈(sF x st).out,Iq s e:=by
 intro e he;rcases VL.1 he with h1|h1
 ·exact h e h1
 rw[VK]at h1;subst h1;exact hx
theorem Pb{s:ByteArray}{st:RS}(hp:st.p+5<=s.size)(h:∀e∈st.out,Iq s e):∀e∈(qQ s st).2.out,Iq s e:=by
 have hc:=(Df (s:=s) (s.size+1) [] (kC fQ st) hp).2.2;have hs:=Mq (s:=s) (s.size+1) [] (kC fQ st);unfold qQ;cases e:dx s (s.size+1) [] (kC fQ st) with
 | mk o st' =>
  rw[e]at hc hs;have hc':st'.out=st.out:=hc;cases o with
  | none=>show ∀e∈st'.out,Iq s e;rw[hc'];exact h
  | some xs =>
   obtain⟨a,b⟩:=hs xs (fun a ha=>by cases ha) rfl;exact EF (by rw[hc'];exact h) ⟨by simpa using a,b,VG _,VG _,VG _⟩
theorem Rx{s:ByteArray}{st:RS}(h:∀e∈st.out,Iq s e):∀e∈(sF (eQ s st) (judged (eQ s st) (aH s st))).out,Iq s e:=by
 have h1:(judged (eQ s st) (aH s st)).out=st.out:=by
  have h2:(aH s st).out=st.out:=by unfold aH;split<;>rfl
  unfold judged;split<;>exact h2
 refine EF (by rw[h1];exact h) ?_;unfold eQ;split
 ·exact⟨VG _,fun a ha=>(by cases ha),qU s _,qU s _,VG _⟩
 exact⟨VG _,fun a ha=>(by cases ha),VG _,qU s _,VG _⟩
theorem Pd{s:ByteArray}{it:RS->Int×RS}{k:Int}(hit:∀st,(∀e∈st.out,Iq s e)->st.p<=s.size->(∀e∈(it st).2.out,Iq s e)/\(it st).2.p<=s.size):∀(n:Nat) (zs:List Int) (st:RS),(∀e∈st.out,Iq s e)->st.p<=s.size->(∀e∈(ic s it k n zs st).2.out,Iq s e)/\(ic s it k n zs st).1.length<=zs.length+n:=by
 intro n
 induction n with
 | zero=>intro zs st h _;exact⟨h,VC _⟩
 | succ n ih =>
  intro zs st h hp;unfold ic;cases e:lw s (aX k) st;case false=>exact⟨h,Nat.le_add_right _ _⟩
  have h1:(kC (aX k) st).p<=s.size:=kP e;obtain⟨a,b⟩:=hit (kC (aX k) st) h h1;obtain⟨a2,b2⟩:=ih (zs++[(it (kC (aX k) st)).1]) _ a b;rw[VI,Wh]at b2;exact⟨a2,by simp only[if_true];omega⟩
theorem Pe{s:ByteArray}:∀(n:Nat) (b:Bool) (st:RS),st.p<=s.size->(∀e∈st.out,Iq s e)->∀e∈(zL s n b st).2.out,Iq s e:=by
 intro n
 induction n with
 | zero=>intro b st _ h;cases b<;>exact h
 | succ n ih =>
  intro b st hp h;cases b;case true=>
   rw[EE];unfold rowP;have hx:=ih false st hp h;have hxp:=(rX (s:=s) n false st hp).2.1;split
   ·exact hx
   obtain⟨a,b⟩:=Pd (s:=s) (it:=zL s n false) (k:=dz s (zL s n false st).2.p) (fun st' h1 h2=>⟨ih false st' h2 h1,(rX (s:=s) n false st' h2).2.1⟩) (s.size+1) [(zL s n false st).1] (zL s n false st).2 hx hxp;exact EF a ⟨VG _,fun a ha=>(by cases ha),VG _,VG _,VJ b (by simp only[Wh];omega)⟩
  cases h1:lw s fQ st;case true=>rw[AO h1];exact Pb (kP h1) h
  cases h2:lw s jB st;case true=>
   rw[AP h1 h2];have hx:=ih true (kC jB st) (kP h2) h;unfold ul;split
   ·exact hx
   exact hx
  rw[AQ h1 h2];exact Rx h
theorem Iq.light{s:ByteArray}{e:Ex}(h:Iq s e)(hs:s.size<=1000):e.light/\e.fits:=by
 obtain⟨h1,h2,h3,h4,h5⟩:=h;refine⟨⟨by omega,by omega⟩,⟨fun a ha=>⟨?_,?_⟩,?_,?_,?_,?_⟩⟩<;>unfold maxLen
 ·have:=(h2 a ha).1;omega
 ·have:=(h2 a ha).2;omega
 all_goals omega
def kG(s:ByteArray):RS:=(zL s (2*s.size+2) true ⟨0,false,[]⟩).2
def mH(s:ByteArray):Bool:=decide (s.size<=1000) && !(kG s).bad && !decide ((kG s).p<s.size)&&aP (kG s).out&&((gW (kG s).out).toList==s.toList)
def U0(s:ByteArray)(w:World)(e:Ending)(w':World):Prop :=
 af w w'/\((mH s=false/\e=.returned (.tuple #[.slice none 0 0,.bool false]))\/(mH s=true/\∃(v:Value) (R:Nat) (qs:Q08),e=.returned (.tuple #[v,.bool true])/\RdF w' R s (kG s) (w.heap.size+1) v qs))
theorem Pf(w:ae)(s:bW):RdF (w.alloc (.cells #[.string s,.int .i64 0,.bool false,.slice none 0 0] 326)) w.heap.size s ⟨0,false,[]⟩ (w.heap.size+1) (.slice none 0 0) []:=by
 refine⟨⟨by simp,by simp,by simp,by simp,by simp,fun j=>by simp⟩,World.ownsRow_nil _ _ _ _,rfl,?_,?_,?_,?_,?_,?_,?_,?_⟩
 ·intro q hq;cases hq
 ·intro q hq;cases hq
 ·intro q hq;cases hq
 ·intro q hq;cases hq
 ·intro q hq;cases hq
 ·intro x y hx;exact absurd hx (by simp)
 ·intro q hq;cases hq
 intro q hq;cases hq
theorem RdF.slE{w:ae}{R:Nat}{s:ByteArray}{st:RS}{base:Nat}{v:Value}{qs:Q08}(h:RdF w R s st base v qs):∃ad cap,v=.slice ad qs.length cap/\jq w ad qs:=SG h.own rfl h.ok
theorem RdF.later{w w':ae}{R:Nat}{s:ByteArray}{st:RS}{base:Nat}{v:Value}{qs:Q08}(h:RdF w R s st base v qs)(hb:af w w'):RdF w' R s st base v qs :=
 h.heap hb.size (hb.block R h.rd.lt) (fun g hg=>hb.block g (h.own.lt g hg).2) (fun q hq g hi=>hb.block g (h.lie q hq g hi).2.1)
theorem wU(s:bW)(w:ae):Calls prog 203 #[.string s] w (U0 s w):=by
 by_cases hs:s.size<=1000
 ·have hd0:decide ((1000:Int)<(s.size:Int))=false:=by simp;omega
  have HRD:=ai (Pf w s);have Xe:=ai ((O9 w.heap.size s (w.heap.size+1) (by omega) hs (2*s.size+2)).2 ⟨0,false,[]⟩ (.slice none 0 0) [] _ HRD.out (by simp) (VG _) (by simp;omega) (by simp));have HSM:Hid (∀e∈(kG s).out,e.light/\e.fits):=fun e he=>(Pe (s:=s) _ true ⟨0,false,[]⟩ (VG _) (fun e he=>by cases he) e he).light hs;have HFEW:=ai (rX (s:=s) (2*s.size+2) true ⟨0,false,[]⟩ (VG _));go_enter func203,ntmps203;go_wp2_with fail;refine Xe.out.mono ?_;rintro e w1 ⟨v1,qs,rfl,hF1,hW1,-⟩;replace hF1:RdF w1 w.heap.size s (kG s) (w.heap.size+1) v1 qs:=hF1;have Ya:=ai hF1;have HB1:Hid (af w w1):=⟨hW1.onl.os,hW1.onl.tape,hW1.onl.output,by have:=hW1.onl.size;simp at this;omega,fun k hk=>(hW1.onl.block k (by simp;omega) (by omega) (by simp[Value.ownBlock])).trans ((World.grownBy_alloc w _ none).block k hk (by simp))⟩;obtain⟨ad,cap,rfl,hsl⟩:=hF1.slE;have Z8:=ai hsl;have HOUT:=ai hF1.out;have hql:qs.length<=1048576:=by
   have h2:=congrArg List.length hF1.out;simp only[aj,WC]at h2;have h3:(kG s).out.length+0<=0+1+(kG s).p:=HFEW.out.2.2;have h4:(kG s).p<=s.size:=HFEW.out.2.1;omega
  have HL:Hid (∀r∈qs,r.e.light):=fun r hr=>(HSM.out r.e (by rw[<-HOUT.out];exact VQ.2 ⟨r,hr,rfl⟩)).1;have HF:Hid (∀r∈qs,r.e.fits):=fun r hr=>(HSM.out r.e (by rw[<-HOUT.out];exact VQ.2 ⟨r,hr,rfl⟩)).2;have ZK:Hid (mH s=(!(kG s).bad && !decide ((kG s).p<s.size)&&aP (kG s).out&&((gW (kG s).out).toList==s.toList))):=by show _=_;unfold mH;simp[hs]
  have c1:=hF1.rd.c1;have c2:=hF1.rd.c2;have c3:=hF1.rd.c3;clear hF1 hW1 hsl Xe HRD HSM HFEW;cases hb:(kG s).bad;case true=>
   rw[hb]at c2;have EQ:Hid (mH s=false):=by show _=_;rw[ZK.out,hb];rfl
   go_wp2;exact bodyPost_ret (v:=.tuple #[.slice none 0 0,.bool false]) (by simp[results,Tryz.results203,go_sem]) rfl ⟨HB1.out,.inl ⟨EQ.out,rfl⟩⟩
  rw[hb]at c2;by_cases hlt:(kG s).p<s.size
  ·have hd1:decide (((kG s).p:Int)<(s.size:Int))=true:=by simp;omega
   have EQ:Hid (mH s=false):=by show _=_;rw[ZK.out,hb,decide_eq_true hlt];rfl
   go_wp2;exact bodyPost_ret (v:=.tuple #[.slice none 0 0,.bool false]) (by simp[results,Tryz.results203,go_sem]) rfl ⟨HB1.out,.inl ⟨EQ.out,rfl⟩⟩
  have hd1:decide (((kG s).p:Int)<(s.size:Int))=false:=by simp;omega
  go_wp2_with fail;refine(mD ad cap qs w1 hql HL.out HF.out Z8.out).mono ?_;rintro e w2 ⟨rfl,hB2⟩;have XW:=ai (Ya.out.later hB2);have HB2:=ai (HB1.out.trans (hB2.mono HB1.out.size));have HSL2:=ai (Z8.out.below hB2);have k3:=XW.out.rd.c3;rw[HOUT.out];clear hB2;cases he:aP (kG s).out;case false=>
   have EQ:Hid (mH s=false):=by show _=_;rw[ZK.out,hb,decide_eq_false hlt,he];rfl
   go_wp2;exact bodyPost_ret (v:=.tuple #[.slice none 0 0,.bool false]) (by simp[results,Tryz.results203,go_sem]) rfl ⟨HB2.out,.inl ⟨EQ.out,rfl⟩⟩
  go_wp2_with fail;refine(oC ad cap qs w2 hql HL.out HF.out HSL2.out).mono ?_;rintro e w3 ⟨rfl,hB3⟩;have HF3:=ai (XW.out.later hB3);have HB3:=ai (HB2.out.trans (hB3.mono HB2.out.size));have q3:=HF3.out.rd.c3;rw[HOUT.out];clear hB3;cases ht:(gW (kG s).out).toList==s.toList;case false=>
   have ht2:(!(gW (kG s).out).toList==s.toList)=true:=by rw[ht];rfl
   have EQ:Hid (mH s=false):=by show _=_;rw[ZK.out,ht,Bool.and_false]
   go_wp2;exact bodyPost_ret (v:=.tuple #[.slice none 0 0,.bool false]) (by simp[results,Tryz.results203,go_sem]) rfl ⟨HB3.out,.inl ⟨EQ.out,rfl⟩⟩
  have ht2:(!(gW (kG s).out).toList==s.toList)=false:=by rw[ht];rfl
  have EQ:Hid (mH s=true):=by show _=_;rw[ZK.out,hb,decide_eq_false hlt,he,ht];rfl
  go_wp2;exact bodyPost_ret (v:=.tuple #[.slice ad qs.length cap,.bool true]) (by simp[results,Tryz.results203,go_sem]) rfl ⟨HB3.out,.inr ⟨EQ.out,_,_,qs,rfl,HF3.out⟩⟩
 have hd0:decide ((1000:Int)<(s.size:Int))=true:=by simp;omega
 have EQ:Hid (mH s=false):=by show _=_;unfold mH;rw[decide_eq_false hs];rfl
 go_enter func203,ntmps203;go_wp2;exact bodyPost_ret (v:=.tuple #[.slice none 0 0,.bool false]) (by simp[results,Tryz.results203,go_sem]) rfl ⟨VD _ _,.inl ⟨EQ.out,rfl⟩⟩
theorem RdF.nod{w:ae}{R:Nat}{s:ByteArray}{st:RS}{base:Nat}{v:Value}{qs:Q08}(h:RdF w R s st base v qs):NodM w base v qs:=⟨h.own,h.zA,h.zK,h.ok,h.lie,h.one,h.two,h.cA⟩
theorem Dg(x y:Al):kz x y=kz y x:=by
 unfold kz;rw[VV];simp only[VF,beq_iff_eq];exact⟨fun h=>⟨h.1.symm,h.2.symm⟩,fun h=>⟨h.1.symm,h.2.symm⟩⟩
theorem Ms(ad:Q02)(n cap:Nat)(xs:Q0a)(v:Al)(w:ae)(hn:n<=xs.length)(hlen:xs.length<=1048576)(hs:ll w ad xs):
  Calls prog 180 #[.slice ad n cap,.agg #[.string v.t,.string v.s]] w fun e w'=>(∃r:Int,e=.returned (.int .i64 r)/\decide (0<=r)=dP xs n v)/\af w w':=by
 obtain⟨W,hW⟩:∃W,W=w.alloc (.cells #[.string v.t,.string v.s] 223):=⟨_,rfl⟩;have HB0:Hid (af w W):=by show Below _ _ _;rw[hW];exact(VD w.heap.size w).alloc (VC _) _
 have hz:w.heap.size<W.heap.size:=by rw[hW];simp
 have b0:W.cell? ⟨w.heap.size,0,none⟩=some (.string v.t):=by rw[hW];simp
 have b1:W.cell? ⟨w.heap.size,1,none⟩=some (.string v.s):=by rw[hW];simp
 have HS:=aC (hs.below HB0.out);clear hs;go_enter func180,ntmps180;go_wp2_with fail;rw[<-hW];clear hW;go_loopw[8] (fun i wr=>∃k:Nat,k<=n/\i=.int .i64 k/\Hid (dP xs k v=false)/\af W wr) (fun i _=>n-(intOf i).toNat);case atStart=>exact⟨0,VG _,rfl,tT _ _,VD _ _⟩
 obtain⟨k,hk,rfl,HP,hB⟩:=hrel;have a0:=kept hB hz b0;have a1:=kept hB hz b1;by_cases hlt:k<n
 ·have hltx:k<xs.length:=by omega
  rcases HS.out.below hB with rfl|⟨b,off,rfl,hb,hr⟩
  ·simp at hltx
  obtain⟨t0,t1⟩:=hr k hltx;have hk1:=bq k;have hk2:(k:Int)<(n:Int):=by omega
  clear hr;cases hq:kz v xs[k];case true=>
   have HE:=Eg v xs[k] hq;have HN:Hid (dP xs n v=true):=CF hlt hltx (by rw[Dg];exact hq);go_wp2_with fail;go_quiet (fail);go_wp2;go_ret;exact⟨⟨_,rfl,by rw[HN.out];simp⟩,HB0.out.trans (below_drewN (hB.mono HB0.out.size) _)⟩
  have HE:=Eg v xs[k] hq;have Xa:Hid (dP xs (k+1) v=false):=by show _=_;rw[tQ _ _ _ hltx,HP.out,Dg,hq];rfl
  go_wp2_with fail;go_quiet (fail);go_wp2;go_roundw;case rel=>exact⟨k+1,by omega,by go_num,Xa,below_drewN hB _⟩
  simp[intOf]<;>omega
 obtain rfl:k=n:=by omega
 go_wp2;go_ret;exact⟨⟨-1,rfl,by rw[HP.out];rfl⟩,HB0.out.trans (hB.mono HB0.out.size)⟩
theorem vF(ad:Q02)(n cap:Nat)(xs:Q0a)(v:Al)(w:ae)(hn:n<=xs.length)(hlen:xs.length<=1048576)(hs:ll w ad xs):
  Calls prog 130 #[.slice ad n cap,.agg #[.string v.t,.string v.s]] w fun e w'=>e=.returned (.bool (dP xs n v))/\af w w':=by
 have HB0:Hid (af w (w.alloc (.cells #[.string v.t,.string v.s] 223))):=(VD w.heap.size w).alloc (VC _) _;have HS:=aC hs;clear hs;go_enter func130,ntmps130;go_wp2_with fail;refine(Ms ad n cap xs v _ hn hlen (HS.out.below HB0.out)).mono ?_;rintro e w1 ⟨⟨r,rfl,hr⟩,hb1⟩;have HR:Hid (decide (0<=r)=dP xs n v):=hr;have HB1:=kL HB0 hb1;clear hr hb1;go_wp2;go_ret;exact⟨ah HR.out,HB1.out⟩
set_option maxRecDepth 8000 in
theorem EG(r:ER)(w:ae)(hf:r.e.fits)(h1:r.e.kind≠1):
  Calls prog 229 #[r.val] w fun e w'=>e=.returned (.bool (az r.e))/\af w w':=by
 obtain⟨⟨kind,allow,over,name,kids⟩,adA,capA,adK,capK⟩:=r;obtain⟨f1,f2,f3,f4,f5⟩:=hf;simp only at f1 f2 f3 f4 f5 h1;simp only[ER.val];unfold maxLen at f4 f5;by_cases h2:kind=2
 ·subst h2;clear h1;go_enter func229,ntmps229;go_wp2_with fail;go_quiet (fail);go_wp2_with(go_at_call 170;refine(aL _ _ (by assumption)).mono ?_;rintro e w' ⟨rfl,rfl⟩)
  all_goals go_ret
  all_goals exact⟨ah (by first|(simp[az, *];done)|(simp[az, *];omega)|(simp[az, *];rw[VV];simp;done)|(simp[az, *];rw[VV];simp;omega)),below_drewN ((VD w.heap.size w).alloc (VC _) _) _⟩
 by_cases h3:kind=3
 ·subst h3;clear h1;go_enter func229,ntmps229;go_wp2_with fail;go_quiet (fail);go_wp2_with(go_at_call 170;refine(aL _ _ (by assumption)).mono ?_;rintro e w' ⟨rfl,rfl⟩)
  all_goals go_ret
  all_goals exact⟨ah (by first|(simp[az, *];done)|(simp[az, *];omega)|(simp[az, *];rw[VV];simp;done)|(simp[az, *];rw[VV];simp;omega)),below_drewN ((VD w.heap.size w).alloc (VC _) _) _⟩
 by_cases h4:kind=4
 ·subst h4;clear h1;go_enter func229,ntmps229;go_wp2_with fail;go_quiet (fail);go_wp2_with(go_at_call 170;refine(aL _ _ (by assumption)).mono ?_;rintro e w' ⟨rfl,rfl⟩)
  all_goals go_ret
  all_goals exact⟨ah (by first|(simp[az, *];done)|(simp[az, *];omega)|(simp[az, *];rw[VV];simp;done)|(simp[az, *];rw[VV];simp;omega)),below_drewN ((VD w.heap.size w).alloc (VC _) _) _⟩
 by_cases h5:kind=5
 ·subst h5;clear h1;go_enter func229,ntmps229;go_wp2_with fail;go_quiet (fail);go_wp2_with(go_at_call 170;refine(aL _ _ (by assumption)).mono ?_;rintro e w' ⟨rfl,rfl⟩)
  all_goals go_ret
  all_goals exact⟨ah (by first|(simp[az, *];done)|(simp[az, *];omega)|(simp[az, *];rw[VV];simp;done)|(simp[az, *];rw[VV];simp;omega)),below_drewN ((VD w.heap.size w).alloc (VC _) _) _⟩
 by_cases h6:kind=6
 ·subst h6;clear h1;go_enter func229,ntmps229;go_wp2_with fail;go_quiet (fail);go_wp2_with(go_at_call 170;refine(aL _ _ (by assumption)).mono ?_;rintro e w' ⟨rfl,rfl⟩)
  all_goals go_ret
  all_goals exact⟨ah (by first|(simp[az, *];done)|(simp[az, *];omega)|(simp[az, *];rw[VV];simp;done)|(simp[az, *];rw[VV];simp;omega)),below_drewN ((VD w.heap.size w).alloc (VC _) _) _⟩
 go_enter func229,ntmps229;go_wp2_with fail;go_quiet (fail);go_wp2_with(go_at_call 170;refine(aL _ _ (by assumption)).mono ?_;rintro e w' ⟨rfl,rfl⟩)
 all_goals go_ret
 all_goals exact⟨ah (by first|(simp[az, *];done)|(simp[az, *];omega)|(simp[az, *];rw[VV];simp;done)|(simp[az, *];rw[VV];simp;omega)),below_drewN ((VD w.heap.size w).alloc (VC _) _) _⟩
open Maps
def Fc.fits(t:Fc):Prop:=t.a.size<=maxLen/\t.b.size<=maxLen/\t.r.size<=maxLen/\t.c.size<=maxLen/\t.d.size<=maxLen
def oD(k:Fc):Value:=.agg #[.string k.a,.string k.b,.string k.r,.string k.c,.string k.d]
theorem Pg(x y:Fc)(h:oD x=oD y):x=y:=by
 unfold oD at h;injection h with h;have h1:=congrArg Array.toList h;simp at h1;obtain⟨xa,xb,xr,xc,xd⟩:=x;obtain⟨ya,yb,yr,yc,yd⟩:=y;simp only at h1;obtain⟨rfl,rfl,rfl,rfl,rfl⟩:=h1;rfl
theorem Ph:laidOutB prog=true:=by kernel_rfl
theorem TQ:(43:TypeId)<prog.types.size:=of_decide_eq_true (by kernel_rfl)
theorem Ry:(match prog.underlying 43 with|some (.array _ _)|some (.struct _)=>true|_=>false)=true:=by rw[underlying43]
set_option maxRecDepth 100000 in
theorem RA:WideMaps.KeyLaw prog 43:=deep_law_laid Ph (m:=3) (by omega) TQ (by kernel_rfl) Ry
theorem Pi:Keyed prog 43:=Keyed.of_law RA
theorem RB:prog.keyType 43=true:=by kernel_rfl
theorem Gs:prog.cellsOf 43=5:=by kernel_rfl
theorem Mt:prog.cellsOf 27=2:=by kernel_rfl
theorem Mv:prog.cellsOf 9=1:=by kernel_rfl
theorem Mw:2<=prog.types.size:=of_decide_eq_true (by kernel_rfl)
theorem Jw:∃n,prog.types.size=n+2:=⟨prog.types.size-2,by have:=Mw;omega⟩
set_option maxRecDepth 100000 in
theorem Gt(k:Fc)(h:k.fits):∃kl,keyOf prog 43 (oD k)=some kl:=by
 obtain⟨n,hn⟩:=Jw;obtain⟨h0,h1,h2,h3,h4⟩:=h;refine⟨.string (keyBytes [.string k.a.data.toList,.string k.b.data.toList,.string k.r.data.toList,.string k.c.data.toList,.string k.d.data.toList]),?_⟩;unfold keyOf;rw[underlying43];simp only[RB,oD,Value.formed,underlying43,Gs,hn,Value.cells];simp +decide [Program.keyLits,underlying43,underlying27,underlying9,Gs,Mt,Mv,h0,h1,h2,h3,h4]
theorem Pj(w:ae):(zeroValue 157).run prog w=.ok (.agg #[]) w:=by kernel_rfl
theorem Gu(b n:Nat)(M:Fc->Option Value)(f:Fc)(w:ae)(hf:f.fits)(hV:aN oD prog 43 w b n M)(hM:∀v,M f=some v->v=.agg #[]):
  Calls prog 67 #[.map (some b),.agg #[.string f.a,.string f.b,.string f.r,.string f.c,.string f.d]] w fun e w'=>e=.returned (.bool (M f).isSome)/\af w w':=by
 obtain⟨kl,hkl⟩:=Gt f hf;have XB:Hid (keyOf prog 43 (oD f)=some kl):=hkl;have HM:Hid ((M f).getD (.agg #[])=.agg #[]):=by
  show _=_;cases e:M f with
  | none=>rfl
  | some v=>exact hM v e
 obtain⟨W,hW⟩:∃W,W=w.alloc (.cells #[.string f.a,.string f.b,.string f.r,.string f.c,.string f.d] 43):=⟨_,rfl⟩;have HB:=oQ hW;have HV:=aC (hV.below HB.out);have HB2:Hid (af w (W.alloc (.cells #[] 157))):=HB.out.alloc HB.out.size _;clear hkl hV hM;go_enter func67,ntmps67;go_wp2_with(at_lookup;rw[<-hW];clear hW;refine dJ _ rfl _ _ 117 rfl 43 157 Pi underlying117 (Pj _) b n M rfl HV.out f kl rfl XB.out ?_;rw[HM.out]);go_ret;exact⟨rfl,HB2.out⟩
end Go.Proofs.YtcgdckphpjfmhaaGreatDoor
