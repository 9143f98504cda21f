/- The document's look whether schema and tuples are right data. -/
import Derived.Test.YtojjoblnpldniaaGreatSq
import Derived.Test.YtojjoblnpldniaaGreatFits0
import Derived.Test.YtojjoblnpldniaaGreatDataOf
open Go.Proofs.Tryz
set_option maxHeartbeats 80000000
namespace Go.Proofs.YtojjoblnpldniaaGreat
set_option linter.unusedVariables false
set_option maxRecDepth 100000
open ChangeShapes WideShapes ChangeAt RowKit Maps
open Pl
def gV(rs:Q06)(t:Tp):Bool:=pY (af rs) t.a t.b t.r t.c t.d t.s
theorem Ee{rs:Q06}{t:Tp}(h:aN (af rs)=true)(ht:t.ok=true):sW (af rs) t.a t.r ⟨t.c,t.s⟩=gV rs t:=by
 have hSP:=bu.1 h;have h1:sW (af rs) t.a t.r ⟨t.c,t.s⟩=dG (aQ (az (af rs) t.a t.r)) (aQ (az (af rs) t.a t.r)).length ⟨t.c,t.s⟩:=BF _ (LG hSP _ _);have h2:bz t.a t.b t.r t.c t.d t.s=true:=ht;rw[h1];unfold gV pY;rw[h2,Bool.and_true]
theorem Q0{p:Tp->Bool}{ts:Q05}{k:Nat}(h:k<ts.length):(ts.drop k).all p=(p ts[k]&&(ts.drop (k+1)).all p):=by rw[VZ h];rfl
theorem Ip(ad:Q02)(cap:Nat)(rs:Q06)(WS:Q02)(cap':Nat)(ts:Q05)(w:ae)(hlen:rs.length<=1048576)(hs:mP w ad rs)(hl:∀r∈rs,r.light)(hfr:∀r∈rs,r.fits)(hlt:ts.length<=1048576)(hst:Sl w WS ts)(hft:∀x∈ts,x.fits):
  Calls prog 59 #[.slice ad rs.length cap,.slice WS ts.length cap'] w fun e w'=>e=.returned (.bool (aW (gV rs) rs ts))/\ag w w':=by
 have HS:=aF hs;have HL:=aF hl;have YQ:=aF hfr;have HST:=aF hst;have WR:=aF hft;have Xa:ts.length<=maxLen:=by unfold maxLen;omega
 clear hs hl hfr hst hft;go_enter func59,ntmps59;go_wp2_with fail;refine(jX ad cap rs _ hlen HS.out HL.out YQ.out).mono ?_;rintro e w1 ⟨he,hb1⟩;have HB1:=aF hb1;clear hb1;cases h1:aN (af rs);case false=>
  rw[h1]at he;subst he;have HN:Hid (aW (gV rs) rs ts=false):=by show _=_;unfold aW;rw[h1];rfl
  clear h1;go_wp2;go_ret;exact⟨by rw[HN.out];rfl,HB1.out⟩
 rw[h1]at he;subst he;have H1:=aF h1;clear h1;go_wp2_with fail;refine(oo WS cap' ts _ Xa (HST.out.below HB1.out) WR.out).mono ?_;rintro e w2 ⟨he,hb2⟩;have HB2:=aF (HB1.out.trans (hb2.mono HB1.out.size));clear hb2 HB1;cases h2:dH ts;case false=>
  rw[h2]at he;subst he;have HN:Hid (aW (gV rs) rs ts=false):=by show _=_;unfold aW;rw[h2,Bool.and_false];rfl
  clear h2;go_wp2;go_ret;exact⟨by rw[HN.out];rfl,HB2.out⟩
 rw[h2]at he;subst he;have HN:Hid (aW (gV rs) rs ts=ts.all (gV rs)):=by show _=_;unfold aW;rw[H1.out,h2];rfl
 clear h2 H1;go_wp2;go_loopw[5] (fun i wr=>∃k:Nat,k<=ts.length/\i=.int .i64 k/\Hid ((ts.drop k).all (gV rs)=ts.all (gV rs))/\Hid (ag w wr)) (fun i _=>ts.length-(intOf i).toNat);case atStart=>exact⟨0,Vv _,rfl,rfl,HB2⟩
 clear HB2;obtain⟨k,hk,rfl,HP,HB⟩:=hrel;by_cases hlt2:k<ts.length
 ·obtain⟨b,off,WO,⟨t0,t1,t2,t3,t4,t5⟩,hb⟩:=Sl.at0 (HST.out.below HB.out) hlt2;have hk1:=bC k;have hk2:(k:Int)<(ts.length:Int):=by omega
  obtain⟨f0,f1,f2,f3,f4,f5⟩:=WR.out _ (Vp hlt2);have HD:Hid (ts.all (gV rs)=(gV rs ts[k]&&(ts.drop (k+1)).all (gV rs))):=by show _=_;rw[<-HP.out];exact Q0 hlt2
  obtain⟨x,hx⟩:∃x,x=ts[k]:=⟨_,rfl⟩;rw[<-hx]at t0 t1 t2 t3 t4 t5 f0 f1 f2 f3 f4 f5 HD;have HLF:=aF (BG ad cap rs x.a x.b x.r x.c x.d x.s wr hlen (HS.out.below HB.out) HL.out f0 f1 f2 f3 f4 f5);subst WO;clear hx;go_wp2_with fail;refine HLF.out.mono ?_;rintro e w3 ⟨he,hb3⟩;have HB3:=aF (HB.out.trans (hb3.mono HB.out.size));clear hb3 HLF t0 t1 t2 t3 t4 t5;cases h5:pY (af rs) x.a x.b x.r x.c x.d x.s;case true=>
   rw[h5]at he;subst he;have WQ:Hid ((ts.drop (k+1)).all (gV rs)=ts.all (gV rs)):=by show _=_;rw[HD.out];unfold gV at *;rw[h5];rfl
   clear h5;go_wp2;go_roundw;case rel=>exact⟨k+1,by omega,by go_num,WQ,HB3⟩
   simp[intOf]<;>omega
  rw[h5]at he;subst he;have Yn:Hid (aW (gV rs) rs ts=false):=by show _=_;rw[HN.out,HD.out];unfold gV at *;rw[h5];rfl
  clear h5;go_wp2;go_ret;exact⟨by rw[Yn.out];rfl,HB3.out⟩
 have Yn:Hid (aW (gV rs) rs ts=true):=by show _=_;rw[HN.out,<-HP.out,VN (by omega)];rfl
 go_wp2;go_ret;exact⟨by rw[Yn.out];rfl,HB.out⟩
end Go.Proofs.YtojjoblnpldniaaGreat
