/- The document's look whether schema and tuples are right data. -/
import Derived.Test.YtajkkeikihhejaaGreatSq
import Derived.Test.YtajkkeikihhejaaGreatJ31
import Derived.Test.YtajkkeikihhejaaGreatJ34
open Go.Proofs.Tryz
set_option maxHeartbeats 80000000
namespace Go.Proofs.YtajkkeikihhejaaGreat
set_option linter.unusedVariables false
set_option maxRecDepth 100000
open Go.ChangeShapes Go.WideShapes Go.ChangeAt Go.RowKit Go.Maps
open Pl
def gW (rs:List TR)(t:Tp):Bool:=sH (ae rs) t.a t.b t.r t.c t.d t.s
theorem DL {rs:List TR}{t:Tp}(h:aL (ae rs)=true)(ht:t.ok=true):x9 (ae rs) t.a t.r ⟨t.c,t.s⟩=gW rs t:=by
 have hSP:=aZ.1 h;have h1:x9 (ae rs) t.a t.r ⟨t.c,t.s⟩=dH (aU (aB (ae rs) t.a t.r)) (aU (aB (ae rs) t.a t.r)).length ⟨t.c,t.s⟩:=G5 _ (Rb hSP _ _);have h2:bQ t.a t.b t.r t.c t.d t.s=true:=ht;rw [h1];unfold gW sH;rw [h2,Bool.and_true]
theorem P7 {p:Tp->Bool}{ts:List Tp}{k:Nat}(h:k<ts.length):(ts.drop k).all p=(p ts[k]&&(ts.drop (k+1)).all p):=by rw [UB h];rfl
theorem yh (ad:Option Addr)(cap:Nat)(rs:List TR)(UX:Option Addr)(cap':Nat)(ts:List Tp)(w:af)(hlen:rs.length<=1048576)(hs:kX w ad rs)(hl:∀ r∈rs,r.light)(hfr:∀ r∈rs,r.fits)(hlt:ts.length<=1048576)(hst:Sl w UX ts)(hft:∀ x∈ts,x.fits) :
  Calls prog 55 #[.slice ad rs.length cap,.slice UX ts.length cap'] w fun e w'=>e=.returned (.bool (aV (gW rs) rs ts))/\ag w w':=by
 have HS:=aD hs;have HL:=aD hl;have Xb:=aD hfr;have HST:=aD hst;have UY:=aD hft;have Vl:ts.length<=maxLen:=by unfold maxLen;omega
 clear hs hl hfr hst hft;go_enter func55,ntmps55;go_wp2_with fail;refine (jU ad cap rs _ hlen HS.out HL.out Xb.out).mono ?_;rintro e w1 ⟨he,hb1⟩;have HB1:=aD hb1;clear hb1;cases h1:aL (ae rs);case false=>
  rw [h1]at he;subst he;have HN:Hid (aV (gW rs) rs ts=false):=by show _=_;unfold aV;rw [h1];rfl
  clear h1;go_wp2;go_ret;exact ⟨by rw [HN.out];rfl,HB1.out⟩
 rw [h1]at he;subst he;have H1:=aD h1;clear h1;go_wp2_with fail;refine (oh UX cap' ts _ Vl (HST.out.below HB1.out) UY.out).mono ?_;rintro e w2 ⟨he,hb2⟩;have HB2:=aD (HB1.out.trans (hb2.mono HB1.out.size));clear hb2 HB1;cases h2:dL ts;case false=>
  rw [h2]at he;subst he;have HN:Hid (aV (gW rs) rs ts=false):=by show _=_;unfold aV;rw [h2,Bool.and_false];rfl
  clear h2;go_wp2;go_ret;exact ⟨by rw [HN.out];rfl,HB2.out⟩
 rw [h2]at he;subst he;have HN:Hid (aV (gW rs) rs ts=ts.all (gW rs)):=by show _=_;unfold aV;rw [H1.out,h2];rfl
 clear h2 H1;go_wp2;go_loopw [5] (fun i wr=>∃ k:Nat,k<=ts.length/\i=.int .i64 k/\Hid ((ts.drop k).all (gW rs)=ts.all (gW rs))/\Hid (ag w wr)) (fun i _=>ts.length-(intOf i).toNat);case atStart=>exact ⟨0,Ui _,rfl,rfl,HB2⟩
 clear HB2;obtain ⟨k,hk,rfl,HP,HB⟩:=hrel;by_cases hlt2:k<ts.length
 ·obtain ⟨b,off,UT,⟨t0,t1,t2,t3,t4,t5⟩,hb⟩:=Sl.at0 (HST.out.below HB.out) hlt2;have hk1:=bF k;have hk2:(k:Int)<(ts.length:Int):=by omega
  obtain ⟨f0,f1,f2,f3,f4,f5⟩:=UY.out _ (Ud hlt2);have HD:Hid (ts.all (gW rs)=(gW rs ts[k]&&(ts.drop (k+1)).all (gW rs))):=by show _=_;rw [<-HP.out];exact P7 hlt2
  obtain ⟨x,hx⟩:∃ x,x=ts[k]:=⟨_,rfl⟩;rw [<-hx]at t0 t1 t2 t3 t4 t5 f0 f1 f2 f3 f4 f5 HD;have HLF:=aD (Bo ad cap rs x.a x.b x.r x.c x.d x.s wr hlen (HS.out.below HB.out) HL.out f0 f1 f2 f3 f4 f5);subst UT;clear hx;go_wp2_with fail;refine HLF.out.mono ?_;rintro e w3 ⟨he,hb3⟩;have HB3:=aD (HB.out.trans (hb3.mono HB.out.size));clear hb3 HLF t0 t1 t2 t3 t4 t5;cases h5:sH (ae rs) x.a x.b x.r x.c x.d x.s;case true=>
   rw [h5]at he;subst he;have UW:Hid ((ts.drop (k+1)).all (gW rs)=ts.all (gW rs)):=by show _=_;rw [HD.out];unfold gW at *;rw [h5];rfl
   clear h5;go_wp2;go_roundw;case rel=>exact ⟨k+1,by omega,by go_num,UW,HB3⟩
   simp [intOf] <;> omega
  rw [h5]at he;subst he;have Wq:Hid (aV (gW rs) rs ts=false):=by show _=_;rw [HN.out,HD.out];unfold gW at *;rw [h5];rfl
  clear h5;go_wp2;go_ret;exact ⟨by rw [Wq.out];rfl,HB3.out⟩
 have Wq:Hid (aV (gW rs) rs ts=true):=by show _=_;rw [HN.out,<-HP.out,List.drop_of_length_le (by omega)];rfl
 go_wp2;go_ret;exact ⟨by rw [Wq.out];rfl,HB.out⟩
set_option linter.unusedSectionVars false
theorem xm {xs:List Al}{o x:Al}(h:x∈bf xs o):x∈xs\/x=o:=by
 unfold bf at h;split at h
 ·exact .inl h
 rcases Uq.1 h with h|h
 ·exact .inl h
 exact .inr (by simpa using h)
theorem Br:∀ (ts:List Tp) (xs:List Al) (o:Al),o∈ts.foldl fO xs->o∈xs \/ ∃ t∈ts,o=⟨t.a,t.b⟩\/o=⟨t.c,t.d⟩
 | [],xs,o,h=>.inl h
 | t::ts,xs,o,h=>by
  rcases Br ts (fO xs t) o h with h|⟨u,hu,h⟩
  ·unfold fO at h;rcases xm h with h|h
   ·rcases xm h with h|h
    ·exact .inl h
    exact .inr ⟨t,by simp,.inl h⟩
   exact .inr ⟨t,by simp,.inr h⟩
  exact .inr ⟨u,by simp [hu],h⟩
theorem Bt:∀ (ts:List Tp) (xs:List Al) (o:Al),o∈ts.foldl cz xs->o∈xs \/ ∃ t∈ts,o=⟨t.a,t.b⟩\/o=⟨t.c,t.d⟩
 | [],xs,o,h=>.inl h
 | t::ts,xs,o,h=>by
  rcases Bt ts (cz xs t) o h with h|⟨u,hu,h⟩
  ·unfold cz at h;split at h
   ·rcases xm h with h|h
    ·exact .inl h
    exact .inr ⟨t,by simp,.inr h⟩
   exact .inl h
  exact .inr ⟨u,by simp [hu],h⟩
theorem KG {ts:List Tp}(hf:∀ t∈ts,t.fits){o:Al}(h:∃ t∈ts,o=⟨t.a,t.b⟩\/o=⟨t.c,t.d⟩):o.t.size<=maxLen/\o.s.size<=maxLen:=by
 obtain ⟨t,ht,h⟩:=h;obtain ⟨h0,h1,h2,h3,h4,h5⟩:=hf t ht;rcases h with rfl|rfl
 ·exact ⟨h0,h1⟩
 exact ⟨h3,h4⟩
theorem pM {ts:List Tp}(hf:∀ t∈ts,t.fits):∀ o∈eD ts,o.t.size<=maxLen/\o.s.size<=maxLen:=fun o ho=>by
 rcases Br ts [] o ho with h|h
 ·cases h
 exact KG hf h
theorem ny {ts:List Tp}(hf:∀ t∈ts,t.fits):∀ o∈dh ts,o.t.size<=maxLen/\o.s.size<=maxLen:=fun o ho=>by
 rcases Bt ts [] o ho with h|h
 ·cases h
 exact KG hf h
theorem E8:∀ (E:List (KL×RR)) (m:Int),m<=E.foldl (fun m x=>max m (x.1.2+1)) m/\∀ x∈E,x.1.2+1<=E.foldl (fun m x=>max m (x.1.2+1)) m
 | [],m=>⟨Int.le_refl _,fun x hx=>by cases hx⟩
 | y::E,m=>by
  obtain ⟨h1,h2⟩:=E8 E (max m (y.1.2+1));simp only [List.foldl_cons];refine ⟨by omega,fun x hx=>?_⟩;rcases List.mem_cons.1 hx with rfl|hx
  ·omega
  exact h2 x hx
theorem KH:∀ (E:List (KL×RR)) (m B:Int),m<=B->(∀ x∈E,x.1.2+1<=B)->E.foldl (fun m x=>max m (x.1.2+1)) m<=B
 | [],m,B,h,_=>h
 | y::E,m,B,h,hx=>KH E _ B (Int.max_le.2 ⟨h,hx y (by simp)⟩) fun x h2=>hx x (by simp [h2])
theorem Ro {f:ByteArray×ByteArray->Int}{rs:List TR}{k:ByteArray×ByteArray}(hk:k∈ak (ae rs)):∃ x∈eY f rs,x.1.2=f k:=by
 unfold ak at hk;obtain ⟨T,hT,hk⟩:=Ut.1 hk;obtain ⟨t,ht,rfl⟩:=Ur.1 hT;unfold jH at hk;obtain ⟨r,hr,rfl⟩:=Ur.1 hk;obtain ⟨q,hq,rfl⟩:=Ur.1 hr;exact ⟨((t.name,f (t.name,q.name)),q),Ut.2 ⟨t,ht,Ur.2 ⟨q,hq,rfl⟩⟩,rfl⟩
theorem Te {f:ByteArray×ByteArray->Int}{rs:List TR}{x:KL×RR}(hx:x∈eY f rs):∃ k∈ak (ae rs),x.1.2=f k/\∃ t∈rs,∃ q∈t.rows,k=(t.name,q.name):=by
 unfold eY at hx;obtain ⟨t,ht,hx⟩:=Ut.1 hx;obtain ⟨q,hq,rfl⟩:=Ur.1 hx;refine ⟨(t.name,q.name),?_,rfl,t,ht,q,hq,rfl⟩;unfold ak jH;exact Ut.2 ⟨t.p,Ur.2 ⟨t,ht,rfl⟩,Ur.2 ⟨q.p,Ur.2 ⟨q,hq,rfl⟩,rfl⟩⟩
theorem xq {rs:List TR}(hf:∀ r∈rs,r.fits):∀ k∈ak (ae rs),k.2.size<=maxLen:=fun k hk=>by
 unfold ak at hk;obtain ⟨T,hT,hk⟩:=Ut.1 hk;obtain ⟨t,ht,rfl⟩:=Ur.1 hT;unfold jH at hk;obtain ⟨r,hr,rfl⟩:=Ur.1 hk;obtain ⟨q,hq,rfl⟩:=Ur.1 hr;exact ((hf t ht).2.2 q hq).1
theorem Rp (f:ByteArray×ByteArray->Int)(rs:List TR):(eY f rs).length=(ak (ae rs)).length:=by
 induction rs with
 | nil=>rfl
 | cons t rs ih =>
  have e1:ak (ae (t::rs))=jH t.p++ak (ae rs):=by simp [ak,ae]
  have e2:eY f (t::rs)=(t.rows.map fun r=>((t.name,f (t.name,r.name)),r))++eY f rs:=rfl;have e3:(jH t.p).length=t.rows.length:=by unfold jH;rw [UK];exact rq _
  rw [e1,e2,Ul,Ul,ih,e3,UK]
theorem P8 {w W w':af}{n:Nat}{x0 x1 x2 x3 x4:Value}(h:W.cell? ⟨n,0,none⟩=some x0/\W.cell? ⟨n,1,none⟩=some x1/\W.cell? ⟨n,2,none⟩=some x2/\W.cell? ⟨n,3,none⟩=some x3/\W.cell? ⟨n,4,none⟩=some x4/\ag w W)(hb:ag W w'):w'.cell? ⟨n,0,none⟩=some x0/\w'.cell? ⟨n,1,none⟩=some x1/\w'.cell? ⟨n,2,none⟩=some x2/\w'.cell? ⟨n,3,none⟩=some x3/\w'.cell? ⟨n,4,none⟩=some x4/\ag w w':=by
 obtain ⟨h0,h1,h2,h3,h4,hB⟩:=h;exact ⟨bC hb (aG h0) h0,bC hb (aG h1) h1,bC hb (aG h2) h2,bC hb (aG h3) h3,bC hb (aG h4) h4,hB.trans (hb.mono hB.size)⟩
section
variable  [DecidableEq Fc]
def ax (st:ByteArray×ByteArray->Int)(rs:List TR)(ts:List Tp):List Fc:=if aV (gW rs) rs ts then qY st rs ts else []
theorem iy {st:ByteArray×ByteArray->Int}{rs:List TR}{ts:List Tp}(h:aV (gW rs) rs ts=true):ax st rs ts=qY st rs ts:=by unfold ax;rw [if_pos h]
theorem jq {st:ByteArray×ByteArray->Int}{rs:List TR}{ts:List Tp}(h:aV (gW rs) rs ts=false):ax st rs ts=[]:=by unfold ax;rw [if_neg (by rw [h];decide)]
theorem pO (st:ByteArray×ByteArray->Int){rs:List TR}{ts:List Tp}:(ax st rs ts).length<=115200:=by
 cases hr:aV (gW rs) rs ts;case false=>rw [jq hr];simp
 rw [iy hr];have hsd:aL (ae rs)=true/\ts.length<=40:=by
  unfold aV dL at hr;simp only [Ug,Um]at hr;exact ⟨hr.1.1,hr.1.2.1⟩
 obtain ⟨h6,Ww,-⟩:=bu (aZ.1 hsd.1).1;exact (kG st rs ts (eD ts) (dh ts) _).len (by have:=oD ts;omega) (yP h6 Ww) (by have:=mG ts;omega)
end
end Go.Proofs.YtajkkeikihhejaaGreat
