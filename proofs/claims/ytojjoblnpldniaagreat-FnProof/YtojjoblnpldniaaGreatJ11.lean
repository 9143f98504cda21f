/- Contract of the document's function on strata: the walk. -/
import Derived.Test.YtojjoblnpldniaaGreatSq
import Derived.Test.YtojjoblnpldniaaGreatJ10
import Derived.Test.YtojjoblnpldniaaGreatJ8
open Go.Proofs.Tryz
set_option maxHeartbeats 80000000
set_option linter.defProp false
namespace Go.Proofs.YtojjoblnpldniaaGreat
open ChangeShapes WideShapes ChangeAt RowKit
open Pl
set_option maxRecDepth 100000 in
def xJ(ad:Q02)(cap:Nat)(rs:Q06)(w:ag)(hlen:rs.length<=6)(hs:kI w ad rs)(hl:∀r∈rs,r.light)(hrl:∀r∈rs,r.rows.length<=6)(hel:∀r∈rs,∀q∈r.rows,q.rows.length<=15/\∀e∈q.rows,fE q.rows.length e.e.kids)(hF:Found<|ai rs):
    Calls prog 144 #[.slice ad rs.length cap] w fun e w'=>((∃Y8 cap' out,e=.returned (.tuple #[.slice Y8 out.length cap',.bool true])/\KI w' Y8 out/\jg out=ay (ai rs)/\Least (ai rs) (gI out))\/(e=.returned (.tuple #[.slice none 0 0,.bool false])/\¬ ∃f,Sol (ai rs) f))/\ae w w':=by
  have HS:=aK hs;have HL:=aK hl;have HRL:O (∀r∈rs,r.rows.length<=6):=hrl;have HEL:O (∀r∈rs,∀q∈r.rows,q.rows.length<=15/\∀e∈q.rows,fE q.rows.length e.e.kids):=hel;have HF:=aK hF;clear hs hl hrl hel hF;obtain⟨i0,hi,hz0,hz1,hz2⟩:=info_parts Uc;go_enter func144,ntmps144;have hbA:O (ae w<|w.alloc<|.cells #[] 212):=(XL _ _).alloc (XK _) _;have hown1:O ((w.alloc<|.cells #[] 212).ownsRow w.heap.size 212 3 (.slice (some<|aE w) 0 0) 0 []):=World.ownsRow_made w #[] 0 (XK _) cv rfl;go_wp2_with fail;go_loopw[4,5] (fun v i wr=>∃k:Nat,k<=rs.length/\i=.int .i64 k/\O (bj w wr 212 3 v (dL rs k).length<|jh<|IW<|dL rs k)/\O (ae w wr)) (fun _ i _=>rs.length-(intOf i).toNat);case atStart=>exact⟨0,XP _,rfl,hown1,hbA⟩
  clear hown1 hbA;obtain⟨k,hk,rfl,HOW,HB⟩:=hrel;by_cases hlt:k<rs.length
  · have hk1:=bG k;have hk2:(k:Int)<(rs.length:Int):=cq
    have HU:O ((dL rs k).length<=k*6):=yF rs HRL k;have HR6:O (rs[k].rows.length<=6):=HRL _<|XI hlt;obtain⟨wo,hwo⟩:=eQx wr;subst hwo;go_wp2_with fail;go_loopw[4,6] (fun v i w2=>∃j:Nat,j<=rs[k].rows.length/\i=.int .i64 j/\O (bj w w2 212 3 v (dL rs k++jC rs[k] j).length<|jh<|IW<|dL rs k++jC rs[k] j)/\O (ae w w2)) (fun _ i _=>rs[k].rows.length-(intOf i).toNat);case atStart=>exact⟨0,XP _,rfl,(by simpa[jC] using HOW),HB⟩
    obtain⟨j,hj,rfl,YZ,HB2⟩:=hrel;rcases HS.out.below HB2.out with rfl|⟨b,off,rfl,hb,hr,hok⟩
    · simp at hlt
    have hbw:cW b w:=by
      rcases HS.out with h|⟨b',off',e,hb',-⟩
      · rw[h]at hlt;simp at hlt
      · injection e with e;injection e with e1 e2;omega
    obtain⟨t0,t1⟩:=hr k hlt;have HOK:O (rs[k].ok _):=hok rs[k]<|XI hlt;have HOKW:O (rs[k].ok w):=HS.mem<|XI hlt;clear hr hok;by_cases hjl:j<rs[k].rows.length
    · rcases HOK.out with hnil|⟨b2,ZR,had,hb2,hr2,-⟩
      · rw[hnil]at hjl;simp at hjl
      have hbw2:cW b2 w:=by
        rcases HOKW.out with h|⟨b',off',e,hb',-⟩
        · rw[h]at hjl;simp at hjl
        · rw[had]at e;injection e with e;injection e with e1 e2;omega
      have t1':=t1;rw[had]at t1';obtain⟨q0,q1⟩:=hr2 j hjl;have hj1:=bG j;have hj2:(j:Int)<(rs[k].rows.length:Int):=cq;have a1:u4.ownBlock≠some b:=fun e=>by have:=(YZ.lt _ e).1;omega
      have a2:u4.ownBlock≠some b2:=fun e=>by have:=(YZ.lt _ e).1;omega
      have l4:cY w wr:=HB2.size;obtain⟨xs,hxs⟩:=eQx<|jh<|IW<|dL rs k++jC rs[k] j;obtain⟨n,hn⟩:=eQx<|(dL rs k++jC rs[k] j).length;have hown:=YZ.out;rw[<-hxs,<-hn]at hown;have hnl:n<=1000:=by
        have h1:=HU.out;have h2:=E8 rs[k] j;have h3:=HR6.out;rw[hn,XT];omega
      have HFX:O (jh (IW<|dL rs k++jC rs[k] (j+1))=xs++[.string rs[k].name,.string rs[k].rows[j].name,.int .i64 0]):=by
        show _=_;rw[vM _ _ hjl,<-Ye,QY,Ce,<-hxs];rfl
      have HNN:O ((dL rs k++jC rs[k] (j+1)).length=n+1):=by show _=_;rw[vM _ _ hjl,<-Ye,XT,<-hn];rfl
      clear hr2 had t1 hxs hn YZ;go_wp2_with fail
      go_region_held3 (fun w'=>w'.cell? (ap b<|off+k*2)=some (.string rs[k].name)/\w'.cell? (ap b<|off+k*2+1)=some (.slice (some<|ap b2 ZR) rs[k].rows.length rs[k].cap)/\w'.cell? (ap b2<|ZR+j*2)=some (.string rs[k].rows[j].name))
        (first
          | go_keep
          | (go_split_ands
             refine⟨?_,?_,?_⟩
             · (rw[hgrow.cell_far _ (by simp;omega) (Ne.symm a1)];assumption)
             · (rw[hgrow.cell_far _ (by simp;omega) (Ne.symm a1)];assumption)
             · (rw[hgrow.cell_far _ (by simp;omega) (Ne.symm a2)];assumption)))
        ((refine step_append_lies _ (by rfl) _ _ _ (by rfl) w.heap.size 212 i0 _ 3 40 underlying208 hi hz0 hz1 hz2 rfl cq u4 n xs (by rfl) ((hown.alloc _).drew)
            ⟨wr.heap.size,0,none⟩ 1 1 [.string rs[k].name,.string rs[k].rows[j].name,.int .i64 0] (by rfl) (by rfl) (World.news_of_block (cs:=#[.string rs[k].name,.string rs[k].rows[j].name,.int .i64 0]) (t:=212) (fr:=(0,0))<|heap_alloc_new wr _) (by simp[Value.oneCell'])
            cq cy cq (by simp;omega) (wr.heap.size+1) ct ?_;intro gg cp w5 hown5 hgrow hat hlt5))
      have hb5:O (ae w w5):=((HB2.alloc HB2.size _).drew).grown hgrow (by simp;omega) (fun i hi=>(hown.lt i hi).1);have Ze:O (bj w w5 212 3 (.slice (some<|am gg) (n+1) cp) (dL rs k++jC rs[k] (j+1)).length<|jh<|IW<|dL rs k++jC rs[k] (j+1)):=by
        show World.ownsRow _ _ _ _ _ _ _;rw[HFX,HNN];exact hown5
      have h6:=HR6.out;clear hown5 hgrow hat hown;go_wp2;go_roundw;case rel=>exact⟨j+1,cq,cx,Ze,hb5⟩
      simp[intOf]<;>omega
    · obtain rfl:j=rs[k].rows.length:=cq
      have Ze:O (bj w wr 212 3 u4 (dL rs<|k+1).length<|jh<|IW<|dL rs<|k+1):=by
        show World.ownsRow _ _ _ _ _ _ _;rw[qC _ _ hlt];exact YZ
      clear YZ;go_wp2;go_roundw;case rel=>exact⟨k+1,cq,cx,Ze,HB2⟩
      simp[intOf]<;>omega
  · obtain rfl:k=rs.length:=cq
    have HE0:O (dL rs rs.length=ay (ai rs)):=by show _=_;unfold dL;rw[X8]
    have HN36:O ((ay<|ai rs).length<=36):=by
      have h1:=yF rs HRL rs.length;have h2:=HE0.out;show _<=_;rw[<-h2];omega
    obtain⟨n,hn⟩:=eQx<|(ay<|ai rs).length;have hown:=HOW.out;rw[HE0,<-GD]at hown;obtain⟨adO,cpO,g,rfl,hrow⟩:=Ue HB hown;have HP0:O (Pass (ai rs) n true<|IW<|ay<|ai rs):=Pass.zero hn;have HR0:=aK hrow;have hn36:n<=36:=by rw[hn];exact HN36
    have HNN:O (n=(ay<|ai rs).length):=hn;rw[GD,<-hn];clear hown HOW hrow hn HE0 HN36 HB;go_wp2_with fail;go_loopw[7] (fun m w1=>∃(mb:Bool) (out:List St),m=.bool mb/\O (Pass (ai rs) n mb out)/\O (RowS w w1 adO g out)) (fun m w1=>E9 w1 g n m);case atStart=>exact⟨true,_,rfl,HP0,HR0⟩
    clear HP0 HR0;obtain⟨mb,oS,rfl,HPS,HRS⟩:=hrel;cases mb;case false=>
      go_wp2;exact bodyPost_ret (v:=.tuple #[.slice adO n cpO,.bool true]) (by simp[results,Tryz.results144,go_sem]) rfl ⟨.inl ⟨adO,cpO,oS,by rw[HPS.len],HRS.slN,HPS.round.keys,HPS.least⟩,HRS.below⟩
    have HSL:O (oS.length=n):=HPS.len;have HM0:O (Mid (ai rs) n oS 0 0 false oS):=Mid.start HPS.len HPS.nn HPS.round HPS.le;obtain⟨w0,hw0⟩:=eQx wr;subst hw0;go_wp2_with fail;go_loopw[7,8] (fun m i w1=>∃(mb:Bool) (k:Nat) (out:List St),m=.bool mb/\k<=n/\i=.int .i64 k/\O (Mid (ai rs) n oS k 0 mb out)/\O (RowS w w1 adO g out)) (fun _ i _=>n-(intOf i).toNat);case atStart=>exact⟨false,0,oS,rfl,XP _,rfl,HM0,HRS⟩
    clear HM0;obtain⟨mb,k,out,rfl,hk,rfl,HM,HR⟩:=hrel;by_cases hlt:k<n
    · have hko:k<out.length:=by rw[HM.len];exact hlt
      have hke:k<(ay<|ai rs).length:=by rw[<-HNN];exact hlt
      have hk1:=bG k;have hk2:(k:Int)<(n:Int):=cq;rcases HR.out.at' with e|⟨rfl,hgw,hgl,hO,-⟩
      · rw[e]at hko;simp at hko
      obtain⟨c0,c1,c2⟩:=hO k hko;have HKE:O (out[k].key=(ay<|ai rs)[k]):=HM.key hko hke;have Y9:∀w',ae wr w'->kI w' ad rs:=fun w' h=>HS.below<|HR.below.trans<|h.mono HR.below.size;have c3:wr.drew.cell? (ap g<|k*3)=some (.string out[k].typ)/\wr.drew.cell? (ap g<|k*3+1)=some (.string out[k].rel)/\g<wr.drew.heap.size/\ae wr wr.drew:=⟨c0,c1,hgl,(XL _ _).drew⟩;clear hO c2;go_wp2_with fail
      go_region_held3 (fun w'=>w'.cell? (ap g<|k*3)=some (.string out[k].typ)/\w'.cell? (ap g<|k*3+1)=some (.string out[k].rel)/\g<w'.heap.size/\ae wr w')
        (first|exact c3|assumption|exact keepD cE hbx)
        (first|(go_at_call 101;refine(jb ad cap rs _ _ _ cq (Y9 _<|by first|assumption|exact c3.2.2.2) HL).mono ?_;rintro e w' ⟨⟨rows,YY,capE,rfl,hex,hse,hfs⟩,rfl⟩)|(go_at_call 218;refine(KM ad YY cap capE rs _ rows _ cq (Y9 _<|by first|assumption|exact c3.2.2.2) HL (hfs.small HEL).1 hse (hfs.light HL).2 (hfs.small HEL).2 (Ci rs HL _ rows (hfs.small HEL).1 (hfs.light HL).2)).mono ?_;rintro e w' ⟨⟨v,rfl,hown⟩,hbx⟩))
      rename_i hHeld;have HB5:O (ae wr w'):=hHeld.2.2.2;have Zu:O (RowS w w' (some<|am g) g out):=HR.kept hHeld.2.2.2;have HDK:O (q8 (ai rs) out[k].typ (au rows)=iP (ai rs) (ay<|ai rs)[k]):=by
        show _=_;rw[<-HKE,hex];rfl
      obtain⟨ds,hds⟩:=eQx<|iP (ai rs) (ay<|ai rs)[k];rw[HDK,<-hds]at hown;obtain⟨adD,cpD,rfl,hD⟩:=WV hown;have HD5:=aK hD;have hdl:ds.length<=100000000:=by
        have:=Ci rs HL out[k].typ rows (hfs.small HEL).1 (hfs.light HL).2 (au rows).length;have e:=HDK.out;unfold q8 at e;rw[e,<-hds]at this;exact this
      have HDS:O (ds=iP (ai rs) (ay<|ai rs)[k]):=hds;have HKM:O ((ay<|ai rs)[k]∈ay (ai rs)):=XI hke;clear hHeld hown hD hds HDK c0 c1 c3 hex hse hfs hbx Y9 HKE;obtain⟨wq,hwq⟩:=eQx wr;subst hwq;go_wp2_with fail;go_loopw[7,10] (fun m i w2=>∃(mb:Bool) (j:Nat) (o2:List St),m=.bool mb/\j<=ds.length/\i=.int .i64 j/\O (Mid (ai rs) n oS k j mb o2)/\O (RowS w w2 (some<|am g) g o2)/\O (Vn w2 wq.heap.size adD ds)) (fun _ i _=>ds.length-(intOf i).toNat);case atStart=>exact⟨mb,0,out,rfl,XP _,rfl,HM,Zu,HD5⟩
      clear HM HR Zu HD5 HB5;obtain⟨mc,j,o2,rfl,hj,rfl,ZT,HR2,HD2⟩:=hrel;have hko2:k<o2.length:=by rw[ZT.len];exact hlt
      rcases HR2.out.at' with e|⟨-,hgw2,hgl2,hO2,hfz2⟩
      · rw[e]at hko2;simp at hko2
      have f2:=hfz2<|k*3+2;obtain⟨z0,z1,z2⟩:=hO2 k hko2;by_cases hjl:j<ds.length
      · rcases HD2.out with e|⟨bd,rfl,hbd,hbl,hDc⟩
        · rw[e]at hjl;simp at hjl
        obtain⟨x0,x1,x2⟩:=hDc j hjl;have HKE2:O (o2[k].key=(ay<|ai rs)[k]):=ZT.key hko2 hke;have HDJ:O ((iP (ai rs) o2[k].key)[j]?=some ds[j]):=by
          show _=_;rw[HKE2,<-HDS];exact XQ hjl
        have HDF:O ((ds[j].typ,ds[j].rel)∈ay (ai rs)):=HF _ HKM ds[j] (by rw[<-HDS];exact XI hjl);obtain⟨i,hi2,hat,hin,hpos,hub⟩:=ZT.at _ HDF;obtain⟨y0,y1,y2⟩:=hO2 i hi2;have hi3:i<n:=by rw[<-ZT.len];exact hi2
        have HW:O (qF o2 ds[j]=gI o2 (ds[j].typ,ds[j].rel)+stepOf ds[j]):=rfl;have HL2:O (o2.length=n):=ZT.len;have HSN:O (KI wr (some<|am g) o2):=HR2.slN;rw[hin]at y2;obtain⟨x,hx⟩:=eQx<|gI o2 (ds[j].typ,ds[j].rel);have HX:O (qF o2 ds[j]=x+stepOf ds[j]):=by rw[hx];exact HW
        rw[<-hx]at hpos hub y2;obtain⟨kn,hkn⟩:=eQx<|o2[k].n;rw[<-hkn]at z2;have HKN:O (kn=o2[k].n):=hkn;have hkn1:0<=kn:=by rw[hkn];exact ZT.round.pos _<|XI hko2
        have hkn2:kn<=n+1+j:=by rw[hkn];exact ZT.lek hko2
        have hj1:=bG j;have hj2:(j:Int)<(ds.length:Int):=cq;have hi4:=bG i;have hi5:(i:Int)<(n:Int):=cq;have HAT:O (iG ds[j].typ ds[j].rel o2 0=(i:Int)):=hat;have hx5:(2:Int)<5:=cq;clear hfz2 hO2 hDc hx hkn hin y0 y1 hi2 HW hat z0 z1;go_wp2_with fail
        go_region_held3 (fun w'=>w'.cell? (ap bd<|j*3)=some (.string ds[j].typ)/\w'.cell? (ap bd<|j*3+1)=some (.string ds[j].rel)/\w'.cell? (ap g<|i*3+2)=some (.int .i64 x))
          (first|assumption|exact⟨x0,x1,y2⟩)
          (first|(go_at_call 219;refine(VS (some<|am g) cpO n o2 (ds[j].typ,ds[j].rel) _ HL2 cq (by first|exact HSN|assumption) i HAT).mono ?_;rintro e w' ⟨rfl,rfl⟩))
        rename_i hHeld2;have HR3:O (RowS w wr.drew (some<|am g) g o2):=HR2.kept<|(XL _ _).drew;have HD3:O (Vn wr.drew wq.heap.size (some<|am bd) ds):=HD2;clear hHeld2 x0 x1 y2;cases hneg:ds[j].neg
        case' true =>
          have HX2:O (qF o2 ds[j]=x+1):=by show _=_;rw[HX];simp[stepOf,hneg]
          rw[hneg]at x2;by_cases hgt:kn<x+1
          · have HM3:O (Mid (ai rs) n oS k (j+1) true<|o2.set k ⟨o2[k].typ,o2[k].rel,x+1⟩):=by
              have:=ZT.yes HF hko2 ds[j] HDJ (by rw[HX2,<-HKN];exact hgt);rw[HX2]at this;exact this
            have HR4:O (RowS w (wr.drew.setCell (ap g<|k*3+2)<|.int .i64<|x+1) (some<|am g) g<|o2.set k ⟨o2[k].typ,o2[k].rel,x+1⟩):=HR3.set hko2<|x+1;have HD4:O (Vn (wr.drew.setCell (ap g<|k*3+2)<|.int .i64<|x+1) wq.heap.size (some<|am bd) ds):=HD3.set hgl;clear ZT HR2 HR3 HD2 HD3;go_wp2;go_roundw;case rel=>exact⟨true,j+1,_,rfl,cq,cx,HM3,HR4,HD4⟩
            simp[intOf]<;>omega
        case' false =>
          have HX2:O (qF o2 ds[j]=x):=by show _=_;rw[HX];simp[stepOf,hneg]
          rw[hneg]at x2;by_cases hgt:kn<x
          · have HM3:O (Mid (ai rs) n oS k (j+1) true<|o2.set k ⟨o2[k].typ,o2[k].rel,x⟩):=by
              have:=ZT.yes HF hko2 ds[j] HDJ (by rw[HX2,<-HKN];exact hgt);rw[HX2]at this;exact this
            have HR4:O (RowS w (wr.drew.setCell (ap g<|k*3+2)<|.int .i64<|x) (some<|am g) g<|o2.set k ⟨o2[k].typ,o2[k].rel,x⟩):=HR3.set hko2<|x;have HD4:O (Vn (wr.drew.setCell (ap g<|k*3+2)<|.int .i64<|x) wq.heap.size (some<|am bd) ds):=HD3.set hgl;clear ZT HR2 HR3 HD2 HD3;go_wp2;go_roundw;case rel=>exact⟨true,j+1,_,rfl,cq,cx,HM3,HR4,HD4⟩
            simp[intOf]<;>omega
        all_goals
          · have HM3:O (Mid (ai rs) n oS k (j+1) mc o2):=ZT.no hko2 ds[j] HDJ (by rw[HX2,<-HKN];omega);clear ZT HR2 HD2;go_wp2;go_roundw;case rel=>exact⟨mc,j+1,o2,rfl,cq,cx,HM3,HR3,HD3⟩
            simp[intOf]<;>omega
      · obtain rfl:j=ds.length:=cq
        have HKE2:O (o2[k].key=(ay<|ai rs)[k]):=ZT.key hko2 hke;have HJ:O (ds.length=(iP (ai rs) o2[k].key).length):=by show _=_;rw[HKE2,<-HDS]
        clear z0 z1 hO2 hfz2 f2;by_cases hov:(n:Int)<o2[k].n
        · have ZQ:O (¬ ∃f,Sol (ai rs) f):=ZT.over HF hko2 hov;have hkn2:o2[k].n<=n+1+ds.length:=ZT.lek hko2;go_wp2;exact bodyPost_ret (v:=.tuple #[.slice none 0 0,.bool false]) (by simp[results,Tryz.results144,go_sem]) rfl ⟨.inr ⟨rfl,ZQ⟩,HR2.below⟩
        · have HM3:O (Mid (ai rs) n oS (k+1) 0 mc o2):=ZT.next hko2 HJ cq;clear ZT;go_wp2;go_roundw;case rel=>exact⟨mc,k+1,o2,rfl,cq,cx,HM3,HR2⟩
          simp[intOf]<;>omega
    · obtain rfl:k=n:=cq
      have Zc:O (Pass (ai rs) k mb out):=HM.done rfl;have HLS:O (E9 wr g k (.bool mb)<E9 w0 g k (.bool true)):=KV HRS HR HM HSL;go_wp2;go_roundw;case rel=>exact⟨mb,out,rfl,Zc,HR⟩
      exact HLS
open Maps
set_option linter.unusedSectionVars false
set_option linter.unusedVariables false
set_option maxRecDepth 100000
def Jn{rs:Q06}(h:bz (ai rs)=true){k:Q01}(hk:k∈ay (ai rs)):∃es,fI (ai rs) k.1 k.2=some es/\aS es=true:=by
 unfold ay at hk;obtain⟨T,hT,hk⟩:=XZ.1 hk;obtain⟨t,ht,rfl⟩:=XW.1 hT;unfold jN at hk;obtain⟨r,hr,rfl⟩:=XW.1 hk;obtain⟨q,hq,rfl⟩:=XW.1 hr;exact⟨au q.rows,qI h ht hq,((bI h).2.2 t ht q hq).1⟩
def V6{wr W w':ag}{b o1 o2:Nat}{x y:Value}(h:W.cell? (ap b o1)=some x/\W.cell? (ap b o2)=some y/\ae wr W)(hb:ae W w'):w'.cell? (ap b o1)=some x/\w'.cell? (ap b o2)=some y/\ae wr w' :=
 ⟨az hb (ax h.1) h.1,az hb (ax h.2.1) h.2.1,h.2.2.trans<|hb.mono h.2.2.size⟩
def qL[DecidableEq Fc](st:Q00)(rs:Q06)(ts:Q05):List Fc:=iV (ai rs) ts st (fA ts) (dA ts)<|(ay<|ai rs).length+1
section
variable  [DecidableEq Fc]
def kw(st:Q00)(rs:Q06)(ts:Q05)(xo xu:Q0a):∀N,GoodO (ai rs) xo xu (iV (ai rs) ts st xo xu N)
 | 0=>⟨List.nodup_nil,fun g hg=>by cases hg⟩
 | N+1=>by
  refine⟨yO _ _ _ _ _ _,fun g hg=>?_⟩;rw[jQ]at hg;obtain⟨new,e,hn⟩:=yu (H:=iC (ai rs) ts) (di (ai rs) st xo xu (N:Int)) (oo (di (ai rs) st xo xu (N:Int)) (iV (ai rs) ts st xo xu N)+1)<|iV (ai rs) ts st xo xu N;unfold oK at hg;rw[e]at hg;rcases XV.1 hg with hg|hg
  ·exact(kw st rs ts xo xu N).sub g hg
  exact Fz<|hn g hg
def yU(st:Q00)(ad:Q02)(cap:Nat)(rs:Q06)(Y8:Q02)(cap':Nat)(ts:Q05)(w:ag)(hsp:cz<|ai rs)(hle:Least (ai rs) st)(hs:kI w ad rs)(hl:∀r∈rs,r.light)(hlt:ts.length<=40)(hst:Sl w Y8 ts):
  Calls prog 61 #[.slice ad rs.length cap,.slice Y8 ts.length cap'] w fun e w'=>(∃v,e=.returned v/\bj w w' 52 5 v (qL st rs ts).length (av<|qL st rs ts))/\ae w w':=by
 obtain⟨iF,z0,z1,z2,z3⟩:=mI;have HIF:=aJ<|And.intro z0<|And.intro z1<|And.intro z2 z3;obtain⟨h6,hr6,hsf⟩:=bI hsp.1;have HSP:=aJ hsp;have ZH:=aJ hle;have HS:=aJ hs;have HL:=aJ hl;have HST:=aJ hst;have HSF:=aJ hsf;have HR6:=aJ hr6;have HND:=aJ<|LP hsp.1;have hE36:(ay<|ai rs).length<=36:=xB h6 hr6;have htl:a7 ts:=cq;obtain⟨W0,hW0⟩:=eQx<|w.alloc<|.cells #[] 52;have HB0:=lX hW0;have Zz:O (bj w W0 52 5 (.slice (some<|aE w) 0 0) 0<|av []):=by
  show World.ownsRow _ _ _ _ _ _ _;rw[hW0];exact World.ownsRow_lit w #[] 0 (XK _) cy ct
 have HNC:O ((∀o,W0.cell? (a6 w o)=none)/\w.heap.size<W0.heap.size):=by
  show _/\_;rw[hW0];exact⟨fun o=>ct,ct⟩
 clear hsp hle hs hl hst hsf hr6 z0 z1 z2 z3;go_enter func61,ntmps61;go_wp2_with fail;rw[<-hW0];clear hW0;refine(uK Y8 cap' ts false _ hlt<|HST.below HB0).mono ?_;rintro e w1 ⟨⟨vo,rfl,hvo⟩,hb1⟩;have HB1:=aJ<|HB0.trans<|hb1.mono HB0.size;have HR1:=aJ<|aP Zz hb1;have HN1:O ((∀o,w1.cell? (a6 w o)=none)/\w.heap.size<w1.heap.size):=⟨fun o=>(hb1.cell (p:=⟨w.heap.size,o,none⟩) HNC.2).trans<|HNC.1 o,XJ HNC.2 hb1.size⟩;obtain⟨adO,capO,rfl,hsO⟩:=nI hvo;have HSO:=aJ hsO;clear hvo hb1 hsO HB0 Zz HNC;go_wp2_with fail;refine(uK Y8 cap' ts true _ hlt<|HST.below HB1).mono ?_;rintro e w2 ⟨⟨vu,rfl,hvu⟩,hb2⟩;have HB2:=aJ<|HB1.trans<|hb2.mono HB1.size;have HR2:=aJ<|aP HR1 hb2;have HN2:O ((∀o,w2.cell? (a6 w o)=none)/\w.heap.size<w2.heap.size):=⟨fun o=>(hb2.cell (p:=⟨w.heap.size,o,none⟩) HN1.2).trans<|HN1.1 o,XJ HN1.2 hb2.size⟩;have HSO2:=aJ<|HSO.below hb2;obtain⟨Z6,Zh,rfl,hsU⟩:=nI hvu;have HSU:=aJ hsU;clear hvu hb2 hsU HB1 HR1 HN1 HSO;go_wp2_with fail;refine(xJ ad cap rs _ h6 (HS.below HB2) HL HR6 (fun r hr q hq=>(HSF r hr q hq).2) (lK HSP.2.1)).mono ?_;rintro e W ⟨hres,hb3⟩;rcases hres with⟨adN,capN,sts,rfl,hsN,hkN,hlN⟩|⟨-,hno⟩;rotate_left
 ·exact absurd HSP.2.2 hno
 have HK:=aJ hkN;have HSL:=aJ hlN;have HB3:=aJ<|HB2.trans<|hb3.mono HB2.size;have HSN:=aJ hsN;have HSO3:=aJ<|HSO2.below hb3;have HSU3:=aJ<|HSU.below hb3;have hsl:sts.length=(ay<|ai rs).length:=by rw[<-hkN,jg,Yp]
 have hs36:sts.length<=36:=cq;have HSLE:=aJ hsl;obtain⟨xo,hxo⟩:=eQx<|fA ts;obtain⟨xu,hxu⟩:=eQx<|dA ts;have n0:gH false ts=xo:=by rw[hxo];rfl
 have n1:gH true ts=xu:=by rw[hxu];rfl
 rw[n0]at HSO3;rw[n1]at HSU3;rw[n0,n1];have hol:xo.length<=80:=by have:=kY ts;rw[hxo];omega
 have hul:xu.length<=40:=by have:=jI ts;rw[hxu];omega
 have HXO:=aJ hxo;have HXU:=aJ hxu;have HOUT:O (OutI w W W (.slice (some<|aE w) 0 0) []):=⟨aP HR2 hb3,fun _ _ _ h=>h,XK _,HB3,fun g hg o=>by
  have e:g=w.heap.size:=by simpa[Value.ownBlock] using hg.symm
  rw[e];exact(hb3.cell (p:=⟨w.heap.size,o,none⟩) HN2.2).trans<|HN2.1 o⟩
 clear hsN hkN hlN hb3 HB2 HR2 HN2 HSO2 HSU n0 n1 hxo hxu hsl HR6;obtain⟨H,hH⟩:=eQx<|iC (ai rs) ts;obtain⟨A,hA⟩:∃A:Nat->List Fc,A=iV (ai rs) ts (gI sts) xo xu:=⟨_,rfl⟩;obtain⟨Q,hQ⟩:∃Q:Nat->List Fc,Q=fun(n:Nat)=>di (ai rs) (gI sts) xo xu (n:Int):=⟨_,rfl⟩;have HA1:O (∀n,A (n+1)=oK H (Q n) (A n)):=fun n=>by rw[hA,hH,hQ];exact jQ _ _ _ _ _ _
 have HAG:O (∀n,GoodO (ai rs) xo xu<|A n):=fun n=>by rw[hA];exact kw _ _ _ _ _ n
 have HQS:O (∀n,∀g∈Q n,g∈Aj (ai rs) xo xu):=fun n g hg=>by rw[hQ]at hg;exact Fz hg
 have HQI:O (∀n:Nat,uA sts xo xu (n:Int) xo.length=Q n):=fun n=>by rw[hQ];exact RI HK HND xo xu n
 have ZK:O (A (sts.length+1)=qL st rs ts):=by
  show _=_;rw[hA,HSLE,HXO,HXU];exact uf (fun k hk=>HSL.same ZH k hk) _
 have HA0:O (A 0=[]):=by show _=_;rw[hA];rfl
 have HH:=aJ hH;clear hH hA hQ;go_wp2;go_loopw[5,10] (fun v i wr=>∃(n:Nat),n<=sts.length+1/\i=.int .i64 n/\O (OutI w W wr v<|A n)) (fun _ i _=>sts.length+1-(intOf i).toNat);case atStart=>exact⟨0,XP _,rfl,by rw[HA0];exact HOUT⟩
 clear HOUT;obtain⟨n,hn,rfl,HO⟩:=hrel;by_cases hlt1:n<=sts.length
 ·go_wp2;go_loopw[5,11] (fun v m wr=>∃(bb:Bool) (out:Q04),m=.bool bb/\O (oK H (Q n) out=A (n+1))/\O (bb=false->dh H (Q n) out=out)/\O (OutI w W wr v out)/\O (GoodO (ai rs) xo xu out)) (fun v m _=>2*(200000-VV v)+XB m);case atStart=>exact⟨true,A n,rfl,(HA1 n).symm,(fun h=>by cases h),HO,HAG n⟩
  clear HO;obtain⟨bb,out,rfl,HLM,HDN,HO,HG⟩:=hrel;have hout:=HG.len hol hE36 hul;obtain⟨ZG,Za,rfl,-⟩:=gV HO.row;cases bb;case false=>
   have YZ:O (OutI w W wr (.slice ZG out.length Za)<|A<|n+1):=by
    show OutI _ _ _ _ _;rw[<-HLM,yt<|HDN rfl];exact HO
   go_wp2;go_roundw;case rel=>exact⟨n+1,cq,cx,YZ⟩
   simp[intOf]<;>omega
  go_wp2;go_loopw[5,11,12] (fun v m i wr=>∃(q:Nat) (bb:Bool) (Zb:Q04),q<=xo.length/\m=.bool bb/\i=.int .i64 q/\O (Zb=dh H (uA sts xo xu (n:Int) q) out)/\O (bb=decide (out.length<Zb.length))/\O (OutI w W wr v Zb)/\O (GoodO (ai rs) xo xu Zb)) (fun _ _ i _=>xo.length-(intOf i).toNat);case atStart=>exact⟨0,false,out,XP _,rfl,rfl,rfl,(decide_eq_false<|Nat.lt_irrefl _).symm,HO,HG⟩
  clear HO;obtain⟨q,bb,Zb,hq,rfl,rfl,HR,HBB,YZ,HG2⟩:=hrel;by_cases hlq:q<xo.length
  ·have HSU4:=aJ<|OO (sts:=sts) (xu:=xu) (n:=(n:Int)) hlq;obtain⟨o,ho⟩:=eQx<|xo[q];rw[<-ho]at HSU4;have HOQ:=aJ ho;clear ho;go_wp2;go_loopw[5,11,13] (fun v m i wr=>∃(p:Nat) (bb:Bool) (out3:Q04),p<=sts.length/\m=.bool bb/\i=.int .i64 p/\O (out3=dh H (uA sts xo xu (n:Int) q++lT sts xu (n:Int) o p) out)/\O (bb=decide (out.length<out3.length))/\O (OutI w W wr v out3)/\O (GoodO (ai rs) xo xu out3)) (fun _ _ i _=>sts.length-(intOf i).toNat);case atStart=>exact⟨0,bb,Zb,XP _,rfl,rfl,by show _=_;rw[OM,YB];exact HR,HBB,YZ,HG2⟩
   clear YZ HR HBB HG2;obtain⟨p,bb,out3,hp,rfl,rfl,HR,HBB,YZ,HG2⟩:=hrel;by_cases hlp:p<sts.length
   ·obtain⟨bN,offN,hadN,⟨s0,s1,s2⟩,hbN⟩:=KI.at0 (HSN.keepC YZ.size YZ.keep) hlp;obtain⟨bO,ZU,hadO,⟨o0,o1⟩,hbO⟩:=mJ.at0 (HSO3.keepC YZ.size YZ.keep) hlq;rw[<-HOQ]at o0 o1;obtain⟨s,hsp⟩:=eQx<|sts[p];have HKN:O ((s.typ.toList==o.t.toList&&decide (s.n=(n:Int)))=false->lT sts xu (n:Int) o (p+1)=lT sts xu (n:Int) o p):=fun h=>Uu hlp (by rw[<-hsp];exact h);have HKY:O ((s.typ.toList==o.t.toList&&decide (s.n=(n:Int)))=true->lT sts xu (n:Int) o (p+1)=lT sts xu (n:Int) o p++jH o s.rel xu):=fun h=>by rw[RH hlp (by rw[<-hsp];exact h),<-hsp]
    rw[<-hsp]at s0 s1 s2;have HSM:O (s.key∈ay (ai rs)):=by show _∈_;rw[<-HK,hsp];exact Yn<|XI hlp
    have HSE:=aJ hsp;have hq1:=bG q;have hq2:(q:Int)<(xo.length:Int):=cq;have hp1:=bG p;have hp2:(p:Int)<(sts.length:Int):=cq;subst hadN;subst hadO;clear hsp;cases ht:(s.typ.toList==o.t.toList);case false=>
     have HKE:O (lT sts xu (n:Int) o (p+1)=lT sts xu (n:Int) o p):=HKN (by rw[ht];rfl);have Zq:∀nq,O (OutI w W (wr.drewN nq) u5 out3):=fun nq=>YZ.below<|below_drewN (XL _ _) nq;go_wp2_with fail;go_quiet (fail);go_wp2;go_roundw;case rel=>exact⟨p+1,bb,out3,cq,rfl,cx,by rw[HKE];exact HR,HBB,Zq _,HG2⟩
     simp[intOf]<;>omega
    by_cases hn2:s.n=(n:Int)
    ·have hb1:(s.n==(n:Int))=true:=by simpa using hn2
     have HKE:=aJ (HKY<|by rw[ht,hn2];simp);have HTO:O (s.typ=o.t):=fT.1 ht;have hb2:decide (s.n=(n:Int))=true:=decide_eq_true hn2;replace hn2:O (s.n=(n:Int)):=hn2;have HREL:O (∀W':World,(ac W' bN (offN+p*3) (.string s.typ)/\ac W' bN (offN+p*3+1) (.string s.rel)/\ae wr W')->Calls prog 101 #[.slice ad rs.length cap,.string s.typ,.string s.rel] W' fun e w'=>(∃(rows:Q08) (YY:Q02) (capE:Nat),e=.returned (.slice YY rows.length capE)/\au rows=aH (ai rs) s.typ s.rel/\oZ rs YY rows)/\ae W' w'):=fun W' h=>by
      refine(jb ad cap rs s.typ s.rel W' cq (HS.below<|YZ.bel.trans<|h.2.2.mono YZ.bel.size) HL).mono ?_;rintro e w' ⟨⟨rows,YY,capE,he,hx,-,hf⟩,rfl⟩;exact⟨⟨rows,YY,capE,he,hx,hf⟩,XL _ _⟩
     go_wp2_with fail;go_quiet (fail);go_wp2_with fail
     go_region_held3 (fun w'=>w'.cell? (ap bN<|offN+p*3)=some (.string s.typ)/\w'.cell? (ap bN<|offN+p*3+1)=some (.string s.rel)/\ae wr w')
      (first|assumption|exact V6 cE hbx|exact⟨s0,s1,Below.drew<|below_drewN (XL _ _) _⟩)
      (first|(go_at_call 101;refine(HREL _ cE).mono ?_;rintro e w' ⟨⟨rows,YY,capE,rfl,hrx,hrf⟩,hbx⟩))
     rename_i hH;have Zg:=aJ<|YZ.below hH.2.2;have HEX:O (au rows=aH (ai rs) o.t s.rel):=by show _=_;rw[hrx,HTO]
     obtain⟨ZQ,hr1⟩:O (NodOk rows)/\1<=rows.length:=by
      obtain⟨es,e1,e2⟩:=Jn HSP.1 HSM;have e3:au rows=es:=by
       rw[hrx];unfold aH;show(fI (ai rs) s.key.1 s.key.2).getD []=es;rw[e1];rfl
      rw[<-e3]at e2;exact AU e2
     have HRF:=aJ hrf;have hr1000:=ZQ.len;clear hH hbx hrx hrf HREL s0 s1 s2 o0 o1 hb1 hb2 YZ HTO hbN hbO;go_wp2;go_loopw[5,11,15] (fun v m i wr=>∃(j:Nat) (bb:Bool) (Zm:Q04),j<=xu.length/\m=.bool bb/\i=.int .i64 j/\O (Zm=dh H (uA sts xo xu (n:Int) q++lT sts xu (n:Int) o p++jH o s.rel (xu.take j)) out)/\O (bb=decide (out.length<Zm.length))/\O (OutI w W wr v Zm)/\O (GoodO (ai rs) xo xu Zm)) (fun _ _ i _=>xu.length-(intOf i).toNat);case atStart=>exact⟨0,bb,out3,XP _,rfl,rfl,by show _=_;rw[List.take_zero];show _=dh H (_++[]) out;rw[YB];exact HR,HBB,Zg,HG2⟩
     clear Zg HR HBB HG2;obtain⟨j,bb,Zm,hj,rfl,rfl,HR,HBB,YZ,HG2⟩:=hrel;by_cases hlj:j<xu.length
     ·obtain⟨bU,offU,hadU,⟨y0,y1⟩,hbU⟩:=mJ.at0 (HSU3.keepC YZ.size YZ.keep) hlj;obtain⟨bN',offN',hadN',⟨s0,s1,s2⟩,hbN⟩:=KI.at0 (HSN.keepC YZ.size YZ.keep) hlp;obtain⟨bO',offO',hadO',⟨o0,o1⟩,hbO⟩:=mJ.at0 (HSO3.keepC YZ.size YZ.keep) hlq;injection hadN' with hadN';injection hadN' with e1 e2;subst e1;subst e2;injection hadO' with hadO';injection hadO' with e1 e2;subst e1;subst e2;rw[<-HOQ]at o0 o1;rw[<-HSE]at s0 s1 s2;obtain⟨f,hf⟩:∃f:Fc,f=⟨o.t,o.s,s.rel,xu[j].t,xu[j].s⟩:=⟨_,rfl⟩;have HAT:O (jH o s.rel (xu.take<|j+1)=jH o s.rel (xu.take j)++[f]):=by show _=_;rw[hf];exact OP o s.rel hlj
      have HFQ:O (f∈Aj (ai rs) xo xu):=by
       show _∈_;rw[hf];unfold Aj jH;refine XZ.2 ⟨o,by rw[HOQ];exact XI hlq,XZ.2 ⟨s.key,HSM,XW.2 ⟨xu[j],XI hlj,rfl⟩⟩⟩
      have hout4:=HG2.len hol hE36 hul;obtain⟨adF4,capF4,rfl,hsF⟩:=gV YZ.row;have HSF4:=aJ hsF;have f0:o.t=f.a:=by rw[hf]
      have f1:o.s=f.b:=by rw[hf]
      have f2:s.rel=f.r:=by rw[hf]
      have f3:xu[j].t=f.c:=by rw[hf]
      have f4:xu[j].s=f.d:=by rw[hf]
      have HEF:O (au rows=aH (ai rs) f.a f.r):=by show _=_;rw[hf];exact HEX
      rw[f3]at y0;rw[f4]at y1;rw[f0]at o0;rw[f1]at o1;rw[f2]at s1;have hj1:=bG j;have hj2:(j:Int)<(xu.length:Int):=cq;subst hadU;clear hsF hf f0 f1 f2 f3 f4 s0 s2;obtain⟨W5,ZZ⟩:=eQx<|(wr.alloc<|.cells (cf f) 52).drew;have ZF:O (ae wr W5):=by show Below _ _ _;rw[ZZ];exact((XL _ _).alloc (XK _) _).drew
      have g0:W5.cell? (aE wr)=some (.string f.a):=by rw[ZZ];simp
      have g1:W5.cell? (a6 wr 1)=some (.string f.b):=by rw[ZZ];simp
      have g2:W5.cell? (a6 wr 2)=some (.string f.r):=by rw[ZZ];simp
      have g3:W5.cell? (a6 wr 3)=some (.string f.c):=by rw[ZZ];simp
      have g4:W5.cell? (a6 wr 4)=some (.string f.d):=by rw[ZZ];simp
      have gl:cX wr W5:=ax g0;have Ze:=aJ<|YZ.below ZF;go_wp2_with fail
      go_region
      rw[<-ZZ];clear ZZ y0 y1 o0 o1 s1 hbU hbN hbO;go_wp2_with fail;refine(pJ adF4 capF4 Zm f W5 cq<|HSF4.below ZF).mono ?_;rintro e w6 ⟨rfl,hb6⟩;have HB6:=aJ<|ZF.trans<|hb6.mono ZF.size;have ZI:=aJ<|Ze.below hb6;replace g0:=az hb6 gl g0;replace g1:=az hb6 gl g1;replace g2:=az hb6 gl g2;replace g3:=az hb6 gl g3;replace g4:=az hb6 gl g4;replace gl:=XJ gl hb6.size;have HHF:O (H Zm f=dC ts (au rows) Zm f rows.length Zm (rows.length-1)):=by show _=_;rw[HH];unfold iC;rw[<-HEF,aX]
      have HRS:O (dh H (uA sts xo xu (n:Int) q++lT sts xu (n:Int) o p++jH o s.rel (xu.take<|j+1)) out=fJ H Zm f):=by show _=_;rw[HAT,<-Ye,ug,<-HR]
      clear hb6 ZF Ze;cases hh:aR Zm f;case true=>
       have HR2:O (Zm=dh H (uA sts xo xu (n:Int) q++lT sts xu (n:Int) o p++jH o s.rel (xu.take<|j+1)) out):=by show _=_;rw[HRS,xI<|.inl hh]
       go_wp2;go_roundw;case rel=>exact⟨j+1,bb,Zm,cq,rfl,cx,HR2,HBB,ZI,HG2⟩
       simp[intOf]<;>omega
      have HHH:=aJ hh;have hwr:IntKind.i64.wrap ((rows.length:Int)-1)=((rows.length-1:Nat):Int):=by rw[IntKind.wrap_i64];omega
      have ZW:=aJ<|sD (.slice ad rs.length cap) Y8 cap' ts YY capE rows adF4 capF4 Zm f htl ZQ cq rows.length (rows.length-1) adF4 capF4 Zm w6 cq cq cq ⟨HST.below ZI.bel,HRF.sl<|HS.below ZI.bel,HSF4.below HB6,HSF4.below HB6⟩;clear hh;go_wp2_with fail;refine ZW.mono ?_;rintro e w7 ⟨he7,hb7⟩;rw[<-HHF]at he7;subst he7;have HO7:=aJ<|ZI.below hb7;replace g0:=az hb7 gl g0;replace g1:=az hb7 gl g1;replace g2:=az hb7 gl g2;replace g3:=az hb7 gl g3;replace g4:=az hb7 gl g4;replace gl:=XJ gl hb7.size;clear hb7 ZW ZI HB6 hwr;cases hv:H Zm f;case false=>
       have HR2:O (Zm=dh H (uA sts xo xu (n:Int) q++lT sts xu (n:Int) o p++jH o s.rel (xu.take<|j+1)) out):=by show _=_;rw[HRS,xI<|.inr hv]
       go_wp2;go_roundw;case rel=>exact⟨j+1,bb,Zm,cq,rfl,cx,HR2,HBB,HO7,HG2⟩
       simp[intOf]<;>omega
      have HST2:O (fJ H Zm f=Zm++[f]):=FE HHH hv;have HR2:O (Zm++[f]=dh H (uA sts xo xu (n:Int) q++lT sts xu (n:Int) o p++jH o s.rel (xu.take<|j+1)) out):=by show _=_;rw[HRS,HST2]
      have HG3:O (GoodO (ai rs) xo xu<|Zm++[f]):=by
       have h1:=HG2.run (H:=H) (qs:=[f]) (fun g hg=>by
        rw[XX]at hg;subst hg;exact HFQ)
       rw[show dh H [f] Zm=fJ H Zm f from rfl,HST2]at h1;exact h1
      have HBB2:O (true=decide (out.length<(Zm++[f]).length)):=by
       show _=_;have h1:=Jm H (uA sts xo xu (n:Int) q++lT sts xu (n:Int) o p++jH o s.rel (xu.take j)) out;rw[<-HR]at h1;rw[XT];exact(decide_eq_true<|by simp;omega).symm
      obtain⟨W8,hW8⟩:=eQx<|w7.alloc<|.cells (cf f) 52;have HO8:O (OutI w W W8 (.slice adF4 Zm.length capF4) Zm):=by show OutI _ _ _ _ _;rw[hW8];exact HO7.below<|(XL _ _).alloc (XK _) _
      have HN8:O (∀j u,f.row[j]?=some u->W8.cell? ((⟨w7.heap.size,0,none⟩:Addr).add j)=some u):=by rw[hW8];exact xm w7 f
      have hsz8:cY w W8:=HO8.bel.size;clear hv;go_wp2_with(at_builtin;rw[<-hW8];clear hW8;refine wpList_append_own_at _ rfl _ _ 44 rfl w.heap.size 52 iF (.agg ar) 5 80 underlying44 HIF.1 HIF.2.1 HIF.2.2.1 HIF.2.2.2 rfl cv _ Zm.length (av Zm) rfl HO8.row ⟨w7.heap.size,0,none⟩ 1 1 f.row rfl rfl HN8 (by simp[Fc.row,Value.oneCell']) cy cq hsz8 ?_);intro v' w9 hown hgr _ hat;have HO9:=aJ<|HO8.app hown hgr hat;clear hown hgr hat g0 g1 g2 g3 g4 gl;go_wp2;go_roundw;case rel=>exact⟨j+1,true,Zm++[f],cq,rfl,cx,HR2,HBB2,HO9,HG3⟩
      simp[intOf]<;>omega
     have HR3:O (Zm=dh H (uA sts xo xu (n:Int) q++lT sts xu (n:Int) o (p+1)) out):=by show _=_;rw[HKE,HR,show j=xu.length by omega,X8,Ye]
     go_wp2;go_roundw;case rel=>exact⟨p+1,bb,Zm,cq,rfl,cx,HR3,HBB,YZ,HG2⟩
     simp[intOf]<;>omega
    have hb1:(s.n==(n:Int))=false:=by simpa using hn2
    have hb2:decide (s.n=(n:Int))=false:=decide_eq_false hn2;have HKE:O (lT sts xu (n:Int) o (p+1)=lT sts xu (n:Int) o p):=HKN (by rw[hb2,Bool.and_false]);have Zq:∀nq,O (OutI w W (wr.drewN nq) u5 out3):=fun nq=>YZ.below<|below_drewN (XL _ _) nq;go_wp2_with fail;go_quiet (fail);go_wp2;go_roundw;case rel=>exact⟨p+1,bb,out3,cq,rfl,cx,by rw[HKE];exact HR,HBB,Zq _,HG2⟩
    simp[intOf]<;>omega
   have HR3:O (out3=dh H (uA sts xo xu (n:Int)<|q+1) out):=by show _=_;rw[HSU4,HR,show p=sts.length by omega]
   go_wp2;go_roundw;case rel=>exact⟨q+1,bb,out3,cq,rfl,cx,HR3,HBB,YZ,HG2⟩
   simp[intOf]<;>omega
  have hout2:=HG2.len hol hE36 hul;have HRQ:O (Zb=dh H (Q n) out):=by show _=_;rw[HR,<-HQI n,show q=xo.length by omega]
  obtain⟨ad2,cap2,rfl,-⟩:=gV YZ.row;have HLM2:O (oK H (Q n) Zb=A (n+1)):=by show _=_;rw[HRQ,EJ];exact HLM
  have hbl:=Jm H (Q n) out;have HDN2:O (bb=false->dh H (Q n) Zb=Zb):=fun hb=>by
   have e:Zb=out:=by
    rw[HRQ];refine LX ?_;rw[<-HRQ,<-HBB];exact hb
   rw[e];rw[HRQ]at e;exact e
  have hm:2*(200000-Zb.length)+XB (.bool bb)<2*(200000-out.length)+1:=by
   have h1:=HBB.out;rw[<-HRQ]at hbl;cases bb;case true=>have:=of_decide_eq_true h1.symm;simp only[XB];omega
   have:=of_decide_eq_false h1.symm;simp only[XB];omega
  have HM:=aJ hm;clear hm hbl;go_wp2;go_roundw;case rel=>exact⟨bb,Zb,rfl,HLM2,HDN2,YZ,HG2⟩
  exact HM
 have hne:n=sts.length+1:=cq;have YZ:O (bj w wr 52 5 u5 (qL st rs ts).length<|av<|qL st rs ts):=by
  show World.ownsRow _ _ _ _ _ _ _;rw[<-ZK,<-hne];exact HO.row
 have HBE:=aJ HO.bel;clear HO;go_wp2;go_ret;exact⟨⟨_,rfl,YZ⟩,HBE⟩
end
end Go.Proofs.YtojjoblnpldniaaGreat
