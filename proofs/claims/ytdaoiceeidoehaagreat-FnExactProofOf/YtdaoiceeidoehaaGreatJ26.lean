/- Contract of the document's function on strata: the walk. -/
import Derived.Test.YtdaoiceeidoehaaGreatJ24
open Go.Proofs.Tryz
set_option maxHeartbeats 80000000
namespace Go.Proofs.YtdaoiceeidoehaaGreat
open Go.ChangeShapes Go.WideShapes Go.ChangeAt Go.RowKit
open Pl
set_option maxRecDepth 100000 in
theorem r9 (ad:Option Addr) (cap:Nat) (rs:List TR) (w:World) (hlen:rs.length≤6) (hs:jd w ad rs) (hl:∀ r ∈ rs,r.light) (hrl:∀ r ∈ rs,r.rows.length≤6) (hel:∀ r ∈ rs,∀ q ∈ r.rows,q.rows.length≤15∧∀ e ∈ q.rows,dU q.rows.length e.e.kids) (hF:Found (ae rs)) :
    Calls prog 60 #[.slice ad rs.length cap] w fun e w'=>((∃ SQ cap' out,e=.returned (.tuple #[.slice SQ out.length cap',.bool true])∧Gg w' SQ out∧gT out=ai (ae rs)∧Least (ae rs) (eP out)) ∨ (e=.returned (.tuple #[.slice none 0 0,.bool false])∧¬ ∃ f,Sol (ae rs) f))∧Below w.heap.size w w':=by
  have HS:=aC hs;have HL:=aC hl;have XG:Hid (∀ r ∈ rs,r.rows.length≤6):=hrl;have UO:Hid (∀ r ∈ rs,∀ q ∈ r.rows,q.rows.length≤15∧∀ e ∈ q.rows,dU q.rows.length e.e.kids):=hel;have HF:=aC hF;clear hs hl hrl hel hF;obtain ⟨i0,hi,hz0,hz1,hz2⟩:=info_parts OV;go_enter func60,ntmps60;have ZR:Hid (Below w.heap.size w (w.alloc (.cells #[] 114))):=(R3 _ _).alloc (R4 _) _;have hown1:Hid ((w.alloc (.cells #[] 114)).ownsRow w.heap.size 114 3 (.slice (some ⟨w.heap.size,0,none⟩) 0 0) 0 []):=World.ownsRow_made w #[] 0 (R4 _) (by decide) rfl;go_wp2_with fail;go_loopw [4,5] (fun v i wr=>∃ k:Nat,k≤rs.length∧i=.int .i64 k∧Hid (wr.ownsRow w.heap.size 114 3 v (di rs k).length (gV (EE (di rs k))))∧Hid (Below w.heap.size w wr)) (fun _ i _=>rs.length - (intOf i).toNat);case atStart=>exact ⟨0,R6 _,rfl,hown1,ZR⟩
  case round =>
    clear hown1 ZR;obtain ⟨k,hk,rfl,HOW,HB⟩:=hrel;by_cases hlt:k < rs.length
    · have hk1:=bn k;have hk2:(k:Int) < (rs.length:Int):=by omega
      have HU:Hid ((di rs k).length≤k * 6):=tQ rs XG.out k;have WR:Hid (rs[k].rows.length≤6):=XG.out _ (RY hlt);obtain ⟨wo,hwo⟩:∃ wo,wo=wr:=⟨_,rfl⟩;subst hwo;go_wp2_with fail;go_loopw [4,6] (fun v i w2=>∃ j:Nat,j≤rs[k].rows.length∧i=.int .i64 j∧Hid (w2.ownsRow w.heap.size 114 3 v (di rs k ++ iq rs[k] j).length (gV (EE (di rs k ++ iq rs[k] j))))∧Hid (Below w.heap.size w w2)) (fun _ i _=>rs[k].rows.length - (intOf i).toNat);case atStart=>exact ⟨0,R6 _,rfl,(by simpa [iq] using HOW),HB⟩
      case round =>
        obtain ⟨j,hj,rfl,Ta,HB2⟩:=hrel;rcases HS.out.below HB2.out with rfl | ⟨b,off,rfl,hb,hr,hok⟩
        · simp at hlt
        have hbw:b < w.heap.size:=by
          rcases HS.out with h | ⟨b',off',e,hb',-⟩
          · rw [h] at hlt; simp at hlt
          · injection e with e; injection e with e1 e2; omega
        obtain ⟨t0,t1⟩:=hr k hlt;have Ub:Hid (rs[k].ok _):=hok rs[k] (RY hlt);have HOKW:Hid (rs[k].ok w):=HS.out.mem (RY hlt);clear hr hok;by_cases hjl:j < rs[k].rows.length
        · rcases Ub.out with hnil | ⟨b2,TQ,had,hb2,hr2,-⟩
          · rw [hnil] at hjl; simp at hjl
          have hbw2:b2 < w.heap.size:=by
            rcases HOKW.out with h | ⟨b',off',e,hb',-⟩
            · rw [h] at hjl; simp at hjl
            · rw [had] at e; injection e with e; injection e with e1 e2; omega
          have t1':=t1;rw [had] at t1';obtain ⟨q0,q1⟩:=hr2 j hjl;have hj1:=bn j;have hj2:(j:Int) < (rs[k].rows.length:Int):=by omega
          have a1:u4.ownBlock ≠ some b:=fun e=>by have:=(Ta.out.lt _ e).1; omega
          have a2:u4.ownBlock ≠ some b2:=fun e=>by have:=(Ta.out.lt _ e).1; omega
          have l4:w.heap.size≤wr.heap.size:=HB2.out.size;obtain ⟨xs,hxs⟩:∃ xs,xs=gV (EE (di rs k ++ iq rs[k] j)):=⟨_,rfl⟩;obtain ⟨n,hn⟩:∃ n,n=(di rs k ++ iq rs[k] j).length:=⟨_,rfl⟩;have hown:=Ta.out;rw [← hxs,← hn] at hown;have hnl:n≤1000:=by
            have h1:=HU.out;have h2:=A8 rs[k] j;have h3:=WR.out;rw [hn,R9]; omega
          have HFX:Hid (gV (EE (di rs k ++ iq rs[k] (j + 1)))=xs ++ [.string rs[k].name,.string rs[k].rows[j].name,.int .i64 0]):=by
            show _=_;rw [qK _ _ hjl,← List.append_assoc,MN,yt,← hxs]; rfl
          have UD:Hid ((di rs k ++ iq rs[k] (j + 1)).length=n + 1):=by show _=_; rw [qK _ _ hjl,← List.append_assoc,R9,← hn]; rfl
          clear hr2 had t1 hxs hn Ta;go_wp2_with fail
          go_region_held3 (fun w'=>w'.cell? ⟨b,off + k * 2,none⟩=some (.string rs[k].name)∧w'.cell? ⟨b,off + k * 2 + 1,none⟩=some (.slice (some ⟨b2,TQ,none⟩) rs[k].rows.length rs[k].cap)∧w'.cell? ⟨b2,TQ + j * 2,none⟩=some (.string rs[k].rows[j].name))
            (first
              | go_keep
              | (go_split_ands
                 refine ⟨?_,?_,?_⟩
                 · (rw [hgrow.cell_far _ (by simp; omega) (Ne.symm a1)]; assumption)
                 · (rw [hgrow.cell_far _ (by simp; omega) (Ne.symm a1)]; assumption)
                 · (rw [hgrow.cell_far _ (by simp; omega) (Ne.symm a2)]; assumption)))
            ((refine step_append_lies _ (by rfl) _ _ _ (by rfl) w.heap.size 114 i0 _ 3 40 underlying110 hi hz0 hz1 hz2 rfl (by omega) u4 n xs (by rfl) ((hown.alloc _).drew)
                ⟨wr.heap.size,0,none⟩ 1 1 [.string rs[k].name,.string rs[k].rows[j].name,.int .i64 0] (by rfl) (by rfl) (World.news_of_block (cs:=#[.string rs[k].name,.string rs[k].rows[j].name,.int .i64 0]) (t:=114) (fr:=(0,0)) (heap_alloc_new wr _)) (by simp [Value.oneCell'])
                (by omega) (by unfold maxLen; omega) (by omega) (by simp; omega) (wr.heap.size + 1) (by simp) ?_; intro gg cp w5 hown5 hgrow hat hlt5))
          have hb5:Hid (Below w.heap.size w w5):=((HB2.out.alloc HB2.out.size _).drew).grown hgrow (by simp; omega) (fun i hi=>(hown.lt i hi).1);have TA:Hid (w5.ownsRow w.heap.size 114 3 (.slice (some ⟨gg,0,none⟩) (n + 1) cp) (di rs k ++ iq rs[k] (j + 1)).length (gV (EE (di rs k ++ iq rs[k] (j + 1))))):=by
            show World.ownsRow _ _ _ _ _ _ _;rw [HFX.out,UD.out]; exact hown5
          have h6:=WR.out;clear hown5 hgrow hat hown;go_wp2;go_roundw;case rel=>exact ⟨j + 1,by omega,by go_num,TA,hb5⟩
          case measure=>simp [intOf] <;> omega
        · obtain rfl:j=rs[k].rows.length:=by omega
          have TA:Hid (wr.ownsRow w.heap.size 114 3 u4 (di rs (k + 1)).length (gV (EE (di rs (k + 1))))):=by
            show World.ownsRow _ _ _ _ _ _ _;rw [mI _ _ hlt]; exact Ta.out
          clear Ta;go_wp2;go_roundw;case rel=>exact ⟨k + 1,by omega,by go_num,TA,HB2⟩
          case measure=>simp [intOf] <;> omega
    · obtain rfl:k=rs.length:=by omega
      have Vp:Hid (di rs rs.length=ai (ae rs)):=by show _=_; unfold di; rw [Sc]
      have HN36:Hid ((ai (ae rs)).length≤36):=by
        have h1:=tQ rs XG.out rs.length;have h2:=Vp.out;show _≤_;rw [← h2]; omega
      obtain ⟨n,hn⟩:∃ n,n=(ai (ae rs)).length:=⟨_,rfl⟩;have hown:=HOW.out;rw [Vp.out,← Cx] at hown;obtain ⟨Ua,cpO,g,rfl,hrow⟩:=OY HB.out hown;have HP0:Hid (Pass (ae rs) n true (EE (ai (ae rs)))):=Pass.zero hn;have Xi:=aC hrow;have hn36:n≤36:=by rw [hn]; exact HN36.out
      have UD:Hid (n=(ai (ae rs)).length):=hn;rw [Cx,← hn];clear hown HOW hrow hn Vp HN36 HB;go_wp2_with fail;go_loopw [7] (fun m w1=>∃ (mb:Bool) (out:List St),m=.bool mb∧Hid (Pass (ae rs) n mb out)∧Hid (RowS w w1 Ua g out)) (fun m w1=>Ba w1 g n m);case atStart=>exact ⟨true,_,rfl,HP0,Xi⟩
      case round =>
        clear HP0 Xi;obtain ⟨mb,oS,rfl,HPS,HRS⟩:=hrel;cases mb with
        | false =>
          go_wp2;exact bodyPost_ret (v:=.tuple #[.slice Ua n cpO,.bool true]) (by simp [results,Tryz.results60,go_sem]) rfl ⟨.inl ⟨Ua,cpO,oS,by rw [HPS.out.len],HRS.out.slN,HPS.out.round.keys,HPS.out.least⟩,HRS.out.below⟩
        | true =>
          have Uh:Hid (oS.length=n):=HPS.out.len;have HM0:Hid (Mid (ae rs) n oS 0 0 false oS):=Mid.start HPS.out.len HPS.out.nn HPS.out.round HPS.out.le;obtain ⟨w0,hw0⟩:∃ w0,w0=wr:=⟨_,rfl⟩;subst hw0;go_wp2_with fail;go_loopw [7,8] (fun m i w1=>∃ (mb:Bool) (k:Nat) (out:List St),m=.bool mb∧k≤n∧i=.int .i64 k∧Hid (Mid (ae rs) n oS k 0 mb out)∧Hid (RowS w w1 Ua g out)) (fun _ i _=>n - (intOf i).toNat);case atStart=>exact ⟨false,0,oS,rfl,R6 _,rfl,HM0,HRS⟩
          case round =>
            clear HM0;obtain ⟨mb,k,out,rfl,hk,rfl,HM,HR⟩:=hrel;by_cases hlt:k < n
            · have hko:k < out.length:=by rw [HM.out.len]; exact hlt
              have hke:k < (ai (ae rs)).length:=by rw [← UD.out]; exact hlt
              have hk1:=bn k;have hk2:(k:Int) < (n:Int):=by omega
              rcases HR.out.at' with e | ⟨rfl,hgw,hgl,hO,-⟩
              · rw [e] at hko; simp at hko
              obtain ⟨c0,c1,c2⟩:=hO k hko;have Vs:Hid (out[k].key=(ai (ae rs))[k]):=HM.out.key hko hke;have S9:∀ w',Below wr.heap.size wr w'→jd w' ad rs:=fun w' h=>HS.out.below (HR.out.below.trans (h.mono HR.out.below.size));have c3:wr.drew.cell? ⟨g,k * 3,none⟩=some (.string out[k].typ)∧wr.drew.cell? ⟨g,k * 3 + 1,none⟩=some (.string out[k].rel)∧g < wr.drew.heap.size∧Below wr.heap.size wr wr.drew:=⟨c0,c1,hgl,(R3 _ _).drew⟩;clear hO c2;go_wp2_with fail
              go_region_held3 (fun w'=>w'.cell? ⟨g,k * 3,none⟩=some (.string out[k].typ)∧w'.cell? ⟨g,k * 3 + 1,none⟩=some (.string out[k].rel)∧g < w'.heap.size∧Below wr.heap.size wr w')
                (first | exact c3 | assumption | exact keepD (by assumption) hbx)
                (first | (go_at_call 57; refine (gG ad cap rs _ _ _ (by omega) (S9 _ (by first | assumption | exact c3.2.2.2)) HL.out).mono ?_; rintro e w' ⟨⟨rows,SN,capE,rfl,hex,hse,hfs⟩,rfl⟩) | (go_at_call 84; refine (Gu ad SN cap capE rs _ rows _ (by omega) (S9 _ (by first | assumption | exact c3.2.2.2)) HL.out (hfs.small UO.out).1 hse (hfs.light HL.out).2 (hfs.small UO.out).2 (yz rs HL.out _ rows (hfs.small UO.out).1 (hfs.light HL.out).2)).mono ?_; rintro e w' ⟨⟨v,rfl,hown⟩,hbx⟩))
              rename_i hHeld;have TK:Hid (Below wr.heap.size wr w'):=hHeld.2.2.2;have HR5:Hid (RowS w w' (some ⟨g,0,none⟩) g out):=HR.out.kept hHeld.2.2.2;have HDK:Hid (nH (ae rs) out[k].typ (ah rows)=gQ (ae rs) (ai (ae rs))[k]):=by
                show _=_;rw [← Vs.out,hex]; rfl
              obtain ⟨ds,hds⟩:∃ ds,ds=gQ (ae rs) (ai (ae rs))[k]:=⟨_,rfl⟩;rw [HDK.out,← hds] at hown;obtain ⟨adD,cpD,rfl,hD⟩:=Ri hown;have HD5:=aC hD;have hdl:ds.length≤100000000:=by
                have:=yz rs HL.out out[k].typ rows (hfs.small UO.out).1 (hfs.light HL.out).2 (ah rows).length;have e:=HDK.out;unfold nH at e;rw [e,← hds] at this;exact this
              have HDS:Hid (ds=gQ (ae rs) (ai (ae rs))[k]):=hds;have HKM:Hid ((ai (ae rs))[k] ∈ ai (ae rs)):=RY hke;clear hHeld hown hD hds HDK c0 c1 c3 hex hse hfs hbx S9 Vs;obtain ⟨wq,hwq⟩:∃ wq,wq=wr:=⟨_,rfl⟩;subst hwq;go_wp2_with fail;go_loopw [7,10] (fun m i w2=>∃ (mb:Bool) (j:Nat) (o2:List St),m=.bool mb∧j≤ds.length∧i=.int .i64 j∧Hid (Mid (ae rs) n oS k j mb o2)∧Hid (RowS w w2 (some ⟨g,0,none⟩) g o2)∧Hid (Qa w2 wq.heap.size adD ds)) (fun _ i _=>ds.length - (intOf i).toNat);case atStart=>exact ⟨mb,0,out,rfl,R6 _,rfl,HM,HR5,HD5⟩
              case round =>
                clear HM HR HR5 HD5 TK;obtain ⟨mc,j,o2,rfl,hj,rfl,Uj,HR2,HD2⟩:=hrel;have Ue:k < o2.length:=by rw [Uj.out.len]; exact hlt
                rcases HR2.out.at' with e | ⟨-,hgw2,Uz,hO2,hfz2⟩
                · rw [e] at Ue; simp at Ue
                have f2:=hfz2 (k * 3 + 2);obtain ⟨z0,z1,z2⟩:=hO2 k Ue;by_cases hjl:j < ds.length
                · rcases HD2.out with e | ⟨bd,rfl,hbd,hbl,hDc⟩
                  · rw [e] at hjl; simp at hjl
                  obtain ⟨x0,x1,x2⟩:=hDc j hjl;have HKE2:Hid (o2[k].key=(ai (ae rs))[k]):=Uj.out.key Ue hke;have HDJ:Hid ((gQ (ae rs) o2[k].key)[j]?=some ds[j]):=by
                    show _=_;rw [HKE2.out,← HDS.out]; exact R8 hjl
                  have HDF:Hid ((ds[j].typ,ds[j].rel) ∈ ai (ae rs)):=HF.out _ HKM.out ds[j] (by rw [← HDS.out]; exact RY hjl);obtain ⟨i,hi2,hat,hin,hpos,hub⟩:=Uj.out.at _ HDF.out;obtain ⟨y0,y1,y2⟩:=hO2 i hi2;have hi3:i < n:=by rw [← Uj.out.len]; exact hi2
                  have HW:Hid (mP o2 ds[j]=eP o2 (ds[j].typ,ds[j].rel) + stepOf ds[j]):=rfl;have HL2:Hid (o2.length=n):=Uj.out.len;have HSN:Hid (Gg wr (some ⟨g,0,none⟩) o2):=HR2.out.slN;rw [hin] at y2;obtain ⟨x,hx⟩:∃ x,x=eP o2 (ds[j].typ,ds[j].rel):=⟨_,rfl⟩;have HX:Hid (mP o2 ds[j]=x + stepOf ds[j]):=by rw [hx]; exact HW
                  rw [← hx] at hpos hub y2;obtain ⟨kn,hkn⟩:∃ kn,kn=o2[k].n:=⟨_,rfl⟩;rw [← hkn] at z2;have Wu:Hid (kn=o2[k].n):=hkn;have hkn1:0≤kn:=by rw [hkn]; exact Uj.out.round.pos _ (RY Ue)
                  have hkn2:kn≤n + 1 + j:=by rw [hkn]; exact Uj.out.lek Ue
                  have hj1:=bn j;have hj2:(j:Int) < (ds.length:Int):=by omega
                  have hi4:=bn i;have hi5:(i:Int) < (n:Int):=by omega
                  have HAT:Hid (fM ds[j].typ ds[j].rel o2 0=(i:Int)):=hat;have hx5:(2:Int) < 5:=by omega
                  clear hfz2 hO2 hDc hx hkn hin y0 y1 hi2 HW hat z0 z1;go_wp2_with fail
                  go_region_held3 (fun w'=>w'.cell? ⟨bd,j * 3,none⟩=some (.string ds[j].typ)∧w'.cell? ⟨bd,j * 3 + 1,none⟩=some (.string ds[j].rel)∧w'.cell? ⟨g,i * 3 + 2,none⟩=some (.int .i64 x))
                    (first | assumption | exact ⟨x0,x1,y2⟩)
                    (first | (go_at_call 85; refine (Qq (some ⟨g,0,none⟩) cpO n o2 (ds[j].typ,ds[j].rel) _ HL2.out (by omega) (by first | exact HSN.out | assumption) i HAT.out).mono ?_; rintro e w' ⟨rfl,rfl⟩))
                  rename_i hHeld2;have HR3:Hid (RowS w wr.drew (some ⟨g,0,none⟩) g o2):=HR2.out.kept ((R3 _ _).drew);have HD3:Hid (Qa wr.drew wq.heap.size (some ⟨bd,0,none⟩) ds):=HD2.out;clear hHeld2 x0 x1 y2;cases hneg:ds[j].neg with
                  | true =>
                    have XA:Hid (mP o2 ds[j]=x + 1):=by show _=_; rw [HX.out]; simp [stepOf,hneg]
                    rw [hneg] at x2;by_cases hgt:kn < x + 1
                    · have Yg:Hid (Mid (ae rs) n oS k (j + 1) true (o2.set k ⟨o2[k].typ,o2[k].rel,x + 1⟩)):=by
                        have:=Uj.out.yes HF.out Ue ds[j] HDJ.out (by rw [XA.out,← Wu.out]; exact hgt);rw [XA.out] at this; exact this
                      have HR4:Hid (RowS w (wr.drew.setCell ⟨g,k * 3 + 2,none⟩ (.int .i64 (x + 1))) (some ⟨g,0,none⟩) g (o2.set k ⟨o2[k].typ,o2[k].rel,x + 1⟩)):=HR3.out.set Ue (x + 1);have HD4:Hid (Qa (wr.drew.setCell ⟨g,k * 3 + 2,none⟩ (.int .i64 (x + 1))) wq.heap.size (some ⟨bd,0,none⟩) ds):=HD3.out.set hgl;clear Uj HR2 HR3 HD2 HD3;go_wp2;go_roundw;case rel=>exact ⟨true,j + 1,_,rfl,by omega,by go_num,Yg,HR4,HD4⟩
                      case measure=>simp [intOf] <;> omega
                    · have Yg:Hid (Mid (ae rs) n oS k (j + 1) mc o2):=Uj.out.no Ue ds[j] HDJ.out (by rw [XA.out,← Wu.out]; omega);clear Uj HR2 HD2;go_wp2;go_roundw;case rel=>exact ⟨mc,j + 1,o2,rfl,by omega,by go_num,Yg,HR3,HD3⟩
                      case measure=>simp [intOf] <;> omega
                  | false =>
                    have XA:Hid (mP o2 ds[j]=x):=by show _=_; rw [HX.out]; simp [stepOf,hneg]
                    rw [hneg] at x2;by_cases hgt:kn < x
                    · have Yg:Hid (Mid (ae rs) n oS k (j + 1) true (o2.set k ⟨o2[k].typ,o2[k].rel,x⟩)):=by
                        have:=Uj.out.yes HF.out Ue ds[j] HDJ.out (by rw [XA.out,← Wu.out]; exact hgt);rw [XA.out] at this; exact this
                      have HR4:Hid (RowS w (wr.drew.setCell ⟨g,k * 3 + 2,none⟩ (.int .i64 (x))) (some ⟨g,0,none⟩) g (o2.set k ⟨o2[k].typ,o2[k].rel,x⟩)):=HR3.out.set Ue (x);have HD4:Hid (Qa (wr.drew.setCell ⟨g,k * 3 + 2,none⟩ (.int .i64 (x))) wq.heap.size (some ⟨bd,0,none⟩) ds):=HD3.out.set hgl;clear Uj HR2 HR3 HD2 HD3;go_wp2;go_roundw;case rel=>exact ⟨true,j + 1,_,rfl,by omega,by go_num,Yg,HR4,HD4⟩
                      case measure=>simp [intOf] <;> omega
                    · have Yg:Hid (Mid (ae rs) n oS k (j + 1) mc o2):=Uj.out.no Ue ds[j] HDJ.out (by rw [XA.out,← Wu.out]; omega);clear Uj HR2 HD2;go_wp2;go_roundw;case rel=>exact ⟨mc,j + 1,o2,rfl,by omega,by go_num,Yg,HR3,HD3⟩
                      case measure=>simp [intOf] <;> omega
                · obtain rfl:j=ds.length:=by omega
                  have HKE2:Hid (o2[k].key=(ai (ae rs))[k]):=Uj.out.key Ue hke;have HJ:Hid (ds.length=(gQ (ae rs) o2[k].key).length):=by show _=_; rw [HKE2.out,← HDS.out]
                  clear z0 z1 hO2 hfz2 f2;by_cases hov:(n:Int) < o2[k].n
                  · have UK:Hid (¬ ∃ f,Sol (ae rs) f):=Uj.out.over HF.out Ue hov;have hkn2:o2[k].n≤n + 1 + ds.length:=Uj.out.lek Ue;go_wp2;exact bodyPost_ret (v:=.tuple #[.slice none 0 0,.bool false]) (by simp [results,Tryz.results60,go_sem]) rfl ⟨.inr ⟨rfl,UK.out⟩,HR2.out.below⟩
                  · have Yg:Hid (Mid (ae rs) n oS (k + 1) 0 mc o2):=Uj.out.next Ue HJ.out (by omega);clear Uj;go_wp2;go_roundw;case rel=>exact ⟨mc,k + 1,o2,rfl,by omega,by go_num,Yg,HR2⟩
                    case measure=>simp [intOf] <;> omega
            · obtain rfl:k=n:=by omega
              have Td:Hid (Pass (ae rs) k mb out):=HM.out.done rfl;have HLS:Hid (Ba wr g k (.bool mb) < Ba w0 g k (.bool true)):=GQ HRS.out HR.out HM.out Uh.out;go_wp2;go_roundw;case rel=>exact ⟨mb,out,rfl,Td,HR⟩
              case measure=>exact HLS.out
open Go.Maps
set_option linter.unusedSectionVars false
set_option linter.unusedVariables false
set_option maxRecDepth 100000
theorem Fg {rs:List TR} (h:aV (ae rs)=true) {k:ByteArray × ByteArray} (hk:k ∈ ai (ae rs)):∃ es,dX (ae rs) k.1 k.2=some es∧aU es=true:=by
 unfold ai at hk;obtain ⟨T,hT,hk⟩:=Sk.1 hk;obtain ⟨t,ht,rfl⟩:=Sa.1 hT;unfold iB at hk;obtain ⟨r,hr,rfl⟩:=Sa.1 hk;obtain ⟨q,hq,rfl⟩:=Sa.1 hr;exact ⟨ah q.rows,mV h ht hq,((bH h).2.2 t ht q hq).1⟩
theorem QB {wr W w':World} {b o1 o2:Nat} {x y:Value} (h:W.cell? ⟨b,o1,none⟩=some x∧W.cell? ⟨b,o2,none⟩=some y∧Below wr.heap.size wr W) (hb:Below W.heap.size W w'):w'.cell? ⟨b,o1,none⟩=some x∧w'.cell? ⟨b,o2,none⟩=some y∧Below wr.heap.size wr w' :=
 ⟨aA hb (ay h.1) h.1,aA hb (ay h.2.1) h.2.1,h.2.2.trans (hb.mono h.2.2.size)⟩
def mY [DecidableEq Fc] (st:ByteArray × ByteArray→Int) (rs:List TR) (ts:List Tp):List Fc:=gI (ae rs) ts st (fI ts) (dG ts) ((ai (ae rs)).length + 1)
section
variable [DecidableEq Fc]
theorem kN (st:ByteArray × ByteArray→Int) (rs:List TR) (ts:List Tp) (xo xu:List Al):∀ N,GoodO (ae rs) xo xu (gI (ae rs) ts st xo xu N)
 | 0=>⟨List.nodup_nil,fun g hg=>by cases hg⟩
 | N + 1=>by
  refine ⟨tq _ _ _ _ _ _,fun g hg=>?_⟩;rw [iD] at hg;obtain ⟨new,e,hn⟩:=sO (H:=fH (ae rs) ts) (bR (ae rs) st xo xu (N:Int)) (kT (bR (ae rs) st xo xu (N:Int)) (gI (ae rs) ts st xo xu N) + 1) (gI (ae rs) ts st xo xu N);unfold kZ at hg;rw [e] at hg;rcases Sd.1 hg with hg | hg
  ·exact (kN st rs ts xo xu N).sub g hg
  ·exact Bg (hn g hg)
theorem Bw (st:ByteArray × ByteArray→Int) (ad:Option Addr) (cap:Nat) (rs:List TR) (SQ:Option Addr) (cap':Nat) (ts:List Tp) (w:World) (hsp:bG (ae rs)) (hle:Least (ae rs) st) (hs:jd w ad rs) (hl:∀ r ∈ rs,r.light) (hlt:ts.length≤40) (hst:Sl w SQ ts) :
  Calls prog 33 #[.slice ad rs.length cap,.slice SQ ts.length cap'] w fun e w'=>(∃ v,e=.returned v∧w'.ownsRow w.heap.size 42 5 v (mY st rs ts).length (au (mY st rs ts)))∧Below w.heap.size w w':=by
 obtain ⟨iF,z0,z1,z2,z3⟩:=mQ;have Xp:=aB (And.intro z0 (And.intro z1 (And.intro z2 z3)));obtain ⟨h6,Xn,hsf⟩:=bH hsp.1;have HSP:=aB hsp;have TG:=aB hle;have HS:=aB hs;have HL:=aB hl;have HST:=aB hst;have HSF:=aB hsf;have WR:=aB Xn;have Yj:=aB (Ha hsp.1);have WT:(ai (ae rs)).length≤36:=wW h6 Xn;have htl:ts.length≤1048576:=by omega
 obtain ⟨W0,hW0⟩:∃ W0,W0=w.alloc (.cells #[] 42):=⟨_,rfl⟩;have HB0:=pu hW0;have Wv:Hid (W0.ownsRow w.heap.size 42 5 (.slice (some ⟨w.heap.size,0,none⟩) 0 0) 0 (au [])):=by
  show World.ownsRow _ _ _ _ _ _ _;rw [hW0];exact World.ownsRow_lit w #[] 0 (R4 _) (by unfold maxLen; omega) (by simp)
 have HNC:Hid ((∀ o,W0.cell? ⟨w.heap.size,o,none⟩=none)∧w.heap.size < W0.heap.size):=by
  show _∧_;rw [hW0];exact ⟨fun o=>by simp,by simp⟩
 clear hsp hle hs hl hst hsf Xn z0 z1 z2 z3;go_enter func33,ntmps33;go_wp2_with fail;rw [← hW0];clear hW0;refine (qh SQ cap' ts false _ hlt (HST.out.below HB0.out)).mono ?_;rintro e w1 ⟨⟨vo,rfl,hvo⟩,hb1⟩;have HB1:=aB (HB0.out.trans (hb1.mono HB0.out.size));have HR1:=aB (aM Wv.out hb1);have XU:Hid ((∀ o,w1.cell? ⟨w.heap.size,o,none⟩=none)∧w.heap.size < w1.heap.size):=⟨fun o=>(hb1.cell (p:=⟨w.heap.size,o,none⟩) HNC.out.2).trans (HNC.out.1 o),RZ HNC.out.2 hb1.size⟩;obtain ⟨Ua,TV,rfl,hsO⟩:=jG hvo;have HSO:=aB hsO;clear hvo hb1 hsO HB0 Wv HNC;go_wp2_with fail;refine (qh SQ cap' ts true _ hlt (HST.out.below HB1.out)).mono ?_;rintro e w2 ⟨⟨vu,rfl,hvu⟩,hb2⟩;have HB2:=aB (HB1.out.trans (hb2.mono HB1.out.size));have HR2:=aB (aM HR1.out hb2);have UE:Hid ((∀ o,w2.cell? ⟨w.heap.size,o,none⟩=none)∧w.heap.size < w2.heap.size):=⟨fun o=>(hb2.cell (p:=⟨w.heap.size,o,none⟩) XU.out.2).trans (XU.out.1 o),RZ XU.out.2 hb2.size⟩;have HSO2:=aB (HSO.out.below hb2);obtain ⟨TL,Tf,rfl,hsU⟩:=jG hvu;have Vw:=aB hsU;clear hvu hb2 hsU HB1 HR1 XU HSO;go_wp2_with fail;refine (r9 ad cap rs _ h6 (HS.out.below HB2.out) HL.out WR.out (fun r hr q hq=>(HSF.out r hr q hq).2) (kE HSP.out.2.1)).mono ?_;rintro e W ⟨hres,hb3⟩;rcases hres with ⟨adN,capN,sts,rfl,hsN,hkN,hlN⟩ | ⟨-,hno⟩;rotate_left
 ·exact absurd HSP.out.2.2 hno
 have HK:=aB hkN;have Uh:=aB hlN;have HB3:=aB (HB2.out.trans (hb3.mono HB2.out.size));have HSN:=aB hsN;have HSO3:=aB (HSO2.out.below hb3);have HSU3:=aB (Vw.out.below hb3);have hsl:sts.length=(ai (ae rs)).length:=by rw [← hkN,gT,Sv]
 have hs36:sts.length≤36:=by omega
 have HSLE:=aB hsl;obtain ⟨xo,hxo⟩:∃ xo,xo=fI ts:=⟨_,rfl⟩;obtain ⟨xu,hxu⟩:∃ xu,xu=dG ts:=⟨_,rfl⟩;have n0:eO false ts=xo:=by rw [hxo]; rfl
 have n1:eO true ts=xu:=by rw [hxu]; rfl
 rw [n0] at HSO3;rw [n1] at HSU3;rw [n0,n1];have hol:xo.length≤80:=by have:=lX ts; rw [hxo]; omega
 have Xo:xu.length≤40:=by have:=kK ts; rw [hxu]; omega
 have Yc:=aB hxo;have HXU:=aB hxu;have HOUT:Hid (OutI w W W (.slice (some ⟨w.heap.size,0,none⟩) 0 0) []):=⟨aM HR2.out hb3,fun _ _ _ h=>h,R4 _,HB3.out,fun g hg o=>by
  have e:g=w.heap.size:=by simpa [Value.ownBlock] using hg.symm
  rw [e]; exact (hb3.cell (p:=⟨w.heap.size,o,none⟩) UE.out.2).trans (UE.out.1 o)⟩
 clear hsN hkN hlN hb3 HB2 HR2 UE HSO2 Vw n0 n1 hxo hxu hsl WR;obtain ⟨H,hH⟩:∃ H,H=fH (ae rs) ts:=⟨_,rfl⟩;obtain ⟨A,hA⟩:∃ A:Nat→List Fc,A=gI (ae rs) ts (eP sts) xo xu:=⟨_,rfl⟩;obtain ⟨Q,hQ⟩:∃ Q:Nat→List Fc,Q=fun (n:Nat)=>bR (ae rs) (eP sts) xo xu (n:Int):=⟨_,rfl⟩;have HA1:Hid (∀ n,A (n + 1)=kZ H (Q n) (A n)):=fun n=>by rw [hA,hH,hQ]; exact iD _ _ _ _ _ _
 have HAG:Hid (∀ n,GoodO (ae rs) xo xu (A n)):=fun n=>by rw [hA]; exact kN _ _ _ _ _ n
 have HQS:Hid (∀ n,∀ g ∈ Q n,g ∈ zT (ae rs) xo xu):=fun n g hg=>by rw [hQ] at hg; exact Bg hg
 have HQI:Hid (∀ n:Nat,pY sts xo xu (n:Int) xo.length=Q n):=fun n=>by rw [hQ]; exact Nq HK.out Yj.out xo xu n
 have HFIN:Hid (A (sts.length + 1)=mY st rs ts):=by
  show _=_;rw [hA,HSLE.out,Yc.out,HXU.out];exact uq (fun k hk=>Uh.out.same TG.out k hk) _
 have HA0:Hid (A 0=[]):=by show _=_; rw [hA]; rfl
 have HH:=aB hH;clear hH hA hQ;go_wp2;go_loopw [5,10] (fun v i wr=>∃ (n:Nat),n≤sts.length + 1∧i=.int .i64 n∧Hid (OutI w W wr v (A n))) (fun _ i _=>sts.length + 1 - (intOf i).toNat);case atStart=>exact ⟨0,R6 _,rfl,by rw [HA0.out]; exact HOUT⟩
 case round =>
  clear HOUT;obtain ⟨n,hn,rfl,HO⟩:=hrel;by_cases hlt1:n≤sts.length
  ·go_wp2;go_loopw [5,11] (fun v m wr=>∃ (bb:Bool) (out:List Fc),m=.bool bb∧Hid (kZ H (Q n) out=A (n + 1))∧Hid (bb=false→bP H (Q n) out=out)∧Hid (OutI w W wr v out)∧Hid (GoodO (ae rs) xo xu out)) (fun v m _=>2 * (200000 - Qs v) + RP m);case atStart=>exact ⟨true,A n,rfl,(HA1.out n).symm,(fun h=>by cases h),HO,HAG.out n⟩
   case round =>
    clear HO;obtain ⟨bb,out,rfl,HLM,ZX,HO,HG⟩:=hrel;have hout:=HG.out.len hol WT Xo;obtain ⟨TF,Te,rfl,-⟩:=iH HO.out.row;cases bb with
    | false =>
     have Ta:Hid (OutI w W wr (.slice TF out.length Te) (A (n + 1))):=by
      show OutI _ _ _ _ _;rw [← HLM.out,sN (ZX.out rfl)]; exact HO.out
     go_wp2;go_roundw;case rel=>exact ⟨n + 1,by omega,by go_num,Ta⟩
     case measure=>simp [intOf] <;> omega
    | true =>
     go_wp2;go_loopw [5,11,12] (fun v m i wr=>∃ (q:Nat) (bb:Bool) (SX:List Fc),q≤xo.length∧m=.bool bb∧i=.int .i64 q∧Hid (SX=bP H (pY sts xo xu (n:Int) q) out)∧Hid (bb=decide (out.length < SX.length))∧Hid (OutI w W wr v SX)∧Hid (GoodO (ae rs) xo xu SX)) (fun _ _ i _=>xo.length - (intOf i).toNat);case atStart=>exact ⟨0,false,out,R6 _,rfl,rfl,rfl,(decide_eq_false (Nat.lt_irrefl _)).symm,HO,HG⟩
     case round =>
      clear HO;obtain ⟨q,bb,SX,hq,rfl,rfl,HR,Ud,Ta,HG2⟩:=hrel;by_cases hlq:q < xo.length
      ·have HSU4:=aB (KD (sts:=sts) (xu:=xu) (n:=(n:Int)) hlq);obtain ⟨o,ho⟩:∃ o,o=xo[q]:=⟨_,rfl⟩;rw [← ho] at HSU4;have HOQ:=aB ho;clear ho;go_wp2;go_loopw [5,11,13] (fun v m i wr=>∃ (p:Nat) (bb:Bool) (UU:List Fc),p≤sts.length∧m=.bool bb∧i=.int .i64 p∧Hid (UU=bP H (pY sts xo xu (n:Int) q ++ jH sts xu (n:Int) o p) out)∧Hid (bb=decide (out.length < UU.length))∧Hid (OutI w W wr v UU)∧Hid (GoodO (ae rs) xo xu UU)) (fun _ _ i _=>sts.length - (intOf i).toNat);case atStart=>exact ⟨0,bb,SX,R6 _,rfl,rfl,by show _=_; rw [KC,List.append_nil]; exact HR.out,Ud,Ta,HG2⟩
       case round =>
        clear Ta HR Ud HG2;obtain ⟨p,bb,UU,hp,rfl,rfl,HR,Ud,Ta,HG2⟩:=hrel;by_cases hlp:p < sts.length
        ·obtain ⟨bN,offN,hadN,⟨s0,s1,s2⟩,hbN⟩:=Gg.at0 (HSN.out.keepC Ta.out.size Ta.out.keep) hlp;obtain ⟨bO,Tc,Uv,⟨o0,o1⟩,hbO⟩:=iy.at0 (HSO3.out.keepC Ta.out.size Ta.out.keep) hlq;rw [← HOQ.out] at o0 o1;obtain ⟨s,hsp⟩:∃ s,s=sts[p]:=⟨_,rfl⟩;have Wu:Hid ((s.typ.toList == o.t.toList && decide (s.n=(n:Int)))=false→jH sts xu (n:Int) o (p + 1)=jH sts xu (n:Int) o p):=fun h=>Pi hlp (by rw [← hsp]; exact h);have HKY:Hid ((s.typ.toList == o.t.toList && decide (s.n=(n:Int)))=true→jH sts xu (n:Int) o (p + 1)=jH sts xu (n:Int) o p ++ iJ o s.rel xu):=fun h=>by rw [Np hlp (by rw [← hsp]; exact h),← hsp]
         rw [← hsp] at s0 s1 s2;have X9:Hid (s.key ∈ ai (ae rs)):=by show _ ∈ _; rw [← HK.out,hsp]; exact List.mem_map_of_mem (RY hlp)
         have UX:=aB hsp;have hq1:=bn q;have hq2:(q:Int) < (xo.length:Int):=by omega
         have hp1:=bn p;have hp2:(p:Int) < (sts.length:Int):=by omega
         subst hadN;subst Uv;clear hsp;cases ht:(s.typ.toList == o.t.toList) with
         | false =>
          have Vs:Hid (jH sts xu (n:Int) o (p + 1)=jH sts xu (n:Int) o p):=Wu.out (by rw [ht]; rfl);have Ui:∀ nq,Hid (OutI w W (wr.drewN nq) u5 UU):=fun nq=>Ta.out.below (below_drewN (R3 _ _) nq);go_wp2_with fail;go_quiet (fail);go_wp2;go_roundw;case rel=>exact ⟨p + 1,bb,UU,by omega,rfl,by go_num,by rw [Vs.out]; exact HR,Ud,Ui _,HG2⟩
          case measure=>simp [intOf] <;> omega
         | true =>
          by_cases hn2:s.n=(n:Int)
          ·have hb1:(s.n == (n:Int))=true:=by simpa using hn2
           have Vs:=aB (HKY.out (by rw [ht,hn2]; simp));have HTO:Hid (s.typ=o.t):=eB.1 ht;have hb2:decide (s.n=(n:Int))=true:=decide_eq_true hn2;replace hn2:Hid (s.n=(n:Int)):=hn2;have HREL:Hid (∀ W':World,(W'.cell? ⟨bN,offN + p * 3,none⟩=some (.string s.typ)∧W'.cell? ⟨bN,offN + p * 3 + 1,none⟩=some (.string s.rel)∧Below wr.heap.size wr W')→Calls prog 57 #[.slice ad rs.length cap,.string s.typ,.string s.rel] W' fun e w'=>(∃ (rows:List ER) (SN:Option Addr) (capE:Nat),e=.returned (.slice SN rows.length capE)∧ah rows=ax (ae rs) s.typ s.rel∧lH rs SN rows)∧Below W'.heap.size W' w'):=fun W' h=>by
            refine (gG ad cap rs s.typ s.rel W' (by omega) (HS.out.below (Ta.out.bel.trans (h.2.2.mono Ta.out.bel.size))) HL.out).mono ?_;rintro e w' ⟨⟨rows,SN,capE,he,hx,-,hf⟩,rfl⟩;exact ⟨⟨rows,SN,capE,he,hx,hf⟩,R3 _ _⟩
           go_wp2_with fail;go_quiet (fail);go_wp2_with fail
           go_region_held3 (fun w'=>w'.cell? ⟨bN,offN + p * 3,none⟩=some (.string s.typ)∧w'.cell? ⟨bN,offN + p * 3 + 1,none⟩=some (.string s.rel)∧Below wr.heap.size wr w')
            (first | assumption | exact QB (by assumption) hbx | exact ⟨s0,s1,Below.drew (below_drewN (R3 _ _) _)⟩)
            (first | (go_at_call 57; refine (HREL.out _ (by assumption)).mono ?_; rintro e w' ⟨⟨rows,SN,capE,rfl,hrx,hrf⟩,hbx⟩))
           rename_i hH;have TU:=aB (Ta.out.below hH.2.2);have HEX:Hid (ah rows=ax (ae rs) o.t s.rel):=by show _=_; rw [hrx,HTO.out]
           obtain ⟨UK,hr1⟩:Hid (UM rows)∧1≤rows.length:=by
            obtain ⟨es,e1,e2⟩:=Fg HSP.out.1 X9.out;have e3:ah rows=es:=by
             rw [hrx]; unfold ax;show (dX (ae rs) s.key.1 s.key.2).getD []=es;rw [e1]; rfl
            rw [← e3] at e2;exact xe e2
           have HRF:=aB hrf;have WS:=UK.out.len;clear hH hbx hrx hrf HREL s0 s1 s2 o0 o1 hb1 hb2 Ta HTO hbN hbO;go_wp2;go_loopw [5,11,15] (fun v m i wr=>∃ (j:Nat) (bb:Bool) (Ti:List Fc),j≤xu.length∧m=.bool bb∧i=.int .i64 j∧Hid (Ti=bP H (pY sts xo xu (n:Int) q ++ jH sts xu (n:Int) o p ++ iJ o s.rel (xu.take j)) out)∧Hid (bb=decide (out.length < Ti.length))∧Hid (OutI w W wr v Ti)∧Hid (GoodO (ae rs) xo xu Ti)) (fun _ _ i _=>xu.length - (intOf i).toNat);case atStart=>exact ⟨0,bb,UU,R6 _,rfl,rfl,by show _=_; rw [List.take_zero]; show _=bP H (_ ++ []) out; rw [List.append_nil]; exact HR.out,Ud,TU,HG2⟩
           case round =>
            clear TU HR Ud HG2;obtain ⟨j,bb,Ti,hj,rfl,rfl,HR,Ud,Ta,HG2⟩:=hrel;by_cases hlj:j < xu.length
            ·obtain ⟨bU,offU,hadU,⟨y0,y1⟩,hbU⟩:=iy.at0 (HSU3.out.keepC Ta.out.size Ta.out.keep) hlj;obtain ⟨bN',offN',YQ,⟨s0,s1,s2⟩,hbN⟩:=Gg.at0 (HSN.out.keepC Ta.out.size Ta.out.keep) hlp;obtain ⟨bO',Xm,YR,⟨o0,o1⟩,hbO⟩:=iy.at0 (HSO3.out.keepC Ta.out.size Ta.out.keep) hlq;injection YQ with YQ; injection YQ with e1 e2; subst e1; subst e2;injection YR with YR; injection YR with e1 e2; subst e1; subst e2;rw [← HOQ.out] at o0 o1;rw [← UX.out] at s0 s1 s2;obtain ⟨f,hf⟩:∃ f:Fc,f=⟨o.t,o.s,s.rel,xu[j].t,xu[j].s⟩:=⟨_,rfl⟩;have HAT:Hid (iJ o s.rel (xu.take (j + 1))=iJ o s.rel (xu.take j) ++ [f]):=by show _=_; rw [hf]; exact KE o s.rel hlj
             have HFQ:Hid (f ∈ zT (ae rs) xo xu):=by
              show _ ∈ _;rw [hf];unfold zT iJ;refine Sk.2 ⟨o,by rw [HOQ.out]; exact RY hlq,Sk.2 ⟨s.key,X9.out,Sa.2 ⟨xu[j],RY hlj,rfl⟩⟩⟩
             have hout4:=HG2.out.len hol WT Xo;obtain ⟨adF4,Xq,rfl,hsF⟩:=iH Ta.out.row;have HSF4:=aB hsF;have f0:o.t=f.a:=by rw [hf]
             have f1:o.s=f.b:=by rw [hf]
             have f2:s.rel=f.r:=by rw [hf]
             have f3:xu[j].t=f.c:=by rw [hf]
             have f4:xu[j].s=f.d:=by rw [hf]
             have HEF:Hid (ah rows=ax (ae rs) f.a f.r):=by show _=_; rw [hf]; exact HEX.out
             rw [f3] at y0;rw [f4] at y1;rw [f0] at o0;rw [f1] at o1;rw [f2] at s1;have hj1:=bn j;have hj2:(j:Int) < (xu.length:Int):=by omega
             subst hadU;clear hsF hf f0 f1 f2 f3 f4 s0 s2;obtain ⟨W5,hW5⟩:∃ W5,W5=(wr.alloc (.cells #[.string f.a,.string f.b,.string f.r,.string f.c,.string f.d] 42)).drew:=⟨_,rfl⟩;have Tu:Hid (Below wr.heap.size wr W5):=by show Below _ _ _; rw [hW5]; exact ((R3 _ _).alloc (R4 _) _).drew
             have g0:W5.cell? ⟨wr.heap.size,0,none⟩=some (.string f.a):=by rw [hW5]; simp
             have g1:W5.cell? ⟨wr.heap.size,1,none⟩=some (.string f.b):=by rw [hW5]; simp
             have g2:W5.cell? ⟨wr.heap.size,2,none⟩=some (.string f.r):=by rw [hW5]; simp
             have g3:W5.cell? ⟨wr.heap.size,3,none⟩=some (.string f.c):=by rw [hW5]; simp
             have g4:W5.cell? ⟨wr.heap.size,4,none⟩=some (.string f.d):=by rw [hW5]; simp
             have gl:wr.heap.size < W5.heap.size:=ay g0;have TA:=aB (Ta.out.below Tu.out);go_wp2_with fail
             go_region
             rw [← hW5];clear hW5 y0 y1 o0 o1 s1 hbU hbN hbO;go_wp2_with fail;refine (lZ adF4 Xq Ti f W5 (by omega) (HSF4.out.below Tu.out)).mono ?_;rintro e w6 ⟨rfl,hb6⟩;have UW:=aB (Tu.out.trans (hb6.mono Tu.out.size));have Ut:=aB (TA.out.below hb6);replace g0:=aA hb6 gl g0;replace g1:=aA hb6 gl g1;replace g2:=aA hb6 gl g2;replace g3:=aA hb6 gl g3;replace g4:=aA hb6 gl g4;replace gl:=RZ gl hb6.size;have HHF:Hid (H Ti f=cO ts (ah rows) Ti f rows.length Ti (rows.length - 1)):=by show _=_; rw [HH.out]; unfold fH; rw [← HEF.out,aJ]
             have HRS:Hid (bP H (pY sts xo xu (n:Int) q ++ jH sts xu (n:Int) o p ++ iJ o s.rel (xu.take (j + 1))) out=dZ H Ti f):=by show _=_; rw [HAT.out,← List.append_assoc,pQ,← HR.out]
             clear hb6 Tu TA;cases hh:aO Ti f with
             | true =>
              have HR2:Hid (Ti=bP H (pY sts xo xu (n:Int) q ++ jH sts xu (n:Int) o p ++ iJ o s.rel (xu.take (j + 1))) out):=by show _=_; rw [HRS.out,rZ (.inl hh)]
              go_wp2;go_roundw;case rel=>exact ⟨j + 1,bb,Ti,by omega,rfl,by go_num,HR2,Ud,Ut,HG2⟩
              case measure=>simp [intOf] <;> omega
             | false =>
              have HHH:=aB hh;have hwr:IntKind.i64.wrap ((rows.length:Int) - 1)=((rows.length - 1:Nat):Int):=by rw [IntKind.wrap_i64]; omega
              have Tw:=aB (oU (.slice ad rs.length cap) SQ cap' ts SN capE rows adF4 Xq Ti f htl UK.out (by omega) rows.length (rows.length - 1) adF4 Xq Ti w6 (by omega) (by omega) (by omega) ⟨HST.out.below Ut.out.bel,HRF.out.sl (HS.out.below Ut.out.bel),HSF4.out.below UW.out,HSF4.out.below UW.out⟩);clear hh;go_wp2_with fail;refine Tw.out.mono ?_;rintro e w7 ⟨he7,VJ⟩;rw [← HHF.out] at he7;subst he7;have HO7:=aB (Ut.out.below VJ);replace g0:=aA VJ gl g0;replace g1:=aA VJ gl g1;replace g2:=aA VJ gl g2;replace g3:=aA VJ gl g3;replace g4:=aA VJ gl g4;replace gl:=RZ gl VJ.size;clear VJ Tw Ut UW hwr;cases hv:H Ti f with
              | false =>
               have HR2:Hid (Ti=bP H (pY sts xo xu (n:Int) q ++ jH sts xu (n:Int) o p ++ iJ o s.rel (xu.take (j + 1))) out):=by show _=_; rw [HRS.out,rZ (.inr hv)]
               go_wp2;go_roundw;case rel=>exact ⟨j + 1,bb,Ti,by omega,rfl,by go_num,HR2,Ud,HO7,HG2⟩
               case measure=>simp [intOf] <;> omega
              | true =>
               have HST2:Hid (dZ H Ti f=Ti ++ [f]):=Bu HHH.out hv;have HR2:Hid (Ti ++ [f]=bP H (pY sts xo xu (n:Int) q ++ jH sts xu (n:Int) o p ++ iJ o s.rel (xu.take (j + 1))) out):=by show _=_; rw [HRS.out,HST2.out]
               have UZ:Hid (GoodO (ae rs) xo xu (Ti ++ [f])):=by
                have h1:=HG2.out.run (H:=H) (qs:=[f]) (fun g hg=>by
                 rw [Sm] at hg;subst hg;exact HFQ.out)
                rw [show bP H [f] Ti=dZ H Ti f from rfl,HST2.out] at h1;exact h1
               have TN:Hid (true=decide (out.length < (Ti ++ [f]).length)):=by
                show _=_;have h1:=Fb H (pY sts xo xu (n:Int) q ++ jH sts xu (n:Int) o p ++ iJ o s.rel (xu.take j)) out;rw [← HR.out] at h1;rw [R9];exact (decide_eq_true (by simp; omega)).symm
               obtain ⟨W8,hW8⟩:∃ W8,W8=w7.alloc (.cells #[.string f.a,.string f.b,.string f.r,.string f.c,.string f.d] 42):=⟨_,rfl⟩;have Z6:Hid (OutI w W W8 (.slice adF4 Ti.length Xq) Ti):=by show OutI _ _ _ _ _; rw [hW8]; exact HO7.out.below ((R3 _ _).alloc (R4 _) _)
               have HN8:Hid (∀ j u,f.row[j]?=some u→W8.cell? ((⟨w7.heap.size,0,none⟩:Addr).add j)=some u):=by rw [hW8]; exact yL w7 f
               have hsz8:w.heap.size≤W8.heap.size:=Z6.out.bel.size;clear hv;go_wp2_with (at_builtin; rw [← hW8]; clear hW8; refine wpList_append_own_at _ rfl _ _ 38 rfl w.heap.size 42 iF (.agg #[.string ⟨#[]⟩,.string ⟨#[]⟩,.string ⟨#[]⟩,.string ⟨#[]⟩,.string ⟨#[]⟩]) 5 80 underlying38 Xp.out.1 Xp.out.2.1 Xp.out.2.2.1 Xp.out.2.2.2 rfl (by decide) _ Ti.length (au Ti) rfl Z6.out.row ⟨w7.heap.size,0,none⟩ 1 1 f.row rfl rfl HN8.out (by simp [Fc.row,Value.oneCell']) (by unfold maxLen; omega) (by omega) hsz8 ?_);intro v' w9 hown hgr _ hat;have HO9:=aB (Z6.out.app hown hgr hat);clear hown hgr hat g0 g1 g2 g3 g4 gl;go_wp2;go_roundw;case rel=>exact ⟨j + 1,true,Ti ++ [f],by omega,rfl,by go_num,HR2,TN,HO9,UZ⟩
               case measure=>simp [intOf] <;> omega
            ·have HR3:Hid (Ti=bP H (pY sts xo xu (n:Int) q ++ jH sts xu (n:Int) o (p + 1)) out):=by show _=_; rw [Vs.out,HR.out,show j=xu.length by omega,Sc,List.append_assoc]
             go_wp2;go_roundw;case rel=>exact ⟨p + 1,bb,Ti,by omega,rfl,by go_num,HR3,Ud,Ta,HG2⟩
             case measure=>simp [intOf] <;> omega
          ·have hb1:(s.n == (n:Int))=false:=by simpa using hn2
           have hb2:decide (s.n=(n:Int))=false:=decide_eq_false hn2;have Vs:Hid (jH sts xu (n:Int) o (p + 1)=jH sts xu (n:Int) o p):=Wu.out (by rw [hb2,Bool.and_false]);have Ui:∀ nq,Hid (OutI w W (wr.drewN nq) u5 UU):=fun nq=>Ta.out.below (below_drewN (R3 _ _) nq);go_wp2_with fail;go_quiet (fail);go_wp2;go_roundw;case rel=>exact ⟨p + 1,bb,UU,by omega,rfl,by go_num,by rw [Vs.out]; exact HR,Ud,Ui _,HG2⟩
           case measure=>simp [intOf] <;> omega
        ·have HR3:Hid (UU=bP H (pY sts xo xu (n:Int) (q + 1)) out):=by show _=_; rw [HSU4.out,HR.out,show p=sts.length by omega]
         go_wp2;go_roundw;case rel=>exact ⟨q + 1,bb,UU,by omega,rfl,by go_num,HR3,Ud,Ta,HG2⟩
         case measure=>simp [intOf] <;> omega
      ·have hout2:=HG2.out.len hol WT Xo;have HRQ:Hid (SX=bP H (Q n) out):=by show _=_; rw [HR.out,← HQI.out n,show q=xo.length by omega]
       obtain ⟨ad2,cap2,rfl,-⟩:=iH Ta.out.row;have HLM2:Hid (kZ H (Q n) SX=A (n + 1)):=by show _=_; rw [HRQ.out,Ak]; exact HLM.out
       have hbl:=Fb H (Q n) out;have HDN2:Hid (bb=false→bP H (Q n) SX=SX):=fun hb=>by
        have e:SX=out:=by
         rw [HRQ.out];refine H7 ?_;rw [← HRQ.out,← Ud.out]; exact hb
        rw [e]; rw [HRQ.out] at e; exact e
       have hm:2 * (200000 - SX.length) + RP (.bool bb) < 2 * (200000 - out.length) + 1:=by
        have h1:=Ud.out;rw [← HRQ.out] at hbl;cases bb with
        | true=>have:=of_decide_eq_true h1.symm; simp only [RP]; omega
        | false=>have:=of_decide_eq_false h1.symm; simp only [RP]; omega
       have HM:=aB hm;clear hm hbl;go_wp2;go_roundw;case rel=>exact ⟨bb,SX,rfl,HLM2,HDN2,Ta,HG2⟩
       case measure=>exact HM.out
  ·have hne:n=sts.length + 1:=by omega
   have Ta:Hid (wr.ownsRow w.heap.size 42 5 u5 (mY st rs ts).length (au (mY st rs ts))):=by
    show World.ownsRow _ _ _ _ _ _ _;rw [← HFIN.out,← hne]; exact HO.out.row
   have Wt:=aB HO.out.bel;clear HO;go_wp2;go_ret;exact ⟨⟨_,rfl,Ta.out⟩,Wt.out⟩
end
end Go.Proofs.YtdaoiceeidoehaaGreat
