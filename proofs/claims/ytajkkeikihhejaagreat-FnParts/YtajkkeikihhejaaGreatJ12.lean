/- Strata in memory, and the contract of the document's function that looks one up. -/
import Derived.Test.YtajkkeikihhejaaGreatSq
import Derived.Test.YtajkkeikihhejaaGreatJ10
import Derived.Deep.AppendLies
open Go.Proofs.Tryz
set_option maxHeartbeats 80000000
namespace Go.Proofs.YtajkkeikihhejaaGreat
open Go.ChangeShapes Go.WideShapes Go.ChangeAt Go.RowKit
open Pl
structure St where
 typ:ByteArray
 rel:ByteArray
 n:Int
def Tt (w:World)(b off:Nat)(s:St):Prop:=w.cell? ⟨b,off,none⟩=some (.string s.typ)/\w.cell? ⟨b,off+1,none⟩=some (.string s.rel)/\w.cell? ⟨b,off+2,none⟩=some (.int .i64 s.n)
def IA (w:World)(ad:Option Addr)(xs:List St):Prop:=xs=[] \/ ∃ b off,ad=some ⟨b,off,none⟩/\b<w.heap.size/\∀ (i:Nat) (h:i<xs.length),Tt w b (off+i*3) xs[i]
theorem IA.below {w w':af}{ad:Option Addr}{xs:List St}(h:IA w ad xs)(hB:ag w w'):IA w' ad xs:=by
 rcases h with h|⟨b,off,e,hb,hr⟩
 ·exact .inl h
 refine .inr ⟨b,off,e,Uc hb hB.size,fun i hi=>?_⟩;obtain ⟨h0,h1,h2⟩:=hr i hi;exact ⟨aH hB hb h0,aH hB hb h1,aH hB hb h2⟩
def zP (s:St)(typ rel:ByteArray):Bool:=(s.typ.toList==typ.toList)&&(s.rel.toList==rel.toList)
def gP (typ rel:ByteArray):List St->Nat->Int
 | [],_=>-1
 | s::xs,k=>if zP s typ rel then (k:Int) else gP typ rel xs (k+1)
theorem qD (typ rel:bI)(xs:List St)(k:Nat)(h:k<xs.length):gP typ rel (xs.drop k) k=if zP xs[k] typ rel then (k:Int) else gP typ rel (xs.drop (k+1)) (k+1):=by
 rw [UB h];rfl
theorem Ol (ad:Option Addr)(cap:Nat)(xs:List St)(typ rel:bI)(w:af)(hlen:xs.length<=1048576)(hs:IA w ad xs) :
  Calls prog 140 #[.slice ad xs.length cap,.string typ,.string rel] w fun e w'=>e=.returned (.int .i64 (gP typ rel xs 0))/\w'=w:=by
 go_enter func140,ntmps140;go_wp2;go_loopw [7] (fun i wr=>∃ k:Nat,k<=xs.length/\i=.int .i64 k/\Hid (gP typ rel (xs.drop k) k=gP typ rel xs 0)/\wr=w) (fun i _=>xs.length-(intOf i).toNat);case atStart=>exact ⟨0,Ui _,rfl,rfl,rfl⟩
 obtain ⟨k,hk,rfl,HP,rfl⟩:=hrel;by_cases hlt:k<xs.length
 ·rcases hs with rfl|⟨b,off,rfl,hb,hr⟩
  ·simp at hlt
  obtain ⟨t0,t1,t2⟩:=hr k hlt;have hk1:=bF k;have hk2:(k:Int)<(xs.length:Int):=by omega
  clear hr;cases hq:(xs[k].typ.toList==typ.toList);case true=>
   cases hp:(xs[k].rel.toList==rel.toList);case true=>
    have HN:Hid (gP typ rel xs 0=(k:Int)):=by show _=_;rw [<-HP.out,qD _ _ _ _ hlt];simp [zP,hq,hp]
    go_wp2;go_ret;exact ⟨by rw [HN.out];rfl,rfl⟩
   have UW:Hid (gP typ rel (xs.drop (k+1)) (k+1)=gP typ rel xs 0):=by show _=_;rw [<-HP.out,qD _ _ _ _ hlt];simp [zP,hq,hp]
   go_wp2;go_roundw;case rel=>exact ⟨k+1,by omega,by go_num,UW,by first|rfl|trivial⟩
   simp [intOf] <;> omega
  have UW:Hid (gP typ rel (xs.drop (k+1)) (k+1)=gP typ rel xs 0):=by show _=_;rw [<-HP.out,qD _ _ _ _ hlt];simp [zP,hq]
  go_wp2;go_roundw;case rel=>exact ⟨k+1,by omega,by go_num,UW,by first|rfl|trivial⟩
  simp [intOf] <;> omega
 have HN:Hid (gP typ rel xs 0=-1):=by show _=_;rw [<-HP.out,List.drop_of_length_le (by omega)];rfl
 go_wp2;go_ret;exact ⟨by rw [HN.out];rfl,rfl⟩
structure Dp where
 typ:ByteArray
 rel:ByteArray
 neg:Bool
def Dp.cells (d:Dp):List Value:=[.string d.typ,.string d.rel,.bool d.neg]
def eu:List Dp->List Value
 | []=>[]
 | d::ds=>d.cells++eu ds
theorem Ei (xs ys:List Dp):eu (xs++ys)=eu xs++eu ys:=by
 induction xs with
 | nil=>rfl
 | cons d ds ih=>simp [eu,ih]
theorem tF (xs:List Dp)(d:Dp):eu (xs++[d])=eu xs++d.cells:=by rw [Ei];simp [eu]
def dm (neg:Bool):List Al->List Dp
 | []=>[]
 | a::xs=>if a.s.toList.isEmpty then dm neg xs else ⟨a.t,a.s,neg⟩::dm neg xs
def kN (ts:List Ty)(typ:ByteArray)(neg:Bool)(e:Ex):List Dp :=
 if e.kind=2 then [⟨typ,e.name,neg⟩] else if e.kind=3 then (ig ts typ e.over e.name).map fun g=>⟨g,e.name,neg⟩ else []
def ik (ts:List Ty)(typ:ByteArray)(es:List Ex)(k:Nat):List Dp :=
 match es[k]? with
 | none=>[]
 | some e=>dm ((dC es).getD k false) e.allow++kN ts typ ((dC es).getD k false) e
def aP (ts:List Ty)(typ:ByteArray)(es:List Ex):Nat->List Dp
 | 0=>[]
 | k+1=>aP ts typ es k++ik ts typ es k
def pX (ts:List Ty)(typ:ByteArray)(es:List Ex):List Dp:=aP ts typ es es.length
theorem uR (neg:Bool)(xs ys:List Al):dm neg (xs++ys)=dm neg xs++dm neg ys:=by
 induction xs with
 | nil=>rfl
 | cons a xs ih=>simp only [List.cons_append,dm,ih];split <;> simp
theorem Om (neg:Bool)(xs:List Al)(k:Nat)(h:k<xs.length)(he:xs[k].s.toList.isEmpty=true):dm neg (xs.take (k+1))=dm neg (xs.take k):=by
 rw [Uh h,uR];simp [dm]at he ⊢;simp [he]
theorem Lg (neg:Bool)(xs:List Al)(k:Nat)(h:k<xs.length)(he:xs[k].s.toList.isEmpty=false):dm neg (xs.take (k+1))=dm neg (xs.take k)++[⟨xs[k].t,xs[k].s,neg⟩]:=by
 rw [Uh h,uR];simp [dm,he]
theorem CG (neg:Bool)(xs:List Al):(dm neg xs).length<=xs.length:=by
 induction xs with
 | nil=>simp [dm]
 | cons a xs ih=>simp only [dm];split <;> simp <;> omega
theorem Oo:(prog.info? 220).map (fun i=>(i.zero,i.size,i.bytes))=some (some (.agg #[.string ⟨#[]⟩,.string ⟨#[]⟩,.bool false]),3,40):=by kernel_rfl
end Go.Proofs.YtajkkeikihhejaaGreat
