/- A folder of files in memory: a map from names to rows of bytes, no two of which share a row. -/
import Derived.Test.YtbfimfmfdllejaaMapS
import Derived.Test.YtbfimfmfdllejaaByteRow
import Derived.Test.YtbfimfmfdllejaaPlainFd
namespace Go.Proofs.Ytbfimfmfdllejaa
open Go.ChangeShapes Go.WideShapes Go.ChangeAt Go.RowKit Go.Maps

def encS (s : ByteArray) : Value := .string s
theorem encS_inj (x y : ByteArray) (h : encS x = encS y) : x = y := by injection h
theorem strLaw : Keyed Try.prog 9 := string_keyed Try.underlying9
theorem strKey (s : ByteArray) (h : s.size ≤ maxLen) : keyOf Try.prog 9 (encS s) = some (.string s.data.toList) := by
  simp [keyOf, encS, Try.underlying9, mapKey, h]
theorem str_inv {key : Value} {kl : Lit} (h : keyOf Try.prog 9 key = some kl) : ∃ x : ByteArray, key = encS x ∧ kl = .string x.data.toList ∧ x.size ≤ maxLen := by
  obtain ⟨x, rfl, rfl, hx⟩ := Maps.keyOf_str Try.underlying9 h
  refine ⟨⟨x.toArray⟩, by simp [encS, encStr], by simp, ?_⟩
  simpa [ByteArray.size] using hx

structure Fold (w : World) (b n : Nat) (M : ByteArray → Option Value) (fs : List Fl) : Prop where
  map : MapV encS Try.prog 9 w b n M
  no : ∀ k, M k = none → ∀ f ∈ fs, f.n ≠ k
  yes : ∀ k v, M k = some v → ∃ f ∈ fs, f.n = k ∧ OwnB w (b + 1) v f.d
  apart : ∀ k k' v v', k ≠ k' → M k = some v → M k' = some v' → ∀ g, v.ownBlock = some g → v'.ownBlock ≠ some g
theorem fold_made (w : World) : Fold (w.alloc (.map #[] 0)) w.heap.size 0 (fun _ => none) [] where
  map := mapV_made _ _ _ w
  no k _ f hf := by cases hf
  yes k v h := by cases h
  apart k k' v v' _ h := by cases h
theorem Fold.lt {w : World} {b n : Nat} {M : ByteArray → Option Value} {fs : List Fl} (h : Fold w b n M fs) : b < w.heap.size := h.map.lt
theorem Fold.rowlt {w : World} {b n : Nat} {M : ByteArray → Option Value} {fs : List Fl} (h : Fold w b n M fs) {k : ByteArray} {v : Value} (hk : M k = some v) {g : Nat} (hg : v.ownBlock = some g) : b < g ∧ g < w.heap.size := by
  obtain ⟨f, -, -, ho⟩ := h.yes k v hk
  have := ho.lt g hg
  exact ⟨by omega, this.2⟩
theorem Fold.mono {w : World} {b n n' : Nat} {M : ByteArray → Option Value} {fs : List Fl} (h : Fold w b n M fs) (hn : n ≤ n') : Fold w b n' M fs := ⟨h.map.mono hn, h.no, h.yes, h.apart⟩
theorem Fold.below {w w' : World} {b n : Nat} {M : ByteArray → Option Value} {fs : List Fl} (h : Fold w b n M fs) (hB : Below w.heap.size w w') : Fold w' b n M fs where
  map := h.map.below hB
  no := h.no
  yes k v hk := by obtain ⟨f, hf, e, ho⟩ := h.yes k v hk; exact ⟨f, hf, e, ho.below hB⟩
  apart := h.apart
theorem Fold.has {w : World} {b n : Nat} {M : ByteArray → Option Value} {fs : List Fl} (h : Fold w b n M fs) (x : ByteArray) : (M x).isSome = hasF fs x := by
  cases e : M x with
  | none =>
    cases e2 : hasF fs x with
    | false => rfl
    | true => obtain ⟨f, hf, e3⟩ := hasF_iff.1 e2; exact absurd e3 (h.no x e f hf)
  | some v => obtain ⟨f, hf, e3, -⟩ := h.yes x v e; exact (hasF_iff.2 ⟨f, hf, e3⟩).symm
theorem Fold.row {w : World} {b n : Nat} {M : ByteArray → Option Value} {fs : List Fl} (h : Fold w b n M fs) (hu : UpL fs) (x : ByteArray) : OwnB w (b + 1) ((M x).getD (.slice none 0 0)) (dataF fs x) := by
  cases e : M x with
  | none => rw [dataF_none (h.no x e)]; exact .inl ⟨rfl, rfl⟩
  | some v => obtain ⟨f, hf, rfl, ho⟩ := h.yes x v e; rw [dataF_of hu hf]; exact ho
/-- a row put under a name -/
theorem Fold.put {w w3 : World} {b n n' : Nat} {M : ByteArray → Option Value} {fs : List Fl} {x d : ByteArray} {v' : Value} (h : Fold w b n M fs) (hM : MapV encS Try.prog 9 w3 b n' (updM M x (some v')))
    (hrows : ∀ k v s, k ≠ x → M k = some v → OwnB w (b + 1) v s → OwnB w3 (b + 1) v s) (hown : OwnB w3 (b + 1) v' d) (hap : ∀ k v, k ≠ x → M k = some v → ∀ g, v.ownBlock = some g → v'.ownBlock ≠ some g) : Fold w3 b n' (updM M x (some v')) (insF x d fs) where
  map := hM
  no k hk f hf := by
    by_cases e : k = x
    · subst e; rw [updM_same] at hk; cases hk
    · rw [updM_other e] at hk
      rcases (insF_mem x d fs f).1 hf with rfl | hf
      · exact Ne.symm e
      · exact h.no k hk f hf.1
  yes k v hk := by
    by_cases e : k = x
    · subst e
      rw [updM_same] at hk; injection hk with hk; subst hk
      exact ⟨⟨k, d⟩, (insF_mem _ _ _ _).2 (.inl rfl), rfl, hown⟩
    · rw [updM_other e] at hk
      obtain ⟨f, hf, rfl, ho⟩ := h.yes k v hk
      exact ⟨f, (insF_mem _ _ _ _).2 (.inr ⟨hf, e⟩), rfl, hrows _ v _ e hk ho⟩
  apart k k' v v2 hne hk hk' g hg := by
    by_cases e : k = x
    · subst e
      rw [updM_same] at hk; injection hk with hk; subst hk
      rw [updM_other (Ne.symm hne)] at hk'
      exact fun e2 => hap k' v2 (Ne.symm hne) hk' g e2 hg
    · rw [updM_other e] at hk
      by_cases e' : k' = x
      · subst e'
        rw [updM_same] at hk'; injection hk' with hk'; subst hk'
        exact hap k v hne hk g hg
      · rw [updM_other e'] at hk'
        exact h.apart k k' v v2 hne hk hk' g hg
/-- a name taken out -/
theorem Fold.cut {w w3 : World} {b n : Nat} {M : ByteArray → Option Value} {fs : List Fl} {x : ByteArray} (h : Fold w b n M fs) (hM : MapV encS Try.prog 9 w3 b n (updM M x none)) (hg : w.grownBy w3 (some b)) : Fold w3 b n (updM M x none) (cutF' fs x) where
  map := hM
  no k hk f hf := by
    obtain ⟨h1, h2⟩ := (cutF_mem_iff _ _ _).1 hf
    by_cases e : k = x
    · subst e; exact h2
    · rw [updM_other e] at hk; exact h.no k hk f h1
  yes k v hk := by
    by_cases e : k = x
    · subst e; rw [updM_same] at hk; cases hk
    · rw [updM_other e] at hk
      obtain ⟨f, hf, rfl, ho⟩ := h.yes k v hk
      refine ⟨f, (cutF_mem_iff _ _ _).2 ⟨hf, e⟩, rfl, ho.kept hg ?_⟩
      cases e2 : v.ownBlock with
      | none => exact .inl rfl
      | some g => right; have := (h.rowlt hk e2).1; intro e3; injection e3 with e3; omega
  apart k k' v v' hne hk hk' := by
    have : ∀ k v, updM M x none k = some v → M k = some v := fun k v hk => by
      by_cases e : k = x
      · subst e; rw [updM_same] at hk; cases hk
      · rw [updM_other e] at hk; exact hk
    exact h.apart k k' v v' hne (this k v hk) (this k' v' hk')

section
variable {K : Type} {enc : K → Value} {P : Program} {k : TypeId} {w : World} {b n : Nat} {M : K → Option Value}
theorem MapV.dropS [DecidableEq K] {t e : TypeId} (h : MapV enc P k w b n M) (L : Keyed P k) (hinj : ∀ x y, enc x = enc y → x = y) (ht : P.underlying t = some (.map k e)) {x : K} {kl : Lit} (hkey : keyOf P k (enc x) = some kl) (ty : TypeId) :
    ∃ w', (Builtin.delete_ #[t, k] ty #[.map (some b), enc x]).run P w = .ok (.tuple #[]) w' ∧ MapV enc P k w' b n (updM M x none) ∧ w.grownBy w' (some b) := by
  obtain ⟨D, h1, h2⟩ := h
  obtain ⟨w', hrun, h3, h4⟩ := h1.drop L ht hkey ty
  refine ⟨w', hrun, ⟨D.del kl, h3, fun y ky hy => ?_⟩, h4.grown⟩
  by_cases e : y = x
  · subst e
    obtain rfl : ky = kl := by rw [hkey] at hy; injection hy with hy; exact hy.symm
    rw [updM_same]
    exact ⟨has_del_same, fun z => atKey_del_same z⟩
  · have hne : ky ≠ kl := fun e2 => e (hinj _ _ (L.inj (by rw [e2] at hy; exact hy) hkey))
    rw [updM_other e]
    have h5 := h2 y ky hy
    cases e3 : M y with
    | none => rw [e3] at h5; exact ⟨by rw [has_del_other hne]; exact h5.1, fun z => by rw [atKey_del_other hne]; exact h5.2 z⟩
    | some u => rw [e3] at h5; exact ⟨by rw [has_del_other hne]; exact h5.1, fun z => by rw [atKey_del_other hne]; exact h5.2 z⟩
end
section
variable {K : Type} {enc : K → Value} {P : Program} (w : World) {ops : Array Oper} {rest : List Oper} {o : Oper} {a : Act} {Q : Exit → Act → World → Prop}
theorem wpList_deleteS [DecidableEq K] (hg : o.guard = none) (m x : Operand) (t k : TypeId) (hop : o.op = Op.call { callee := Callee.builtin Builtin.delete, args := #[m, x], argTypes := #[t, k] }) (e : TypeId) (L : Keyed P k) (hinj : ∀ x y, enc x = enc y → x = y) (ht : P.underlying t = some (.map k e)) (b n : Nat) (M : K → Option Value)
    (hm : a.eval m = .map (some b)) (hV : MapV enc P k w b n M) (y : K) (kl : Lit) (hx : a.eval x = enc y) (hkey : keyOf P k (enc y) = some kl)
    (hK : ∀ w', MapV enc P k w' b n (updM M y none) → w.grownBy w' (some b) → wpList P ops Q rest (a.put o.dst (.tuple #[])) w') : wpList P ops Q (o :: rest) a w := by
  refine wpList_plain hg fun K' hK' => ?_
  obtain ⟨w', hrun, r1, r2⟩ := hV.dropS L hinj ht hkey o.type
  unfold Oper.wp
  simp [execOp, hop, resolve, invoke, builtin, hm, hx, hrun, Result.andThen]
  exact hK' _ _ (hK w' r1 r2)
end

/-- the keys of the map are the names -/
theorem Fold.keys {w : World} {b n : Nat} {M : ByteArray → Option Value} {fs : List Fl} (h : Fold w b n M fs) (hu : UpL fs) (hs : ∀ f ∈ fs, f.n.size ≤ maxLen) :
    ∃ D : DataW Value, w.ownsMap Try.prog 9 anyR b n D ∧ (∀ x kl, keyOf Try.prog 9 (encS x) = some kl → SaysAt D kl (M x)) ∧ (fs.map fun f => f.n.data.toList).Perm (strKeys D) ∧ Maps.size D = fs.length := by
  obtain ⟨D, h1, h2⟩ := h.map
  refine ⟨D, h1, h2, ?_⟩
  have key : (fs.map fun f => f.n.data.toList).Perm (strKeys D) := by
    obtain ⟨es, hD, hpw, -⟩ := h1.entries strLaw
    obtain ⟨es', hD', hko⟩ := h1.keysOf
    obtain rfl : es = es' := by rw [hD] at hD'; simpa using hD'
    have h3 : ∀ p ∈ es, ∃ x : ByteArray, p.1 = .string x.data.toList ∧ x.size ≤ maxLen := fun p hp => by
      obtain ⟨v, hv⟩ := hko p hp
      obtain ⟨x, -, hx, hl⟩ := str_inv hv
      exact ⟨x, hx, hl⟩
    rw [hD] at h2 ⊢
    refine perm_strKeys hpw (fun p hp => ?_) ?_ (fun x => ?_)
    · obtain ⟨x, hx, -⟩ := h3 p hp; exact ⟨_, hx⟩
    · refine List.pairwise_map.2 (hu.imp fun {a c} hac e => ?_)
      have : a.n = c.n := byte_ext (by rw [ByteArray.toList_eq, ByteArray.toList_eq]; exact e)
      rw [this, lessS_irrefl] at hac; cases hac
    · rw [List.mem_map]
      constructor
      · rintro ⟨f, hf, rfl⟩
        have h4 := h2 f.n _ (strKey f.n (hs f hf))
        cases e : M f.n with
        | none => exact absurd rfl (h.no f.n e f hf)
        | some v => rw [e] at h4; exact h4.1
      · intro hx
        rw [has_eq, List.any_eq_true] at hx
        obtain ⟨p, hp, hsame⟩ := hx
        obtain ⟨y, hy, hl⟩ := h3 p hp
        have hyx : y.data.toList = x := by rw [hy] at hsame; simpa [Lit.sameKey] using hsame
        have h4 := h2 y _ (strKey y hl)
        have hhas : Maps.has (.map es) (.string y.data.toList) = true := by
          rw [has_eq, List.any_eq_true]
          exact ⟨p, hp, by rw [hy]; simp [Lit.sameKey]⟩
        cases e : M y with
        | none => rw [e] at h4; rw [h4.1] at hhas; cases hhas
        | some v => obtain ⟨f, hf, rfl, -⟩ := h.yes y v e; exact ⟨f, hf, hyx⟩
  refine ⟨key, ?_⟩
  have := key.length_eq
  rw [List.length_map] at this
  rw [this]
  obtain ⟨es, hD, -⟩ := h1.entries strLaw
  rw [hD]
  simp [Maps.size, strKeys]
end Go.Proofs.Ytbfimfmfdllejaa
