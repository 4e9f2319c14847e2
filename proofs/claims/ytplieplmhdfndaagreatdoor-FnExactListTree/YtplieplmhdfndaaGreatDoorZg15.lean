/- Slices of structs whose last field is a slice of bytes: what they read as, and what owns them. States: nodes, what makes a state right; mathematics. -/
import Derived.Test.YtplieplmhdfndaaGreatDoorZg05
import Derived.Test.YtplieplmhdfndaaGreatDoorZg10
import Derived.Test.YtplieplmhdfndaaGreatDoorZg03
import Derived.Test.YtplieplmhdfndaaGreatDoorZg02
import Derived.Test.YtplieplmhdfndaaGreatDoorZg14
import Derived.Test.YtplieplmhdfndaaGreatDoorZg06
namespace Go.Proofs.YtplieplmhdfndaaGreatDoor
set_option linter.unusedVariables false
set_option linter.unusedSimpArgs false
open Go.RowKit

/-- An element: its fields of one cell each, and the bytes of its last field. -/
abbrev NE := List Value × List Int
/-- The cells of a list of elements; vs: the slices of their bytes. -/
def cellsN : List Value → List NE → List Value
  | v :: vs, l :: L => l.1 ++ ([v] ++ cellsN vs L)
  | _, _ => []
theorem cellsN_len (m : Nat) : ∀ (vs : List Value) (L : List NE), vs.length = L.length → (∀ l ∈ L, l.1.length = m) → (cellsN vs L).length = L.length * (m + 1)
  | [], [], _, _ => by simp [cellsN]
  | [], _ :: _, h, _ => by simp at h
  | _ :: _, [], h, _ => by simp at h
  | v :: vs, l :: L, h, hp => by
    have h1 := hp l (by simp)
    have h2 := cellsN_len m vs L (by simpa using h) (fun x hx => hp x (by simp [hx]))
    have e : (l :: L).length * (m + 1) = L.length * (m + 1) + (m + 1) := by simp [Nat.add_mul]
    rw [e, cellsN, List.length_append, List.length_append, h1, h2]
    simp; omega
theorem cellsN_append : ∀ (vs : List Value) (L : List NE) (us : List Value) (M : List NE), vs.length = L.length → cellsN (vs ++ us) (L ++ M) = cellsN vs L ++ cellsN us M
  | [], [], us, M, _ => by simp [cellsN]
  | [], _ :: _, _, _, h => by simp at h
  | _ :: _, [], _, _, h => by simp at h
  | v :: vs, l :: L, us, M, h => by
    rw [List.cons_append, List.cons_append, cellsN, cellsN, cellsN_append vs L us M (by simpa using h)]
    simp [List.append_assoc]
theorem cellsN_get (m : Nat) : ∀ (vs : List Value) (L : List NE), vs.length = L.length → (∀ l ∈ L, l.1.length = m) → ∀ i j v l, vs[i]? = some v → L[i]? = some l → j < m + 1 → (cellsN vs L)[i * (m + 1) + j]? = (l.1 ++ [v])[j]?
  | [], [], _, _, i, j, v, l, h, _, _ => by simp at h
  | [], _ :: _, h, _, _, _, _, _, _, _, _ => by simp at h
  | _ :: _, [], h, _, _, _, _, _, _, _, _ => by simp at h
  | v0 :: vs, l0 :: L, h, hp, i, j, v, l, hv, hl, hj => by
    have h1 := hp l0 (by simp)
    rw [cellsN, ← List.append_assoc]
    cases i with
    | zero =>
      simp at hv hl
      subst hv
      subst hl
      rw [Nat.zero_mul, Nat.zero_add, List.getElem?_append_left (by simp [h1]; omega)]
    | succ i =>
      have h2 := cellsN_get m vs L (by simpa using h) (fun x hx => hp x (by simp [hx])) i j v l (by simpa using hv) (by simpa using hl) hj
      have e : (i + 1) * (m + 1) + j = (m + 1) + (i * (m + 1) + j) := by rw [Nat.add_mul]; omega
      rw [e, List.getElem?_append_right (by simp [h1]), show (l0.1 ++ [v0]).length = m + 1 by simp [h1], Nat.add_sub_cancel_left]
      exact h2
theorem cellsN_data : ∀ (vs : List Value) (L : List NE) (i : Nat) (l : NE) (zs : List Int), L[i]? = some l → cellsN vs (L.set i (l.1, zs)) = cellsN vs L
  | [], L, i, l, zs, h => by cases hL : L.set i (l.1, zs) <;> simp [cellsN]
  | v :: vs, [], i, l, zs, h => by simp at h
  | v :: vs, l0 :: L, 0, l, zs, h => by
    simp at h
    subst h
    simp [cellsN]
  | v :: vs, l0 :: L, i + 1, l, zs, h => by
    simp only [List.set_cons_succ, cellsN]
    rw [cellsN_data vs L i l zs (by simpa using h)]
theorem cellsN_pre (m : Nat) : ∀ (vs : List Value) (L : List NE), vs.length = L.length → (∀ l ∈ L, l.1.length = m) → ∀ i j l u, L[i]? = some l → j < m → (cellsN vs L).set (i * (m + 1) + j) u = cellsN vs (L.set i (l.1.set j u, l.2))
  | [], [], _, _, i, j, l, u, h, _ => by simp at h
  | [], _ :: _, h, _, _, _, _, _, _, _ => by simp at h
  | _ :: _, [], h, _, _, _, _, _, _, _ => by simp at h
  | v0 :: vs, l0 :: L, h, hp, i, j, l, u, hl, hj => by
    have h1 := hp l0 (by simp)
    cases i with
    | zero =>
      simp at hl
      subst hl
      simp only [List.set_cons_zero, cellsN, Nat.zero_mul, Nat.zero_add]
      rw [List.set_append_left _ _ (by omega)]
    | succ i =>
      have h2 := cellsN_pre m vs L (by simpa using h) (fun x hx => hp x (by simp [hx])) i j l u (by simpa using hl) hj
      have e : (i + 1) * (m + 1) + j = (m + 1) + (i * (m + 1) + j) := by rw [Nat.add_mul]; omega
      simp only [List.set_cons_succ, cellsN]
      rw [← List.append_assoc, ← List.append_assoc, e, List.set_append_right _ _ (by simp [h1]), show (l0.1 ++ [v0]).length = m + 1 by simp [h1], Nat.add_sub_cancel_left, h2]
theorem cellsN_last (m : Nat) : ∀ (vs : List Value) (L : List NE), vs.length = L.length → (∀ l ∈ L, l.1.length = m) → ∀ i v, i < L.length → (cellsN vs L).set (i * (m + 1) + m) v = cellsN (vs.set i v) L
  | [], [], _, _, i, v, h => by simp at h
  | [], _ :: _, h, _, _, _, _ => by simp at h
  | _ :: _, [], h, _, _, _, _ => by simp at h
  | v0 :: vs, l0 :: L, h, hp, i, v, hi => by
    have h1 := hp l0 (by simp)
    cases i with
    | zero =>
      simp only [List.set_cons_zero, cellsN, Nat.zero_mul, Nat.zero_add]
      rw [List.set_append_right _ _ (by omega), h1, Nat.sub_self]
      rfl
    | succ i =>
      have h2 := cellsN_last m vs L (by simpa using h) (fun x hx => hp x (by simp [hx])) i v (by simpa using hi)
      have e : (i + 1) * (m + 1) + m = (m + 1) + (i * (m + 1) + m) := by rw [Nat.add_mul]; omega
      simp only [List.set_cons_succ, cellsN]
      rw [← List.append_assoc, ← List.append_assoc, e, List.set_append_right _ _ (by simp [h1]), show (l0.1 ++ [v0]).length = m + 1 by simp [h1], Nat.add_sub_cancel_left, h2]

/-- The slice value v reads in W as the list L; vs: the slices of its elements. -/
structure RdN (W : World) (m : Nat) (v : Value) (L : List NE) (vs : List Value) : Prop where
  len : vs.length = L.length
  pre : ∀ l ∈ L, l.1.length = m
  row : ∃ a cap, v = .slice a L.length cap ∧ (0 < L.length → ∃ b off, a = some ⟨b, off, none⟩ ∧ b < W.heap.size ∧ ∀ (j : Nat) (u : Value), (cellsN vs L)[j]? = some u → W.cell? ⟨b, off + j, none⟩ = some u) ∧ L.length ≤ cap ∧ cap ≤ maxLen
  dat : ∀ (i : Nat) (u : Value) (l : NE), vs[i]? = some u → L[i]? = some l → Rd .u8 W u l.2
theorem RdN.below {W W' : World} {m : Nat} {v : Value} {L : List NE} {vs : List Value} (h : RdN W m v L vs) (hb : Below W.heap.size W W') : RdN W' m v L vs := by
  obtain ⟨a, cap, e, hc, h1, h2⟩ := h.row
  refine ⟨h.len, h.pre, ⟨a, cap, e, fun hn => ?_, h1, h2⟩, fun i u l hu hl => (h.dat i u l hu hl).below hb⟩
  obtain ⟨b, off, rfl, hlt, hcell⟩ := hc hn
  exact ⟨b, off, rfl, Nat.lt_of_lt_of_le hlt hb.size, fun j u hu => (hb.cell (p := ⟨b, off + j, none⟩) hlt).trans (hcell j u hu)⟩
/-- Row and bytes are the call's own, each in a block of its own. -/
structure OwnN (W : World) (base : Nat) (e : TypeId) (m : Nat) (v : Value) (L : List NE) (vs : List Value) : Prop where
  len : vs.length = L.length
  pre : ∀ l ∈ L, l.1.length = m
  row : W.ownsRow base e (m + 1) v L.length (cellsN vs L)
  dat : ∀ (i : Nat) (u : Value) (l : NE), vs[i]? = some u → L[i]? = some l → W.ownsRow base 5 1 u l.2.length (l.2.map (Value.int .u8))
  one : ∀ (i j : Nat) (u u' : Value) (b : Nat), vs[i]? = some u → vs[j]? = some u' → u.ownBlock = some b → u'.ownBlock = some b → i = j
theorem OwnN.below {W W' : World} {base : Nat} {e : TypeId} {m : Nat} {v : Value} {L : List NE} {vs : List Value} (h : OwnN W base e m v L vs) (hb : Below W.heap.size W W') : OwnN W' base e m v L vs :=
  ⟨h.len, h.pre, own_below h.row hb, fun i u l hu hl => own_below (h.dat i u l hu hl) hb, h.one⟩
theorem OwnN.mono {W : World} {base base' : Nat} {e : TypeId} {m : Nat} {v : Value} {L : List NE} {vs : List Value} (h : OwnN W base e m v L vs) (hb : base' ≤ base) : OwnN W base' e m v L vs :=
  ⟨h.len, h.pre, own_mono h.row hb, fun i u l hu hl => own_mono (h.dat i u l hu hl) hb, h.one⟩
theorem OwnN.rd {W : World} {base : Nat} {e : TypeId} {m : Nat} {v : Value} {L : List NE} {vs : List Value} (h : OwnN W base e m v L vs) : RdN W m v L vs := by
  refine ⟨h.len, h.pre, ?_, fun i u l hu hl => Rd.own (h.dat i u l hu hl)⟩
  have hrow := h.row
  rcases h.row.2 with ⟨rfl, h0⟩ | ⟨g, cap, cur, rfl, hb, hg, h1, h2, h3, h4⟩
  · exact ⟨none, 0, by rw [h0], fun hn => by omega, by omega, by unfold maxLen; omega⟩
  · refine ⟨some ⟨g, 0, none⟩, cap, rfl, fun _ => ⟨g, 0, rfl, (hrow.lt g rfl).2, fun j u hu => ?_⟩, h1, h2⟩
    have := hrow.cells (g := g) rfl j u hu
    rw [Addr.add_mid] at this
    exact this
/-- Two rows of different kinds of elements lie in different blocks. -/
theorem own_apart {W : World} {base base' : Nat} {e e' : TypeId} {size size' : Nat} {v v' : Value} {n n' : Nat} {xs xs' : List Value} (h : W.ownsRow base e size v n xs) (h' : W.ownsRow base' e' size' v' n' xs') (he : e ≠ e') : v.ownBlock = none ∨ v.ownBlock ≠ v'.ownBlock := by
  rcases h.2 with ⟨rfl, _⟩ | ⟨g, cap, cur, rfl, _, hg, _⟩
  · exact .inl rfl
  · right
    intro hq
    rcases h'.2 with ⟨rfl, _⟩ | ⟨g', cap', cur', rfl, _, hg', _⟩
    · cases hq
    · obtain rfl : g = g' := Option.some.inj hq
      rw [hg] at hg'
      injection hg' with hg'
      injection hg' with _ h2
      exact he h2
theorem OwnN.nil (W : World) (base : Nat) (e : TypeId) (m : Nat) : OwnN W base e m (.slice none 0 0) [] [] :=
  ⟨rfl, fun l h => (by cases h), ⟨by simp [cellsN], .inl ⟨rfl, rfl⟩⟩, fun i u l h => (by simp at h), fun i j u u' b h => (by simp at h)⟩
/-- One more element, whose bytes lie in memory that came later than all of the others. -/
theorem OwnN.push {W W' : World} {base : Nat} {e : TypeId} {m : Nat} {v v' : Value} {L : List NE} {vs : List Value} (h : OwnN W base e m v L vs) (he : e ≠ 5) (l : NE) (u : Value) (hl : l.1.length = m) (hu : W.ownsRow base 5 1 u l.2.length (l.2.map (Value.int .u8)))
    (hnew : ∀ (i : Nat) (u' : Value) (b : Nat), vs[i]? = some u' → u'.ownBlock = some b → u.ownBlock ≠ some b)
    (ho : W'.ownsRow base e (m + 1) v' (L.length + 1) (cellsN vs L ++ (l.1 ++ [u]))) (hg : W.grownBy W' v.ownBlock) : OwnN W' base e m v' (L ++ [l]) (vs ++ [u]) := by
  have kept : ∀ (x : Value) (n : Nat) (xs : List Value), W.ownsRow base 5 1 x n xs → W'.ownsRow base 5 1 x n xs := fun x n xs hx => hx.kept hg (own_apart hx h.row (Ne.symm he))
  refine ⟨by simp [h.len], fun x hx => ?_, ?_, fun i x y hx hy => ?_, fun i j x x' b hx hx' hb hb' => ?_⟩
  · rw [List.mem_append, List.mem_singleton] at hx
    rcases hx with hx | rfl
    · exact h.pre x hx
    · exact hl
  · rw [cellsN_append vs L [u] [l] h.len]
    simpa [cellsN] using ho
  · by_cases hi : i < L.length
    · rw [List.getElem?_append_left (by rw [h.len]; exact hi)] at hx
      rw [List.getElem?_append_left hi] at hy
      exact kept _ _ _ (h.dat i x y hx hy)
    · have hi2 : i = L.length := by
        have := (List.getElem?_eq_some_iff.1 hy).1
        simp at this
        omega
      subst hi2
      rw [List.getElem?_append_right (Nat.le_refl _), Nat.sub_self] at hy
      rw [← h.len, List.getElem?_append_right (Nat.le_refl _), Nat.sub_self] at hx
      simp at hx hy
      subst hx
      subst hy
      exact kept _ _ _ hu
  · have hcase : ∀ (k : Nat) (y : Value), (vs ++ [u])[k]? = some y → (k < vs.length ∧ vs[k]? = some y) ∨ (k = vs.length ∧ y = u) := fun k y hk => by
      by_cases hk2 : k < vs.length
      · rw [List.getElem?_append_left hk2] at hk; exact .inl ⟨hk2, hk⟩
      · have hk3 : k = vs.length := by
          have := (List.getElem?_eq_some_iff.1 hk).1
          simp at this
          omega
        subst hk3
        rw [List.getElem?_append_right (Nat.le_refl _), Nat.sub_self] at hk
        simp at hk
        exact .inr ⟨rfl, hk.symm⟩
    rcases hcase i x hx with ⟨hi, hy⟩ | ⟨hi, hy⟩
    · rcases hcase j x' hx' with ⟨hj, hy'⟩ | ⟨hj, hy'⟩
      · exact h.one i j x x' b hy hy' hb hb'
      · rw [hy'] at hb'
        exact absurd hb' (hnew i x b hy hb)
    · rcases hcase j x' hx' with ⟨hj, hy'⟩ | ⟨hj, hy'⟩
      · rw [hy] at hb
        exact absurd hb (hnew j x' b hy' hb')
      · omega
/-- The bytes of element i turned, nothing else. -/
theorem OwnN.data {W W' : World} {base : Nat} {e : TypeId} {m : Nat} {v : Value} {L : List NE} {vs : List Value} (h : OwnN W base e m v L vs) (he : e ≠ 5) (i : Nat) (u : Value) (l : NE) (zs : List Int) (hu : vs[i]? = some u) (hl : L[i]? = some l)
    (ho : W'.ownsRow base 5 1 u zs.length (zs.map (Value.int .u8))) (hg : W.grownBy W' u.ownBlock) : OwnN W' base e m v (L.set i (l.1, zs)) vs := by
  have hdi := h.dat i u l hu hl
  refine ⟨by simp [h.len], fun x hx => ?_, ?_, fun j x y hx hy => ?_, h.one⟩
  · rcases List.mem_or_eq_of_mem_set hx with hx | rfl
    · exact h.pre x hx
    · exact h.pre l (List.mem_of_getElem? hl)
  · rw [List.length_set, cellsN_data vs L i l zs hl]
    exact h.row.kept hg (own_apart h.row hdi he)
  · by_cases hij : i = j
    · subst hij
      rw [hu] at hx
      cases hx
      rw [List.getElem?_set_self (List.getElem?_eq_some_iff.1 hl).1] at hy
      cases hy
      exact ho
    · rw [List.getElem?_set_ne hij] at hy
      refine (h.dat j x y hx hy).kept hg ?_
      cases hb : x.ownBlock with
      | none => exact .inl rfl
      | some b => exact .inr (fun e => hij (h.one i j u x b hu hx e.symm hb))
/-- A field of element i turned, nothing else. -/
theorem OwnN.field {W : World} {base g : Nat} {e : TypeId} {m : Nat} {v : Value} {L : List NE} {vs : List Value} (h : OwnN W base e m v L vs) (he : e ≠ 5) (i j : Nat) (l : NE) (x : Value) (hl : L[i]? = some l) (hj : j < m) (hv : v.ownBlock = some g) : OwnN (W.setCell ⟨g, i * (m + 1) + j, none⟩ x) base e m v (L.set i (l.1.set j x, l.2)) vs := by
  have hg : W.grownBy (W.setCell ⟨g, i * (m + 1) + j, none⟩ x) v.ownBlock := by
    rw [hv]
    exact ⟨rfl, rfl, rfl, by simp [World.setCell], fun k hk hne => Below.heap_setCell W ⟨g, i * (m + 1) + j, none⟩ x k (fun e => hne (by rw [e]))⟩
  refine ⟨by simp [h.len], fun y hy => ?_, ?_, fun k y z hy hz => ?_, h.one⟩
  · rcases List.mem_or_eq_of_mem_set hy with hy | rfl
    · exact h.pre y hy
    · simpa using h.pre l (List.mem_of_getElem? hl)
  · rw [List.length_set, ← cellsN_pre m vs L h.len h.pre i j l x hl hj]
    rcases h.row.2 with ⟨rfl, _⟩ | ⟨g', cap, cur, rfl, hb, hc, hn, hm, hs, ht⟩
    · cases hv
    · obtain rfl : g' = g := by simpa [Value.ownBlock] using hv
      refine ⟨by rw [List.length_set]; exact h.row.1, .inr ⟨g', cap, cur.setIfInBounds (i * (m + 1) + j) x, rfl, hb, heap_setCell_same W g' _ cur e _ hc, hn, hm, by simpa using hs, ?_⟩⟩
      rw [Array.toList_setIfInBounds, List.take_set, ht]
  · have hd : ∃ z', L[k]? = some z' ∧ z'.2 = z.2 := by
      by_cases hik : i = k
      · subst hik
        rw [List.getElem?_set_self (List.getElem?_eq_some_iff.1 hl).1] at hz
        cases hz
        exact ⟨l, hl, rfl⟩
      · rw [List.getElem?_set_ne hik] at hz
        exact ⟨z, hz, rfl⟩
    obtain ⟨z', h1, h2⟩ := hd
    have := h.dat k y z' hy h1
    rw [h2] at this
    exact this.kept hg (own_apart this h.row (Ne.symm he))
/-- The slice of element i turned to another, with its bytes. -/
theorem OwnN.last {W : World} {base g : Nat} {e : TypeId} {m : Nat} {v : Value} {L : List NE} {vs : List Value} (h : OwnN W base e m v L vs) (he : e ≠ 5) (i : Nat) (l : NE) (u : Value) (zs : List Int) (hl : L[i]? = some l) (hv : v.ownBlock = some g) (hu : W.ownsRow base 5 1 u zs.length (zs.map (Value.int .u8)))
    (hnew : ∀ (j : Nat) (u' : Value) (b : Nat), vs[j]? = some u' → u'.ownBlock = some b → u.ownBlock ≠ some b) : OwnN (W.setCell ⟨g, i * (m + 1) + m, none⟩ u) base e m v (L.set i (l.1, zs)) (vs.set i u) := by
  have hg : W.grownBy (W.setCell ⟨g, i * (m + 1) + m, none⟩ u) v.ownBlock := by
    rw [hv]
    exact ⟨rfl, rfl, rfl, by simp [World.setCell], fun k hk hne => Below.heap_setCell W ⟨g, i * (m + 1) + m, none⟩ u k (fun e => hne (by rw [e]))⟩
  have hi : i < L.length := (List.getElem?_eq_some_iff.1 hl).1
  have kept : ∀ (x : Value) (n : Nat) (xs : List Value), W.ownsRow base 5 1 x n xs → (W.setCell ⟨g, i * (m + 1) + m, none⟩ u).ownsRow base 5 1 x n xs := fun x n xs hx => hx.kept hg (own_apart hx h.row (Ne.symm he))
  have hvs : ∀ (k : Nat) (x : Value), (vs.set i u)[k]? = some x → (k = i ∧ x = u) ∨ (k ≠ i ∧ vs[k]? = some x) := fun k x hx => by
    by_cases hk : i = k
    · subst hk
      rw [List.getElem?_set_self (by rw [h.len]; exact hi)] at hx
      cases hx
      exact .inl ⟨rfl, rfl⟩
    · rw [List.getElem?_set_ne hk] at hx
      exact .inr ⟨fun e => hk e.symm, hx⟩
  refine ⟨by simp [h.len], fun y hy => ?_, ?_, fun k y z hy hz => ?_, fun k j x x' b hx hx' hb hb' => ?_⟩
  · rcases List.mem_or_eq_of_mem_set hy with hy | rfl
    · exact h.pre y hy
    · exact h.pre l (List.mem_of_getElem? hl)
  · rw [List.length_set, cellsN_data _ L i l zs hl, ← cellsN_last m vs L h.len h.pre i u hi]
    rcases h.row.2 with ⟨rfl, _⟩ | ⟨g', cap, cur, rfl, hb, hc, hn, hm, hs, ht⟩
    · cases hv
    · obtain rfl : g' = g := by simpa [Value.ownBlock] using hv
      refine ⟨by rw [List.length_set]; exact h.row.1, .inr ⟨g', cap, cur.setIfInBounds (i * (m + 1) + m) u, rfl, hb, heap_setCell_same W g' _ cur e _ hc, hn, hm, by simpa using hs, ?_⟩⟩
      rw [Array.toList_setIfInBounds, List.take_set, ht]
  · rcases hvs k y hy with ⟨rfl, rfl⟩ | ⟨hk, hy⟩
    · rw [List.getElem?_set_self hi] at hz
      cases hz
      exact kept _ _ _ hu
    · rw [List.getElem?_set_ne (Ne.symm hk)] at hz
      exact kept _ _ _ (h.dat k y z hy hz)
  · rcases hvs k x hx with ⟨h1, h2⟩ | ⟨h1, h2⟩
    · rcases hvs j x' hx' with ⟨h3, h4⟩ | ⟨h3, h4⟩
      · omega
      · rw [h2] at hb
        exact absurd hb (hnew j x' b h4 hb')
    · rcases hvs j x' hx' with ⟨h3, h4⟩ | ⟨h3, h4⟩
      · rw [h4] at hb'
        exact absurd hb' (hnew k x b h2 hb)
      · exact h.one k j x x' b h2 h4 hb hb'
theorem own_shape {w : World} {base : Nat} {e : TypeId} {sz : Nat} {v : Value} {n : Nat} {xs : List Value} (h : w.ownsRow base e sz v n xs) : ∃ a cap, v = .slice a n cap := by
  rcases h.2 with ⟨rfl, rfl⟩ | ⟨g, cap, _, rfl, _⟩
  · exact ⟨_, _, rfl⟩
  · exact ⟨_, _, rfl⟩
theorem rd_shape {k : IntKind} {w : World} {v : Value} {zs : List Int} (h : Rd k w v zs) : ∃ a cap, v = .slice a zs.length cap := by
  obtain ⟨a, cap, e, _⟩ := h
  exact ⟨a, cap, e⟩
/-- The cells of element i, where they lie. -/
theorem RdN.at {W : World} {m : Nat} {a : Option Addr} {cap : Nat} {L : List NE} {vs : List Value} (h : RdN W m (.slice a L.length cap) L vs) {i : Nat} {l : NE} (hl : L[i]? = some l) : ∃ b off u, a = some ⟨b, off, none⟩ ∧ b < W.heap.size ∧ vs[i]? = some u ∧ Rd .u8 W u l.2 ∧ W.rangeAt b (off + i * (m + 1)) (l.1 ++ [u]) := by
  have hi : i < L.length := (List.getElem?_eq_some_iff.1 hl).1
  obtain ⟨a', cap', e, hc, _⟩ := h.row
  injection e with e1 e2 e3
  subst e1
  obtain ⟨b, off, rfl, hb, hcell⟩ := hc (by omega)
  obtain ⟨w0, hu⟩ : ∃ x, vs[i]? = some x := ⟨_, List.getElem?_eq_getElem (by rw [h.len]; exact hi)⟩
  refine ⟨b, off, w0, rfl, hb, hu, h.dat i _ l hu hl, fun j u hj => ?_⟩
  have hjl : j < m + 1 := by
    have := (List.getElem?_eq_some_iff.1 hj).1
    simp [h.pre l (List.mem_of_getElem? hl)] at this
    omega
  have := hcell (i * (m + 1) + j) u ((cellsN_get m vs L h.len h.pre i j _ l hu hl hjl).trans hj)
  rw [← Nat.add_assoc] at this
  exact this
end Go.Proofs.YtplieplmhdfndaaGreatDoor

namespace Go.Proofs.YtplieplmhdfndaaGreatDoor
set_option linter.unusedVariables false
set_option linter.unusedSimpArgs false

/-- A node: nine numbers and its bytes. -/
structure Nd where
  k : Int
  l : Int
  m : Int
  u : Int
  g : Int
  p : Int
  e : Int
  t : Int
  c : Int
  d : List Int
def nd0 : Nd := ⟨0, 0, 0, 0, 0, 0, 0, 0, 0, []⟩
def ndF (x : Nd) : List Value := [.int .i64 x.k, .int .i64 x.l, .int .i64 x.m, .int .i64 x.u, .int .i64 x.g, .int .i64 x.p, .int .i64 x.e, .int .i64 x.t, .int .i64 x.c]
def ndE (x : Nd) : NE := (ndF x, x.d)
/-- The cells of a node whose bytes are the slice v. -/
def ndC (x : Nd) (v : Value) : Array Value := #[.int .i64 x.k, .int .i64 x.l, .int .i64 x.m, .int .i64 x.u, .int .i64 x.g, .int .i64 x.p, .int .i64 x.e, .int .i64 x.t, .int .i64 x.c, v]
theorem ndC_list (x : Nd) (v : Value) : (ndC x v).toList = (ndE x).1 ++ [v] := rfl
def freeN (x : Nd) : Bool := decide (x.k = 0) && decide (x.l = 0) && decide (x.m = 0) && decide (x.u = 0) && decide (x.g = 0) && decide (x.p = 0) && decide (x.e = 0) && decide (x.t = 0) && decide (x.c = 0) && decide (x.d = [])
/-- What may be a link's target. -/
def targB (d : List Int) : Bool := decide (1 ≤ d.length) && decide (d.length ≤ 255) && d.all (fun z => decide (z ≠ 0))
def plainN (x : Nd) (C : Int) : Bool := wi x.k 1 3 && wi x.m 0 4095 && wi x.u 0 65535 && wi x.g 0 65535 && (wi x.e 1 C && wi x.t 1 C && wi x.c 1 C && decide (x.d.length ≤ 262144)) && (decide (x.k = 2) || decide (x.p = 0)) && (!decide (x.k = 3) || targB x.d)
theorem freeN_iff (x : Nd) : freeN x = true ↔ x = nd0 := by
  obtain ⟨k, l, m, u, g, p, e, t, c, d⟩ := x
  simp [freeN, nd0, and_assoc]
/-- The entries of a node: of a directory alone. -/
def entN (x : Nd) : List (ByteArray × Nat × Nat) := if x.k = 2 then (entT x.d (x.d.length / 32)).getD [] else []
def ndAt (L : List Nd) (i : Nat) : Nd := L.getD i nd0
/-- The entries' numbers and kinds, by the number of the directory. -/
def numE (L : List Nd) (k : Nat) : List (Nat × Nat) := (entN (ndAt L k)).map (·.2)
def kdN (L : List Nd) (i : Nat) : Nat := (ndAt L i).k.toNat
def dirsN (L : List Nd) (k : Nat) : Nat := (entN (ndAt L k)).countP (·.2.2 == 2)
def totN (L : List Nd) : Nat := (L.map (·.d.length)).sum
/-- The name of the directory that is not there. -/
def snapNm : ByteArray := ⟨#[46, 115, 110, 97, 112, 115, 104, 111, 116]⟩
/-- A right state. -/
structure RightS (C : Int) (L : List Nd) : Prop where
  clock : 1 ≤ C ∧ C ≤ 1099511627776
  len : 2 ≤ L.length ∧ L.length ≤ 1001
  zero : freeN (ndAt L 0) = true
  root : (ndAt L 1).k = 2 ∧ (ndAt L 1).p = 1
  last : (ndAt L (L.length - 1)).k ≠ 0
  node : ∀ i, 1 ≤ i → i < L.length → freeN (ndAt L i) = true ∨ plainN (ndAt L i) C = true
  tot : totN L ≤ 1048576
  dirs : ∀ i, i < L.length → (ndAt L i).k = 2 → dirOk (ndAt L i).d = true
  ents : ∀ i, i < L.length → ∀ e ∈ entN (ndAt L i), e.2.1 ≠ 1 ∧ e.2.1 < L.length ∧ (ndAt L e.2.1).k = (e.2.2 : Int)
  par : ∀ i, i < L.length → ∀ e ∈ entN (ndAt L i), e.2.2 = 2 → (ndAt L e.2.1).p = (i : Int)
  snap : ∀ e ∈ entN (ndAt L 1), e.1 ≠ snapNm
  ldir : ∀ i, 1 ≤ i → i < L.length → (ndAt L i).k = 2 → (ndAt L i).l = 2 + (dirsN L i : Int) ∧ (ndAt L i).l ≤ 1000
  lfile : ∀ i, 1 ≤ i → i < L.length → (ndAt L i).k = 1 ∨ (ndAt L i).k = 3 → (ndAt L i).l = (namesE L.length (numE L) i : Int) ∧ 1 ≤ (ndAt L i).l ∧ (ndAt L i).l ≤ 1000
  one : ∀ i, 2 ≤ i → i < L.length → (ndAt L i).k = 2 → namesE L.length (numE L) i = 1
  reach : (bfs (chE (numE L)) L.length [] [1]).length = ((List.range L.length).filter (kdN L · == 2)).length
theorem plain_kind {x : Nd} {C : Int} (h : plainN x C = true) : 1 ≤ x.k ∧ x.k ≤ 3 := by
  unfold plainN at h
  simp only [Bool.and_eq_true] at h
  exact wi_true h.1.1.1.1.1.1
/-- The conditions ahead of what is reached. -/
theorem stC_of {L : List Nd} (hroot : 1 < L.length ∧ (ndAt L 1).k = 2) (h0 : (ndAt L 0).k = 0) (hk : ∀ i, 1 ≤ i → i < L.length → (ndAt L i).k = 0 ∨ (1 ≤ (ndAt L i).k ∧ (ndAt L i).k ≤ 3))
    (hents : ∀ i, i < L.length → ∀ e ∈ entN (ndAt L i), e.2.1 ≠ 1 ∧ e.2.1 < L.length ∧ (ndAt L e.2.1).k = (e.2.2 : Int))
    (hone : ∀ i, 2 ≤ i → i < L.length → (ndAt L i).k = 2 → namesE L.length (numE L) i = 1)
    (hfile : ∀ i, 1 ≤ i → i < L.length → (ndAt L i).k = 1 ∨ (ndAt L i).k = 3 → 1 ≤ namesE L.length (numE L) i) : StC L.length (numE L) (kdN L) := by
  refine ⟨fun k hkl hE => ?_, fun k hkl e he => ?_, ⟨hroot.1, by unfold kdN; rw [hroot.2]; rfl⟩, fun i hi hd h1 => ?_, fun i hi h0' h2' => ?_⟩
  · unfold numE entN at hE
    by_cases h : (ndAt L k).k = 2
    · unfold kdN; rw [h]; rfl
    · rw [if_neg h] at hE; exact absurd rfl hE
  · obtain ⟨x, hx, rfl⟩ := List.mem_map.1 he
    have := hents k hkl x hx
    exact ⟨this.1, this.2.1, by unfold kdN; rw [this.2.2]; rfl⟩
  · have hk2 : (ndAt L i).k = 2 := by unfold kdN at hd; omega
    rcases Nat.lt_or_ge i 2 with h | h
    · have : i = 0 := by omega
      subst this
      omega
    · exact hone i h hi hk2
  · unfold kdN at h0' h2'
    have hi1 : 1 ≤ i := by
      rcases Nat.eq_zero_or_pos i with h | h
      · subst h; rw [h0] at h0'; simp at h0'
      · exact h
    rcases hk i hi1 hi with h | h
    · rw [h] at h0'; simp at h0'
    · exact hfile i hi1 hi (by omega)
end Go.Proofs.YtplieplmhdfndaaGreatDoor
