/- A state that came in, opened. Names rising (mathematics): the order of names, lists in that order, the model's sorting, what a directory's map and its list of entries have in common. What a directory's list tells (mathematics). Mathematics of SplitPath: a text cut at each slash, byte by byte and rune by rune. Walking paths in a right state: mathematics. -/
import Derived.Test.YtplieplmhdfndaaGreatDoorZg41
import Derived.Test.YtplieplmhdfndaaGreatDoorZg32
import Derived.Lib.Bytealg
import Derived.Test.YtplieplmhdfndaaGreatDoorZg07
import Derived.Lib.FieldsP
import Derived.Test.YtplieplmhdfndaaGreatDoorZg39
namespace Go.Proofs.YtplieplmhdfndaaGreatDoor
set_option linter.unusedVariables false
set_option linter.unusedSimpArgs false
open Go.ChangeShapes Go.WideShapes Go.ChangeAt Go.RowKit

theorem cellsLNS : Tryz.prog.cellsOf 22 = 1 := by kernel_rfl
theorem cellsLS : Tryz.prog.cellsOf 24 = 2 := by kernel_rfl
/-- Each node is known: so is the list. -/
theorem gatherN (n : Nat) (f : Nat → Nd → Value → Prop) (h : ∀ k, k < n → ∃ x u, f k x u) : ∃ (L : List Nd) (us : List Value), L.length = n ∧ us.length = n ∧ ∀ k, k < n → ∃ x u, L[k]? = some x ∧ us[k]? = some u ∧ f k x u := by
  induction n with
  | zero => exact ⟨[], [], rfl, rfl, fun k hk => by omega⟩
  | succ n ih =>
    obtain ⟨Q, us, h1, h2, h3⟩ := ih (fun k hk => h k (by omega))
    obtain ⟨b, u, hb⟩ := h n (by omega)
    refine ⟨Q ++ [b], us ++ [u], by simp [h1], by simp [h2], fun k hk => ?_⟩
    by_cases hkn : k < n
    · obtain ⟨b', u', e1, e2, e3⟩ := h3 k hkn
      exact ⟨b', u', by rw [List.getElem?_append_left (by omega)]; exact e1, by rw [List.getElem?_append_left (by omega)]; exact e2, e3⟩
    · obtain rfl : k = n := by omega
      exact ⟨b, u, by rw [← h1, List.getElem?_append_right (Nat.le_refl _)]; simp, by rw [← h2, List.getElem?_append_right (Nat.le_refl _)]; simp, hb⟩
set_option maxRecDepth 100000 in
theorem open_nodes {H : Type} {enc : TypeId × Value → H} {W : World} {base : Nat} {held : Bool} {fuel : Nat} {cs : List Value} {x : DataW H × List MemPlace} (hf : DataW.trod enc Tryz.prog W base (fun _ => true) held fuel 22 cs = some x) :
    ∃ (v : Value) (L : List Nd) (us : List Value), cs = [v] ∧ RdN W 9 v (L.map ndE) us ∧ ∀ i, i < L.length → ∀ z ∈ (ndAt L i).d, 0 ≤ z ∧ z < 256 := by
  rcases DataW.trod_slice Tryz.underlying22 hf with ⟨hcs, _⟩ | ⟨x, len, cap, elems, rest, n, _, hcs, _, hb, hl, hm, hlen, hel, _, _⟩
  · exact ⟨_, [], [], hcs, ⟨rfl, fun l h => (by cases h), ⟨none, 0, rfl, fun h => absurd h (by simp), by simp, by simp⟩, fun i u l h => (by simp at h)⟩, fun i hi => (by simp at hi)⟩
  · rw [cellsLN] at hel
    obtain ⟨L, us, h1, h2, h3⟩ := gatherN len (fun k y u => (∀ (j : Nat) (c : Value), ((ndE y).1 ++ [u])[j]? = some c → W.cell? ((x.add (k * 10)).add j) = some c) ∧ Rd .u8 W u y.d ∧ ∀ z ∈ y.d, 0 ≤ z ∧ z < 256) (fun k hk => by
      have h1 := hel k hk
      rw [List.getElem?_eq_getElem (by omega), Option.bind_eq_some_iff] at h1
      obtain ⟨cs, hcs, hy⟩ := h1
      obtain ⟨_, hcl, hcc⟩ := World.cells?_some hcs
      obtain ⟨q0, q1, q2, q3, q4, q5, q6, q7, q8, u, zs, rfl, hr, hz⟩ := open_node_cells hcl hy
      refine ⟨⟨q0, q1, q2, q3, q4, q5, q6, q7, q8, zs⟩, u, fun j c hc => ?_, hr, hz⟩
      have hj : j < 10 := (List.getElem?_eq_some_iff.1 hc).1
      rw [hcc j (by omega)]
      exact hc)
    refine ⟨_, L, us, hcs, ⟨by simp [h1, h2], ndE_pre _, ⟨some x, cap, by simp [h1], fun hn => ?_, by simp [h1]; exact hl, hm⟩, fun i u l hu hl => ?_⟩, fun i hi z hz => ?_⟩
    · simp [h1] at hn
      obtain ⟨y0, u0, _, _, hc0, _⟩ := h3 0 hn
      have hc0 := hc0 0 (.int .i64 y0.k) rfl
      obtain ⟨b, off, spot⟩ := x
      have hspot : spot = none := by simpa [Addr.add] using World.cell?_spot hc0
      subst hspot
      refine ⟨b, off, rfl, by rw [Addr.add_mid, Addr.add_mid] at hc0; simpa using cell_lt hc0, fun j u hu => ?_⟩
      have hjl : j < len * 10 := by
        have := (List.getElem?_eq_some_iff.1 hu).1
        rw [cellsN_len 9 _ _ (by simp [h1, h2]) (ndE_pre _)] at this
        simp [h1] at this
        exact this
      obtain ⟨yk, uk, e1, e2, ck, _⟩ := h3 (j / 10) (by omega)
      have hg := cellsN_get 9 us (L.map ndE) (by simp [h1, h2]) (ndE_pre _) (j / 10) (j % 10) uk (ndE yk) e2 (by rw [List.getElem?_map, e1]; rfl) (by omega)
      rw [show j / 10 * (9 + 1) + j % 10 = j by omega] at hg
      rw [hg] at hu
      have c0 := ck (j % 10) u hu
      rw [Addr.add_mid, Addr.add_mid] at c0
      rw [show off + j = off + j / 10 * 10 + j % 10 by omega]
      exact c0
    · have hi : i < len := by rw [← h2]; exact (List.getElem?_eq_some_iff.1 hu).1
      obtain ⟨yk, uk, e1, e2, _, hr, _⟩ := h3 i hi
      rw [e2] at hu
      cases hu
      rw [List.getElem?_map, e1] at hl
      cases hl
      exact hr
    · obtain ⟨yk, uk, e1, e2, _, _, hz'⟩ := h3 i (by omega)
      have e : ndAt L i = yk := by unfold ndAt; simp [List.getD, e1]
      rw [e] at hz
      exact hz' z hz
set_option maxRecDepth 100000 in
/-- A state that came in. -/
theorem open_state {H : Type} {enc : TypeId × Value → H} {W : World} {r : Reach} {b0 base : Nat} {held : Bool} {v : Value} {d : DataW H} {pl : List MemPlace} (hv : Value.okWide Tryz.prog W r b0 24 v) (h : DataW.Trod enc Tryz.prog W base (fun _ => true) held 24 v d pl) :
    ∃ (C : Int) (u : Value) (L : List Nd) (us : List Value), v = .agg #[.int .i64 C, u] ∧ RdN W 9 u (L.map ndE) us ∧ ∀ i, i < L.length → ∀ z ∈ (ndAt L i).d, 0 ≤ z ∧ z < 256 := by
  obtain ⟨cs, rfl, hsz⟩ := Go.WideShapes.okWide_struct Tryz.underlying24 hv
  rw [cellsLS] at hsz
  obtain ⟨fuel, hf⟩ := h
  obtain ⟨xs, n, _, _, _, hl, hfld⟩ := DataW.trod_struct Tryz.underlying24 hf
  have hc : (Value.agg cs).cells.toList = cs.toList := rfl
  rw [hc] at hfld
  have hl2 : xs.length = 2 := hl
  have h0 := hfld 0 _ rfl
  rw [List.getElem?_eq_getElem (show 0 < xs.length by omega)] at h0
  have h1 := hfld 1 _ rfl
  rw [List.getElem?_eq_getElem (show 1 < xs.length by omega)] at h1
  obtain ⟨C, e0, _⟩ := DataW.trod_int Tryz.underlying3 h0
  change (cs.toList.drop 0).take (Tryz.prog.cellsOf 3) = _ at e0
  rw [cells1n] at e0
  obtain ⟨u, L, us, e1, hr, hz⟩ := open_nodes h1
  change (cs.toList.drop 1).take (Tryz.prog.cellsOf 22) = _ at e1
  rw [cellsLNS] at e1
  refine ⟨C, u, L, us, ?_, hr, hz⟩
  congr 1
  apply Array.ext'
  have hlen : cs.toList.length = 2 := by rw [Array.length_toList, hsz]
  have e2 : cs.toList = (cs.toList.drop 0).take 1 ++ (cs.toList.drop 1).take 1 := by
    rw [List.drop_zero, List.take_of_length_le (l := cs.toList.drop 1) (by rw [List.length_drop, hlen]; omega), List.take_append_drop]
  rw [e2, e0, e1]
  rfl
end Go.Proofs.YtplieplmhdfndaaGreatDoor

namespace Go.Proofs.YtplieplmhdfndaaGreatDoor
set_option linter.unusedVariables false
set_option linter.unusedSimpArgs false
open Go.RowKit

theorem less_irrefl : ∀ a : List UInt8, Op.bytesLess a a = false
  | [] => rfl
  | x :: a => by simp [Op.bytesLess, less_irrefl a]
theorem less_cons (x y : UInt8) (a b : List UInt8) : Op.bytesLess (x :: a) (y :: b) = true ↔ x.toNat < y.toNat ∨ (x = y ∧ Op.bytesLess a b = true) := by
  simp [Op.bytesLess, UInt8.lt_iff_toNat_lt]
theorem less_trans : ∀ {a b c : List UInt8}, Op.bytesLess a b = true → Op.bytesLess b c = true → Op.bytesLess a c = true
  | [], [], _, h, _ => by cases h
  | [], _ :: _, [], _, h => by cases h
  | [], _ :: _, _ :: _, _, _ => rfl
  | _ :: _, [], _, h, _ => by cases h
  | _ :: _, _ :: _, [], _, h => by cases h
  | x :: a, y :: b, z :: c, h1, h2 => by
    rw [less_cons] at *
    rcases h1 with h1 | ⟨rfl, h1⟩
    · rcases h2 with h2 | ⟨rfl, h2⟩
      · exact .inl (by omega)
      · exact .inl h1
    · rcases h2 with h2 | ⟨rfl, h2⟩
      · exact .inl h2
      · exact .inr ⟨rfl, less_trans h1 h2⟩
theorem less_asymm {a b : List UInt8} (h : Op.bytesLess a b = true) : Op.bytesLess b a = false := by
  cases h2 : Op.bytesLess b a with
  | false => rfl
  | true => have := less_trans h h2; rw [less_irrefl] at this; cases this
theorem less_total : ∀ {a b : List UInt8}, Op.bytesLess a b = false → Op.bytesLess b a = false → a = b
  | [], [], _, _ => rfl
  | [], _ :: _, h, _ => by cases h
  | _ :: _, [], _, h => by cases h
  | x :: a, y :: b, h1, h2 => by
    have h1' : ¬ Op.bytesLess (x :: a) (y :: b) = true := by rw [h1]; decide
    have h2' : ¬ Op.bytesLess (y :: b) (x :: a) = true := by rw [h2]; decide
    rw [less_cons] at h1' h2'
    have e : x = y := UInt8.toNat_inj.1 (by omega)
    subst e
    have := less_total (a := a) (b := b) (by cases h : Op.bytesLess a b with | false => rfl | true => exact absurd (.inr ⟨rfl, h⟩) h1') (by cases h : Op.bytesLess b a with | false => rfl | true => exact absurd (.inr ⟨rfl, h⟩) h2')
    rw [this]
theorem cmp_less : ∀ (a b : List UInt8), decide (Lib.compareBytes a b < 0) = Op.bytesLess a b
  | [], [] => rfl
  | [], _ :: _ => rfl
  | _ :: _, [] => rfl
  | x :: a, y :: b => by
    unfold Lib.compareBytes Op.bytesLess
    have ih := cmp_less a b
    by_cases h : x < y
    · simp [h]
    · by_cases h2 : y < x
      · have : ¬ x = y := by intro e; subst e; exact absurd h2 (by simp)
        simp [h, h2, this]
      · have e : x = y := UInt8.toNat_inj.1 (by rw [UInt8.lt_iff_toNat_lt] at h h2; omega)
        subst e
        simp [ih]
/-- An entry: name, number, kind. -/
abbrev EI := ByteArray × Int × Int
def sLt (a b : EI) : Prop := Op.bytesLess a.1.data.toList b.1.data.toList = true
def ltB (d x : EI) : Bool := Op.bytesLess x.1.data.toList d.1.data.toList
def insE : List EI → EI → List EI := fun L d => L.takeWhile (ltB d) ++ d :: L.dropWhile (ltB d)
theorem insE_mem {L : List EI} {d e : EI} : e ∈ insE L d ↔ e = d ∨ e ∈ L := by
  unfold insE
  rw [List.mem_append, List.mem_cons]
  have h := List.takeWhile_append_dropWhile (p := ltB d) (l := L)
  constructor
  · rintro (h1 | h1 | h1)
    · exact .inr (h ▸ List.mem_append.2 (.inl h1))
    · exact .inl h1
    · exact .inr (h ▸ List.mem_append.2 (.inr h1))
  · rintro (h1 | h1)
    · exact .inr (.inl h1)
    · rw [← h] at h1
      rcases List.mem_append.1 h1 with h2 | h2
      · exact .inl h2
      · exact .inr (.inr h2)
theorem insE_sorted {L : List EI} {d : EI} (h : L.Pairwise sLt) (hd : ∀ e ∈ L, e.1.data.toList ≠ d.1.data.toList) : (insE L d).Pairwise sLt := by
  unfold insE
  induction L with
  | nil => exact List.pairwise_singleton _ _
  | cons x L ih =>
    have hx := List.pairwise_cons.1 h
    have ih := ih hx.2 (fun e he => hd e (List.mem_cons_of_mem _ he))
    by_cases hb : ltB d x = true
    · rw [List.takeWhile_cons_of_pos (p := ltB d) hb, List.dropWhile_cons_of_pos (p := ltB d) hb, List.cons_append, List.pairwise_cons]
      refine ⟨fun e he => ?_, ih⟩
      rcases (insE_mem (L := L) (d := d)).1 he with rfl | he
      · exact hb
      · exact hx.1 e he
    · rw [List.takeWhile_cons_of_neg (p := ltB d) hb, List.dropWhile_cons_of_neg (p := ltB d) hb, List.nil_append, List.pairwise_cons]
      have hxd : sLt d x := by
        cases h2 : Op.bytesLess d.1.data.toList x.1.data.toList with
        | true => exact h2
        | false => exact absurd (less_total (show ltB d x = false by simpa using hb) h2) (hd x (List.mem_cons_self ..))
      refine ⟨fun e he => ?_, h⟩
      rcases List.mem_cons.1 he with rfl | he
      · exact hxd
      · exact less_trans hxd (hx.1 e he)
theorem sorted_unique : ∀ {L M : List EI}, L.Pairwise sLt → M.Pairwise sLt → (∀ e, e ∈ L ↔ e ∈ M) → L = M
  | [], [], _, _, _ => rfl
  | [], b :: M, _, _, h => by have := (h b).2 (List.mem_cons_self ..); cases this
  | a :: L, [], _, _, h => by have := (h a).1 (List.mem_cons_self ..); cases this
  | a :: L, b :: M, hL, hM, h => by
    have hL' := List.pairwise_cons.1 hL
    have hM' := List.pairwise_cons.1 hM
    have e : a = b := by
      rcases List.mem_cons.1 ((h a).1 (List.mem_cons_self ..)) with h1 | h1
      · exact h1
      rcases List.mem_cons.1 ((h b).2 (List.mem_cons_self ..)) with h2 | h2
      · exact h2.symm
      have p := hM'.1 a h1
      have q := hL'.1 b h2
      have := less_asymm p
      rw [show Op.bytesLess _ _ = true from q] at this
      cases this
    subst e
    have : L = M := sorted_unique hL'.2 hM'.2 (fun e => by
      constructor
      · intro he
        rcases List.mem_cons.1 ((h e).1 (List.mem_cons_of_mem _ he)) with h1 | h1
        · subst h1
          have := hL'.1 _ he
          unfold sLt at this
          rw [less_irrefl] at this
          cases this
        · exact h1
      · intro he
        rcases List.mem_cons.1 ((h e).2 (List.mem_cons_of_mem _ he)) with h1 | h1
        · subst h1
          have := hM'.1 _ he
          unfold sLt at this
          rw [less_irrefl] at this
          cases this
        · exact h1)
    rw [this]
/-- The model's sorting: each is put where it belongs. -/
def sortE (L : List EI) : List EI := L.foldl insE []
theorem sortE_snoc (L : List EI) (d : EI) : sortE (L ++ [d]) = insE (sortE L) d := by unfold sortE; rw [List.foldl_append]; rfl
theorem insE_len (L : List EI) (d : EI) : (insE L d).length = L.length + 1 := by
  unfold insE
  have h := congrArg List.length (List.takeWhile_append_dropWhile (p := ltB d) (l := L))
  rw [List.length_append] at h
  rw [List.length_append, List.length_cons]
  omega
theorem sortE_mem {e : EI} : ∀ {L M : List EI}, e ∈ L.foldl insE M ↔ e ∈ M ∨ e ∈ L
  | [], M => by simp
  | d :: L, M => by
    rw [List.foldl_cons, sortE_mem, insE_mem, List.mem_cons]
    constructor
    · rintro ((h | h) | h)
      · exact .inr (.inl h)
      · exact .inl h
      · exact .inr (.inr h)
    · rintro (h | h | h)
      · exact .inl (.inr h)
      · exact .inl (.inl h)
      · exact .inr h
theorem sortE_sorted : ∀ {L M : List EI}, M.Pairwise sLt → (∀ d ∈ L, ∀ e ∈ M, e.1.data.toList ≠ d.1.data.toList) → (L.Pairwise fun a b => a.1.data.toList ≠ b.1.data.toList) → (L.foldl insE M).Pairwise sLt
  | [], M, h, _, _ => h
  | d :: L, M, h, h1, h2 => by
    rw [List.foldl_cons]
    have h2' := List.pairwise_cons.1 h2
    refine sortE_sorted (insE_sorted h (h1 d (List.mem_cons_self ..))) (fun x hx e he => ?_) h2'.2
    rcases insE_mem.1 he with rfl | he
    · exact h2'.1 x hx
    · exact h1 x (List.mem_cons_of_mem _ hx) e he
theorem sortE_len : ∀ (L M : List EI), (L.foldl insE M).length = M.length + L.length
  | [], M => by simp
  | d :: L, M => by rw [List.foldl_cons, sortE_len, insE_len, List.length_cons]; omega

def toI (e : ByteArray × Nat × Nat) : EI := (e.1, (e.2.1 : Int), (e.2.2 : Int))
theorem entsC_I : ∀ es, entsC es = entsI (es.map toI)
  | [] => rfl
  | e :: es => by
    show Value.string e.1 :: .int .i64 (e.2.1 : Int) :: .int .i64 (e.2.2 : Int) :: entsC es = _
    rw [entsC_I es]
    rfl
theorem ent_mem {zs : List Int} : ∀ {n : Nat} {es : List (ByteArray × Nat × Nat)}, entT zs n = some es → ∀ e, e ∈ es ↔ ∃ j, j < n ∧ sRight (slotK zs j) = true ∧ e = (sName (slotK zs j), sIno (slotK zs j), sKind (slotK zs j))
  | 0, es, h, e => by
    obtain rfl : es = [] := (Option.some.inj h).symm
    constructor
    · intro h; cases h
    · rintro ⟨j, hj, _⟩; omega
  | n + 1, fs, h, e => by
    obtain ⟨es, h1, h2⟩ := entT_some h
    have ih := ent_mem h1 e
    rcases h2 with ⟨hz, rfl⟩ | ⟨hz, hr, ha, rfl⟩
    · rw [ih]
      constructor
      · rintro ⟨j, hj, h3⟩; exact ⟨j, by omega, h3⟩
      · rintro ⟨j, hj, h3, h4⟩
        rcases Nat.lt_or_ge j n with hjn | hjn
        · exact ⟨j, hjn, h3, h4⟩
        · obtain rfl : j = n := by omega
          rw [right_notZero h3] at hz
          cases hz
    · rw [List.mem_append, List.mem_singleton, ih]
      constructor
      · rintro (⟨j, hj, h3⟩ | h3)
        · exact ⟨j, by omega, h3⟩
        · exact ⟨n, by omega, hr, h3⟩
      · rintro ⟨j, hj, h3, h4⟩
        rcases Nat.lt_or_ge j n with hjn | hjn
        · exact .inl ⟨j, hjn, h3, h4⟩
        · obtain rfl : j = n := by omega
          exact .inr h4
theorem ent_names {zs : List Int} : ∀ {n : Nat} {es : List (ByteArray × Nat × Nat)}, entT zs n = some es → (es.map toI).Pairwise fun a b => a.1.data.toList ≠ b.1.data.toList
  | 0, es, h => by
    obtain rfl : es = [] := (Option.some.inj h).symm
    exact List.Pairwise.nil
  | n + 1, fs, h => by
    obtain ⟨es, h1, h2⟩ := entT_some h
    have ih := ent_names h1
    rcases h2 with ⟨hz, rfl⟩ | ⟨hz, hr, ha, rfl⟩
    · exact ih
    · rw [List.map_append, List.pairwise_append]
      refine ⟨ih, List.pairwise_singleton _ _, ?_⟩
      intro a ha1 b hb
      obtain rfl := List.mem_singleton.1 hb
      obtain ⟨c, hc, rfl⟩ := List.mem_map.1 ha1
      intro e
      have h3 := List.any_eq_false.1 ha c hc
      apply h3
      rw [ByteArray.toList_eq, ByteArray.toList_eq]
      exact beq_iff_eq.2 e
theorem ent_has (H : Type) {zs : List Int} {n : Nat} {es : List (ByteArray × Nat × Nat)} (h : entT zs n = some es) {e : EI} (he : e ∈ es.map toI) : Maps.has (mapR H zs (List.range n).reverse) (.string e.1.data.toList) = true := by
  obtain ⟨c, hc, rfl⟩ := List.mem_map.1 he
  obtain ⟨j, hj, h1, h2⟩ := (ent_mem h c).1 hc
  rw [(map_first H (toI c).1 h).1]
  cases hf : firstK zs (toI c).1 n with
  | some _ => rfl
  | none =>
    unfold firstK at hf
    have := List.find?_eq_none.1 hf j (List.mem_range.2 hj)
    exfalso
    apply this
    unfold atK
    rw [h1, h2]
    simp [toI]
theorem ent_at (H : Type) {zs : List Int} {n : Nat} {es : List (ByteArray × Nat × Nat)} (h : entT zs n = some es) (nm : ByteArray) (hh : Maps.has (mapR H zs (List.range n).reverse) (.string nm.data.toList) = true) :
    ∃ k, k < n ∧ (mapR H zs (List.range n).reverse).atKey (.string nm.data.toList) (.lit (.int .i64 0)) = .lit (.int .i64 (k : Int)) ∧ (slotsL zs n)[k]? = some (slotE zs k) ∧ slotE zs k ∈ es.map toI ∧ (slotE zs k).1.data.toList = nm.data.toList := by
  have h1 := map_first H nm h
  rw [h1.1] at hh
  obtain ⟨k, hk⟩ := Option.isSome_iff_exists.1 hh
  obtain ⟨hkn, hat⟩ := firstK_lt hk
  unfold atK at hat
  rw [Bool.and_eq_true] at hat
  have hE : slotE zs k = (sName (slotK zs k), (sIno (slotK zs k) : Int), (sKind (slotK zs k) : Int)) := by
    unfold slotE
    rw [if_neg (by rw [right_notZero hat.1]; decide)]
  refine ⟨k, hkn, h1.2 k hk, ?_, ?_, ?_⟩
  · unfold slotsL
    rw [List.getElem?_map, List.getElem?_range hkn]
    rfl
  · rw [hE]
    exact List.mem_map.2 ⟨_, (ent_mem h _).2 ⟨k, hkn, hat.1, rfl⟩, rfl⟩
  · rw [hE]
    have h2 := hat.2
    rw [ByteArray.toList_eq, ByteArray.toList_eq] at h2
    exact beq_iff_eq.1 h2
/-- What a range over the map has gathered: just the entries that are no longer to come. -/
structure Coll (es : List EI) (left : Lit → Bool) (ss : List EI) : Prop where
  inn : ∀ e ∈ ss, e ∈ es ∧ left (.string e.1.data.toList) = false
  all : ∀ e ∈ es, left (.string e.1.data.toList) = false → e ∈ ss
  nod : ss.Pairwise fun a b => a.1.data.toList ≠ b.1.data.toList
theorem names_one {es : List EI} (h : es.Pairwise fun a b => a.1.data.toList ≠ b.1.data.toList) {a b : EI} (ha : a ∈ es) (hb : b ∈ es) (e : a.1.data.toList = b.1.data.toList) : a = b := by
  induction es with
  | nil => cases ha
  | cons x es ih =>
    have h' := List.pairwise_cons.1 h
    rcases List.mem_cons.1 ha with ha1 | ha1
    · rcases List.mem_cons.1 hb with hb1 | hb1
      · rw [ha1, hb1]
      · exact absurd e (ha1 ▸ h'.1 b hb1)
    · rcases List.mem_cons.1 hb with hb1 | hb1
      · exact absurd e.symm (hb1 ▸ h'.1 a ha1)
      · exact ih h'.2 ha1 hb1
theorem Coll.start {es : List EI} {left : Lit → Bool} (h : ∀ e ∈ es, left (.string e.1.data.toList) = true) : Coll es left [] :=
  ⟨fun e he => (by cases he), fun e he hl => (by rw [h e he] at hl; cases hl), List.Pairwise.nil⟩
theorem Coll.step {es : List EI} {left left' : Lit → Bool} {ss : List EI} {e : EI} (h : Coll es left ss) (hn : es.Pairwise fun a b => a.1.data.toList ≠ b.1.data.toList) (he : e ∈ es) (hl : left (.string e.1.data.toList) = true) (h0 : left' (.string e.1.data.toList) = false) (h1 : ∀ k, k ≠ .string e.1.data.toList → left' k = left k) : Coll es left' (ss ++ [e]) := by
  have hne : ∀ x ∈ ss, x.1.data.toList ≠ e.1.data.toList := by
    intro x hx hxe
    have := (h.inn x hx).2
    rw [hxe, hl] at this
    cases this
  refine ⟨fun x hx => ?_, fun x hx hlx => ?_, ?_⟩
  · rcases List.mem_append.1 hx with hx | hx
    · refine ⟨(h.inn x hx).1, ?_⟩
      rw [h1 _ (fun e2 => hne x hx (by injection e2))]
      exact (h.inn x hx).2
    · obtain rfl := List.mem_singleton.1 hx
      exact ⟨he, h0⟩
  · by_cases hxe : x.1.data.toList = e.1.data.toList
    · rw [names_one hn hx he hxe]
      exact List.mem_append.2 (.inr (List.mem_singleton.2 rfl))
    · rw [h1 _ (fun e2 => hxe (by injection e2))] at hlx
      exact List.mem_append.2 (.inl (h.all x hx hlx))
  · rw [List.pairwise_append]
    exact ⟨h.nod, List.pairwise_singleton _ _, fun a ha b hb => by rw [List.mem_singleton.1 hb]; exact hne a ha⟩
/-- Gathered and sorted: the model's list. -/
theorem Coll.done {es : List EI} {left : Lit → Bool} {ss M : List EI} (h : Coll es left ss) (hn : es.Pairwise fun a b => a.1.data.toList ≠ b.1.data.toList) (hl : ∀ k, left k = false) (hp : M.Perm ss) (hs : M.Pairwise fun a b => Op.bytesLess b.1.data.toList a.1.data.toList = false) : M = sortE es := by
  have hnM : M.Pairwise fun a b => a.1.data.toList ≠ b.1.data.toList := hp.symm.pairwise h.nod (fun hab => hab.symm)
  refine sorted_unique ?_ (sortE_sorted List.Pairwise.nil (fun _ _ _ h => by cases h) hn) (fun e => ?_)
  · exact (hs.and hnM).imp (fun {a b} hab => by
      unfold sLt
      cases h3 : Op.bytesLess a.1.data.toList b.1.data.toList with
      | true => rfl
      | false => exact absurd (less_total h3 hab.1) hab.2)
  · rw [hp.mem_iff]
    unfold sortE
    rw [sortE_mem]
    constructor
    · intro he; exact .inr (h.inn e he).1
    · rintro (he | he)
      · cases he
      · exact h.all e he (hl _)
end Go.Proofs.YtplieplmhdfndaaGreatDoor

namespace Go.Proofs.YtplieplmhdfndaaGreatDoor
set_option linter.unusedVariables false
set_option linter.unusedSimpArgs false
open Go.RowKit

/-- What is told: the code, the entries. -/
def dlC (zs : List Int) : Int := if dirOk zs = true then 0 else 21
def dlL (zs : List Int) : List EI := if dirOk zs = true then sortE (((entT zs (zs.length / 32)).getD []).map toI) else []
theorem dl_ok {zs : List Int} (h : dirOk zs = true) {es : List (ByteArray × Nat × Nat)} (he : entT zs (zs.length / 32) = some es) : dlC zs = 0 ∧ dlL zs = sortE (es.map toI) := by
  unfold dlC dlL
  rw [if_pos h, if_pos h, he]
  exact ⟨rfl, rfl⟩
theorem dl_bad {zs : List Int} (h : dirOk zs = false) : dlC zs = 21 ∧ dlL zs = [] := by
  unfold dlC dlL
  rw [if_neg (by rw [h]; decide), if_neg (by rw [h]; decide)]
  exact ⟨rfl, rfl⟩
theorem ent_count {zs : List Int} : ∀ {n : Nat} {es : List (ByteArray × Nat × Nat)}, entT zs n = some es → es.length ≤ n
  | 0, es, h => by
    obtain rfl : es = [] := (Option.some.inj h).symm
    simp
  | n + 1, fs, h => by
    obtain ⟨es, h1, h2⟩ := entT_some h
    have ih := ent_count h1
    rcases h2 with ⟨_, rfl⟩ | ⟨_, _, _, rfl⟩
    · omega
    · rw [List.length_append]; simp; omega
theorem sortE_length (L : List EI) : (sortE L).length = L.length := by unfold sortE; rw [sortE_len]; simp
theorem dlL_len (zs : List Int) : (dlL zs).length ≤ 8192 := by
  cases hok : dirOk zs with
  | false => rw [(dl_bad hok).2]; simp
  | true =>
    have hL := dirOk_len hok
    have h := hok
    rw [dirOk_eq hL.1 hL.2, Bool.and_eq_true] at h
    obtain ⟨es, hes⟩ := Option.isSome_iff_exists.1 h.1
    rw [(dl_ok hok hes).2, sortE_length, List.length_map]
    have := ent_count hes
    omega
end Go.Proofs.YtplieplmhdfndaaGreatDoor

namespace Go.Proofs.YtplieplmhdfndaaGreatDoor.Spl
set_option linter.unusedVariables false
set_option linter.unusedSimpArgs false
open Go.Proofs.YtplieplmhdfndaaGreatDoor.Chk Go

/-- Behind k bytes: the pieces that are whole, and where the open one begins. -/
def cutTo (s : ByteArray) : Nat → List (Nat × Nat) × Option Nat
  | 0 => ([], none)
  | k + 1 =>
    if s.get! k = 47 then
      (match (cutTo s k).2 with
       | some a => ((cutTo s k).1 ++ [(a, k)], none)
       | none => ((cutTo s k).1, none))
    else
      (match (cutTo s k).2 with
       | some a => ((cutTo s k).1, some a)
       | none => ((cutTo s k).1, some k))
/-- The names of a text. -/
def names (s : ByteArray) : List ByteArray := (Lib.closeSpans s (cutTo s s.size)).map fun x => s.extract x.1 x.2
def part (s : ByteArray) (k : Nat) : ByteArray := match (cutTo s k).2 with | some a => s.extract a k | none => ⟨#[]⟩
end Go.Proofs.YtplieplmhdfndaaGreatDoor.Spl

namespace Go.Proofs.YtplieplmhdfndaaGreatDoor
set_option linter.unusedVariables false
set_option linter.unusedSimpArgs false
open Go.RowKit

/-- A number that may be stood at: a node that is there. -/
def AtN (L : List Nd) (i : Nat) : Prop := 1 ≤ i ∧ i < L.length ∧ (ndAt L i).k ≠ 0
theorem AtN.root {C : Int} {L : List Nd} (h : RightS C L) : AtN L 1 := ⟨Nat.le_refl _, by have := h.len.1; omega, by rw [h.root.1]; decide⟩
end Go.Proofs.YtplieplmhdfndaaGreatDoor
