/- What l07Reached has seen: mathematics. A queue: a slice of numbers of one's own that is cut at its head and appended to. -/
import Derived.Test.YtplieplmhdfndaaGreatDoorZg16
import Derived.Test.YtplieplmhdfndaaGreatDoorZg18
import Derived.Deep.Onto
namespace Go.Proofs.YtplieplmhdfndaaGreatDoor
set_option linter.unusedVariables false
set_option linter.unusedSimpArgs false

/-- What has been seen, by the entries met. -/
def seenF (Q : List (Nat × Nat)) (i : Nat) : Bool := decide (i = 1) || Q.any (fun e => e.1 == i)
theorem seenF_snoc (Q : List (Nat × Nat)) (e : Nat × Nat) (i : Nat) : seenF (Q ++ [e]) i = (seenF Q i || e.1 == i) := by
  unfold seenF
  rw [List.any_append]
  simp [Bool.or_assoc]
theorem seenF_iff (Q : List (Nat × Nat)) (i : Nat) : seenF Q i = true ↔ i = 1 ∨ ∃ e ∈ Q, e.1 = i := by
  unfold seenF
  simp
/-- A walk over a state's directories. -/
structure BqI (L : List Nd) (P T : List Nat) : Prop where
  bf : Bf L.length (chE (numE L)) P T
  eq : ∃ f, f + P.length = L.length ∧ bfs (chE (numE L)) f P T = bfs (chE (numE L)) L.length [] [1]
theorem BqI.start {L : List Nd} (h : StC L.length (numE L) (kdN L)) : BqI L [] [1] := ⟨Bf.start h.root.1, L.length, rfl, rfl⟩
theorem BqI.next {L : List Nd} {P T : List Nat} {x : Nat} (h : StC L.length (numE L) (kdN L)) (hb : BqI L P (x :: T)) : BqI L (P ++ [x]) (T ++ chE (numE L) x) := by
  refine ⟨hb.bf.next h.tree, ?_⟩
  obtain ⟨f, hf, he⟩ := hb.eq
  have hl := hb.bf.len
  simp only [List.length_cons] at hl
  obtain ⟨f', rfl⟩ : ∃ f', f = f' + 1 := ⟨f - 1, by omega⟩
  exact ⟨f', by simp; omega, by rw [← he]; rfl⟩
theorem BqI.done {L : List Nd} {P : List Nat} (hb : BqI L P []) : P = bfs (chE (numE L)) L.length [] [1] := by
  obtain ⟨f, hf, he⟩ := hb.eq
  rw [bfs_done] at he
  exact he
theorem BqI.dir {L : List Nd} {P T : List Nat} (h : StC L.length (numE L) (kdN L)) (hb : BqI L P T) {x : Nat} (hx : x ∈ P ++ T) : x < L.length ∧ (ndAt L x).k = 2 := by
  have hlt := hb.bf.lt x hx
  refine ⟨hlt, ?_⟩
  have hk : kdN L x = 2 := by
    rw [hb.bf.eq] at hx
    rcases List.mem_cons.1 hx with rfl | hx
    · exact h.root.2
    · obtain ⟨k, hk, hc⟩ := List.mem_flatMap.1 hx
      exact (h.ok k (hb.bf.lt k (List.mem_append_left _ hk)) _ (mem_chE.1 hc)).2.2
  unfold kdN at hk
  omega
theorem chE_numE (L : List Nd) (x : Nat) : chE (numE L) x = ((entN (ndAt L x)).filter (fun e => e.2.2 == 2)).map (fun e => e.2.1) := by
  unfold chE numE
  rw [List.filter_map, List.map_map]
  rfl
theorem fresh {L : List Nd} {P T : List Nat} {x j : Nat} {e : ByteArray × Nat × Nat} (h : StC L.length (numE L) (kdN L)) (hb : BqI L P (x :: T)) (he : (entN (ndAt L x))[j]? = some e) (h2 : e.2.2 = 2) :
    seenF (P.flatMap (numE L) ++ ((entN (ndAt L x)).take j).map (fun e => e.2)) e.2.1 = false := by
  have hn := (hb.next h).bf
  have hx := (hb.dir h (x := x) (by simp)).1
  have hmem : e.2 ∈ numE L x := List.mem_map.2 ⟨e, List.mem_of_getElem? he, rfl⟩
  have hok := h.ok x hx _ hmem
  have hkd : kdN L e.2.1 = 2 := by rw [hok.2.2, h2]
  have hnd := hn.nd
  rw [hn.eq, List.flatMap_append, List.flatMap_cons, List.flatMap_nil, List.append_nil] at hnd
  have hnd2 := (List.nodup_cons.1 hnd).2
  have hj : j < (entN (ndAt L x)).length := (List.getElem?_eq_some_iff.1 he).1
  have hej : (entN (ndAt L x))[j] = e := (List.getElem?_eq_some_iff.1 he).2
  have hsplit : chE (numE L) x = (((entN (ndAt L x)).take j).filter (fun e => e.2.2 == 2)).map (fun e => e.2.1) ++ e.2.1 :: (((entN (ndAt L x)).drop (j + 1)).filter (fun e => e.2.2 == 2)).map (fun e => e.2.1) := by
    rw [chE_numE]
    conv => lhs; rw [← List.take_append_drop j (entN (ndAt L x)), List.drop_eq_getElem_cons hj, hej]
    rw [List.filter_append, List.filter_cons_of_pos (by simp [h2]), List.map_append, List.map_cons]
  rw [hsplit, ← List.append_assoc] at hnd2
  have hno := (List.nodup_append.1 hnd2).2.2
  cases hs : seenF (P.flatMap (numE L) ++ ((entN (ndAt L x)).take j).map (fun e => e.2)) e.2.1 with
  | false => rfl
  | true =>
    exfalso
    rcases (seenF_iff _ _).1 hs with h1 | ⟨q, hq, hq1⟩
    · exact hok.1 h1
    · rcases List.mem_append.1 hq with hq | hq
      · obtain ⟨k, hk, hqk⟩ := List.mem_flatMap.1 hq
        have hkl := hb.bf.lt k (List.mem_append_left _ hk)
        have h3 := (h.ok k hkl q hqk).2.2
        rw [hq1, hkd] at h3
        refine hno e.2.1 (List.mem_append_left _ (List.mem_flatMap.2 ⟨k, hk, mem_chE.2 ?_⟩)) e.2.1 (by simp) rfl
        have : q = (e.2.1, 2) := by rw [← hq1, h3]
        rw [← this]; exact hqk
      · obtain ⟨y, hy, rfl⟩ := List.mem_map.1 hq
        have hyx : y.2 ∈ numE L x := List.mem_map.2 ⟨y, List.mem_of_mem_take hy, rfl⟩
        have h3 := (h.ok x hx _ hyx).2.2
        rw [hq1, hkd] at h3
        exact hno e.2.1 (List.mem_append_right _ (List.mem_map.2 ⟨y, List.mem_filter.2 ⟨hy, by simp [← h3]⟩, hq1⟩)) e.2.1 (by simp) rfl
/-- What l07Reached answers. -/
theorem reached_iff {L : List Nd} {P : List Nat} (h : StC L.length (numE L) (kdN L)) (hk : ∀ i, i < L.length → 0 ≤ (ndAt L i).k) (hb : BqI L P []) :
    (∀ k, k < L.length → (ndAt L k).k ≠ 0 → seenF (P.flatMap (numE L)) k = true) ↔ (bfs (chE (numE L)) L.length [] [1]).length = ((List.range L.length).filter (kdN L · == 2)).length := by
  rw [← hb.done, ← reach_eq h hb.bf]
  constructor
  · intro hs k hkl hne
    rcases (seenF_iff _ _).1 (hs k hkl (fun e => hne (by unfold kdN; rw [e]; rfl))) with h1 | ⟨e, he, h1⟩
    · exact .inl h1
    · obtain ⟨x, hx, he⟩ := List.mem_flatMap.1 he
      exact .inr ⟨x, hx, e, he, h1⟩
  · intro hs k hkl hne
    rcases hs k hkl (fun e => hne (by have := hk k hkl; unfold kdN at e; omega)) with h1 | ⟨x, hx, e, he, h1⟩
    · exact (seenF_iff _ _).2 (.inl h1)
    · exact (seenF_iff _ _).2 (.inr ⟨e, List.mem_flatMap.2 ⟨x, hx, he⟩, h1⟩)
/-- A row of flags. -/
def seenC (N : Nat) (f : Nat → Bool) : Array Value := ((List.range N).map fun i => Value.bool (f i)).toArray
theorem seenC_get (N : Nat) (f : Nat → Bool) (i : Nat) (h : i < N) : (seenC N f)[i]? = some (.bool (f i)) := by
  unfold seenC
  simp [h]
theorem seenC_set (N : Nat) (f f' : Nat → Bool) (i : Nat) (h : ∀ j, j < N → j ≠ i → f' j = f j) (hi : f' i = true) : (seenC N f).setIfInBounds i (.bool true) = seenC N f' := by
  unfold seenC
  rw [List.setIfInBounds_toArray]
  congr 1
  apply List.ext_getElem?
  intro j
  rw [List.getElem?_set]
  by_cases hj : j < N
  · by_cases e : i = j
    · subst e; simp [hj, hi]
    · rw [if_neg e]; simp [hj, h j hj (fun e2 => e e2.symm)]
  · by_cases e : i = j
    · subst e; simp [hj]
    · rw [if_neg e]; simp [hj]
end Go.Proofs.YtplieplmhdfndaaGreatDoor

namespace Go.Proofs.YtplieplmhdfndaaGreatDoor
set_option linter.unusedVariables false
set_option linter.unusedSimpArgs false
open Go.RowKit

/-- A queue of numbers, in a block of one's own. -/
structure Qu (base : Nat) (wr : World) (g off cap : Nat) (T : List Int) : Prop where
  lo : base ≤ g
  lt : g < wr.heap.size
  le : T.length ≤ cap
  el : ∀ i, i < T.length → wr.cell? ⟨g, off + i, none⟩ = some (.int .i64 (T.getD i 0))
  sp : ∀ i, i < cap → (wr.cell? ⟨g, off + i, none⟩).isSome = true ∧ wr.frozen? ⟨g, off + i, none⟩ = false
theorem Qu.kept {base : Nat} {wr w' : World} {g off cap : Nat} {T : List Int} (h : Qu base wr g off cap T) (hs : wr.heap.size ≤ w'.heap.size) (hk : w'.heap[g]? = wr.heap[g]?) : Qu base w' g off cap T :=
  ⟨h.lo, Nat.lt_of_lt_of_le h.lt hs, h.le, fun i hi => (World.cell?_of_block (a := ⟨g, off + i, none⟩) hk).trans (h.el i hi), fun i hi => ⟨(by rw [World.cell?_of_block (a := ⟨g, off + i, none⟩) hk]; exact (h.sp i hi).1), (World.frozen?_of_block (a := ⟨g, off + i, none⟩) hk).trans (h.sp i hi).2⟩⟩
theorem Qu.tail {base : Nat} {wr : World} {g off cap : Nat} {x : Int} {T : List Int} (h : Qu base wr g off cap (x :: T)) : Qu base wr g (off + 1) (cap - 1) T := by
  have hl := h.le
  simp only [List.length_cons] at hl
  refine ⟨h.lo, h.lt, by omega, fun i hi => ?_, fun i hi => ?_⟩
  · have := h.el (i + 1) (by simp; omega)
    rw [show off + (i + 1) = off + 1 + i by omega] at this
    rw [this]; simp
  · have := h.sp (i + 1) (by omega)
    rw [show off + (i + 1) = off + 1 + i by omega] at this
    exact this
theorem Qu.nil {base : Nat} {wr : World} {g off cap off' : Nat} {T : List Int} (h : Qu base wr g off cap T) : Qu base wr g off' 0 [] :=
  ⟨h.lo, h.lt, by simp, fun i hi => by simp at hi, fun i hi => by omega⟩
theorem infoIq : ∃ i, Tryz.prog.info? 3 = some i ∧ i.zero = some (.int .i64 0) ∧ i.size = 1 ∧ i.bytes = 8 := by
  have h := infoIn
  cases hq : Tryz.prog.info? 3 with
  | none => rw [hq] at h; cases h
  | some i =>
    rw [hq] at h
    simp only [Option.map_some, Option.some.injEq, Prod.mk.injEq] at h
    exact ⟨i, rfl, h.1, h.2.1, h.2.2⟩
/-- One number more. -/
theorem run_append_q (ty : TypeId) {base : Nat} {w : World} {g off cap : Nat} {T : List Int} (h : Qu base w g off cap T) (hb : base ≤ w.heap.size) (x : Int) (ad : Addr) (c : Nat) (hx : w.cell? ad = some (.int .i64 x)) (hT : T.length ≤ 16777216) :
    ∃ v' w', (Builtin.append_ #[52, 52] ty #[.slice (some ⟨g, off, none⟩) T.length cap, .slice (some ad) 1 c]).run Tryz.prog w = .ok v' w' ∧ (∃ g' off' cap', v' = .slice (some ⟨g', off', none⟩) (T.length + 1) cap' ∧ Qu base w' g' off' cap' (T ++ [x]) ∧ (g' = g ∨ w.heap.size ≤ g')) ∧ w.grownBy w' (some g) := by
  obtain ⟨i, hi, hz, hsz, hby⟩ := infoIq
  have hnews : ∀ j u, [Value.int .i64 x][j]? = some u → w.cell? (ad.add j) = some u := by
    intro j u hu
    cases j with
    | zero => simp at hu; subst hu; rw [show ad.add 0 = ad from by cases ad; simp [Addr.add]]; exact hx
    | succ j => simp at hu
  by_cases hr : T.length + 1 ≤ cap
  · have hrun := run_append_room_cells (P := Tryz.prog) w 52 ty 3 i Tryz.underlying52 hi g off T.length cap ad 1 c [.int .i64 x] (by rw [hsz]; rfl) hnews (by intro u hu; simp at hu; subst hu; rfl) hr
      (fun j hj => by simp at hj; subst hj; rw [hsz, Nat.mul_one]; exact (h.sp T.length (by omega)).1) (fun j hj => by simp at hj; subst hj; rw [hsz, Nat.mul_one]; exact (h.sp T.length (by omega)).2)
    rw [hsz, Nat.mul_one] at hrun
    have hset : w.setCells g (off + T.length) [.int .i64 x] = w.setCell ⟨g, off + T.length, none⟩ (.int .i64 x) := rfl
    refine ⟨_, _, hrun, ⟨g, off, cap, rfl, ⟨h.lo, ?_, by simp; exact hr, fun k hk => ?_, fun k hk => ?_⟩, .inl rfl⟩, ?_⟩
    · rw [hset]; simp; exact h.lt
    · simp at hk
      rcases Nat.lt_or_ge k T.length with hkl | hkl
      · rw [World.cell?_setCells_out g _ _ _ _ (fun _ _ => Or.inl (show off + k < off + T.length by omega)), h.el k hkl]
        have e1 : T.getD k 0 = (T ++ [x]).getD k 0 := by rw [List.getD, List.getD, List.getElem?_append_left hkl]
        rw [e1]
      · obtain rfl : k = T.length := by omega
        have := World.cell?_setCells_in g [.int .i64 x] (off + T.length) w (fun j hj => by simp at hj; subst hj; exact (h.sp T.length (by omega)).1) 0 (by simp)
        rw [Nat.add_zero] at this
        rw [this]
        simp [List.getD]
    · refine ⟨?_, (World.frozen?_setCells g _ _ _ _).trans (h.sp k hk).2⟩
      by_cases e : k = T.length
      · subst e
        have := World.cell?_setCells_in g [.int .i64 x] (off + T.length) w (fun j hj => by simp at hj; subst hj; exact (h.sp T.length (by omega)).1) 0 (by simp)
        rw [Nat.add_zero] at this
        rw [this]; rfl
      · rw [World.cell?_setCells_out g _ _ _ _ (fun _ _ => by show off + k < off + T.length ∨ off + T.length + 1 ≤ off + k; omega)]
        exact (h.sp k hk).1
    · rw [hset]
      exact ⟨rfl, rfl, rfl, by simp, fun k hk hne => Below.heap_setCell w ⟨g, off + T.length, none⟩ _ k (fun e => hne (by rw [e]))⟩
  · have hle := h.le
    obtain ⟨v', w', hrun, r1, r2⟩ := run_append_arg_grows (P := Tryz.prog) w 52 ty 3 i (.int .i64 0) 1 8 Tryz.underlying52 hi hz hsz hby rfl (by omega) ⟨g, off, none⟩ T.length cap (T.map (.int .i64 ·)) (by simp) (fun j u hu => by
      have hj : j < T.length := by have := (List.getElem?_eq_some_iff.1 hu).1; simpa using this
      rw [Addr.add_lit, h.el j hj, ← hu]
      simp [List.getD, hj]) ad 1 c [.int .i64 x] rfl hnews (by omega) (by unfold maxLen; omega) (by omega)
    refine ⟨v', w', hrun, ?_, ⟨r2.os, r2.tape, r2.output, r2.size, fun k hk _ => r2.block k hk (by simp)⟩⟩
    rcases r1.2 with ⟨_, h0⟩ | ⟨g', cap', cur, rfl, hg', hgg, hnc, _, hcs, htk⟩
    · omega
    · have hB : Blk w' g' cur 3 := hgg
      rw [Nat.mul_one] at hcs htk
      refine ⟨g', 0, cap', rfl, ⟨by omega, hB.lt, by simp; exact hnc, fun k hk => ?_, fun k hk => ⟨?_, ?_⟩⟩, .inr hg'⟩
      · rw [Nat.zero_add, hB.cell k]
        simp at hk
        have h1 : cur.toList[k]? = (cur.toList.take (T.length + 1))[k]? := by rw [List.getElem?_take_of_lt (by omega)]
        rw [← Array.getElem?_toList, h1, htk]
        have h2 : List.map (Value.int .i64 ·) T ++ [Value.int .i64 x] = (T ++ [x]).map (Value.int .i64 ·) := by simp
        have h3 : (T ++ [x])[k]? = some ((T ++ [x]).getD k 0) := by
          have hk2 : k < (T ++ [x]).length := by simp; omega
          rw [List.getD, List.getElem?_eq_getElem hk2]
          rfl
        rw [h2, List.getElem?_map, h3]
        rfl
      · rw [Nat.zero_add, hB.cell k, Array.getElem?_eq_getElem (by omega)]; rfl
      · rw [Nat.zero_add]; exact hB.frozen k
/-- .. for the walk. -/
theorem wpList_append_q (w : World) {ops : Array Oper} {rest : List Oper} {o : Oper} {a : Act} {Q : Exit → Act → World → Prop} (hgd : o.guard = none) (s x : Operand)
    (ho : o.op = .call { callee := .builtin .append, args := #[s, x], argTypes := #[52, 52] })
    {base : Nat} {g off cap : Nat} {T : List Int} (n : Nat) (hn : n = T.length) (h : Qu base w g off cap T) (hs : a.eval s = .slice (some ⟨g, off, none⟩) n cap) (hb : base ≤ w.heap.size) (z : Int) (ad : Addr) (c : Nat) (hx : a.eval x = .slice (some ad) 1 c) (hz : w.cell? ad = some (.int .i64 z)) (hT : n ≤ 16777216)
    (hK : ∀ g' off' cap' w', Qu base w' g' off' cap' (T ++ [z]) → (g' = g ∨ w.heap.size ≤ g') → w.grownBy w' (some g) → wpList Tryz.prog ops Q rest (a.put o.dst (.slice (some ⟨g', off', none⟩) (n + 1) cap')) w') : wpList Tryz.prog ops Q (o :: rest) a w := by
  subst hn
  refine wpList_plain hgd fun K hK' => ?_
  obtain ⟨v', w', hrun, ⟨g', off', cap', rfl, hq, hor⟩, hg⟩ := run_append_q o.type h hb z ad c hz hT
  unfold Oper.wp
  simp [execOp, ho, resolve, invoke, builtin, hs, hx, hrun, Result.andThen]
  exact hK' _ _ (hK g' off' cap' w' hq hor hg)
end Go.Proofs.YtplieplmhdfndaaGreatDoor
